/- impl.readIntegers, and impl.IntOk. -/
import Derived.Test.YtckmpenlpkhnfabRead3
namespace Go.Proofs.Ytckmpenlpkhnfab
open Go.RowKit
/-- The integer that a text is; 0 if it is none. -/
def rz (l : List UInt8) : Int := if okI l then numI l else 0
theorem ival_zero : irow 0 false = ival 0 := rfl
theorem readV_eq (l : List UInt8) : readV l = .tuple #[.agg (ival (rz l)), .bool (okI l)] := by
  unfold readV rz
  cases h : okI l
  · simp [ival_zero]
  · simp
theorem read_rz (s : ByteArray) (w : World) : Calls Try.prog 56 #[.string s] w fun e w' => e = .returned (.tuple #[.agg (ival (rz s.data.toList)), .bool (okI s.data.toList)]) ∧ Below w.heap.size w w' := by
  have h := read_any s w
  rw [readV_eq] at h
  exact h
/-- One integer is read into a row of its own. -/
theorem new81 (w1 : World) (x : Int) : Blk ((w1.alloc (Obj.cells Try.zeroCells43 43)).setRow w1.heap.size (ival x)) w1.heap.size 43 (ival x) := (Blk.new w1 43 Try.zeroCells43 rfl).row
theorem new81_below {w w1 : World} {B : Nat} (x : Int) (h : Below B w w1) (hB : B ≤ w1.heap.size) : Below B w ((w1.alloc (Obj.cells Try.zeroCells43 43)).setRow w1.heap.size (ival x)) := below_setRow (h.alloc hB _) hB
theorem new81_keep {w1 : World} {g : Nat} {t : TypeId} {cs : Array Value} (x : Int) (h : Blk w1 g t cs) : Blk ((w1.alloc (Obj.cells Try.zeroCells43 43)).setRow w1.heap.size (ival x)) g t cs := (h.alloc _).rowOff (by have := h.lt; omega)
theorem zero81_size : Try.zeroCells43.size = 81 := by rw [zero81]; exact irow_size _ _
theorem stI {ops : Array Oper} {rest : List Oper} {o : Oper} {a : Act} {w : World} {Q : Exit → Act → World → Prop} (hgd : o.guard = none) (x y : Operand) (ho : o.op = .store 43 x y) (g : Nat) (z : Int) (hx : a.eval x = .pointer (some ⟨g, 0, none⟩)) (hy : a.eval y = .agg (ival z)) {t : TypeId} {old : Array Value} (hg : Blk w g t old) (hs : old.size = 81) (k : wpList Try.prog ops Q rest (a.put o.dst undef) (w.setRow g (ival z))) : wpList Try.prog ops Q (o :: rest) a w :=
  st81 hgd x y ho g hx hy hg hs k
theorem ldI {ops : Array Oper} {rest : List Oper} {o : Oper} {a : Act} {w : World} {Q : Exit → Act → World → Prop} (hgd : o.guard = none) (x : Operand) (ho : o.op = .load 43 x) (g : Nat) (z : Int) (hx : a.eval x = .pointer (some ⟨g, 0, none⟩)) {t : TypeId} (hg : Blk w g t (ival z)) (k : wpList Try.prog ops Q rest (a.put o.dst (.agg (ival z))) w) : wpList Try.prog ops Q (o :: rest) a w :=
  ld81 hgd x ho g 0 hx hg.lies k
set_option maxHeartbeats 400000 in
theorem intOk_any (s : ByteArray) (w : World) : Calls Try.prog 38 #[.string s] w fun e w' => e = .returned (.bool (okI s.data.toList)) ∧ Below w.heap.size w w' := by
  have hr1 : ∀ w, Hid (Calls Try.prog 56 #[.string s] w fun e w' => e = .returned (.tuple #[.agg (ival (rz s.data.toList)), .bool (okI s.data.toList)]) ∧ Below w.heap.size w w') := fun w => Lib.hid (read_rz s w)
  have HR1 := Lib.hid hr1
  clear hr1
  generalize okI s.data.toList = b at HR1 ⊢
  generalize rz s.data.toList = x at HR1
  go_enter Try.func38, Try.ntmps38
  go_wp2_with fail
  refine (HR1.out _).out.mono ?_
  rintro e w1 ⟨rfl, hb1⟩
  have HB := Lib.hid hb1
  have HA := Lib.hid (Blk.new w1 43 Try.zeroCells43 rfl)
  clear hb1
  go_wp2_with (first | (refine ext rfl (.tmp 5) 0 [.agg (ival x), .bool b] (.agg (ival x)) rfl rfl rfl ?_) | (refine ext rfl (.tmp 5) 1 [.agg (ival x), .bool b] (.bool b) rfl rfl rfl ?_) | (refine stI rfl (.tmp 3) (.tmp 8) rfl w1.heap.size _ rfl rfl (t := 43) (old := Try.zeroCells43) ?_ ?_ ?_; exact HA.out; exact zero81_size))
  go_ret
  exact ⟨rfl, new81_below x HB.out HB.out.size⟩
/-- The state of readIntegers: two results' rows, two rows that hold what was read. -/
def RisInv (w wr : World) (g : Nat) (x : Int) (g' : Nat) (y : Int) : Prop := Below w.heap.size w wr ∧ Blk wr g 43 (ival x) ∧ Blk wr g' 43 (ival y) ∧ (∃ z, Blk wr w.heap.size 43 (ival z)) ∧ (∃ z, Blk wr (w.heap.size + 1) 43 (ival z)) ∧ w.heap.size + 1 < g ∧ w.heap.size + 1 < g'
section
variable {w wr : World} {g g' : Nat} {x y : Int}
theorem ris_drew (h : RisInv w wr g x g' y) : RisInv w wr.drew g x g' y := ⟨h.1.drew, h.2⟩
theorem ris_res1 (h : RisInv w wr g x g' y) : RisInv w (wr.setRow w.heap.size (ival x)) g x g' y ∧ Blk (wr.setRow w.heap.size (ival x)) w.heap.size 43 (ival x) := by
  obtain ⟨h1, h2, h3, ⟨z, h4⟩, ⟨z', h5⟩, h6, h7⟩ := h
  exact ⟨⟨below_setRow h1 (by omega), h2.rowOff (by omega), h3.rowOff (by omega), ⟨_, h4.row⟩, ⟨z', h5.rowOff (by omega)⟩, h6, h7⟩, h4.row⟩
theorem ris_res2 (h : RisInv w wr g x g' y) : RisInv w (wr.setRow (w.heap.size + 1) (ival y)) g x g' y ∧ Blk (wr.setRow (w.heap.size + 1) (ival y)) (w.heap.size + 1) 43 (ival y) := by
  obtain ⟨h1, h2, h3, ⟨z, h4⟩, ⟨z', h5⟩, h6, h7⟩ := h
  exact ⟨⟨below_setRow h1 (by omega), h2.rowOff (by omega), h3.rowOff (by omega), ⟨z, h4.rowOff (by omega)⟩, ⟨_, h5.row⟩, h6, h7⟩, h5.row⟩
variable {o : Oper} {a : Act}
theorem ris_store1 (h : RisInv w wr g x g' y) (p q : Operand) (ho : o.op = .store 43 p q) (hx : a.eval p = .pointer (some ⟨w.heap.size, 0, none⟩)) (hy : a.eval q = .agg (ival x)) : Gives Try.prog o a wr undef (wr.setRow w.heap.size (ival x)) := by
  obtain ⟨h1, h2, h3, ⟨z, h4⟩, _⟩ := h
  exact gives_store81 p q ho _ hx hy h4 (irow_size _ _)
theorem ris_store2 (h : RisInv w wr g x g' y) (p q : Operand) (ho : o.op = .store 43 p q) (hx : a.eval p = .pointer (some ⟨w.heap.size + 1, 0, none⟩)) (hy : a.eval q = .agg (ival y)) : Gives Try.prog o a wr undef (wr.setRow (w.heap.size + 1) (ival y)) := by
  obtain ⟨h1, h2, h3, _, ⟨z, h4⟩, _⟩ := h
  exact gives_store81 p q ho _ hx hy h4 (irow_size _ _)
theorem puts_ival (p : Operand) (ho : o.op = .load 43 p) {k : Nat} {z : Int} (hx : a.eval p = .pointer (some ⟨k, 0, none⟩)) (hl : Blk wr k 43 (ival z)) : Puts Try.prog o a wr (.agg (ival z)) := puts_load81 p ho k 0 hx hl.lies
end
set_option maxHeartbeats 1000000 in
theorem reads_any (s t : ByteArray) (w : World) : Calls Try.prog 42 #[.string s, .string t] w fun e w' => e = .returned (.tuple #[.agg (ival (rz s.data.toList)), .agg (ival (rz t.data.toList)), .bool (okI s.data.toList && okI t.data.toList)]) ∧ Below w.heap.size w w' := by
  have hr2 : ∀ w, Hid (Calls Try.prog 56 #[.string t] w fun e w' => e = .returned (.tuple #[.agg (ival (rz t.data.toList)), .bool (okI t.data.toList)]) ∧ Below w.heap.size w w') := fun w => Lib.hid (read_rz t w)
  have hr1 : ∀ w, Hid (Calls Try.prog 56 #[.string s] w fun e w' => e = .returned (.tuple #[.agg (ival (rz s.data.toList)), .bool (okI s.data.toList)]) ∧ Below w.heap.size w w') := fun w => Lib.hid (read_rz s w)
  have HR1 := Lib.hid hr1
  have HR2 := Lib.hid hr2
  clear hr1 hr2
  generalize okI s.data.toList = b at HR1 ⊢
  generalize okI t.data.toList = c at HR2 ⊢
  generalize rz s.data.toList = x at HR1 ⊢
  generalize rz t.data.toList = y at HR2 ⊢
  have H4 := Lib.hid (show Blk ((w.alloc (Obj.cells Try.zeroCells43 43)).alloc (Obj.cells Try.zeroCells43 43)) w.heap.size 43 (ival 0) from ((Blk.new _ _ _ rfl).alloc _).same zero81)
  have H5 := Lib.hid (show Blk ((w.alloc (Obj.cells Try.zeroCells43 43)).alloc (Obj.cells Try.zeroCells43 43)) (w.heap.size + 1) 43 (ival 0) from (Blk.new _ _ _ (by simp)).same zero81)
  have HB := Lib.hid (show Below w.heap.size w ((w.alloc (Obj.cells Try.zeroCells43 43)).alloc (Obj.cells Try.zeroCells43 43)) from ((Below.refl _ _).alloc (Nat.le_refl _) _).alloc (by simp) _)
  go_enter Try.func42, Try.ntmps42
  go_wp2_with fail
  refine (HR1.out _).out.mono ?_
  rintro e w1 ⟨rfl, hb1⟩
  have H41 := Lib.hid (H4.out.below hb1 (by simp; omega))
  have H51 := Lib.hid (H5.out.below hb1 (by simp))
  have HB1 := Lib.hid (HB.out.trans (hb1.mono (by simp; omega)))
  have hlt1 : w.heap.size + 1 < w1.heap.size := H51.out.lt
  clear hb1
  have HA := Lib.hid (Blk.new w1 43 Try.zeroCells43 rfl)
  have HX := Lib.hid (new81 w1 x)
  have H42 := Lib.hid (new81_keep x H41.out)
  have H52 := Lib.hid (new81_keep x H51.out)
  have HB2 := Lib.hid (new81_below x HB1.out HB1.out.size)
  go_wp2_with (first | (refine ext rfl (.tmp 11) 0 [.agg (ival x), .bool b] (.agg (ival x)) rfl rfl rfl ?_) | (refine ext rfl (.tmp 11) 1 [.agg (ival x), .bool b] (.bool b) rfl rfl rfl ?_) | (refine stI rfl (.tmp 7) (.tmp 14) rfl w1.heap.size _ rfl rfl (t := 43) (old := Try.zeroCells43) ?_ ?_ ?_; exact HA.out; exact zero81_size; generalize (w1.alloc (Obj.cells Try.zeroCells43 43)).setRow w1.heap.size (ival x) = w2 at HX H42 H52 HB2 ⊢))
  refine (HR2.out _).out.mono ?_
  rintro e w3 ⟨rfl, hb3⟩
  have H43 := Lib.hid (H42.out.below hb3 H42.out.lt)
  have H53 := Lib.hid (H52.out.below hb3 H52.out.lt)
  have HX3 := Lib.hid (HX.out.below hb3 HX.out.lt)
  have HB3 := Lib.hid (HB2.out.trans (hb3.mono HB2.out.size))
  have hlt3 : w.heap.size + 1 < w3.heap.size := H53.out.lt
  clear hb3
  have HA3 := Lib.hid (Blk.new w3 43 Try.zeroCells43 rfl)
  have HI := Lib.hid (show RisInv w ((w3.alloc (Obj.cells Try.zeroCells43 43)).setRow w3.heap.size (ival y)) w1.heap.size x w3.heap.size y from ⟨new81_below y HB3.out HB3.out.size, new81_keep y HX3.out, new81 w3 y, ⟨0, new81_keep y H43.out⟩, ⟨0, new81_keep y H53.out⟩, hlt1, hlt3⟩)
  go_wp2_with (first | (refine ext rfl (.tmp 16) 0 [.agg (ival y), .bool c] (.agg (ival y)) rfl rfl rfl ?_) | (refine ext rfl (.tmp 16) 1 [.agg (ival y), .bool c] (.bool c) rfl rfl rfl ?_) | (refine stI rfl (.tmp 9) (.tmp 19) rfl w3.heap.size _ rfl rfl (t := 43) (old := Try.zeroCells43) ?_ ?_ ?_; exact HA3.out; exact zero81_size; generalize (w3.alloc (Obj.cells Try.zeroCells43 43)).setRow w3.heap.size (ival y) = w4 at HI ⊢))
  refine wp_region_held_drew (S := fun w' => RisInv w w' w1.heap.size x w3.heap.size y) (by kernel_rfl) (ris_drew HI.out) fun hS => ?_
  refine held_take 0 rfl rfl (by kernel_rfl) (by kernel_rfl) (by kernel_rfl) (fun _ _ _ h => h) (fun w' h => puts_ival _ rfl rfl h.2.1) hS ?_
  go_frame
  refine held_take 1 rfl rfl (by kernel_rfl) (by kernel_rfl) (by kernel_rfl) (fun _ _ _ h => h) (fun w' h => puts_ival _ rfl rfl h.2.2.1) hS ?_
  go_frame
  refine held_take 2 rfl rfl (by kernel_rfl) (by kernel_rfl) (by kernel_rfl) (fun _ _ _ h => h) (fun w' h => puts_move_to _ (.bool b) rfl rfl) hS ?_
  go_frame
  refine held_take 3 rfl rfl (by kernel_rfl) (by kernel_rfl) (by kernel_rfl) (fun _ _ _ h => h) (fun w' h => puts_move_to _ (.bool b) rfl rfl) hS ?_
  go_frame
  cases b with
  | true =>
    refine held_want 4 rfl rfl (by kernel_rfl) (by kernel_rfl) (by kernel_rfl) (fun _ _ _ h => h) (fun w' h => puts_move_to _ (.bool c) rfl rfl) hS ?_
    go_frame
    refine held_take 5 (v := .bool c) rfl rfl (by kernel_rfl) (by kernel_rfl) (by kernel_rfl) (fun _ _ _ h => h) (fun w' h => puts_pick_yes _ _ _ _ rfl rfl rfl) hS ?_
    go_frame
    refine held_only 6 (by kernel_rfl) rfl rfl (ris_store1 hS _ _ rfl rfl rfl) (ris_res1 hS).1 ?_
    go_frame
    refine held_only 7 (by kernel_rfl) rfl rfl (ris_store2 (ris_res1 hS).1 _ _ rfl rfl rfl) (ris_res2 (ris_res1 hS).1).1 ?_
    go_frame
    refine held_only 8 (v := .bool c) (by kernel_rfl) rfl rfl (puts_assign_to _ (.bool c) rfl rfl).gives (ris_res2 (ris_res1 hS).1).1 ?_
    go_frame
    refine wpAnyH_done (by kernel_rfl) ?_ _
    go_wp2_with fail
    exact bodyPost_ret (v := .tuple #[.agg (ival x), .agg (ival y), .bool c]) (results_two_tmp rfl _ _ rfl rfl rfl (var81 ((ris_res1 hS).2.rowOff (by omega))) (var81 (ris_res2 (ris_res1 hS).1).2)) rfl ⟨by simp, (ris_res2 (ris_res1 hS).1).1.1⟩
  | false =>
    refine held_skip 4 rfl rfl (by kernel_rfl) (by kernel_rfl) (by kernel_rfl) (fun _ _ _ h => h) hS ?_
    go_frame
    refine held_take 5 (v := .bool false) rfl rfl (by kernel_rfl) (by kernel_rfl) (by kernel_rfl) (fun _ _ _ h => h) (fun w' h => puts_pick_no _ _ _ _ rfl rfl rfl) hS ?_
    go_frame
    refine held_only 6 (by kernel_rfl) rfl rfl (ris_store1 hS _ _ rfl rfl rfl) (ris_res1 hS).1 ?_
    go_frame
    refine held_only 7 (by kernel_rfl) rfl rfl (ris_store2 (ris_res1 hS).1 _ _ rfl rfl rfl) (ris_res2 (ris_res1 hS).1).1 ?_
    go_frame
    refine held_only 8 (v := .bool false) (by kernel_rfl) rfl rfl (puts_assign_to _ (.bool false) rfl rfl).gives (ris_res2 (ris_res1 hS).1).1 ?_
    go_frame
    refine wpAnyH_done (by kernel_rfl) ?_ _
    go_wp2_with fail
    exact bodyPost_ret (v := .tuple #[.agg (ival x), .agg (ival y), .bool false]) (results_two_tmp rfl _ _ rfl rfl rfl (var81 ((ris_res1 hS).2.rowOff (by omega))) (var81 (ris_res2 (ris_res1 hS).1).2)) rfl ⟨by simp, (ris_res2 (ris_res1 hS).1).1.1⟩
end Go.Proofs.Ytckmpenlpkhnfab
