/- impl.IntDiv and impl.IntMod. -/
import Derived.Test.YtckmpenlpkhnfabFns
namespace Go.Proofs.Ytckmpenlpkhnfab
open Go.RowKit
def divV (a b : List UInt8) : Value := if okI a && okI b then (if rz b = 0 then noV else outI (qI (rz a) (rz b))) else noV
def modV (a b : List UInt8) : Value := if okI a && okI b then (if rz b = 0 then noV else outI (rI (rz a) (rz b))) else noV
theorem ldIw {ops : Array Oper} {rest : List Oper} {o : Oper} {a : Act} {w : World} {Q : Exit → Act → World → Prop} (x : Operand) (ho : o.op = .load 43 x) (g : Nat) (z : Int) {t : TypeId} (hg : Region.wanted o (yielded ops a.tmps) = true) (hx : a.eval x = .pointer (some ⟨g, 0, none⟩)) (hb : Blk w g t (ival z)) (k : wpList Try.prog ops Q rest (a.put o.dst (.agg (ival z))) w) : wpList Try.prog ops Q (o :: rest) a w :=
  Gives.want hg (puts_load81 x ho g 0 hx hb.lies).gives k
theorem qI_lt {x y : Int} (hx : x.natAbs < 10 ^ 40) : (qI x y).natAbs < 10 ^ 80 := by
  unfold qI
  rw [sgn_abs]
  unfold dq
  split
  · exact quo1_lt hx
  · exact quo_lt hx
theorem rI_lt {x y : Int} (hy : y.natAbs < 10 ^ 40) (h0 : y ≠ 0) : (rI x y).natAbs < 10 ^ 80 := by
  unfold rI
  rw [sgn_abs]
  unfold dr
  split
  · exact rest1_lt hy
  · exact rest_lt hy (by omega)
set_option maxHeartbeats 1000000 in
theorem intDiv_any (s t : ByteArray) (w : World) : Calls Try.prog 18 #[.string s, .string t] w fun e w' => e = .returned (divV s.data.toList t.data.toList) ∧ Below w.heap.size w w' := by
  have HR := Lib.hid (reads_hid s t)
  have HX := Lib.hid (okI_lt (l := s.data.toList))
  have HY := Lib.hid (okI_lt (l := t.data.toList))
  unfold divV
  generalize (okI s.data.toList && okI t.data.toList) = ok at HR ⊢
  generalize rz s.data.toList = x at HR HX ⊢
  generalize rz t.data.toList = y at HR HY ⊢
  cases ok with
  | false =>
    go_enter Try.func18, Try.ntmps18
    go_wp2_with fail
    refine (HR.out _).out.mono ?_
    rintro e w1 ⟨rfl, hb1⟩
    have HI := Lib.hid (pair_start (x := x) (y := y) hb1)
    have HA := Lib.hid (pair_a w1)
    have HB := Lib.hid (pair_b w1 x)
    clear hb1
    go_wp2_with (first | (refine ext rfl (.tmp 11) 0 [.agg (ival x), .agg (ival y), .bool false] (.agg (ival x)) rfl rfl rfl ?_) | (refine ext rfl (.tmp 11) 1 [.agg (ival x), .agg (ival y), .bool false] (.agg (ival y)) rfl rfl rfl ?_) | (refine ext rfl (.tmp 11) 2 [.agg (ival x), .agg (ival y), .bool false] (.bool false) rfl rfl rfl ?_) | (refine stI rfl (.tmp 6) (.tmp 15) rfl w1.heap.size _ rfl rfl (t := 43) (old := Try.zeroCells43) ?_ ?_ ?_; exact HA.out; exact zero81_size) | (refine stI rfl (.tmp 7) (.tmp 16) rfl (w1.heap.size + 1) _ rfl rfl (t := 43) (old := Try.zeroCells43) ?_ ?_ ?_; exact HB.out; exact zero81_size; generalize (((w1.alloc (Obj.cells Try.zeroCells43 43)).alloc (Obj.cells Try.zeroCells43 43)).setRow w1.heap.size (ival x)).setRow (w1.heap.size + 1) (ival y) = w2 at HI ⊢))
    go_ret2
    exact ⟨rfl, HI.out.1⟩
  | true =>
    have HZ0 : ∀ w, Hid (Calls Try.prog 47 #[.agg (ival y)] w fun e w' => e = .returned (.bool (decide (y = 0))) ∧ Below w.heap.size w w') := fun w => Lib.hid (zeroI y w (Nat.lt_trans HY.out (by decide)))
    by_cases h0 : y = 0
    · have HZ := Lib.hid (fun w => (HZ0 w).out)
      rw [decide_eq_true h0] at HZ
      simp only [if_true, if_pos h0]
      clear HZ0 h0
      go_enter Try.func18, Try.ntmps18
      go_wp2_with fail
      refine (HR.out _).out.mono ?_
      rintro e w1 ⟨rfl, hb1⟩
      have HI := Lib.hid (pair_start (x := x) (y := y) hb1)
      have HA := Lib.hid (pair_a w1)
      have HB := Lib.hid (pair_b w1 x)
      clear hb1
      go_wp2_with (first | (refine ext rfl (.tmp 11) 0 [.agg (ival x), .agg (ival y), .bool true] (.agg (ival x)) rfl rfl rfl ?_) | (refine ext rfl (.tmp 11) 1 [.agg (ival x), .agg (ival y), .bool true] (.agg (ival y)) rfl rfl rfl ?_) | (refine ext rfl (.tmp 11) 2 [.agg (ival x), .agg (ival y), .bool true] (.bool true) rfl rfl rfl ?_) | (refine stI rfl (.tmp 6) (.tmp 15) rfl w1.heap.size _ rfl rfl (t := 43) (old := Try.zeroCells43) ?_ ?_ ?_; exact HA.out; exact zero81_size) | (refine stI rfl (.tmp 7) (.tmp 16) rfl (w1.heap.size + 1) _ rfl rfl (t := 43) (old := Try.zeroCells43) ?_ ?_ ?_; exact HB.out; exact zero81_size; generalize (((w1.alloc (Obj.cells Try.zeroCells43 43)).alloc (Obj.cells Try.zeroCells43 43)).setRow w1.heap.size (ival x)).setRow (w1.heap.size + 1) (ival y) = w2 at HI ⊢) | (refine ldIw (.tmp 7) rfl (w1.heap.size + 1) y (t := 43) ?_ ?_ ?_ ?_; rfl; rfl; exact HI.out.2.2.2) | (go_at_call 47; refine (HZ.out _).mono ?_; rintro e w3 ⟨rfl, hb3⟩; have HI3 := Lib.hid (pair_keep HI.out hb3 (pair_lt HI.out)); clear hb3))
      go_ret2
      exact ⟨rfl, HI3.out.1⟩
    · have HZ := Lib.hid (fun w => (HZ0 w).out)
      rw [decide_eq_false h0] at HZ
      simp only [if_true, if_neg h0]
      have H0 := Lib.hid h0
      obtain ⟨l, b, hl⟩ := outI_form (qI x y)
      have HT := Lib.hid (fun w => textI (w := w) (x := qI x y) (qI_lt HX.out))
      rw [hl] at HT
      rw [hl]
      have HD := Lib.hid (fun w => divI (w := w) HX.out HY.out h0)
      clear HZ0 h0 hl
      generalize qI x y = q at HD HT
      generalize rI x y = r at HD HT
      go_enter Try.func18, Try.ntmps18
      go_wp2_with fail
      refine (HR.out _).out.mono ?_
      rintro e w1 ⟨rfl, hb1⟩
      have HI := Lib.hid (pair_start (x := x) (y := y) hb1)
      have HA := Lib.hid (pair_a w1)
      have HB := Lib.hid (pair_b w1 x)
      clear hb1
      go_wp2_with (first | (refine ext rfl (.tmp 11) 0 [.agg (ival x), .agg (ival y), .bool true] (.agg (ival x)) rfl rfl rfl ?_) | (refine ext rfl (.tmp 11) 1 [.agg (ival x), .agg (ival y), .bool true] (.agg (ival y)) rfl rfl rfl ?_) | (refine ext rfl (.tmp 11) 2 [.agg (ival x), .agg (ival y), .bool true] (.bool true) rfl rfl rfl ?_) | (refine stI rfl (.tmp 6) (.tmp 15) rfl w1.heap.size _ rfl rfl (t := 43) (old := Try.zeroCells43) ?_ ?_ ?_; exact HA.out; exact zero81_size) | (refine stI rfl (.tmp 7) (.tmp 16) rfl (w1.heap.size + 1) _ rfl rfl (t := 43) (old := Try.zeroCells43) ?_ ?_ ?_; exact HB.out; exact zero81_size; generalize (((w1.alloc (Obj.cells Try.zeroCells43 43)).alloc (Obj.cells Try.zeroCells43 43)).setRow w1.heap.size (ival x)).setRow (w1.heap.size + 1) (ival y) = w2 at HI ⊢) | (refine ldIw (.tmp 7) rfl (w1.heap.size + 1) y (t := 43) ?_ ?_ ?_ ?_; rfl; rfl; exact HI.out.2.2.2) | (go_at_call 47; refine (HZ.out _).mono ?_; rintro e w3 ⟨rfl, hb3⟩; have HI3 := Lib.hid (pair_keep HI.out hb3 (pair_lt HI.out)); clear hb3) | (refine ldI rfl (.tmp 6) rfl w1.heap.size x rfl (t := 43) ?_ ?_; exact HI3.out.2.2.1) | (refine ldI rfl (.tmp 7) rfl (w1.heap.size + 1) y rfl (t := 43) ?_ ?_; exact HI3.out.2.2.2) | (go_at_call 48; refine (HD.out _).mono ?_; rintro e w4 ⟨rfl, hb4⟩; have HI4 := Lib.hid (pair_keep HI3.out hb4 (pair_lt HI3.out)); clear hb4; have HJ := Lib.hid (pair_start (x := q) (y := r) HI4.out.1); have HA4 := Lib.hid (pair_a w4); have HB4 := Lib.hid (pair_b w4 q)) | (refine ext rfl (.tmp 24) 0 [.agg (ival q), .agg (ival r)] (.agg (ival q)) rfl rfl rfl ?_) | (refine ext rfl (.tmp 24) 1 [.agg (ival q), .agg (ival r)] (.agg (ival r)) rfl rfl rfl ?_) | (refine stI rfl (.tmp 9) (.tmp 28) rfl w4.heap.size _ rfl rfl (t := 43) (old := Try.zeroCells43) ?_ ?_ ?_; exact HA4.out; exact zero81_size) | (refine stI rfl (.tmp 10) (.tmp 29) rfl (w4.heap.size + 1) _ rfl rfl (t := 43) (old := Try.zeroCells43) ?_ ?_ ?_; exact HB4.out; exact zero81_size; generalize (((w4.alloc (Obj.cells Try.zeroCells43 43)).alloc (Obj.cells Try.zeroCells43 43)).setRow w4.heap.size (ival q)).setRow (w4.heap.size + 1) (ival r) = w5 at HJ ⊢) | (refine ldI rfl (.tmp 9) rfl w4.heap.size q rfl (t := 43) ?_ ?_; exact HJ.out.2.2.1) | (go_at_call 44; refine (HT.out _).mono ?_; rintro e w6 ⟨rfl, hb6⟩; have HJ6 := Lib.hid (pair_keep HJ.out hb6 (pair_lt HJ.out)); clear hb6) | (refine ext rfl (.tmp 31) 0 [.string ⟨l⟩, .bool b] (.string ⟨l⟩) rfl rfl rfl ?_) | (refine ext rfl (.tmp 31) 1 [.string ⟨l⟩, .bool b] (.bool b) rfl rfl rfl ?_))
      go_ret2
      exact ⟨rfl, HJ6.out.1⟩
set_option maxHeartbeats 1000000 in
theorem intMod_any (s t : ByteArray) (w : World) : Calls Try.prog 19 #[.string s, .string t] w fun e w' => e = .returned (modV s.data.toList t.data.toList) ∧ Below w.heap.size w w' := by
  have HR := Lib.hid (reads_hid s t)
  have HX := Lib.hid (okI_lt (l := s.data.toList))
  have HY := Lib.hid (okI_lt (l := t.data.toList))
  unfold modV
  generalize (okI s.data.toList && okI t.data.toList) = ok at HR ⊢
  generalize rz s.data.toList = x at HR HX ⊢
  generalize rz t.data.toList = y at HR HY ⊢
  cases ok with
  | false =>
    go_enter Try.func19, Try.ntmps19
    go_wp2_with fail
    refine (HR.out _).out.mono ?_
    rintro e w1 ⟨rfl, hb1⟩
    have HI := Lib.hid (pair_start (x := x) (y := y) hb1)
    have HA := Lib.hid (pair_a w1)
    have HB := Lib.hid (pair_b w1 x)
    clear hb1
    go_wp2_with (first | (refine ext rfl (.tmp 11) 0 [.agg (ival x), .agg (ival y), .bool false] (.agg (ival x)) rfl rfl rfl ?_) | (refine ext rfl (.tmp 11) 1 [.agg (ival x), .agg (ival y), .bool false] (.agg (ival y)) rfl rfl rfl ?_) | (refine ext rfl (.tmp 11) 2 [.agg (ival x), .agg (ival y), .bool false] (.bool false) rfl rfl rfl ?_) | (refine stI rfl (.tmp 6) (.tmp 15) rfl w1.heap.size _ rfl rfl (t := 43) (old := Try.zeroCells43) ?_ ?_ ?_; exact HA.out; exact zero81_size) | (refine stI rfl (.tmp 7) (.tmp 16) rfl (w1.heap.size + 1) _ rfl rfl (t := 43) (old := Try.zeroCells43) ?_ ?_ ?_; exact HB.out; exact zero81_size; generalize (((w1.alloc (Obj.cells Try.zeroCells43 43)).alloc (Obj.cells Try.zeroCells43 43)).setRow w1.heap.size (ival x)).setRow (w1.heap.size + 1) (ival y) = w2 at HI ⊢))
    go_ret2
    exact ⟨rfl, HI.out.1⟩
  | true =>
    have HZ0 : ∀ w, Hid (Calls Try.prog 47 #[.agg (ival y)] w fun e w' => e = .returned (.bool (decide (y = 0))) ∧ Below w.heap.size w w') := fun w => Lib.hid (zeroI y w (Nat.lt_trans HY.out (by decide)))
    by_cases h0 : y = 0
    · have HZ := Lib.hid (fun w => (HZ0 w).out)
      rw [decide_eq_true h0] at HZ
      simp only [if_true, if_pos h0]
      clear HZ0 h0
      go_enter Try.func19, Try.ntmps19
      go_wp2_with fail
      refine (HR.out _).out.mono ?_
      rintro e w1 ⟨rfl, hb1⟩
      have HI := Lib.hid (pair_start (x := x) (y := y) hb1)
      have HA := Lib.hid (pair_a w1)
      have HB := Lib.hid (pair_b w1 x)
      clear hb1
      go_wp2_with (first | (refine ext rfl (.tmp 11) 0 [.agg (ival x), .agg (ival y), .bool true] (.agg (ival x)) rfl rfl rfl ?_) | (refine ext rfl (.tmp 11) 1 [.agg (ival x), .agg (ival y), .bool true] (.agg (ival y)) rfl rfl rfl ?_) | (refine ext rfl (.tmp 11) 2 [.agg (ival x), .agg (ival y), .bool true] (.bool true) rfl rfl rfl ?_) | (refine stI rfl (.tmp 6) (.tmp 15) rfl w1.heap.size _ rfl rfl (t := 43) (old := Try.zeroCells43) ?_ ?_ ?_; exact HA.out; exact zero81_size) | (refine stI rfl (.tmp 7) (.tmp 16) rfl (w1.heap.size + 1) _ rfl rfl (t := 43) (old := Try.zeroCells43) ?_ ?_ ?_; exact HB.out; exact zero81_size; generalize (((w1.alloc (Obj.cells Try.zeroCells43 43)).alloc (Obj.cells Try.zeroCells43 43)).setRow w1.heap.size (ival x)).setRow (w1.heap.size + 1) (ival y) = w2 at HI ⊢) | (refine ldIw (.tmp 7) rfl (w1.heap.size + 1) y (t := 43) ?_ ?_ ?_ ?_; rfl; rfl; exact HI.out.2.2.2) | (go_at_call 47; refine (HZ.out _).mono ?_; rintro e w3 ⟨rfl, hb3⟩; have HI3 := Lib.hid (pair_keep HI.out hb3 (pair_lt HI.out)); clear hb3))
      go_ret2
      exact ⟨rfl, HI3.out.1⟩
    · have HZ := Lib.hid (fun w => (HZ0 w).out)
      rw [decide_eq_false h0] at HZ
      simp only [if_true, if_neg h0]
      have H0 := Lib.hid h0
      obtain ⟨l, b, hl⟩ := outI_form (rI x y)
      have HT := Lib.hid (fun w => textI (w := w) (x := rI x y) (rI_lt HY.out H0.out))
      rw [hl] at HT
      rw [hl]
      have HD := Lib.hid (fun w => divI (w := w) HX.out HY.out h0)
      clear HZ0 h0 hl
      generalize qI x y = q at HD HT
      generalize rI x y = r at HD HT
      go_enter Try.func19, Try.ntmps19
      go_wp2_with fail
      refine (HR.out _).out.mono ?_
      rintro e w1 ⟨rfl, hb1⟩
      have HI := Lib.hid (pair_start (x := x) (y := y) hb1)
      have HA := Lib.hid (pair_a w1)
      have HB := Lib.hid (pair_b w1 x)
      clear hb1
      go_wp2_with (first | (refine ext rfl (.tmp 11) 0 [.agg (ival x), .agg (ival y), .bool true] (.agg (ival x)) rfl rfl rfl ?_) | (refine ext rfl (.tmp 11) 1 [.agg (ival x), .agg (ival y), .bool true] (.agg (ival y)) rfl rfl rfl ?_) | (refine ext rfl (.tmp 11) 2 [.agg (ival x), .agg (ival y), .bool true] (.bool true) rfl rfl rfl ?_) | (refine stI rfl (.tmp 6) (.tmp 15) rfl w1.heap.size _ rfl rfl (t := 43) (old := Try.zeroCells43) ?_ ?_ ?_; exact HA.out; exact zero81_size) | (refine stI rfl (.tmp 7) (.tmp 16) rfl (w1.heap.size + 1) _ rfl rfl (t := 43) (old := Try.zeroCells43) ?_ ?_ ?_; exact HB.out; exact zero81_size; generalize (((w1.alloc (Obj.cells Try.zeroCells43 43)).alloc (Obj.cells Try.zeroCells43 43)).setRow w1.heap.size (ival x)).setRow (w1.heap.size + 1) (ival y) = w2 at HI ⊢) | (refine ldIw (.tmp 7) rfl (w1.heap.size + 1) y (t := 43) ?_ ?_ ?_ ?_; rfl; rfl; exact HI.out.2.2.2) | (go_at_call 47; refine (HZ.out _).mono ?_; rintro e w3 ⟨rfl, hb3⟩; have HI3 := Lib.hid (pair_keep HI.out hb3 (pair_lt HI.out)); clear hb3) | (refine ldI rfl (.tmp 6) rfl w1.heap.size x rfl (t := 43) ?_ ?_; exact HI3.out.2.2.1) | (refine ldI rfl (.tmp 7) rfl (w1.heap.size + 1) y rfl (t := 43) ?_ ?_; exact HI3.out.2.2.2) | (go_at_call 48; refine (HD.out _).mono ?_; rintro e w4 ⟨rfl, hb4⟩; have HI4 := Lib.hid (pair_keep HI3.out hb4 (pair_lt HI3.out)); clear hb4; have HJ := Lib.hid (pair_start (x := q) (y := r) HI4.out.1); have HA4 := Lib.hid (pair_a w4); have HB4 := Lib.hid (pair_b w4 q)) | (refine ext rfl (.tmp 24) 0 [.agg (ival q), .agg (ival r)] (.agg (ival q)) rfl rfl rfl ?_) | (refine ext rfl (.tmp 24) 1 [.agg (ival q), .agg (ival r)] (.agg (ival r)) rfl rfl rfl ?_) | (refine stI rfl (.tmp 9) (.tmp 28) rfl w4.heap.size _ rfl rfl (t := 43) (old := Try.zeroCells43) ?_ ?_ ?_; exact HA4.out; exact zero81_size) | (refine stI rfl (.tmp 10) (.tmp 29) rfl (w4.heap.size + 1) _ rfl rfl (t := 43) (old := Try.zeroCells43) ?_ ?_ ?_; exact HB4.out; exact zero81_size; generalize (((w4.alloc (Obj.cells Try.zeroCells43 43)).alloc (Obj.cells Try.zeroCells43 43)).setRow w4.heap.size (ival q)).setRow (w4.heap.size + 1) (ival r) = w5 at HJ ⊢) | (refine ldI rfl (.tmp 10) rfl (w4.heap.size + 1) r rfl (t := 43) ?_ ?_; exact HJ.out.2.2.2) | (go_at_call 44; refine (HT.out _).mono ?_; rintro e w6 ⟨rfl, hb6⟩; have HJ6 := Lib.hid (pair_keep HJ.out hb6 (pair_lt HJ.out)); clear hb6) | (refine ext rfl (.tmp 31) 0 [.string ⟨l⟩, .bool b] (.string ⟨l⟩) rfl rfl rfl ?_) | (refine ext rfl (.tmp 31) 1 [.string ⟨l⟩, .bool b] (.bool b) rfl rfl rfl ?_))
      go_ret2
      exact ⟨rfl, HJ6.out.1⟩
end Go.Proofs.Ytckmpenlpkhnfab
