/- impl's integers: sums, products, the other sign, and whether one is 0. -/
import Derived.Test.YtckmpenlpkhnfabInt
import Derived.Test.YtckmpenlpkhnfabAdd
import Derived.Test.YtckmpenlpkhnfabMul
import Derived.Test.YtckmpenlpkhnfabDiv
namespace Go.Proofs.Ytckmpenlpkhnfab
open Go.RowKit
theorem Blk.sizeOf {w : World} {g n : Nat} {t : TypeId} {s : Bool} (h : Blk w g t (irow n s)) : Lies w g 0 (row80 n) := h.liesHead
theorem Blk.signOf {w : World} {g n : Nat} {t : TypeId} {s : Bool} (h : Blk w g t (irow n s)) : w.cell? ⟨g, 80, none⟩ = some (.bool s) := by rw [h.cell, irow_sign]
theorem field0 (g : Nat) (w : World) : (Instr.fieldAt 43 (.pointer (some ⟨g, 0, none⟩)) 0).run Try.prog w = .ok (.pointer (some ⟨g, 0, none⟩)) w := by kernel_rfl
theorem field1 (g : Nat) (w : World) : (Instr.fieldAt 43 (.pointer (some ⟨g, 0, none⟩)) 1).run Try.prog w = .ok (.pointer (some ⟨g, 80, none⟩)) w := by kernel_rfl
section
variable {o : Oper} {a : Act} {w : World}
theorem puts_field0 (x : Operand) (g : Nat) (ho : o.op = .fieldAddr 43 x 0) (hx : a.eval x = .pointer (some ⟨g, 0, none⟩)) : Puts Try.prog o a w (.pointer (some ⟨g, 0, none⟩)) := by
  unfold Puts execOp; simp only [ho, hx, Sem.run_bind, field0, Result.andThen_ok, Sem.run_pure]
theorem puts_field1 (x : Operand) (g : Nat) (ho : o.op = .fieldAddr 43 x 1) (hx : a.eval x = .pointer (some ⟨g, 0, none⟩)) : Puts Try.prog o a w (.pointer (some ⟨g, 80, none⟩)) := by
  unfold Puts execOp; simp only [ho, hx, Sem.run_bind, field1, Result.andThen_ok, Sem.run_pure]
theorem puts_sign (x : Operand) (g : Nat) (s : Bool) (ho : o.op = .load 4 x) (hx : a.eval x = .pointer (some ⟨g, 80, none⟩)) (hc : w.cell? ⟨g, 80, none⟩ = some (.bool s)) : Puts Try.prog o a w (.bool s) :=
  puts_cell 4 x ho g 80 _ hx hc _ Try.underlying4 rfl
end
/-- The state of a function of two integers that hands back a third. -/
def TwoInv (w wr : World) (m : Nat) (s : Bool) (n : Nat) (t : Bool) : Prop := Below w.heap.size w wr ∧ Blk wr w.heap.size 43 (irow m s) ∧ Blk wr (w.heap.size + 1) 43 (irow n t) ∧ ∃ q b, Blk wr (w.heap.size + 1 + 1) 43 (irow q b)
theorem two_start (w : World) (m : Nat) (s : Bool) (n : Nat) (t : Bool) : TwoInv w (((w.alloc (Obj.cells (irow m s) 43)).alloc (Obj.cells (irow n t) 43)).alloc (Obj.cells Try.zeroCells43 43)) m s n t := by
  rw [zero81]
  exact ⟨(((Below.refl _ _).alloc (Nat.le_refl _) _).alloc (by simp) _).alloc (by simp; omega) _, ((Blk.new _ _ _ rfl).alloc _).alloc _, (Blk.new _ _ _ (by simp)).alloc _, 0, false, Blk.new _ _ _ (by simp)⟩
section
variable {w w1 w2 : World} {m n : Nat} {s t : Bool}
theorem two_lt (h : TwoInv w w1 m s n t) : w.heap.size + 2 < w1.heap.size := by
  obtain ⟨_, _, _, q, b, h4⟩ := h
  exact h4.lt
theorem two_keep {B : Nat} (h : TwoInv w w1 m s n t) (hb : Below B w1 w2) (hB : w.heap.size + 2 < B) : TwoInv w w2 m s n t := by
  obtain ⟨h1, h2, h3, q, b, h4⟩ := h
  exact ⟨h1.trans (hb.mono (by omega)), h2.below hb (by omega), h3.below hb (by omega), q, b, h4.below hb (by omega)⟩
theorem two_drew (h : TwoInv w w1 m s n t) : TwoInv w w1.drew m s n t := ⟨h.1.drew, h.2⟩
theorem two_row {q : Nat} {b : Bool} (h : TwoInv w w1 m s n t) : TwoInv w (w1.setRow (w.heap.size + 1 + 1) (irow q b)) m s n t ∧ Blk (w1.setRow (w.heap.size + 1 + 1) (irow q b)) (w.heap.size + 1 + 1) 43 (irow q b) := by
  obtain ⟨h1, h2, h3, q', b', h4⟩ := h
  exact ⟨⟨below_setRow h1 (by omega), h2.rowOff (by omega), h3.rowOff (by omega), q, b, h4.row⟩, h4.row⟩
/-- The store of the result. -/
theorem two_store {o : Oper} {a : Act} {z : Int} (h : TwoInv w w1 m s n t) (x y : Operand) (ho : o.op = .store 43 x y) (hx : a.eval x = .pointer (some ⟨w.heap.size + 1 + 1, 0, none⟩)) (hy : a.eval y = .agg (ival z)) : Gives Try.prog o a w1 undef (w1.setRow (w.heap.size + 1 + 1) (ival z)) := by
  obtain ⟨h1, h2, h3, q', b', h4⟩ := h
  exact gives_store81 x y ho _ hx hy h4 (irow_size _ _)
end
theorem sgn_same (s : Bool) (m n : Nat) : sgn s m + sgn s n = sgn s (m + n) := by cases s <;> simp [sgn] <;> omega
theorem sgn_less (s t : Bool) (m n : Nat) (hst : s ≠ t) (h : m < n) : sgn s m + sgn t n = sgn t (n - m) := by cases s <;> cases t <;> simp [sgn] at * <;> omega
theorem sgn_more (s t : Bool) (m n : Nat) (hst : s ≠ t) (h : n ≤ m) : sgn s m + sgn t n = sgn s (m - n) := by cases s <;> cases t <;> simp [sgn] at * <;> omega
theorem sgn_mul (s t : Bool) (m n : Nat) : sgn s m * sgn t n = sgn (s != t) (m * n) := by cases s <;> cases t <;> simp [sgn, Int.neg_mul, Int.mul_neg]
set_option maxHeartbeats 1000000 in
theorem times_any (m n : Nat) (s t : Bool) (w : World) (hm : m < 10 ^ 40) (hn : n < 10 ^ 40) :
    Calls Try.prog 43 #[.agg (irow m s), .agg (irow n t)] w fun e w' => e = .returned (.agg (ival (sgn s m * sgn t n))) ∧ Below w.heap.size w w' := by
  have H := Lib.hid (two_drew (two_start w m s n t))
  have hmn : m * n < 10 ^ 80 := by
    have := Nat.mul_lt_mul'' hm hn
    rw [← Nat.pow_add] at this
    exact this
  have Hm := Lib.hid hm
  have Hn := Lib.hid hn
  have Hmn := Lib.hid hmn
  clear hm hn hmn
  go_enter Try.func43, Try.ntmps43
  go_wp2_with fail
  refine wp_region_held_drew (S := fun w' => TwoInv w w' m s n t) (by kernel_rfl) H.out fun hS => ?_
  refine held_take 0 rfl rfl (by kernel_rfl) (by kernel_rfl) (by kernel_rfl) (fun _ _ _ h => h) (fun w' h => puts_field0 _ _ rfl rfl) hS ?_
  go_frame
  refine held_take 1 rfl rfl (by kernel_rfl) (by kernel_rfl) (by kernel_rfl) (fun _ _ _ h => h) (fun w' h => puts_load80 _ rfl _ 0 rfl h.2.1.sizeOf) hS ?_
  go_frame
  refine held_take 2 rfl rfl (by kernel_rfl) (by kernel_rfl) (by kernel_rfl) (fun _ _ _ h => h) (fun w' h => puts_field0 _ _ rfl rfl) hS ?_
  go_frame
  refine held_take 3 rfl rfl (by kernel_rfl) (by kernel_rfl) (by kernel_rfl) (fun _ _ _ h => h) (fun w' h => puts_load80 _ rfl _ 0 rfl h.2.2.1.sizeOf) hS ?_
  go_frame
  refine held_take 5 rfl rfl (by kernel_rfl) (by kernel_rfl) (by kernel_rfl) (fun _ _ _ h => h) (fun w' h => puts_field1 _ _ rfl rfl) hS ?_
  go_frame
  refine held_take 6 rfl rfl (by kernel_rfl) (by kernel_rfl) (by kernel_rfl) (fun _ _ _ h => h) (fun w' h => puts_sign _ _ s rfl rfl h.2.1.signOf) hS ?_
  go_frame
  refine held_take 7 rfl rfl (by kernel_rfl) (by kernel_rfl) (by kernel_rfl) (fun _ _ _ h => h) (fun w' h => puts_field1 _ _ rfl rfl) hS ?_
  go_frame
  refine held_take 8 rfl rfl (by kernel_rfl) (by kernel_rfl) (by kernel_rfl) (fun _ _ _ h => h) (fun w' h => puts_sign _ _ t rfl rfl h.2.2.1.signOf) hS ?_
  go_frame
  refine held_take 9 (v := .bool (s != t)) rfl rfl (by kernel_rfl) (by kernel_rfl) (by kernel_rfl) (fun _ _ _ h => h) (fun w' h => puts_neqBool _ _ _ _ s t rfl rfl rfl Try.underlying4) hS ?_
  go_frame
  refine held_call 4 (by kernel_rfl) rfl rfl (puts_call2 70 _ _ _ (.agg (row80 m)) (.agg (row80 n)) rfl rfl rfl (by kernel_rfl)) (mul_any m n _ Hm.out Hn.out) ?_
  rintro e w1 ⟨rfl, hb1⟩
  have hS1 := two_keep hS hb1 (two_lt hS)
  refine ⟨_, rfl, hS1, ?_⟩
  go_frame
  refine held_call 10 (by kernel_rfl) rfl rfl (puts_call2 57 _ _ _ (.agg (row80 (m * n))) (.bool (s != t)) rfl rfl rfl (by kernel_rfl)) (make_any (m * n) (s != t) _ Hmn.out) ?_
  rintro e w2 ⟨rfl, hb2⟩
  have hS2 := two_keep hS1 hb2 (two_lt hS1)
  refine ⟨_, rfl, hS2, ?_⟩
  go_frame
  refine held_only 11 (by kernel_rfl) rfl rfl (two_store hS2 _ _ rfl rfl rfl) (two_row hS2).1 ?_
  go_frame
  refine wpAnyH_done (by kernel_rfl) ?_ _
  go_wp2_with fail
  exact bodyPost_ret (v := .agg (ival (sgn (s != t) (m * n)))) (res81 rfl _ _ _ rfl (two_row hS2).2) rfl ⟨by rw [sgn_mul], (two_row hS2).1.1⟩
theorem plus_facts {w wr : World} {m n : Nat} {s t : Bool} (h : TwoInv w wr m s n t) : wr.cell? ⟨w.heap.size, 80, none⟩ = some (.bool s) ∧ wr.cell? ⟨w.heap.size + 1, 80, none⟩ = some (.bool t) := ⟨h.2.1.signOf, h.2.2.1.signOf⟩
theorem lt80 {a b : Nat} (ha : a < 10 ^ 40) (hb : b ≤ a) : b < 10 ^ 80 := Nat.lt_of_le_of_lt hb (Nat.lt_trans ha (by decide))
set_option maxHeartbeats 1000000 in
theorem plus_same (m n : Nat) (s t : Bool) (w : World) (hm : m < 10 ^ 40) (hn : n < 10 ^ 40) (hst : s = t) :
    Calls Try.prog 50 #[.agg (irow m s), .agg (irow n t)] w fun e w' => e = .returned (.agg (ival (sgn s m + sgn t n))) ∧ Below w.heap.size w w' := by
  subst hst
  have h0 := two_start w m s n s
  have H := Lib.hid (two_drew h0)
  have Hk := Lib.hid (show m + n < 10 ^ 80 by have : (10 : Nat) ^ 40 + 10 ^ 40 < 10 ^ 80 := by decide
                                              omega)
  have Hz := Lib.hid (sgn_same s m n)
  obtain ⟨c1, c2⟩ := plus_facts h0
  clear h0 hm hn
  cases s with
  | false =>
    go_enter Try.func50, Try.ntmps50
    go_wp2_with fail
    refine wp_region_held_drew (S := fun w' => TwoInv w w' m false n false) (by kernel_rfl) H.out fun hS => ?_
    refine held_take 0 rfl rfl (by kernel_rfl) (by kernel_rfl) (by kernel_rfl) (fun _ _ _ h => h) (fun w' h => puts_field0 _ _ rfl rfl) hS ?_
    go_frame
    refine held_take 1 rfl rfl (by kernel_rfl) (by kernel_rfl) (by kernel_rfl) (fun _ _ _ h => h) (fun w' h => puts_load80 _ rfl _ 0 rfl h.2.1.sizeOf) hS ?_
    go_frame
    refine held_take 2 rfl rfl (by kernel_rfl) (by kernel_rfl) (by kernel_rfl) (fun _ _ _ h => h) (fun w' h => puts_field0 _ _ rfl rfl) hS ?_
    go_frame
    refine held_take 3 rfl rfl (by kernel_rfl) (by kernel_rfl) (by kernel_rfl) (fun _ _ _ h => h) (fun w' h => puts_load80 _ rfl _ 0 rfl h.2.2.1.sizeOf) hS ?_
    go_frame
    refine held_take 5 rfl rfl (by kernel_rfl) (by kernel_rfl) (by kernel_rfl) (fun _ _ _ h => h) (fun w' h => puts_field1 _ _ rfl rfl) hS ?_
    go_frame
    refine held_take 6 rfl rfl (by kernel_rfl) (by kernel_rfl) (by kernel_rfl) (fun _ _ _ h => h) (fun w' h => puts_sign _ _ false rfl rfl h.2.1.signOf) hS ?_
    go_frame
    refine held_call 4 (by kernel_rfl) rfl rfl (puts_call2 73 _ _ _ (.agg (row80 m)) (.agg (row80 n)) rfl rfl rfl (by kernel_rfl)) (add_any m n _) ?_
    rintro e w1 ⟨rfl, hbhS1⟩
    have hS1 := two_keep hS hbhS1 (two_lt hS)
    refine ⟨_, rfl, hS1, ?_⟩
    go_frame
    refine held_call 7 (by kernel_rfl) rfl rfl (puts_call2 57 _ _ _ (.agg (row80 (m + n))) (.bool false) rfl rfl rfl (by kernel_rfl)) (make_any (m + n) false _ Hk.out) ?_
    rintro e w2 ⟨rfl, hbhS2⟩
    have hS2 := two_keep hS1 hbhS2 (two_lt hS1)
    refine ⟨_, rfl, hS2, ?_⟩
    go_frame
    refine held_only 8 (by kernel_rfl) rfl rfl (two_store hS2 _ _ rfl rfl rfl) (two_row hS2).1 ?_
    go_frame
    refine wpAnyH_done (by kernel_rfl) ?_ _
    go_wp2_with fail
    exact bodyPost_ret (v := .agg (ival (sgn false (m + n)))) (res81 rfl _ _ _ rfl (two_row hS2).2) rfl ⟨by rw [Hz.out], (two_row hS2).1.1⟩
  | true =>
    go_enter Try.func50, Try.ntmps50
    go_wp2_with fail
    refine wp_region_held_drew (S := fun w' => TwoInv w w' m true n true) (by kernel_rfl) H.out fun hS => ?_
    refine held_take 0 rfl rfl (by kernel_rfl) (by kernel_rfl) (by kernel_rfl) (fun _ _ _ h => h) (fun w' h => puts_field0 _ _ rfl rfl) hS ?_
    go_frame
    refine held_take 1 rfl rfl (by kernel_rfl) (by kernel_rfl) (by kernel_rfl) (fun _ _ _ h => h) (fun w' h => puts_load80 _ rfl _ 0 rfl h.2.1.sizeOf) hS ?_
    go_frame
    refine held_take 2 rfl rfl (by kernel_rfl) (by kernel_rfl) (by kernel_rfl) (fun _ _ _ h => h) (fun w' h => puts_field0 _ _ rfl rfl) hS ?_
    go_frame
    refine held_take 3 rfl rfl (by kernel_rfl) (by kernel_rfl) (by kernel_rfl) (fun _ _ _ h => h) (fun w' h => puts_load80 _ rfl _ 0 rfl h.2.2.1.sizeOf) hS ?_
    go_frame
    refine held_take 5 rfl rfl (by kernel_rfl) (by kernel_rfl) (by kernel_rfl) (fun _ _ _ h => h) (fun w' h => puts_field1 _ _ rfl rfl) hS ?_
    go_frame
    refine held_take 6 rfl rfl (by kernel_rfl) (by kernel_rfl) (by kernel_rfl) (fun _ _ _ h => h) (fun w' h => puts_sign _ _ true rfl rfl h.2.1.signOf) hS ?_
    go_frame
    refine held_call 4 (by kernel_rfl) rfl rfl (puts_call2 73 _ _ _ (.agg (row80 m)) (.agg (row80 n)) rfl rfl rfl (by kernel_rfl)) (add_any m n _) ?_
    rintro e w1 ⟨rfl, hbhS1⟩
    have hS1 := two_keep hS hbhS1 (two_lt hS)
    refine ⟨_, rfl, hS1, ?_⟩
    go_frame
    refine held_call 7 (by kernel_rfl) rfl rfl (puts_call2 57 _ _ _ (.agg (row80 (m + n))) (.bool true) rfl rfl rfl (by kernel_rfl)) (make_any (m + n) true _ Hk.out) ?_
    rintro e w2 ⟨rfl, hbhS2⟩
    have hS2 := two_keep hS1 hbhS2 (two_lt hS1)
    refine ⟨_, rfl, hS2, ?_⟩
    go_frame
    refine held_only 8 (by kernel_rfl) rfl rfl (two_store hS2 _ _ rfl rfl rfl) (two_row hS2).1 ?_
    go_frame
    refine wpAnyH_done (by kernel_rfl) ?_ _
    go_wp2_with fail
    exact bodyPost_ret (v := .agg (ival (sgn true (m + n)))) (res81 rfl _ _ _ rfl (two_row hS2).2) rfl ⟨by rw [Hz.out], (two_row hS2).1.1⟩
set_option maxHeartbeats 1000000 in
theorem plus_less (m n : Nat) (s t : Bool) (w : World) (hm : m < 10 ^ 40) (hn : n < 10 ^ 40) (hst : s ≠ t) (hlt : m < n) :
    Calls Try.prog 50 #[.agg (irow m s), .agg (irow n t)] w fun e w' => e = .returned (.agg (ival (sgn s m + sgn t n))) ∧ Below w.heap.size w w' := by
  have h0 := two_start w m s n t
  have Hm := Lib.hid hm
  have Hn := Lib.hid hn
  have Hlt := Lib.hid hlt
  have H0 := Lib.hid h0
  have Hk := Lib.hid (show n - m < 10 ^ 80 from lt80 hn (Nat.sub_le _ _))
  have Hz := Lib.hid (sgn_less s t m n hst hlt)
  have Hv := Lib.hid (cmpN_lt hlt)
  obtain ⟨c1, c2⟩ := plus_facts h0
  clear h0 hm hn hlt
  cases s <;> cases t <;> first | exact absurd rfl hst | skip
  · clear hst
    go_enter Try.func50, Try.ntmps50
    go_wp2_with (first | (refine ld80 rfl _ rfl _ 0 rfl (H0.out.2.1.sizeOf) ?_) | (refine ld80 rfl _ rfl _ 0 rfl (H0.out.2.2.1.sizeOf) ?_) | (go_at_call 51; refine (cmp_any m n _ (lt80 Hm.out (Nat.le_refl _)) (lt80 Hn.out (Nat.le_refl _))).mono ?_; rintro e w0 ⟨rfl, hb0⟩; rw [Hv.out]; have H1 := Lib.hid (two_keep H0.out hb0 (two_lt H0.out)); clear hb0))
    refine wp_region_held_drew (S := fun w' => TwoInv w w' m false n true) (by kernel_rfl) (two_drew H1.out) fun hS => ?_
    refine held_take 0 rfl rfl (by kernel_rfl) (by kernel_rfl) (by kernel_rfl) (fun _ _ _ h => h) (fun w' h => puts_field0 _ _ rfl rfl) hS ?_
    go_frame
    refine held_take 1 rfl rfl (by kernel_rfl) (by kernel_rfl) (by kernel_rfl) (fun _ _ _ h => h) (fun w' h => puts_load80 _ rfl _ 0 rfl h.2.2.1.sizeOf) hS ?_
    go_frame
    refine held_take 2 rfl rfl (by kernel_rfl) (by kernel_rfl) (by kernel_rfl) (fun _ _ _ h => h) (fun w' h => puts_field0 _ _ rfl rfl) hS ?_
    go_frame
    refine held_take 3 rfl rfl (by kernel_rfl) (by kernel_rfl) (by kernel_rfl) (fun _ _ _ h => h) (fun w' h => puts_load80 _ rfl _ 0 rfl h.2.1.sizeOf) hS ?_
    go_frame
    refine held_take 5 rfl rfl (by kernel_rfl) (by kernel_rfl) (by kernel_rfl) (fun _ _ _ h => h) (fun w' h => puts_field1 _ _ rfl rfl) hS ?_
    go_frame
    refine held_take 6 rfl rfl (by kernel_rfl) (by kernel_rfl) (by kernel_rfl) (fun _ _ _ h => h) (fun w' h => puts_sign _ _ true rfl rfl h.2.2.1.signOf) hS ?_
    go_frame
    refine held_call 4 (by kernel_rfl) rfl rfl (puts_call2 74 _ _ _ (.agg (row80 n)) (.agg (row80 m)) rfl rfl rfl (by kernel_rfl)) (sub_any n m _ (lt80 Hn.out (Nat.le_refl _)) (Nat.le_of_lt Hlt.out)) ?_
    rintro e w1 ⟨rfl, hbhS1⟩
    have hS1 := two_keep hS hbhS1 (two_lt hS)
    refine ⟨_, rfl, hS1, ?_⟩
    go_frame
    refine held_call 7 (by kernel_rfl) rfl rfl (puts_call2 57 _ _ _ (.agg (row80 (n - m))) (.bool true) rfl rfl rfl (by kernel_rfl)) (make_any (n - m) true _ Hk.out) ?_
    rintro e w2 ⟨rfl, hbhS2⟩
    have hS2 := two_keep hS1 hbhS2 (two_lt hS1)
    refine ⟨_, rfl, hS2, ?_⟩
    go_frame
    refine held_only 8 (by kernel_rfl) rfl rfl (two_store hS2 _ _ rfl rfl rfl) (two_row hS2).1 ?_
    go_frame
    refine wpAnyH_done (by kernel_rfl) ?_ _
    go_wp2_with fail
    exact bodyPost_ret (v := .agg (ival (sgn true (n - m)))) (res81 rfl _ _ _ rfl (two_row hS2).2) rfl ⟨by rw [Hz.out], (two_row hS2).1.1⟩
  · clear hst
    go_enter Try.func50, Try.ntmps50
    go_wp2_with (first | (refine ld80 rfl _ rfl _ 0 rfl (H0.out.2.1.sizeOf) ?_) | (refine ld80 rfl _ rfl _ 0 rfl (H0.out.2.2.1.sizeOf) ?_) | (go_at_call 51; refine (cmp_any m n _ (lt80 Hm.out (Nat.le_refl _)) (lt80 Hn.out (Nat.le_refl _))).mono ?_; rintro e w0 ⟨rfl, hb0⟩; rw [Hv.out]; have H1 := Lib.hid (two_keep H0.out hb0 (two_lt H0.out)); clear hb0))
    refine wp_region_held_drew (S := fun w' => TwoInv w w' m true n false) (by kernel_rfl) (two_drew H1.out) fun hS => ?_
    refine held_take 0 rfl rfl (by kernel_rfl) (by kernel_rfl) (by kernel_rfl) (fun _ _ _ h => h) (fun w' h => puts_field0 _ _ rfl rfl) hS ?_
    go_frame
    refine held_take 1 rfl rfl (by kernel_rfl) (by kernel_rfl) (by kernel_rfl) (fun _ _ _ h => h) (fun w' h => puts_load80 _ rfl _ 0 rfl h.2.2.1.sizeOf) hS ?_
    go_frame
    refine held_take 2 rfl rfl (by kernel_rfl) (by kernel_rfl) (by kernel_rfl) (fun _ _ _ h => h) (fun w' h => puts_field0 _ _ rfl rfl) hS ?_
    go_frame
    refine held_take 3 rfl rfl (by kernel_rfl) (by kernel_rfl) (by kernel_rfl) (fun _ _ _ h => h) (fun w' h => puts_load80 _ rfl _ 0 rfl h.2.1.sizeOf) hS ?_
    go_frame
    refine held_take 5 rfl rfl (by kernel_rfl) (by kernel_rfl) (by kernel_rfl) (fun _ _ _ h => h) (fun w' h => puts_field1 _ _ rfl rfl) hS ?_
    go_frame
    refine held_take 6 rfl rfl (by kernel_rfl) (by kernel_rfl) (by kernel_rfl) (fun _ _ _ h => h) (fun w' h => puts_sign _ _ false rfl rfl h.2.2.1.signOf) hS ?_
    go_frame
    refine held_call 4 (by kernel_rfl) rfl rfl (puts_call2 74 _ _ _ (.agg (row80 n)) (.agg (row80 m)) rfl rfl rfl (by kernel_rfl)) (sub_any n m _ (lt80 Hn.out (Nat.le_refl _)) (Nat.le_of_lt Hlt.out)) ?_
    rintro e w1 ⟨rfl, hbhS1⟩
    have hS1 := two_keep hS hbhS1 (two_lt hS)
    refine ⟨_, rfl, hS1, ?_⟩
    go_frame
    refine held_call 7 (by kernel_rfl) rfl rfl (puts_call2 57 _ _ _ (.agg (row80 (n - m))) (.bool false) rfl rfl rfl (by kernel_rfl)) (make_any (n - m) false _ Hk.out) ?_
    rintro e w2 ⟨rfl, hbhS2⟩
    have hS2 := two_keep hS1 hbhS2 (two_lt hS1)
    refine ⟨_, rfl, hS2, ?_⟩
    go_frame
    refine held_only 8 (by kernel_rfl) rfl rfl (two_store hS2 _ _ rfl rfl rfl) (two_row hS2).1 ?_
    go_frame
    refine wpAnyH_done (by kernel_rfl) ?_ _
    go_wp2_with fail
    exact bodyPost_ret (v := .agg (ival (sgn false (n - m)))) (res81 rfl _ _ _ rfl (two_row hS2).2) rfl ⟨by rw [Hz.out], (two_row hS2).1.1⟩
set_option maxHeartbeats 1000000 in
theorem plus_more (m n : Nat) (s t : Bool) (w : World) (hm : m < 10 ^ 40) (hn : n < 10 ^ 40) (hst : s ≠ t) (hlt : n ≤ m) :
    Calls Try.prog 50 #[.agg (irow m s), .agg (irow n t)] w fun e w' => e = .returned (.agg (ival (sgn s m + sgn t n))) ∧ Below w.heap.size w w' := by
  have h0 := two_start w m s n t
  have Hm := Lib.hid hm
  have Hn := Lib.hid hn
  have Hlt := Lib.hid hlt
  have H0 := Lib.hid h0
  have Hk := Lib.hid (show m - n < 10 ^ 80 from lt80 hm (Nat.sub_le _ _))
  have Hz := Lib.hid (sgn_more s t m n hst hlt)
  obtain ⟨cv, hv, hv0⟩ : ∃ cv, cmpN m n = cv ∧ 0 ≤ cv := ⟨_, rfl, cmpN_ge hlt⟩
  have Hv := Lib.hid hv
  clear hv
  obtain ⟨c1, c2⟩ := plus_facts h0
  clear h0 hm hn hlt
  cases s <;> cases t <;> first | exact absurd rfl hst | skip
  · clear hst
    go_enter Try.func50, Try.ntmps50
    go_wp2_with (first | (refine ld80 rfl _ rfl _ 0 rfl (H0.out.2.1.sizeOf) ?_) | (refine ld80 rfl _ rfl _ 0 rfl (H0.out.2.2.1.sizeOf) ?_) | (go_at_call 51; refine (cmp_any m n _ (lt80 Hm.out (Nat.le_refl _)) (lt80 Hn.out (Nat.le_refl _))).mono ?_; rintro e w0 ⟨rfl, hb0⟩; rw [Hv.out]; have H1 := Lib.hid (two_keep H0.out hb0 (two_lt H0.out)); clear hb0))
    refine wp_region_held_drew (S := fun w' => TwoInv w w' m false n true) (by kernel_rfl) (two_drew H1.out) fun hS => ?_
    refine held_take 0 rfl rfl (by kernel_rfl) (by kernel_rfl) (by kernel_rfl) (fun _ _ _ h => h) (fun w' h => puts_field0 _ _ rfl rfl) hS ?_
    go_frame
    refine held_take 1 rfl rfl (by kernel_rfl) (by kernel_rfl) (by kernel_rfl) (fun _ _ _ h => h) (fun w' h => puts_load80 _ rfl _ 0 rfl h.2.1.sizeOf) hS ?_
    go_frame
    refine held_take 2 rfl rfl (by kernel_rfl) (by kernel_rfl) (by kernel_rfl) (fun _ _ _ h => h) (fun w' h => puts_field0 _ _ rfl rfl) hS ?_
    go_frame
    refine held_take 3 rfl rfl (by kernel_rfl) (by kernel_rfl) (by kernel_rfl) (fun _ _ _ h => h) (fun w' h => puts_load80 _ rfl _ 0 rfl h.2.2.1.sizeOf) hS ?_
    go_frame
    refine held_take 5 rfl rfl (by kernel_rfl) (by kernel_rfl) (by kernel_rfl) (fun _ _ _ h => h) (fun w' h => puts_field1 _ _ rfl rfl) hS ?_
    go_frame
    refine held_take 6 rfl rfl (by kernel_rfl) (by kernel_rfl) (by kernel_rfl) (fun _ _ _ h => h) (fun w' h => puts_sign _ _ false rfl rfl h.2.1.signOf) hS ?_
    go_frame
    refine held_call 4 (by kernel_rfl) rfl rfl (puts_call2 74 _ _ _ (.agg (row80 m)) (.agg (row80 n)) rfl rfl rfl (by kernel_rfl)) (sub_any m n _ (lt80 Hm.out (Nat.le_refl _)) Hlt.out) ?_
    rintro e w1 ⟨rfl, hbhS1⟩
    have hS1 := two_keep hS hbhS1 (two_lt hS)
    refine ⟨_, rfl, hS1, ?_⟩
    go_frame
    refine held_call 7 (by kernel_rfl) rfl rfl (puts_call2 57 _ _ _ (.agg (row80 (m - n))) (.bool false) rfl rfl rfl (by kernel_rfl)) (make_any (m - n) false _ Hk.out) ?_
    rintro e w2 ⟨rfl, hbhS2⟩
    have hS2 := two_keep hS1 hbhS2 (two_lt hS1)
    refine ⟨_, rfl, hS2, ?_⟩
    go_frame
    refine held_only 8 (by kernel_rfl) rfl rfl (two_store hS2 _ _ rfl rfl rfl) (two_row hS2).1 ?_
    go_frame
    refine wpAnyH_done (by kernel_rfl) ?_ _
    go_wp2_with fail
    exact bodyPost_ret (v := .agg (ival (sgn false (m - n)))) (res81 rfl _ _ _ rfl (two_row hS2).2) rfl ⟨by rw [Hz.out], (two_row hS2).1.1⟩
  · clear hst
    go_enter Try.func50, Try.ntmps50
    go_wp2_with (first | (refine ld80 rfl _ rfl _ 0 rfl (H0.out.2.1.sizeOf) ?_) | (refine ld80 rfl _ rfl _ 0 rfl (H0.out.2.2.1.sizeOf) ?_) | (go_at_call 51; refine (cmp_any m n _ (lt80 Hm.out (Nat.le_refl _)) (lt80 Hn.out (Nat.le_refl _))).mono ?_; rintro e w0 ⟨rfl, hb0⟩; rw [Hv.out]; have H1 := Lib.hid (two_keep H0.out hb0 (two_lt H0.out)); clear hb0))
    refine wp_region_held_drew (S := fun w' => TwoInv w w' m true n false) (by kernel_rfl) (two_drew H1.out) fun hS => ?_
    refine held_take 0 rfl rfl (by kernel_rfl) (by kernel_rfl) (by kernel_rfl) (fun _ _ _ h => h) (fun w' h => puts_field0 _ _ rfl rfl) hS ?_
    go_frame
    refine held_take 1 rfl rfl (by kernel_rfl) (by kernel_rfl) (by kernel_rfl) (fun _ _ _ h => h) (fun w' h => puts_load80 _ rfl _ 0 rfl h.2.1.sizeOf) hS ?_
    go_frame
    refine held_take 2 rfl rfl (by kernel_rfl) (by kernel_rfl) (by kernel_rfl) (fun _ _ _ h => h) (fun w' h => puts_field0 _ _ rfl rfl) hS ?_
    go_frame
    refine held_take 3 rfl rfl (by kernel_rfl) (by kernel_rfl) (by kernel_rfl) (fun _ _ _ h => h) (fun w' h => puts_load80 _ rfl _ 0 rfl h.2.2.1.sizeOf) hS ?_
    go_frame
    refine held_take 5 rfl rfl (by kernel_rfl) (by kernel_rfl) (by kernel_rfl) (fun _ _ _ h => h) (fun w' h => puts_field1 _ _ rfl rfl) hS ?_
    go_frame
    refine held_take 6 rfl rfl (by kernel_rfl) (by kernel_rfl) (by kernel_rfl) (fun _ _ _ h => h) (fun w' h => puts_sign _ _ true rfl rfl h.2.1.signOf) hS ?_
    go_frame
    refine held_call 4 (by kernel_rfl) rfl rfl (puts_call2 74 _ _ _ (.agg (row80 m)) (.agg (row80 n)) rfl rfl rfl (by kernel_rfl)) (sub_any m n _ (lt80 Hm.out (Nat.le_refl _)) Hlt.out) ?_
    rintro e w1 ⟨rfl, hbhS1⟩
    have hS1 := two_keep hS hbhS1 (two_lt hS)
    refine ⟨_, rfl, hS1, ?_⟩
    go_frame
    refine held_call 7 (by kernel_rfl) rfl rfl (puts_call2 57 _ _ _ (.agg (row80 (m - n))) (.bool true) rfl rfl rfl (by kernel_rfl)) (make_any (m - n) true _ Hk.out) ?_
    rintro e w2 ⟨rfl, hbhS2⟩
    have hS2 := two_keep hS1 hbhS2 (two_lt hS1)
    refine ⟨_, rfl, hS2, ?_⟩
    go_frame
    refine held_only 8 (by kernel_rfl) rfl rfl (two_store hS2 _ _ rfl rfl rfl) (two_row hS2).1 ?_
    go_frame
    refine wpAnyH_done (by kernel_rfl) ?_ _
    go_wp2_with fail
    exact bodyPost_ret (v := .agg (ival (sgn true (m - n)))) (res81 rfl _ _ _ rfl (two_row hS2).2) rfl ⟨by rw [Hz.out], (two_row hS2).1.1⟩
theorem plus_any (m n : Nat) (s t : Bool) (w : World) (hm : m < 10 ^ 40) (hn : n < 10 ^ 40) :
    Calls Try.prog 50 #[.agg (irow m s), .agg (irow n t)] w fun e w' => e = .returned (.agg (ival (sgn s m + sgn t n))) ∧ Below w.heap.size w w' := by
  by_cases hst : s = t
  · exact plus_same m n s t w hm hn hst
  · by_cases hlt : m < n
    · exact plus_less m n s t w hm hn hst hlt
    · exact plus_more m n s t w hm hn hst (by omega)
end Go.Proofs.Ytckmpenlpkhnfab
