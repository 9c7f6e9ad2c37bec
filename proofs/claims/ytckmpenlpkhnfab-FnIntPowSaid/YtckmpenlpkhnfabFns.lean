/- impl's functions of texts that hold integers. -/
import Derived.Test.YtckmpenlpkhnfabOps
namespace Go.Proofs.Ytckmpenlpkhnfab
open Go.RowKit
theorem reads_hid (s t : ByteArray) : ∀ w, Hid (Calls Try.prog 42 #[.string s, .string t] w fun e w' => e = .returned (.tuple #[.agg (ival (rz s.data.toList)), .agg (ival (rz t.data.toList)), .bool (okI s.data.toList && okI t.data.toList)]) ∧ Below w.heap.size w w') := fun w => Lib.hid (reads_any s t w)
theorem outI_form (z : Int) : ∃ l b, outI z = .tuple #[.string ⟨l⟩, .bool b] := by
  unfold outI
  split
  · exact ⟨_, _, rfl⟩
  · exact ⟨_, _, rfl⟩
def addV (a b : List UInt8) : Value := if okI a && okI b then outI (rz a + rz b) else noV
def subV (a b : List UInt8) : Value := if okI a && okI b then outI (rz a + -rz b) else noV
def mulV (a b : List UInt8) : Value := if okI a && okI b then outI (rz a * rz b) else noV
theorem add_lt {x y : Int} (hx : x.natAbs < 10 ^ 40) (hy : y.natAbs < 10 ^ 40) : (x + y).natAbs < 10 ^ 80 := by
  have h2 : (10 : Nat) ^ 40 + 10 ^ 40 < 10 ^ 80 := by decide
  omega
theorem mul_lt {x y : Int} (hx : x.natAbs < 10 ^ 40) (hy : y.natAbs < 10 ^ 40) : (x * y).natAbs < 10 ^ 80 := by
  rw [Int.natAbs_mul]
  have := Nat.mul_lt_mul'' hx hy
  rw [← Nat.pow_add] at this
  exact this
set_option maxHeartbeats 1000000 in
theorem intAdd_any (s t : ByteArray) (w : World) : Calls Try.prog 22 #[.string s, .string t] w fun e w' => e = .returned (addV s.data.toList t.data.toList) ∧ Below w.heap.size w w' := by
  have HR := Lib.hid (reads_hid s t)
  have HX := Lib.hid (okI_lt (l := s.data.toList))
  have HY := Lib.hid (okI_lt (l := t.data.toList))
  unfold addV
  generalize (okI s.data.toList && okI t.data.toList) = ok at HR ⊢
  generalize rz s.data.toList = x at HR HX ⊢
  generalize rz t.data.toList = y at HR HY ⊢
  cases ok with
  | false =>
    go_enter Try.func22, Try.ntmps22
    go_wp2_with fail
    refine (HR.out _).out.mono ?_
    rintro e w1 ⟨rfl, hb1⟩
    have HI := Lib.hid (pair_start (x := x) (y := y) hb1)
    have HA := Lib.hid (pair_a w1)
    have HB := Lib.hid (pair_b w1 x)
    clear hb1
    go_wp2_with (first | (refine ext rfl (.tmp 9) 0 [.agg (ival x), .agg (ival y), .bool false] (.agg (ival x)) rfl rfl rfl ?_) | (refine ext rfl (.tmp 9) 1 [.agg (ival x), .agg (ival y), .bool false] (.agg (ival y)) rfl rfl rfl ?_) | (refine ext rfl (.tmp 9) 2 [.agg (ival x), .agg (ival y), .bool false] (.bool false) rfl rfl rfl ?_) | (refine stI rfl (.tmp 6) (.tmp 13) rfl w1.heap.size _ rfl rfl (t := 43) (old := Try.zeroCells43) ?_ ?_ ?_; exact HA.out; exact zero81_size) | (refine stI rfl (.tmp 7) (.tmp 14) rfl (w1.heap.size + 1) _ rfl rfl (t := 43) (old := Try.zeroCells43) ?_ ?_ ?_; exact HB.out; exact zero81_size; generalize (((w1.alloc (Obj.cells Try.zeroCells43 43)).alloc (Obj.cells Try.zeroCells43 43)).setRow w1.heap.size (ival x)).setRow (w1.heap.size + 1) (ival y) = w2 at HI ⊢))
    go_ret2
    exact ⟨rfl, HI.out.1⟩
  | true =>
    obtain ⟨l, b, hl⟩ := outI_form (x + y)
    have HT := Lib.hid (fun w => textI (w := w) (add_lt HX.out HY.out))
    rw [hl] at HT
    simp only [if_true, hl]
    clear hl
    go_enter Try.func22, Try.ntmps22
    go_wp2_with fail
    refine (HR.out _).out.mono ?_
    rintro e w1 ⟨rfl, hb1⟩
    have HI := Lib.hid (pair_start (x := x) (y := y) hb1)
    have HA := Lib.hid (pair_a w1)
    have HB := Lib.hid (pair_b w1 x)
    clear hb1
    go_wp2_with (first | (refine ext rfl (.tmp 9) 0 [.agg (ival x), .agg (ival y), .bool true] (.agg (ival x)) rfl rfl rfl ?_) | (refine ext rfl (.tmp 9) 1 [.agg (ival x), .agg (ival y), .bool true] (.agg (ival y)) rfl rfl rfl ?_) | (refine ext rfl (.tmp 9) 2 [.agg (ival x), .agg (ival y), .bool true] (.bool true) rfl rfl rfl ?_) | (refine stI rfl (.tmp 6) (.tmp 13) rfl w1.heap.size _ rfl rfl (t := 43) (old := Try.zeroCells43) ?_ ?_ ?_; exact HA.out; exact zero81_size) | (refine stI rfl (.tmp 7) (.tmp 14) rfl (w1.heap.size + 1) _ rfl rfl (t := 43) (old := Try.zeroCells43) ?_ ?_ ?_; exact HB.out; exact zero81_size; generalize (((w1.alloc (Obj.cells Try.zeroCells43 43)).alloc (Obj.cells Try.zeroCells43 43)).setRow w1.heap.size (ival x)).setRow (w1.heap.size + 1) (ival y) = w2 at HI ⊢) | (refine ldI rfl (.tmp 6) rfl w1.heap.size x rfl (t := 43) ?_ ?_; exact HI.out.2.2.1) | (refine ldI rfl (.tmp 7) rfl (w1.heap.size + 1) y rfl (t := 43) ?_ ?_; exact HI.out.2.2.2) | (go_at_call 50; refine (plusI HX.out HY.out).mono ?_; rintro e w3 ⟨rfl, hb3⟩; have HI3 := Lib.hid (pair_keep HI.out hb3 (pair_lt HI.out)); clear hb3) | (go_at_call 44; refine (HT.out _).mono ?_; rintro e w4 ⟨rfl, hb4⟩; have HI4 := Lib.hid (pair_keep HI3.out hb4 (pair_lt HI3.out)); clear hb4) | (refine ext rfl (.tmp 21) 0 [.string ⟨l⟩, .bool b] (.string ⟨l⟩) rfl rfl rfl ?_) | (refine ext rfl (.tmp 21) 1 [.string ⟨l⟩, .bool b] (.bool b) rfl rfl rfl ?_))
    go_ret2
    exact ⟨rfl, HI4.out.1⟩
set_option maxHeartbeats 1000000 in
theorem intMul_any (s t : ByteArray) (w : World) : Calls Try.prog 16 #[.string s, .string t] w fun e w' => e = .returned (mulV s.data.toList t.data.toList) ∧ Below w.heap.size w w' := by
  have HR := Lib.hid (reads_hid s t)
  have HX := Lib.hid (okI_lt (l := s.data.toList))
  have HY := Lib.hid (okI_lt (l := t.data.toList))
  unfold mulV
  generalize (okI s.data.toList && okI t.data.toList) = ok at HR ⊢
  generalize rz s.data.toList = x at HR HX ⊢
  generalize rz t.data.toList = y at HR HY ⊢
  cases ok with
  | false =>
    go_enter Try.func16, Try.ntmps16
    go_wp2_with fail
    refine (HR.out _).out.mono ?_
    rintro e w1 ⟨rfl, hb1⟩
    have HI := Lib.hid (pair_start (x := x) (y := y) hb1)
    have HA := Lib.hid (pair_a w1)
    have HB := Lib.hid (pair_b w1 x)
    clear hb1
    go_wp2_with (first | (refine ext rfl (.tmp 9) 0 [.agg (ival x), .agg (ival y), .bool false] (.agg (ival x)) rfl rfl rfl ?_) | (refine ext rfl (.tmp 9) 1 [.agg (ival x), .agg (ival y), .bool false] (.agg (ival y)) rfl rfl rfl ?_) | (refine ext rfl (.tmp 9) 2 [.agg (ival x), .agg (ival y), .bool false] (.bool false) rfl rfl rfl ?_) | (refine stI rfl (.tmp 6) (.tmp 13) rfl w1.heap.size _ rfl rfl (t := 43) (old := Try.zeroCells43) ?_ ?_ ?_; exact HA.out; exact zero81_size) | (refine stI rfl (.tmp 7) (.tmp 14) rfl (w1.heap.size + 1) _ rfl rfl (t := 43) (old := Try.zeroCells43) ?_ ?_ ?_; exact HB.out; exact zero81_size; generalize (((w1.alloc (Obj.cells Try.zeroCells43 43)).alloc (Obj.cells Try.zeroCells43 43)).setRow w1.heap.size (ival x)).setRow (w1.heap.size + 1) (ival y) = w2 at HI ⊢))
    go_ret2
    exact ⟨rfl, HI.out.1⟩
  | true =>
    obtain ⟨l, b, hl⟩ := outI_form (x * y)
    have HT := Lib.hid (fun w => textI (w := w) (mul_lt HX.out HY.out))
    rw [hl] at HT
    simp only [if_true, hl]
    clear hl
    go_enter Try.func16, Try.ntmps16
    go_wp2_with fail
    refine (HR.out _).out.mono ?_
    rintro e w1 ⟨rfl, hb1⟩
    have HI := Lib.hid (pair_start (x := x) (y := y) hb1)
    have HA := Lib.hid (pair_a w1)
    have HB := Lib.hid (pair_b w1 x)
    clear hb1
    go_wp2_with (first | (refine ext rfl (.tmp 9) 0 [.agg (ival x), .agg (ival y), .bool true] (.agg (ival x)) rfl rfl rfl ?_) | (refine ext rfl (.tmp 9) 1 [.agg (ival x), .agg (ival y), .bool true] (.agg (ival y)) rfl rfl rfl ?_) | (refine ext rfl (.tmp 9) 2 [.agg (ival x), .agg (ival y), .bool true] (.bool true) rfl rfl rfl ?_) | (refine stI rfl (.tmp 6) (.tmp 13) rfl w1.heap.size _ rfl rfl (t := 43) (old := Try.zeroCells43) ?_ ?_ ?_; exact HA.out; exact zero81_size) | (refine stI rfl (.tmp 7) (.tmp 14) rfl (w1.heap.size + 1) _ rfl rfl (t := 43) (old := Try.zeroCells43) ?_ ?_ ?_; exact HB.out; exact zero81_size; generalize (((w1.alloc (Obj.cells Try.zeroCells43 43)).alloc (Obj.cells Try.zeroCells43 43)).setRow w1.heap.size (ival x)).setRow (w1.heap.size + 1) (ival y) = w2 at HI ⊢) | (refine ldI rfl (.tmp 6) rfl w1.heap.size x rfl (t := 43) ?_ ?_; exact HI.out.2.2.1) | (refine ldI rfl (.tmp 7) rfl (w1.heap.size + 1) y rfl (t := 43) ?_ ?_; exact HI.out.2.2.2) | (go_at_call 43; refine (timesI HX.out HY.out).mono ?_; rintro e w3 ⟨rfl, hb3⟩; have HI3 := Lib.hid (pair_keep HI.out hb3 (pair_lt HI.out)); clear hb3) | (go_at_call 44; refine (HT.out _).mono ?_; rintro e w4 ⟨rfl, hb4⟩; have HI4 := Lib.hid (pair_keep HI3.out hb4 (pair_lt HI3.out)); clear hb4) | (refine ext rfl (.tmp 21) 0 [.string ⟨l⟩, .bool b] (.string ⟨l⟩) rfl rfl rfl ?_) | (refine ext rfl (.tmp 21) 1 [.string ⟨l⟩, .bool b] (.bool b) rfl rfl rfl ?_))
    go_ret2
    exact ⟨rfl, HI4.out.1⟩
set_option maxHeartbeats 1000000 in
theorem intSub_any (s t : ByteArray) (w : World) : Calls Try.prog 31 #[.string s, .string t] w fun e w' => e = .returned (subV s.data.toList t.data.toList) ∧ Below w.heap.size w w' := by
  have HR := Lib.hid (reads_hid s t)
  have HX := Lib.hid (okI_lt (l := s.data.toList))
  have HY := Lib.hid (okI_lt (l := t.data.toList))
  unfold subV
  generalize (okI s.data.toList && okI t.data.toList) = ok at HR ⊢
  generalize rz s.data.toList = x at HR HX ⊢
  generalize rz t.data.toList = y at HR HY ⊢
  cases ok with
  | false =>
    go_enter Try.func31, Try.ntmps31
    go_wp2_with fail
    refine (HR.out _).out.mono ?_
    rintro e w1 ⟨rfl, hb1⟩
    have HI := Lib.hid (pair_start (x := x) (y := y) hb1)
    have HA := Lib.hid (pair_a w1)
    have HB := Lib.hid (pair_b w1 x)
    clear hb1
    go_wp2_with (first | (refine ext rfl (.tmp 9) 0 [.agg (ival x), .agg (ival y), .bool false] (.agg (ival x)) rfl rfl rfl ?_) | (refine ext rfl (.tmp 9) 1 [.agg (ival x), .agg (ival y), .bool false] (.agg (ival y)) rfl rfl rfl ?_) | (refine ext rfl (.tmp 9) 2 [.agg (ival x), .agg (ival y), .bool false] (.bool false) rfl rfl rfl ?_) | (refine stI rfl (.tmp 6) (.tmp 13) rfl w1.heap.size _ rfl rfl (t := 43) (old := Try.zeroCells43) ?_ ?_ ?_; exact HA.out; exact zero81_size) | (refine stI rfl (.tmp 7) (.tmp 14) rfl (w1.heap.size + 1) _ rfl rfl (t := 43) (old := Try.zeroCells43) ?_ ?_ ?_; exact HB.out; exact zero81_size; generalize (((w1.alloc (Obj.cells Try.zeroCells43 43)).alloc (Obj.cells Try.zeroCells43 43)).setRow w1.heap.size (ival x)).setRow (w1.heap.size + 1) (ival y) = w2 at HI ⊢))
    go_ret2
    exact ⟨rfl, HI.out.1⟩
  | true =>
    obtain ⟨l, b, hl⟩ := outI_form (x + -y)
    have HY2 := Lib.hid (show (-y).natAbs < 10 ^ 40 by rw [Int.natAbs_neg]; exact HY.out)
    have HT := Lib.hid (fun w => textI (w := w) (add_lt HX.out HY2.out))
    rw [hl] at HT
    simp only [if_true, hl]
    clear hl
    go_enter Try.func31, Try.ntmps31
    go_wp2_with fail
    refine (HR.out _).out.mono ?_
    rintro e w1 ⟨rfl, hb1⟩
    have HI := Lib.hid (pair_start (x := x) (y := y) hb1)
    have HA := Lib.hid (pair_a w1)
    have HB := Lib.hid (pair_b w1 x)
    clear hb1
    go_wp2_with (first | (refine ext rfl (.tmp 9) 0 [.agg (ival x), .agg (ival y), .bool true] (.agg (ival x)) rfl rfl rfl ?_) | (refine ext rfl (.tmp 9) 1 [.agg (ival x), .agg (ival y), .bool true] (.agg (ival y)) rfl rfl rfl ?_) | (refine ext rfl (.tmp 9) 2 [.agg (ival x), .agg (ival y), .bool true] (.bool true) rfl rfl rfl ?_) | (refine stI rfl (.tmp 6) (.tmp 13) rfl w1.heap.size _ rfl rfl (t := 43) (old := Try.zeroCells43) ?_ ?_ ?_; exact HA.out; exact zero81_size) | (refine stI rfl (.tmp 7) (.tmp 14) rfl (w1.heap.size + 1) _ rfl rfl (t := 43) (old := Try.zeroCells43) ?_ ?_ ?_; exact HB.out; exact zero81_size; generalize (((w1.alloc (Obj.cells Try.zeroCells43 43)).alloc (Obj.cells Try.zeroCells43 43)).setRow w1.heap.size (ival x)).setRow (w1.heap.size + 1) (ival y) = w2 at HI ⊢))
    refine wp_region_held_drew (S := fun w' => PairInv w w' w1.heap.size x y) (by kernel_rfl) (pair_drew HI.out) fun hS => ?_
    refine held_take 0 rfl rfl (by kernel_rfl) (by kernel_rfl) (by kernel_rfl) (fun _ _ _ h => h) (fun w' h => puts_ival _ rfl rfl h.2.2.1) hS ?_
    go_frame
    refine held_take 1 rfl rfl (by kernel_rfl) (by kernel_rfl) (by kernel_rfl) (fun _ _ _ h => h) (fun w' h => puts_ival _ rfl rfl h.2.2.2) hS ?_
    go_frame
    refine held_call 2 (by kernel_rfl) rfl rfl (puts_call1 62 _ _ (.agg (ival y)) rfl rfl (by kernel_rfl)) (oppI y _ (Nat.lt_trans HY.out (by decide))) ?_
    rintro e w5 ⟨rfl, hb5⟩
    have hS5 := pair_keep hS hb5 (pair_lt hS)
    refine ⟨_, rfl, hS5, ?_⟩
    go_frame
    refine held_call 3 (by kernel_rfl) rfl rfl (puts_call2 50 _ _ _ (.agg (ival x)) (.agg (ival (-y))) rfl rfl rfl (by kernel_rfl)) (plusI HX.out HY2.out) ?_
    rintro e w6 ⟨rfl, hb6⟩
    have hS6 := pair_keep hS5 hb6 (pair_lt hS5)
    refine ⟨_, rfl, hS6, ?_⟩
    go_frame
    refine held_call 4 (by kernel_rfl) rfl rfl (puts_call1 44 _ _ (.agg (ival (x + -y))) rfl rfl (by kernel_rfl)) (HT.out _) ?_
    rintro e w7 ⟨rfl, hb7⟩
    have hS7 := pair_keep hS6 hb7 (pair_lt hS6)
    refine ⟨_, rfl, hS7, ?_⟩
    go_frame
    refine held_take 5 rfl rfl (by kernel_rfl) (by kernel_rfl) (by kernel_rfl) (fun _ _ _ h => h) (fun w' h => puts_extract _ 0 [.string ⟨l⟩, .bool b] (.string ⟨l⟩) rfl rfl rfl) hS7 ?_
    go_frame
    refine held_take 6 rfl rfl (by kernel_rfl) (by kernel_rfl) (by kernel_rfl) (fun _ _ _ h => h) (fun w' h => puts_extract _ 1 [.string ⟨l⟩, .bool b] (.bool b) rfl rfl rfl) hS7 ?_
    go_frame
    refine held_only 7 (v := .string ⟨l⟩) (by kernel_rfl) rfl rfl (puts_assign_to _ (.string ⟨l⟩) rfl rfl).gives hS7 ?_
    go_frame
    refine held_only 8 (v := .bool b) (by kernel_rfl) rfl rfl (puts_assign_to _ (.bool b) rfl rfl).gives hS7 ?_
    go_frame
    refine wpAnyH_done (by kernel_rfl) ?_ _
    go_wp2_with fail
    go_ret2
    exact ⟨rfl, hS7.1⟩
end Go.Proofs.Ytckmpenlpkhnfab
