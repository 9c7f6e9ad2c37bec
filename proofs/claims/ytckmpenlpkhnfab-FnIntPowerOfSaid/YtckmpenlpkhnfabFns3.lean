/- impl.IntCmp and impl.IntRoot. -/
import Derived.Test.YtckmpenlpkhnfabFns2
namespace Go.Proofs.Ytckmpenlpkhnfab
open Go.RowKit
/-- Less, equal, greater, of whole numbers. -/
def cmpZ (x y : Int) : Int := if x = y then 0 else if x < y then -1 else 1
def cmpV (a b : List UInt8) : Value := if okI a && okI b then .int .i64 (cmpZ (rz a) (rz b)) else .int .i64 (-2)
theorem cmpN_abs (m n : Nat) : cmpN m n = cmpZ m n := by unfold cmpN cmpZ; by_cases h : m = n <;> by_cases h2 : m < n <;> simp [h, h2] <;> omega
theorem cmp_nn {x y : Int} (hx : x < 0) (hy : y < 0) : cmpN y.natAbs x.natAbs = cmpZ x y := by
  unfold cmpN cmpZ
  by_cases h : x = y
  · subst h; simp
  · rw [if_neg (by omega), if_neg h]
    by_cases h2 : x < y
    · rw [if_pos h2, if_pos (by omega)]
    · rw [if_neg h2, if_neg (by omega)]
theorem cmp_pp {x y : Int} (hx : 0 ≤ x) (hy : 0 ≤ y) : cmpN x.natAbs y.natAbs = cmpZ x y := by
  unfold cmpN cmpZ
  by_cases h : x = y
  · subst h; simp
  · rw [if_neg (by omega), if_neg h]
    by_cases h2 : x < y
    · rw [if_pos h2, if_pos (by omega)]
    · rw [if_neg h2, if_neg (by omega)]
theorem ival_form (x : Int) (s : Bool) (h : decide (x < 0) = s) : ival x = irow x.natAbs s := by unfold ival; rw [h]
theorem cmp_lt80 {x : Int} (h : x.natAbs < 10 ^ 40) : x.natAbs < 10 ^ 80 := Nat.lt_trans h (by decide)
set_option maxHeartbeats 1000000 in
theorem intCmp_any (s t : ByteArray) (w : World) : Calls Try.prog 25 #[.string s, .string t] w fun e w' => e = .returned (cmpV s.data.toList t.data.toList) ∧ Below w.heap.size w w' := by
  have HR := Lib.hid (reads_hid s t)
  have HX := Lib.hid (okI_lt (l := s.data.toList))
  have HY := Lib.hid (okI_lt (l := t.data.toList))
  unfold cmpV
  generalize (okI s.data.toList && okI t.data.toList) = ok at HR ⊢
  generalize rz s.data.toList = x at HR HX ⊢
  generalize rz t.data.toList = y at HR HY ⊢
  cases ok with
  | false =>
    go_enter Try.func25, Try.ntmps25
    go_wp2_with fail
    refine (HR.out _).out.mono ?_
    rintro e w1 ⟨rfl, hb1⟩
    have HI := Lib.hid (pair_start (x := x) (y := y) hb1)
    have HA := Lib.hid (pair_a w1)
    have HB := Lib.hid (pair_b w1 x)
    clear hb1
    go_wp2_with (first | (refine ext rfl (.tmp 8) 0 [.agg (ival x), .agg (ival y), .bool false] (.agg (ival x)) rfl rfl rfl ?_) | (refine ext rfl (.tmp 8) 1 [.agg (ival x), .agg (ival y), .bool false] (.agg (ival y)) rfl rfl rfl ?_) | (refine ext rfl (.tmp 8) 2 [.agg (ival x), .agg (ival y), .bool false] (.bool false) rfl rfl rfl ?_) | (refine stI rfl (.tmp 5) (.tmp 12) rfl w1.heap.size _ rfl rfl (t := 43) (old := Try.zeroCells43) ?_ ?_ ?_; exact HA.out; exact zero81_size) | (refine stI rfl (.tmp 6) (.tmp 13) rfl (w1.heap.size + 1) _ rfl rfl (t := 43) (old := Try.zeroCells43) ?_ ?_ ?_; exact HB.out; exact zero81_size; generalize (((w1.alloc (Obj.cells Try.zeroCells43 43)).alloc (Obj.cells Try.zeroCells43 43)).setRow w1.heap.size (ival x)).setRow (w1.heap.size + 1) (ival y) = w2 at HI ⊢))
    go_ret
    exact ⟨rfl, HI.out.1⟩
  | true =>
    simp only [if_true]
    have HC1 := Lib.hid (fun w => cmp_any y.natAbs x.natAbs w (cmp_lt80 HY.out) (cmp_lt80 HX.out))
    have HC2 := Lib.hid (fun w => cmp_any x.natAbs y.natAbs w (cmp_lt80 HX.out) (cmp_lt80 HY.out))
    by_cases hx : x < 0
    · by_cases hy : y < 0
      · skip
        have hv := cmp_nn hx hy
        rw [← hv]
        have Hsx := Lib.hid (ival_form x true (by rw [decide_eq_true hx]))
        have Hsy := Lib.hid (ival_form y true (by rw [decide_eq_true hy]))
        generalize hcv : cmpN y.natAbs x.natAbs = cv at HC1 ⊢
        clear hcv
        clear hx hy hv
        go_enter Try.func25, Try.ntmps25
        go_wp2_with fail
        refine (HR.out _).out.mono ?_
        rintro e w1 ⟨rfl, hb1⟩
        have HI := Lib.hid (pair_start (x := x) (y := y) hb1)
        have HA := Lib.hid (pair_a w1)
        have HB := Lib.hid (pair_b w1 x)
        clear hb1
        go_wp2_with (first | (refine ext rfl (.tmp 8) 0 [.agg (ival x), .agg (ival y), .bool true] (.agg (ival x)) rfl rfl rfl ?_) | (refine ext rfl (.tmp 8) 1 [.agg (ival x), .agg (ival y), .bool true] (.agg (ival y)) rfl rfl rfl ?_) | (refine ext rfl (.tmp 8) 2 [.agg (ival x), .agg (ival y), .bool true] (.bool true) rfl rfl rfl ?_) | (refine stI rfl (.tmp 5) (.tmp 12) rfl w1.heap.size _ rfl rfl (t := 43) (old := Try.zeroCells43) ?_ ?_ ?_; exact HA.out; exact zero81_size) | (refine stI rfl (.tmp 6) (.tmp 13) rfl (w1.heap.size + 1) _ rfl rfl (t := 43) (old := Try.zeroCells43) ?_ ?_ ?_; exact HB.out; exact zero81_size; generalize (((w1.alloc (Obj.cells Try.zeroCells43 43)).alloc (Obj.cells Try.zeroCells43 43)).setRow w1.heap.size (ival x)).setRow (w1.heap.size + 1) (ival y) = w2 at HI ⊢; have c1 := (HI.out.2.2.1.same Hsx.out).signOf; have c2 := (HI.out.2.2.2.same Hsy.out).signOf) | (refine ld80 rfl (.tmp 25) rfl (w1.heap.size + 1) 0 rfl (n := y.natAbs) ?_ ?_; exact (HI.out.2.2.2.same Hsy.out).sizeOf) | (refine ld80 rfl (.tmp 27) rfl w1.heap.size 0 rfl (n := x.natAbs) ?_ ?_; exact (HI.out.2.2.1.same Hsx.out).sizeOf) | (refine ld80 rfl (.tmp 36) rfl w1.heap.size 0 rfl (n := x.natAbs) ?_ ?_; exact (HI.out.2.2.1.same Hsx.out).sizeOf) | (refine ld80 rfl (.tmp 38) rfl (w1.heap.size + 1) 0 rfl (n := y.natAbs) ?_ ?_; exact (HI.out.2.2.2.same Hsy.out).sizeOf) | (go_at_call 51; refine (HC1.out _).mono ?_; rintro e w3 ⟨rfl, hb3⟩; have HI3 := Lib.hid (pair_keep HI.out hb3 (pair_lt HI.out)); clear hb3))
        go_ret
        exact ⟨rfl, HI3.out.1⟩
      · skip
        have hv : cmpZ x y = -1 := by unfold cmpZ; rw [if_neg (by omega), if_pos (by omega)]
        rw [hv]
        have Hsx := Lib.hid (ival_form x true (by rw [decide_eq_true hx]))
        have Hsy := Lib.hid (ival_form y false (by rw [decide_eq_false hy]))
        clear hx hy hv
        go_enter Try.func25, Try.ntmps25
        go_wp2_with fail
        refine (HR.out _).out.mono ?_
        rintro e w1 ⟨rfl, hb1⟩
        have HI := Lib.hid (pair_start (x := x) (y := y) hb1)
        have HA := Lib.hid (pair_a w1)
        have HB := Lib.hid (pair_b w1 x)
        clear hb1
        go_wp2_with (first | (refine ext rfl (.tmp 8) 0 [.agg (ival x), .agg (ival y), .bool true] (.agg (ival x)) rfl rfl rfl ?_) | (refine ext rfl (.tmp 8) 1 [.agg (ival x), .agg (ival y), .bool true] (.agg (ival y)) rfl rfl rfl ?_) | (refine ext rfl (.tmp 8) 2 [.agg (ival x), .agg (ival y), .bool true] (.bool true) rfl rfl rfl ?_) | (refine stI rfl (.tmp 5) (.tmp 12) rfl w1.heap.size _ rfl rfl (t := 43) (old := Try.zeroCells43) ?_ ?_ ?_; exact HA.out; exact zero81_size) | (refine stI rfl (.tmp 6) (.tmp 13) rfl (w1.heap.size + 1) _ rfl rfl (t := 43) (old := Try.zeroCells43) ?_ ?_ ?_; exact HB.out; exact zero81_size; generalize (((w1.alloc (Obj.cells Try.zeroCells43 43)).alloc (Obj.cells Try.zeroCells43 43)).setRow w1.heap.size (ival x)).setRow (w1.heap.size + 1) (ival y) = w2 at HI ⊢; have c1 := (HI.out.2.2.1.same Hsx.out).signOf; have c2 := (HI.out.2.2.2.same Hsy.out).signOf) | (refine ld80 rfl (.tmp 25) rfl (w1.heap.size + 1) 0 rfl (n := y.natAbs) ?_ ?_; exact (HI.out.2.2.2.same Hsy.out).sizeOf) | (refine ld80 rfl (.tmp 27) rfl w1.heap.size 0 rfl (n := x.natAbs) ?_ ?_; exact (HI.out.2.2.1.same Hsx.out).sizeOf) | (refine ld80 rfl (.tmp 36) rfl w1.heap.size 0 rfl (n := x.natAbs) ?_ ?_; exact (HI.out.2.2.1.same Hsx.out).sizeOf) | (refine ld80 rfl (.tmp 38) rfl (w1.heap.size + 1) 0 rfl (n := y.natAbs) ?_ ?_; exact (HI.out.2.2.2.same Hsy.out).sizeOf))
        go_ret
        exact ⟨rfl, HI.out.1⟩
    · by_cases hy : y < 0
      · skip
        have hv : cmpZ x y = 1 := by unfold cmpZ; rw [if_neg (by omega), if_neg (by omega)]
        rw [hv]
        have Hsx := Lib.hid (ival_form x false (by rw [decide_eq_false hx]))
        have Hsy := Lib.hid (ival_form y true (by rw [decide_eq_true hy]))
        clear hx hy hv
        go_enter Try.func25, Try.ntmps25
        go_wp2_with fail
        refine (HR.out _).out.mono ?_
        rintro e w1 ⟨rfl, hb1⟩
        have HI := Lib.hid (pair_start (x := x) (y := y) hb1)
        have HA := Lib.hid (pair_a w1)
        have HB := Lib.hid (pair_b w1 x)
        clear hb1
        go_wp2_with (first | (refine ext rfl (.tmp 8) 0 [.agg (ival x), .agg (ival y), .bool true] (.agg (ival x)) rfl rfl rfl ?_) | (refine ext rfl (.tmp 8) 1 [.agg (ival x), .agg (ival y), .bool true] (.agg (ival y)) rfl rfl rfl ?_) | (refine ext rfl (.tmp 8) 2 [.agg (ival x), .agg (ival y), .bool true] (.bool true) rfl rfl rfl ?_) | (refine stI rfl (.tmp 5) (.tmp 12) rfl w1.heap.size _ rfl rfl (t := 43) (old := Try.zeroCells43) ?_ ?_ ?_; exact HA.out; exact zero81_size) | (refine stI rfl (.tmp 6) (.tmp 13) rfl (w1.heap.size + 1) _ rfl rfl (t := 43) (old := Try.zeroCells43) ?_ ?_ ?_; exact HB.out; exact zero81_size; generalize (((w1.alloc (Obj.cells Try.zeroCells43 43)).alloc (Obj.cells Try.zeroCells43 43)).setRow w1.heap.size (ival x)).setRow (w1.heap.size + 1) (ival y) = w2 at HI ⊢; have c1 := (HI.out.2.2.1.same Hsx.out).signOf; have c2 := (HI.out.2.2.2.same Hsy.out).signOf) | (refine ld80 rfl (.tmp 25) rfl (w1.heap.size + 1) 0 rfl (n := y.natAbs) ?_ ?_; exact (HI.out.2.2.2.same Hsy.out).sizeOf) | (refine ld80 rfl (.tmp 27) rfl w1.heap.size 0 rfl (n := x.natAbs) ?_ ?_; exact (HI.out.2.2.1.same Hsx.out).sizeOf) | (refine ld80 rfl (.tmp 36) rfl w1.heap.size 0 rfl (n := x.natAbs) ?_ ?_; exact (HI.out.2.2.1.same Hsx.out).sizeOf) | (refine ld80 rfl (.tmp 38) rfl (w1.heap.size + 1) 0 rfl (n := y.natAbs) ?_ ?_; exact (HI.out.2.2.2.same Hsy.out).sizeOf))
        go_ret
        exact ⟨rfl, HI.out.1⟩
      · skip
        have hv := cmp_pp (x := x) (y := y) (by omega) (by omega)
        rw [← hv]
        have Hsx := Lib.hid (ival_form x false (by rw [decide_eq_false hx]))
        have Hsy := Lib.hid (ival_form y false (by rw [decide_eq_false hy]))
        generalize hcv : cmpN x.natAbs y.natAbs = cv at HC2 ⊢
        clear hcv
        clear hx hy hv
        go_enter Try.func25, Try.ntmps25
        go_wp2_with fail
        refine (HR.out _).out.mono ?_
        rintro e w1 ⟨rfl, hb1⟩
        have HI := Lib.hid (pair_start (x := x) (y := y) hb1)
        have HA := Lib.hid (pair_a w1)
        have HB := Lib.hid (pair_b w1 x)
        clear hb1
        go_wp2_with (first | (refine ext rfl (.tmp 8) 0 [.agg (ival x), .agg (ival y), .bool true] (.agg (ival x)) rfl rfl rfl ?_) | (refine ext rfl (.tmp 8) 1 [.agg (ival x), .agg (ival y), .bool true] (.agg (ival y)) rfl rfl rfl ?_) | (refine ext rfl (.tmp 8) 2 [.agg (ival x), .agg (ival y), .bool true] (.bool true) rfl rfl rfl ?_) | (refine stI rfl (.tmp 5) (.tmp 12) rfl w1.heap.size _ rfl rfl (t := 43) (old := Try.zeroCells43) ?_ ?_ ?_; exact HA.out; exact zero81_size) | (refine stI rfl (.tmp 6) (.tmp 13) rfl (w1.heap.size + 1) _ rfl rfl (t := 43) (old := Try.zeroCells43) ?_ ?_ ?_; exact HB.out; exact zero81_size; generalize (((w1.alloc (Obj.cells Try.zeroCells43 43)).alloc (Obj.cells Try.zeroCells43 43)).setRow w1.heap.size (ival x)).setRow (w1.heap.size + 1) (ival y) = w2 at HI ⊢; have c1 := (HI.out.2.2.1.same Hsx.out).signOf; have c2 := (HI.out.2.2.2.same Hsy.out).signOf) | (refine ld80 rfl (.tmp 25) rfl (w1.heap.size + 1) 0 rfl (n := y.natAbs) ?_ ?_; exact (HI.out.2.2.2.same Hsy.out).sizeOf) | (refine ld80 rfl (.tmp 27) rfl w1.heap.size 0 rfl (n := x.natAbs) ?_ ?_; exact (HI.out.2.2.1.same Hsx.out).sizeOf) | (refine ld80 rfl (.tmp 36) rfl w1.heap.size 0 rfl (n := x.natAbs) ?_ ?_; exact (HI.out.2.2.1.same Hsx.out).sizeOf) | (refine ld80 rfl (.tmp 38) rfl (w1.heap.size + 1) 0 rfl (n := y.natAbs) ?_ ?_; exact (HI.out.2.2.2.same Hsy.out).sizeOf) | (go_at_call 51; refine (HC2.out _).mono ?_; rintro e w3 ⟨rfl, hb3⟩; have HI3 := Lib.hid (pair_keep HI.out hb3 (pair_lt HI.out)); clear hb3))
        go_ret
        exact ⟨rfl, HI3.out.1⟩
end Go.Proofs.Ytckmpenlpkhnfab
