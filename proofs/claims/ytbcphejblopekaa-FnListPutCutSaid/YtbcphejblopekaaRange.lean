/- What a slice selects: the model's, the program's, the law. -/
import Derived.Test.YtbcphejblopekaaRng
namespace Go.Proofs.Ytbcphejblopekaa
open Go.RowKit
def cLo (s : Int) : Int := if s < 0 then -1 else 0
def cHi (n s : Int) : Int := if s < 0 then n - 1 else n
def cFrom (n f s : Int) (hf : Bool) : Int := if hf then clampZ f n (cLo s) (cHi n s) else (if s < 0 then n - 1 else 0)
def cTo (n t s : Int) (ht : Bool) : Int := if ht then clampZ t n (cLo s) (cHi n s) else (if s < 0 then -1 else n)
def rngV (n f t s : Int) (hf ht : Bool) : Value := .tuple #[.int .i64 (cFrom n f s hf), .int .i64 (cntZ (cFrom n f s hf) (cTo n t s ht) s)]
theorem cFrom_in {n f s : Int} {hf : Bool} (h : 0 ≤ n) : -1 ≤ cFrom n f s hf ∧ cFrom n f s hf ≤ n := by
  unfold cFrom cLo cHi
  by_cases hs : s < 0
  · simp only [hs, if_true]
    have := clampZ_in (i := f) (n := n) (lo := -1) (hi := n - 1) (by omega)
    cases hf <;> simp <;> omega
  · simp only [hs, if_false]
    have := clampZ_in (i := f) (n := n) (lo := 0) (hi := n) (by omega)
    cases hf <;> simp <;> omega
theorem quot_in {x u : Int} (hx : 0 ≤ x) (hu : 0 < u) : 0 ≤ x / u ∧ x / u ≤ x := ⟨Int.ediv_nonneg hx (by omega), Int.ediv_le_self _ hx⟩
set_option maxHeartbeats 2000000 in
theorem specRN00 (n f t x : Int) (w : World) (hn1 : 0 ≤ n) (hn2 : n ≤ 1000000) (_hf1 : -1000000 ≤ f) (_hf2 : f ≤ 1000000) (_ht1 : -1000000 ≤ t) (_ht2 : t ≤ 1000000) (hx1 : 0 < x) (hx2 : x ≤ 1000000) :
    Calls Try.prog 45 #[.int .i64 n, .agg (cutC f t (-x) false false)] w fun e w' => e = .returned (.tuple #[.int .i64 (n - 1), .int .i64 (cntZ (n - 1) (-1) (-x))]) ∧ Below w.heap.size w w' := by
  unfold cutC
  have e : - -x = x := by omega
  have hx0 : -x < 0 := by omega
  have hxp : ¬ 0 < -x := by omega
  by_cases hc : (-1 : Int) < n - 1
  · have HE := Lib.hid (show cntZ (n - 1) (-1) (-x) = (n - 1) / x + 1 by unfold cntZ; rw [if_neg hxp, if_pos hc, e, show n - 1 - (-1) - 1 = (n - 1) by omega])
    rw [HE.out]
    have hd := Lib.hid (quot_in (x := (n - 1)) (u := x) (by omega) hx1)
    have hd1 := hd.out.1
    have hd2 := hd.out.2
    clear hxp e
    go_enter Try.func45, Try.ntmps45
    go_wp2_with (first | (go_at_call 61; refine (clamped_any _ _ _ _ _ (by omega) (by omega) (by omega) (by omega)).mono ?_; rintro e w' ⟨rfl, rfl⟩))
    all_goals first | omega | skip
    all_goals go_ret2
    all_goals refine ⟨rfl, (Below.refl _ _).alloc (Nat.le_refl _) _⟩
  · have HE := Lib.hid (show cntZ (n - 1) (-1) (-x) = 0 by unfold cntZ; rw [if_neg hxp, if_neg hc])
    rw [HE.out]
    have hc' : n - 1 ≤ -1 := by omega
    clear hc hxp e
    go_enter Try.func45, Try.ntmps45
    go_wp2_with (first | (go_at_call 61; refine (clamped_any _ _ _ _ _ (by omega) (by omega) (by omega) (by omega)).mono ?_; rintro e w' ⟨rfl, rfl⟩))
    all_goals first | omega | skip
    all_goals go_ret2
    all_goals refine ⟨rfl, (Below.refl _ _).alloc (Nat.le_refl _) _⟩
set_option maxHeartbeats 2000000 in
theorem specRN01 (n f t x : Int) (w : World) (hn1 : 0 ≤ n) (hn2 : n ≤ 1000000) (_hf1 : -1000000 ≤ f) (_hf2 : f ≤ 1000000) (ht1 : -1000000 ≤ t) (ht2 : t ≤ 1000000) (hx1 : 0 < x) (hx2 : x ≤ 1000000) :
    Calls Try.prog 45 #[.int .i64 n, .agg (cutC f t (-x) false true)] w fun e w' => e = .returned (.tuple #[.int .i64 (n - 1), .int .i64 (cntZ (n - 1) (clampZ t n (-1) (n - 1)) (-x))]) ∧ Below w.heap.size w w' := by
  obtain ⟨B, hB, hB1, hB2⟩ : ∃ B, clampZ t n (-1) (n - 1) = B ∧ -1 ≤ B ∧ B ≤ n := ⟨_, rfl, by have := clampZ_in (i := t) (n := n) (lo := (-1)) (hi := (n - 1)) (by omega); omega⟩
  have HB := Lib.hid hB
  rw [hB]
  clear hB
  unfold cutC
  have e : - -x = x := by omega
  have hx0 : -x < 0 := by omega
  have hxp : ¬ 0 < -x := by omega
  by_cases hc : (B : Int) < n - 1
  · have HE := Lib.hid (show cntZ (n - 1) (B) (-x) = (n - 1 - B - 1) / x + 1 by unfold cntZ; rw [if_neg hxp, if_pos hc, e, show n - 1 - (B) - 1 = (n - 1 - B - 1) by omega])
    rw [HE.out]
    have hd := Lib.hid (quot_in (x := (n - 1 - B - 1)) (u := x) (by omega) hx1)
    have hd1 := hd.out.1
    have hd2 := hd.out.2
    clear hxp e
    go_enter Try.func45, Try.ntmps45
    go_wp2_with (first | (go_at_call 61; refine (clamped_any _ _ _ _ _ (by omega) (by omega) (by omega) (by omega)).mono ?_; rintro e w' ⟨rfl, rfl⟩; rw [HB.out]))
    all_goals first | omega | skip
    all_goals go_ret2
    all_goals refine ⟨rfl, (Below.refl _ _).alloc (Nat.le_refl _) _⟩
  · have HE := Lib.hid (show cntZ (n - 1) (B) (-x) = 0 by unfold cntZ; rw [if_neg hxp, if_neg hc])
    rw [HE.out]
    have hc' : n - 1 ≤ B := by omega
    clear hc hxp e
    go_enter Try.func45, Try.ntmps45
    go_wp2_with (first | (go_at_call 61; refine (clamped_any _ _ _ _ _ (by omega) (by omega) (by omega) (by omega)).mono ?_; rintro e w' ⟨rfl, rfl⟩; rw [HB.out]))
    all_goals first | omega | skip
    all_goals go_ret2
    all_goals refine ⟨rfl, (Below.refl _ _).alloc (Nat.le_refl _) _⟩
set_option maxHeartbeats 2000000 in
theorem specRN10 (n f t x : Int) (w : World) (hn1 : 0 ≤ n) (hn2 : n ≤ 1000000) (hf1 : -1000000 ≤ f) (hf2 : f ≤ 1000000) (_ht1 : -1000000 ≤ t) (_ht2 : t ≤ 1000000) (hx1 : 0 < x) (hx2 : x ≤ 1000000) :
    Calls Try.prog 45 #[.int .i64 n, .agg (cutC f t (-x) true false)] w fun e w' => e = .returned (.tuple #[.int .i64 (clampZ f n (-1) (n - 1)), .int .i64 (cntZ (clampZ f n (-1) (n - 1)) (-1) (-x))]) ∧ Below w.heap.size w w' := by
  obtain ⟨A, hA, hA1, hA2⟩ : ∃ A, clampZ f n (-1) (n - 1) = A ∧ -1 ≤ A ∧ A ≤ n := ⟨_, rfl, by have := clampZ_in (i := f) (n := n) (lo := (-1)) (hi := (n - 1)) (by omega); omega⟩
  have HA := Lib.hid hA
  rw [hA]
  clear hA
  unfold cutC
  have e : - -x = x := by omega
  have hx0 : -x < 0 := by omega
  have hxp : ¬ 0 < -x := by omega
  by_cases hc : (-1 : Int) < A
  · have HE := Lib.hid (show cntZ (A) (-1) (-x) = (A) / x + 1 by unfold cntZ; rw [if_neg hxp, if_pos hc, e, show A - (-1) - 1 = (A) by omega])
    rw [HE.out]
    have hd := Lib.hid (quot_in (x := (A)) (u := x) (by omega) hx1)
    have hd1 := hd.out.1
    have hd2 := hd.out.2
    clear hxp e
    go_enter Try.func45, Try.ntmps45
    go_wp2_with (first | (go_at_call 61; refine (clamped_any _ _ _ _ _ (by omega) (by omega) (by omega) (by omega)).mono ?_; rintro e w' ⟨rfl, rfl⟩; rw [HA.out]))
    all_goals first | omega | skip
    all_goals go_ret2
    all_goals refine ⟨rfl, (Below.refl _ _).alloc (Nat.le_refl _) _⟩
  · have HE := Lib.hid (show cntZ (A) (-1) (-x) = 0 by unfold cntZ; rw [if_neg hxp, if_neg hc])
    rw [HE.out]
    have hc' : A ≤ -1 := by omega
    clear hc hxp e
    go_enter Try.func45, Try.ntmps45
    go_wp2_with (first | (go_at_call 61; refine (clamped_any _ _ _ _ _ (by omega) (by omega) (by omega) (by omega)).mono ?_; rintro e w' ⟨rfl, rfl⟩; rw [HA.out]))
    all_goals first | omega | skip
    all_goals go_ret2
    all_goals refine ⟨rfl, (Below.refl _ _).alloc (Nat.le_refl _) _⟩
set_option maxHeartbeats 2000000 in
theorem specRN11 (n f t x : Int) (w : World) (hn1 : 0 ≤ n) (hn2 : n ≤ 1000000) (hf1 : -1000000 ≤ f) (hf2 : f ≤ 1000000) (ht1 : -1000000 ≤ t) (ht2 : t ≤ 1000000) (hx1 : 0 < x) (hx2 : x ≤ 1000000) :
    Calls Try.prog 45 #[.int .i64 n, .agg (cutC f t (-x) true true)] w fun e w' => e = .returned (.tuple #[.int .i64 (clampZ f n (-1) (n - 1)), .int .i64 (cntZ (clampZ f n (-1) (n - 1)) (clampZ t n (-1) (n - 1)) (-x))]) ∧ Below w.heap.size w w' := by
  obtain ⟨A, hA, hA1, hA2⟩ : ∃ A, clampZ f n (-1) (n - 1) = A ∧ -1 ≤ A ∧ A ≤ n := ⟨_, rfl, by have := clampZ_in (i := f) (n := n) (lo := (-1)) (hi := (n - 1)) (by omega); omega⟩
  have HA := Lib.hid hA
  obtain ⟨B, hB, hB1, hB2⟩ : ∃ B, clampZ t n (-1) (n - 1) = B ∧ -1 ≤ B ∧ B ≤ n := ⟨_, rfl, by have := clampZ_in (i := t) (n := n) (lo := (-1)) (hi := (n - 1)) (by omega); omega⟩
  have HB := Lib.hid hB
  rw [hA, hB]
  clear hA hB
  unfold cutC
  have e : - -x = x := by omega
  have hx0 : -x < 0 := by omega
  have hxp : ¬ 0 < -x := by omega
  by_cases hc : (B : Int) < A
  · have HE := Lib.hid (show cntZ (A) (B) (-x) = (A - B - 1) / x + 1 by unfold cntZ; rw [if_neg hxp, if_pos hc, e, show A - (B) - 1 = (A - B - 1) by omega])
    rw [HE.out]
    have hd := Lib.hid (quot_in (x := (A - B - 1)) (u := x) (by omega) hx1)
    have hd1 := hd.out.1
    have hd2 := hd.out.2
    clear hxp e
    go_enter Try.func45, Try.ntmps45
    go_wp2_with (first | (go_at_call 61; refine (clamped_any _ _ _ _ _ (by omega) (by omega) (by omega) (by omega)).mono ?_; rintro e w' ⟨rfl, rfl⟩; (first | rw [HA.out] | rw [HB.out])))
    all_goals first | omega | skip
    all_goals go_ret2
    all_goals refine ⟨rfl, (Below.refl _ _).alloc (Nat.le_refl _) _⟩
  · have HE := Lib.hid (show cntZ (A) (B) (-x) = 0 by unfold cntZ; rw [if_neg hxp, if_neg hc])
    rw [HE.out]
    have hc' : A ≤ B := by omega
    clear hc hxp e
    go_enter Try.func45, Try.ntmps45
    go_wp2_with (first | (go_at_call 61; refine (clamped_any _ _ _ _ _ (by omega) (by omega) (by omega) (by omega)).mono ?_; rintro e w' ⟨rfl, rfl⟩; (first | rw [HA.out] | rw [HB.out])))
    all_goals first | omega | skip
    all_goals go_ret2
    all_goals refine ⟨rfl, (Below.refl _ _).alloc (Nat.le_refl _) _⟩
set_option maxHeartbeats 2000000 in
theorem specRP00 (n f t x : Int) (w : World) (hn1 : 0 ≤ n) (hn2 : n ≤ 1000000) (_hf1 : -1000000 ≤ f) (_hf2 : f ≤ 1000000) (_ht1 : -1000000 ≤ t) (_ht2 : t ≤ 1000000) (hx1 : 0 < x) (hx2 : x ≤ 1000000) :
    Calls Try.prog 45 #[.int .i64 n, .agg (cutC f t (x) false false)] w fun e w' => e = .returned (.tuple #[.int .i64 (0), .int .i64 (cntZ (0) (n) (x))]) ∧ Below w.heap.size w w' := by
  unfold cutC
  have hxn : ¬ x < 0 := by omega
  have hx0 : 0 ≤ x := by omega
  by_cases hc : (0 : Int) < n
  · have HE := Lib.hid (show cntZ (0) (n) x = (n - 1) / x + 1 by unfold cntZ; rw [if_pos hx1, if_pos hc, show n - 0 - 1 = (n - 1) by omega])
    rw [HE.out]
    have hd := Lib.hid (quot_in (x := (n - 1)) (u := x) (by omega) hx1)
    have hd1 := hd.out.1
    have hd2 := hd.out.2
    clear hxn
    go_enter Try.func45, Try.ntmps45
    go_wp2_with (first | (go_at_call 61; refine (clamped_any _ _ _ _ _ (by omega) (by omega) (by omega) (by omega)).mono ?_; rintro e w' ⟨rfl, rfl⟩))
    all_goals first | omega | skip
    all_goals go_ret2
    all_goals refine ⟨rfl, (Below.refl _ _).alloc (Nat.le_refl _) _⟩
  · have HE := Lib.hid (show cntZ (0) (n) x = 0 by unfold cntZ; rw [if_pos hx1, if_neg hc])
    rw [HE.out]
    have hc' : n ≤ 0 := by omega
    clear hc hxn
    go_enter Try.func45, Try.ntmps45
    go_wp2_with (first | (go_at_call 61; refine (clamped_any _ _ _ _ _ (by omega) (by omega) (by omega) (by omega)).mono ?_; rintro e w' ⟨rfl, rfl⟩))
    all_goals first | omega | skip
    all_goals go_ret2
    all_goals refine ⟨rfl, (Below.refl _ _).alloc (Nat.le_refl _) _⟩
set_option maxHeartbeats 2000000 in
theorem specRP01 (n f t x : Int) (w : World) (hn1 : 0 ≤ n) (hn2 : n ≤ 1000000) (_hf1 : -1000000 ≤ f) (_hf2 : f ≤ 1000000) (ht1 : -1000000 ≤ t) (ht2 : t ≤ 1000000) (hx1 : 0 < x) (hx2 : x ≤ 1000000) :
    Calls Try.prog 45 #[.int .i64 n, .agg (cutC f t (x) false true)] w fun e w' => e = .returned (.tuple #[.int .i64 (0), .int .i64 (cntZ (0) (clampZ t n 0 n) (x))]) ∧ Below w.heap.size w w' := by
  obtain ⟨B, hB, hB1, hB2⟩ : ∃ B, clampZ t n 0 n = B ∧ -1 ≤ B ∧ B ≤ n := ⟨_, rfl, by have := clampZ_in (i := t) (n := n) (lo := 0) (hi := n) (by omega); omega⟩
  have HB := Lib.hid hB
  rw [hB]
  clear hB
  unfold cutC
  have hxn : ¬ x < 0 := by omega
  have hx0 : 0 ≤ x := by omega
  by_cases hc : (0 : Int) < B
  · have HE := Lib.hid (show cntZ (0) (B) x = (B - 1) / x + 1 by unfold cntZ; rw [if_pos hx1, if_pos hc, show B - 0 - 1 = (B - 1) by omega])
    rw [HE.out]
    have hd := Lib.hid (quot_in (x := (B - 1)) (u := x) (by omega) hx1)
    have hd1 := hd.out.1
    have hd2 := hd.out.2
    clear hxn
    go_enter Try.func45, Try.ntmps45
    go_wp2_with (first | (go_at_call 61; refine (clamped_any _ _ _ _ _ (by omega) (by omega) (by omega) (by omega)).mono ?_; rintro e w' ⟨rfl, rfl⟩; rw [HB.out]))
    all_goals first | omega | skip
    all_goals go_ret2
    all_goals refine ⟨rfl, (Below.refl _ _).alloc (Nat.le_refl _) _⟩
  · have HE := Lib.hid (show cntZ (0) (B) x = 0 by unfold cntZ; rw [if_pos hx1, if_neg hc])
    rw [HE.out]
    have hc' : B ≤ 0 := by omega
    clear hc hxn
    go_enter Try.func45, Try.ntmps45
    go_wp2_with (first | (go_at_call 61; refine (clamped_any _ _ _ _ _ (by omega) (by omega) (by omega) (by omega)).mono ?_; rintro e w' ⟨rfl, rfl⟩; rw [HB.out]))
    all_goals first | omega | skip
    all_goals go_ret2
    all_goals refine ⟨rfl, (Below.refl _ _).alloc (Nat.le_refl _) _⟩
set_option maxHeartbeats 2000000 in
theorem specRP10 (n f t x : Int) (w : World) (hn1 : 0 ≤ n) (hn2 : n ≤ 1000000) (hf1 : -1000000 ≤ f) (hf2 : f ≤ 1000000) (_ht1 : -1000000 ≤ t) (_ht2 : t ≤ 1000000) (hx1 : 0 < x) (hx2 : x ≤ 1000000) :
    Calls Try.prog 45 #[.int .i64 n, .agg (cutC f t (x) true false)] w fun e w' => e = .returned (.tuple #[.int .i64 (clampZ f n 0 n), .int .i64 (cntZ (clampZ f n 0 n) (n) (x))]) ∧ Below w.heap.size w w' := by
  obtain ⟨A, hA, hA1, hA2⟩ : ∃ A, clampZ f n 0 n = A ∧ -1 ≤ A ∧ A ≤ n := ⟨_, rfl, by have := clampZ_in (i := f) (n := n) (lo := 0) (hi := n) (by omega); omega⟩
  have HA := Lib.hid hA
  rw [hA]
  clear hA
  unfold cutC
  have hxn : ¬ x < 0 := by omega
  have hx0 : 0 ≤ x := by omega
  by_cases hc : (A : Int) < n
  · have HE := Lib.hid (show cntZ (A) (n) x = (n - A - 1) / x + 1 by unfold cntZ; rw [if_pos hx1, if_pos hc, show n - A - 1 = (n - A - 1) by omega])
    rw [HE.out]
    have hd := Lib.hid (quot_in (x := (n - A - 1)) (u := x) (by omega) hx1)
    have hd1 := hd.out.1
    have hd2 := hd.out.2
    clear hxn
    go_enter Try.func45, Try.ntmps45
    go_wp2_with (first | (go_at_call 61; refine (clamped_any _ _ _ _ _ (by omega) (by omega) (by omega) (by omega)).mono ?_; rintro e w' ⟨rfl, rfl⟩; rw [HA.out]))
    all_goals first | omega | skip
    all_goals go_ret2
    all_goals refine ⟨rfl, (Below.refl _ _).alloc (Nat.le_refl _) _⟩
  · have HE := Lib.hid (show cntZ (A) (n) x = 0 by unfold cntZ; rw [if_pos hx1, if_neg hc])
    rw [HE.out]
    have hc' : n ≤ A := by omega
    clear hc hxn
    go_enter Try.func45, Try.ntmps45
    go_wp2_with (first | (go_at_call 61; refine (clamped_any _ _ _ _ _ (by omega) (by omega) (by omega) (by omega)).mono ?_; rintro e w' ⟨rfl, rfl⟩; rw [HA.out]))
    all_goals first | omega | skip
    all_goals go_ret2
    all_goals refine ⟨rfl, (Below.refl _ _).alloc (Nat.le_refl _) _⟩
set_option maxHeartbeats 2000000 in
theorem specRP11 (n f t x : Int) (w : World) (hn1 : 0 ≤ n) (hn2 : n ≤ 1000000) (hf1 : -1000000 ≤ f) (hf2 : f ≤ 1000000) (ht1 : -1000000 ≤ t) (ht2 : t ≤ 1000000) (hx1 : 0 < x) (hx2 : x ≤ 1000000) :
    Calls Try.prog 45 #[.int .i64 n, .agg (cutC f t (x) true true)] w fun e w' => e = .returned (.tuple #[.int .i64 (clampZ f n 0 n), .int .i64 (cntZ (clampZ f n 0 n) (clampZ t n 0 n) (x))]) ∧ Below w.heap.size w w' := by
  obtain ⟨A, hA, hA1, hA2⟩ : ∃ A, clampZ f n 0 n = A ∧ -1 ≤ A ∧ A ≤ n := ⟨_, rfl, by have := clampZ_in (i := f) (n := n) (lo := 0) (hi := n) (by omega); omega⟩
  have HA := Lib.hid hA
  obtain ⟨B, hB, hB1, hB2⟩ : ∃ B, clampZ t n 0 n = B ∧ -1 ≤ B ∧ B ≤ n := ⟨_, rfl, by have := clampZ_in (i := t) (n := n) (lo := 0) (hi := n) (by omega); omega⟩
  have HB := Lib.hid hB
  rw [hA, hB]
  clear hA hB
  unfold cutC
  have hxn : ¬ x < 0 := by omega
  have hx0 : 0 ≤ x := by omega
  by_cases hc : (A : Int) < B
  · have HE := Lib.hid (show cntZ (A) (B) x = (B - A - 1) / x + 1 by unfold cntZ; rw [if_pos hx1, if_pos hc, show B - A - 1 = (B - A - 1) by omega])
    rw [HE.out]
    have hd := Lib.hid (quot_in (x := (B - A - 1)) (u := x) (by omega) hx1)
    have hd1 := hd.out.1
    have hd2 := hd.out.2
    clear hxn
    go_enter Try.func45, Try.ntmps45
    go_wp2_with (first | (go_at_call 61; refine (clamped_any _ _ _ _ _ (by omega) (by omega) (by omega) (by omega)).mono ?_; rintro e w' ⟨rfl, rfl⟩; (first | rw [HA.out] | rw [HB.out])))
    all_goals first | omega | skip
    all_goals go_ret2
    all_goals refine ⟨rfl, (Below.refl _ _).alloc (Nat.le_refl _) _⟩
  · have HE := Lib.hid (show cntZ (A) (B) x = 0 by unfold cntZ; rw [if_pos hx1, if_neg hc])
    rw [HE.out]
    have hc' : B ≤ A := by omega
    clear hc hxn
    go_enter Try.func45, Try.ntmps45
    go_wp2_with (first | (go_at_call 61; refine (clamped_any _ _ _ _ _ (by omega) (by omega) (by omega) (by omega)).mono ?_; rintro e w' ⟨rfl, rfl⟩; (first | rw [HA.out] | rw [HB.out])))
    all_goals first | omega | skip
    all_goals go_ret2
    all_goals refine ⟨rfl, (Below.refl _ _).alloc (Nat.le_refl _) _⟩
set_option maxHeartbeats 2000000 in
theorem implRN00 (n f t x : Int) (w : World) (hn1 : 0 ≤ n) (hn2 : n ≤ 1000000) (_hf1 : -1000000 ≤ f) (_hf2 : f ≤ 1000000) (_ht1 : -1000000 ≤ t) (_ht2 : t ≤ 1000000) (hx1 : 0 < x) (hx2 : x ≤ 1000000) (hok : okC f t (-x) false false = true) :
    Calls Try.prog 39 #[.int .i64 n, .agg (cutC f t (-x) false false)] w fun e w' => e = .returned (.tuple #[.int .i64 (n - 1), .int .i64 (cntZ (n - 1) (-1) (-x))]) ∧ Below w.heap.size w w' := by
  unfold cutC
  have HK := Lib.hid (show okC f t (-x) false false = true from hok)
  have HX := Lib.hid (show Blk (w.alloc (Obj.cells #[.int .i64 f, .int .i64 t, .int .i64 (-x), .bool false, .bool false] 32)) w.heap.size 32 #[.int .i64 f, .int .i64 t, .int .i64 (-x), .bool false, .bool false] from Blk.new _ _ _ rfl)
  have HBx := Lib.hid (show Below w.heap.size w (w.alloc (Obj.cells #[.int .i64 f, .int .i64 t, .int .i64 (-x), .bool false, .bool false] 32)) from (Below.refl _ _).alloc (Nat.le_refl _) _)
  clear hok
  have hx0 : -x < 0 := by omega
  go_enter Try.func39, Try.ntmps39
  go_wp2_with (first | (go_at_call 46; refine (cutOk_any _ _ _ _ _ _).mono ?_; rintro e w2 ⟨rfl, hb2⟩; rw [HK.out]; have HX2 := Lib.hid (HX.out.below hb2 HX.out.lt); have HB2 := Lib.hid (HBx.out.trans (hb2.mono HBx.out.size)); have c0 := HX2.out.cell 0; have c1 := HX2.out.cell 1; have c2 := HX2.out.cell 2; have c3 := HX2.out.cell 3; have c4 := HX2.out.cell 4; clear hb2) | (go_at_call 59; refine (limit_any _ _ _ _ _ (by omega) (by omega) (by omega) (by omega) (by omega)).mono ?_; rintro e w' ⟨rfl, rfl⟩) | (go_at_call 60; refine (count_any _ _ _ _ (by omega) (by omega) (by omega) (by omega) (by omega) (by omega) (by omega)).mono ?_; rintro e w' ⟨rfl, rfl⟩))
  go_ret2
  exact ⟨rfl, HB2.out⟩
set_option maxHeartbeats 2000000 in
theorem implRN01 (n f t x : Int) (w : World) (hn1 : 0 ≤ n) (hn2 : n ≤ 1000000) (_hf1 : -1000000 ≤ f) (_hf2 : f ≤ 1000000) (ht1 : -1000000 ≤ t) (ht2 : t ≤ 1000000) (hx1 : 0 < x) (hx2 : x ≤ 1000000) (hok : okC f t (-x) false true = true) :
    Calls Try.prog 39 #[.int .i64 n, .agg (cutC f t (-x) false true)] w fun e w' => e = .returned (.tuple #[.int .i64 (n - 1), .int .i64 (cntZ (n - 1) (clampZ t n (-1) (n - 1)) (-x))]) ∧ Below w.heap.size w w' := by
  obtain ⟨B, hB, hB1, hB2⟩ : ∃ B, clampZ t n (-1) (n - 1) = B ∧ -1 ≤ B ∧ B ≤ n := ⟨_, rfl, by have := clampZ_in (i := t) (n := n) (lo := (-1)) (hi := (n - 1)) (by omega); omega⟩
  have HB := Lib.hid hB
  rw [hB]
  clear hB
  unfold cutC
  have HK := Lib.hid (show okC f t (-x) false true = true from hok)
  have HX := Lib.hid (show Blk (w.alloc (Obj.cells #[.int .i64 f, .int .i64 t, .int .i64 (-x), .bool false, .bool true] 32)) w.heap.size 32 #[.int .i64 f, .int .i64 t, .int .i64 (-x), .bool false, .bool true] from Blk.new _ _ _ rfl)
  have HBx := Lib.hid (show Below w.heap.size w (w.alloc (Obj.cells #[.int .i64 f, .int .i64 t, .int .i64 (-x), .bool false, .bool true] 32)) from (Below.refl _ _).alloc (Nat.le_refl _) _)
  clear hok
  have hx0 : -x < 0 := by omega
  go_enter Try.func39, Try.ntmps39
  go_wp2_with (first | (go_at_call 46; refine (cutOk_any _ _ _ _ _ _).mono ?_; rintro e w2 ⟨rfl, hb2⟩; rw [HK.out]; have HX2 := Lib.hid (HX.out.below hb2 HX.out.lt); have HB2 := Lib.hid (HBx.out.trans (hb2.mono HBx.out.size)); have c0 := HX2.out.cell 0; have c1 := HX2.out.cell 1; have c2 := HX2.out.cell 2; have c3 := HX2.out.cell 3; have c4 := HX2.out.cell 4; clear hb2) | (go_at_call 59; refine (limit_any _ _ _ _ _ (by omega) (by omega) (by omega) (by omega) (by omega)).mono ?_; rintro e w' ⟨rfl, rfl⟩; rw [HB.out]) | (go_at_call 60; refine (count_any _ _ _ _ (by omega) (by omega) (by omega) (by omega) (by omega) (by omega) (by omega)).mono ?_; rintro e w' ⟨rfl, rfl⟩))
  go_ret2
  exact ⟨rfl, HB2.out⟩
set_option maxHeartbeats 2000000 in
theorem implRN10 (n f t x : Int) (w : World) (hn1 : 0 ≤ n) (hn2 : n ≤ 1000000) (hf1 : -1000000 ≤ f) (hf2 : f ≤ 1000000) (_ht1 : -1000000 ≤ t) (_ht2 : t ≤ 1000000) (hx1 : 0 < x) (hx2 : x ≤ 1000000) (hok : okC f t (-x) true false = true) :
    Calls Try.prog 39 #[.int .i64 n, .agg (cutC f t (-x) true false)] w fun e w' => e = .returned (.tuple #[.int .i64 (clampZ f n (-1) (n - 1)), .int .i64 (cntZ (clampZ f n (-1) (n - 1)) (-1) (-x))]) ∧ Below w.heap.size w w' := by
  obtain ⟨A, hA, hA1, hA2⟩ : ∃ A, clampZ f n (-1) (n - 1) = A ∧ -1 ≤ A ∧ A ≤ n := ⟨_, rfl, by have := clampZ_in (i := f) (n := n) (lo := (-1)) (hi := (n - 1)) (by omega); omega⟩
  have HA := Lib.hid hA
  rw [hA]
  clear hA
  unfold cutC
  have HK := Lib.hid (show okC f t (-x) true false = true from hok)
  have HX := Lib.hid (show Blk (w.alloc (Obj.cells #[.int .i64 f, .int .i64 t, .int .i64 (-x), .bool true, .bool false] 32)) w.heap.size 32 #[.int .i64 f, .int .i64 t, .int .i64 (-x), .bool true, .bool false] from Blk.new _ _ _ rfl)
  have HBx := Lib.hid (show Below w.heap.size w (w.alloc (Obj.cells #[.int .i64 f, .int .i64 t, .int .i64 (-x), .bool true, .bool false] 32)) from (Below.refl _ _).alloc (Nat.le_refl _) _)
  clear hok
  have hx0 : -x < 0 := by omega
  go_enter Try.func39, Try.ntmps39
  go_wp2_with (first | (go_at_call 46; refine (cutOk_any _ _ _ _ _ _).mono ?_; rintro e w2 ⟨rfl, hb2⟩; rw [HK.out]; have HX2 := Lib.hid (HX.out.below hb2 HX.out.lt); have HB2 := Lib.hid (HBx.out.trans (hb2.mono HBx.out.size)); have c0 := HX2.out.cell 0; have c1 := HX2.out.cell 1; have c2 := HX2.out.cell 2; have c3 := HX2.out.cell 3; have c4 := HX2.out.cell 4; clear hb2) | (go_at_call 59; refine (limit_any _ _ _ _ _ (by omega) (by omega) (by omega) (by omega) (by omega)).mono ?_; rintro e w' ⟨rfl, rfl⟩; rw [HA.out]) | (go_at_call 60; refine (count_any _ _ _ _ (by omega) (by omega) (by omega) (by omega) (by omega) (by omega) (by omega)).mono ?_; rintro e w' ⟨rfl, rfl⟩))
  go_ret2
  exact ⟨rfl, HB2.out⟩
set_option maxHeartbeats 2000000 in
theorem implRN11 (n f t x : Int) (w : World) (hn1 : 0 ≤ n) (hn2 : n ≤ 1000000) (hf1 : -1000000 ≤ f) (hf2 : f ≤ 1000000) (ht1 : -1000000 ≤ t) (ht2 : t ≤ 1000000) (hx1 : 0 < x) (hx2 : x ≤ 1000000) (hok : okC f t (-x) true true = true) :
    Calls Try.prog 39 #[.int .i64 n, .agg (cutC f t (-x) true true)] w fun e w' => e = .returned (.tuple #[.int .i64 (clampZ f n (-1) (n - 1)), .int .i64 (cntZ (clampZ f n (-1) (n - 1)) (clampZ t n (-1) (n - 1)) (-x))]) ∧ Below w.heap.size w w' := by
  obtain ⟨A, hA, hA1, hA2⟩ : ∃ A, clampZ f n (-1) (n - 1) = A ∧ -1 ≤ A ∧ A ≤ n := ⟨_, rfl, by have := clampZ_in (i := f) (n := n) (lo := (-1)) (hi := (n - 1)) (by omega); omega⟩
  have HA := Lib.hid hA
  obtain ⟨B, hB, hB1, hB2⟩ : ∃ B, clampZ t n (-1) (n - 1) = B ∧ -1 ≤ B ∧ B ≤ n := ⟨_, rfl, by have := clampZ_in (i := t) (n := n) (lo := (-1)) (hi := (n - 1)) (by omega); omega⟩
  have HB := Lib.hid hB
  rw [hA, hB]
  clear hA hB
  unfold cutC
  have HK := Lib.hid (show okC f t (-x) true true = true from hok)
  have HX := Lib.hid (show Blk (w.alloc (Obj.cells #[.int .i64 f, .int .i64 t, .int .i64 (-x), .bool true, .bool true] 32)) w.heap.size 32 #[.int .i64 f, .int .i64 t, .int .i64 (-x), .bool true, .bool true] from Blk.new _ _ _ rfl)
  have HBx := Lib.hid (show Below w.heap.size w (w.alloc (Obj.cells #[.int .i64 f, .int .i64 t, .int .i64 (-x), .bool true, .bool true] 32)) from (Below.refl _ _).alloc (Nat.le_refl _) _)
  clear hok
  have hx0 : -x < 0 := by omega
  go_enter Try.func39, Try.ntmps39
  go_wp2_with (first | (go_at_call 46; refine (cutOk_any _ _ _ _ _ _).mono ?_; rintro e w2 ⟨rfl, hb2⟩; rw [HK.out]; have HX2 := Lib.hid (HX.out.below hb2 HX.out.lt); have HB2 := Lib.hid (HBx.out.trans (hb2.mono HBx.out.size)); have c0 := HX2.out.cell 0; have c1 := HX2.out.cell 1; have c2 := HX2.out.cell 2; have c3 := HX2.out.cell 3; have c4 := HX2.out.cell 4; clear hb2) | (go_at_call 59; refine (limit_any _ _ _ _ _ (by omega) (by omega) (by omega) (by omega) (by omega)).mono ?_; rintro e w' ⟨rfl, rfl⟩; (first | rw [HA.out] | rw [HB.out])) | (go_at_call 60; refine (count_any _ _ _ _ (by omega) (by omega) (by omega) (by omega) (by omega) (by omega) (by omega)).mono ?_; rintro e w' ⟨rfl, rfl⟩))
  go_ret2
  exact ⟨rfl, HB2.out⟩
set_option maxHeartbeats 2000000 in
theorem implRP00 (n f t x : Int) (w : World) (hn1 : 0 ≤ n) (hn2 : n ≤ 1000000) (_hf1 : -1000000 ≤ f) (_hf2 : f ≤ 1000000) (_ht1 : -1000000 ≤ t) (_ht2 : t ≤ 1000000) (hx1 : 0 < x) (hx2 : x ≤ 1000000) (hok : okC f t x false false = true) :
    Calls Try.prog 39 #[.int .i64 n, .agg (cutC f t (x) false false)] w fun e w' => e = .returned (.tuple #[.int .i64 (0), .int .i64 (cntZ (0) (n) (x))]) ∧ Below w.heap.size w w' := by
  unfold cutC
  have HK := Lib.hid (show okC f t x false false = true from hok)
  have HX := Lib.hid (show Blk (w.alloc (Obj.cells #[.int .i64 f, .int .i64 t, .int .i64 x, .bool false, .bool false] 32)) w.heap.size 32 #[.int .i64 f, .int .i64 t, .int .i64 x, .bool false, .bool false] from Blk.new _ _ _ rfl)
  have HBx := Lib.hid (show Below w.heap.size w (w.alloc (Obj.cells #[.int .i64 f, .int .i64 t, .int .i64 x, .bool false, .bool false] 32)) from (Below.refl _ _).alloc (Nat.le_refl _) _)
  clear hok
  have hx0 : 0 ≤ x := by omega
  go_enter Try.func39, Try.ntmps39
  go_wp2_with (first | (go_at_call 46; refine (cutOk_any _ _ _ _ _ _).mono ?_; rintro e w2 ⟨rfl, hb2⟩; rw [HK.out]; have HX2 := Lib.hid (HX.out.below hb2 HX.out.lt); have HB2 := Lib.hid (HBx.out.trans (hb2.mono HBx.out.size)); have c0 := HX2.out.cell 0; have c1 := HX2.out.cell 1; have c2 := HX2.out.cell 2; have c3 := HX2.out.cell 3; have c4 := HX2.out.cell 4; clear hb2) | (go_at_call 59; refine (limit_any _ _ _ _ _ (by omega) (by omega) (by omega) (by omega) (by omega)).mono ?_; rintro e w' ⟨rfl, rfl⟩) | (go_at_call 60; refine (count_any _ _ _ _ (by omega) (by omega) (by omega) (by omega) (by omega) (by omega) (by omega)).mono ?_; rintro e w' ⟨rfl, rfl⟩))
  go_ret2
  exact ⟨rfl, HB2.out⟩
set_option maxHeartbeats 2000000 in
theorem implRP01 (n f t x : Int) (w : World) (hn1 : 0 ≤ n) (hn2 : n ≤ 1000000) (_hf1 : -1000000 ≤ f) (_hf2 : f ≤ 1000000) (ht1 : -1000000 ≤ t) (ht2 : t ≤ 1000000) (hx1 : 0 < x) (hx2 : x ≤ 1000000) (hok : okC f t x false true = true) :
    Calls Try.prog 39 #[.int .i64 n, .agg (cutC f t (x) false true)] w fun e w' => e = .returned (.tuple #[.int .i64 (0), .int .i64 (cntZ (0) (clampZ t n 0 n) (x))]) ∧ Below w.heap.size w w' := by
  obtain ⟨B, hB, hB1, hB2⟩ : ∃ B, clampZ t n 0 n = B ∧ -1 ≤ B ∧ B ≤ n := ⟨_, rfl, by have := clampZ_in (i := t) (n := n) (lo := 0) (hi := n) (by omega); omega⟩
  have HB := Lib.hid hB
  rw [hB]
  clear hB
  unfold cutC
  have HK := Lib.hid (show okC f t x false true = true from hok)
  have HX := Lib.hid (show Blk (w.alloc (Obj.cells #[.int .i64 f, .int .i64 t, .int .i64 x, .bool false, .bool true] 32)) w.heap.size 32 #[.int .i64 f, .int .i64 t, .int .i64 x, .bool false, .bool true] from Blk.new _ _ _ rfl)
  have HBx := Lib.hid (show Below w.heap.size w (w.alloc (Obj.cells #[.int .i64 f, .int .i64 t, .int .i64 x, .bool false, .bool true] 32)) from (Below.refl _ _).alloc (Nat.le_refl _) _)
  clear hok
  have hx0 : 0 ≤ x := by omega
  go_enter Try.func39, Try.ntmps39
  go_wp2_with (first | (go_at_call 46; refine (cutOk_any _ _ _ _ _ _).mono ?_; rintro e w2 ⟨rfl, hb2⟩; rw [HK.out]; have HX2 := Lib.hid (HX.out.below hb2 HX.out.lt); have HB2 := Lib.hid (HBx.out.trans (hb2.mono HBx.out.size)); have c0 := HX2.out.cell 0; have c1 := HX2.out.cell 1; have c2 := HX2.out.cell 2; have c3 := HX2.out.cell 3; have c4 := HX2.out.cell 4; clear hb2) | (go_at_call 59; refine (limit_any _ _ _ _ _ (by omega) (by omega) (by omega) (by omega) (by omega)).mono ?_; rintro e w' ⟨rfl, rfl⟩; rw [HB.out]) | (go_at_call 60; refine (count_any _ _ _ _ (by omega) (by omega) (by omega) (by omega) (by omega) (by omega) (by omega)).mono ?_; rintro e w' ⟨rfl, rfl⟩))
  go_ret2
  exact ⟨rfl, HB2.out⟩
set_option maxHeartbeats 2000000 in
theorem implRP10 (n f t x : Int) (w : World) (hn1 : 0 ≤ n) (hn2 : n ≤ 1000000) (hf1 : -1000000 ≤ f) (hf2 : f ≤ 1000000) (_ht1 : -1000000 ≤ t) (_ht2 : t ≤ 1000000) (hx1 : 0 < x) (hx2 : x ≤ 1000000) (hok : okC f t x true false = true) :
    Calls Try.prog 39 #[.int .i64 n, .agg (cutC f t (x) true false)] w fun e w' => e = .returned (.tuple #[.int .i64 (clampZ f n 0 n), .int .i64 (cntZ (clampZ f n 0 n) (n) (x))]) ∧ Below w.heap.size w w' := by
  obtain ⟨A, hA, hA1, hA2⟩ : ∃ A, clampZ f n 0 n = A ∧ -1 ≤ A ∧ A ≤ n := ⟨_, rfl, by have := clampZ_in (i := f) (n := n) (lo := 0) (hi := n) (by omega); omega⟩
  have HA := Lib.hid hA
  rw [hA]
  clear hA
  unfold cutC
  have HK := Lib.hid (show okC f t x true false = true from hok)
  have HX := Lib.hid (show Blk (w.alloc (Obj.cells #[.int .i64 f, .int .i64 t, .int .i64 x, .bool true, .bool false] 32)) w.heap.size 32 #[.int .i64 f, .int .i64 t, .int .i64 x, .bool true, .bool false] from Blk.new _ _ _ rfl)
  have HBx := Lib.hid (show Below w.heap.size w (w.alloc (Obj.cells #[.int .i64 f, .int .i64 t, .int .i64 x, .bool true, .bool false] 32)) from (Below.refl _ _).alloc (Nat.le_refl _) _)
  clear hok
  have hx0 : 0 ≤ x := by omega
  go_enter Try.func39, Try.ntmps39
  go_wp2_with (first | (go_at_call 46; refine (cutOk_any _ _ _ _ _ _).mono ?_; rintro e w2 ⟨rfl, hb2⟩; rw [HK.out]; have HX2 := Lib.hid (HX.out.below hb2 HX.out.lt); have HB2 := Lib.hid (HBx.out.trans (hb2.mono HBx.out.size)); have c0 := HX2.out.cell 0; have c1 := HX2.out.cell 1; have c2 := HX2.out.cell 2; have c3 := HX2.out.cell 3; have c4 := HX2.out.cell 4; clear hb2) | (go_at_call 59; refine (limit_any _ _ _ _ _ (by omega) (by omega) (by omega) (by omega) (by omega)).mono ?_; rintro e w' ⟨rfl, rfl⟩; rw [HA.out]) | (go_at_call 60; refine (count_any _ _ _ _ (by omega) (by omega) (by omega) (by omega) (by omega) (by omega) (by omega)).mono ?_; rintro e w' ⟨rfl, rfl⟩))
  go_ret2
  exact ⟨rfl, HB2.out⟩
set_option maxHeartbeats 2000000 in
theorem implRP11 (n f t x : Int) (w : World) (hn1 : 0 ≤ n) (hn2 : n ≤ 1000000) (hf1 : -1000000 ≤ f) (hf2 : f ≤ 1000000) (ht1 : -1000000 ≤ t) (ht2 : t ≤ 1000000) (hx1 : 0 < x) (hx2 : x ≤ 1000000) (hok : okC f t x true true = true) :
    Calls Try.prog 39 #[.int .i64 n, .agg (cutC f t (x) true true)] w fun e w' => e = .returned (.tuple #[.int .i64 (clampZ f n 0 n), .int .i64 (cntZ (clampZ f n 0 n) (clampZ t n 0 n) (x))]) ∧ Below w.heap.size w w' := by
  obtain ⟨A, hA, hA1, hA2⟩ : ∃ A, clampZ f n 0 n = A ∧ -1 ≤ A ∧ A ≤ n := ⟨_, rfl, by have := clampZ_in (i := f) (n := n) (lo := 0) (hi := n) (by omega); omega⟩
  have HA := Lib.hid hA
  obtain ⟨B, hB, hB1, hB2⟩ : ∃ B, clampZ t n 0 n = B ∧ -1 ≤ B ∧ B ≤ n := ⟨_, rfl, by have := clampZ_in (i := t) (n := n) (lo := 0) (hi := n) (by omega); omega⟩
  have HB := Lib.hid hB
  rw [hA, hB]
  clear hA hB
  unfold cutC
  have HK := Lib.hid (show okC f t x true true = true from hok)
  have HX := Lib.hid (show Blk (w.alloc (Obj.cells #[.int .i64 f, .int .i64 t, .int .i64 x, .bool true, .bool true] 32)) w.heap.size 32 #[.int .i64 f, .int .i64 t, .int .i64 x, .bool true, .bool true] from Blk.new _ _ _ rfl)
  have HBx := Lib.hid (show Below w.heap.size w (w.alloc (Obj.cells #[.int .i64 f, .int .i64 t, .int .i64 x, .bool true, .bool true] 32)) from (Below.refl _ _).alloc (Nat.le_refl _) _)
  clear hok
  have hx0 : 0 ≤ x := by omega
  go_enter Try.func39, Try.ntmps39
  go_wp2_with (first | (go_at_call 46; refine (cutOk_any _ _ _ _ _ _).mono ?_; rintro e w2 ⟨rfl, hb2⟩; rw [HK.out]; have HX2 := Lib.hid (HX.out.below hb2 HX.out.lt); have HB2 := Lib.hid (HBx.out.trans (hb2.mono HBx.out.size)); have c0 := HX2.out.cell 0; have c1 := HX2.out.cell 1; have c2 := HX2.out.cell 2; have c3 := HX2.out.cell 3; have c4 := HX2.out.cell 4; clear hb2) | (go_at_call 59; refine (limit_any _ _ _ _ _ (by omega) (by omega) (by omega) (by omega) (by omega)).mono ?_; rintro e w' ⟨rfl, rfl⟩; (first | rw [HA.out] | rw [HB.out])) | (go_at_call 60; refine (count_any _ _ _ _ (by omega) (by omega) (by omega) (by omega) (by omega) (by omega) (by omega)).mono ?_; rintro e w' ⟨rfl, rfl⟩))
  go_ret2
  exact ⟨rfl, HB2.out⟩
end Go.Proofs.Ytbcphejblopekaa
