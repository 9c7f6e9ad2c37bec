/- Slices as values: the law's struct made the program's; which ones are valid. -/
import Derived.Test.YtbcphejblopekaaAt
namespace Go.Proofs.Ytbcphejblopekaa
open Go.RowKit
/-- The cells of a slice. -/
def cutC (f t s : Int) (hf ht : Bool) : Array Value := #[.int .i64 f, .int .i64 t, .int .i64 s, .bool hf, .bool ht]
set_option maxHeartbeats 1000000 in
theorem toCut_any (f t s : Int) (hf ht : Bool) (w : World) : Calls Try.prog 24 #[.agg (cutC f t s hf ht)] w fun e w' => e = .returned (.agg (cutC f t s hf ht)) ∧ Below w.heap.size w w' := by
  unfold cutC
  go_enter Try.func24, Try.ntmps24
  go_wp2
  refine bodyPost_ret (v := .agg #[.int .i64 f, .int .i64 t, .int .i64 s, .bool hf, .bool ht]) ?_ rfl ⟨rfl, (((Below.refl _ _).alloc (Nat.le_refl _) _).alloc (by simp) _).alloc (by simp; omega) _⟩
  exact results_cell_row rfl _ _ (w.heap.size + 1) 32 #[.int .i64 f, .int .i64 t, .int .i64 s, .bool hf, .bool ht] (0, 0) _ rfl ((Blk.new _ _ _ (by simp)).alloc _) Try.underlying32 rfl (by kernel_rfl)
def idx (n : Int) : Bool := decide (-1000000 ≤ n) && decide (n ≤ 1000000)
theorem idx_iff (n : Int) : idx n = true ↔ -1000000 ≤ n ∧ n ≤ 1000000 := by unfold idx; simp
/-- A slice is valid. -/
def okC (f t s : Int) (hf ht : Bool) : Bool := idx f && idx t && idx s && (s != 0) && (hf || (f == 0)) && (ht || (t == 0))
set_option maxHeartbeats 400000 in
theorem isIndex_any (n : Int) (w : World) : Calls Try.prog 62 #[.int .i64 n] w fun e w' => e = .returned (.bool (idx n)) ∧ w = w' := by
  by_cases h1 : -1000000 ≤ n
  · have E1 := Lib.hid (show idx n = decide (n ≤ 1000000) by unfold idx; simp [h1])
    go_enter Try.func62, Try.ntmps62
    go_wp2
    go_ret
    exact ⟨by rw [E1.out]; rfl, rfl⟩
  · have E1 := Lib.hid (show idx n = false by unfold idx; simp [h1])
    have h1' : n < -1000000 := by omega
    clear h1
    go_enter Try.func62, Try.ntmps62
    go_wp2
    go_ret
    exact ⟨by rw [E1.out]; rfl, rfl⟩
theorem rng_idx (n : Int) (w : World) : Calls Try.prog 40 #[.int .i64 n, .int .i64 (-1000000), .int .i64 1000000] w fun e w' => e = .returned (.bool (idx n)) ∧ w = w' := inRange_any n (-1000000) 1000000 w
set_option maxHeartbeats 4000000 in
theorem validCut_any (f t s : Int) (hf ht : Bool) (w : World) : Calls Try.prog 44 #[.agg (cutC f t s hf ht)] w fun e w' => e = .returned (.bool (okC f t s hf ht)) ∧ Below w.heap.size w w' := by
  unfold cutC
  cases h1 : idx f with
  | false =>
    have HE := Lib.hid (show okC f t s hf ht = false by unfold okC; simp [h1])
    have H1 := Lib.hid h1
    clear h1
    go_enter Try.func44, Try.ntmps44
    go_wp2_with (first | (go_at_call 40; refine (rng_idx _ _).mono ?_; rintro e w' ⟨rfl, rfl⟩; (first | rw [H1.out] | rw [H2.out] | rw [H3.out])))
    go_ret
    exact ⟨by rw [HE.out]; rfl, (Below.refl _ _).alloc (Nat.le_refl _) _⟩
  | true =>
    cases h2 : idx t with
    | false =>
      have HE := Lib.hid (show okC f t s hf ht = false by unfold okC; simp [h1, h2])
      have H1 := Lib.hid h1
      have H2 := Lib.hid h2
      clear h1 h2
      go_enter Try.func44, Try.ntmps44
      go_wp2_with (first | (go_at_call 40; refine (rng_idx _ _).mono ?_; rintro e w' ⟨rfl, rfl⟩; (first | rw [H1.out] | rw [H2.out] | rw [H3.out])))
      go_ret
      exact ⟨by rw [HE.out]; rfl, (Below.refl _ _).alloc (Nat.le_refl _) _⟩
    | true =>
      cases h3 : idx s with
      | false =>
        have HE := Lib.hid (show okC f t s hf ht = false by unfold okC; simp [h1, h2, h3])
        have H1 := Lib.hid h1
        have H2 := Lib.hid h2
        have H3 := Lib.hid h3
        clear h1 h2 h3
        go_enter Try.func44, Try.ntmps44
        go_wp2_with (first | (go_at_call 40; refine (rng_idx _ _).mono ?_; rintro e w' ⟨rfl, rfl⟩; (first | rw [H1.out] | rw [H2.out] | rw [H3.out])))
        go_ret
        exact ⟨by rw [HE.out]; rfl, (Below.refl _ _).alloc (Nat.le_refl _) _⟩
      | true =>
        cases h4 : (s == 0) with
        | true =>
          have h4' : (s != 0) = false := by rw [bne, h4]; rfl
          have HE := Lib.hid (show okC f t s hf ht = false by unfold okC; simp [h1, h2, h3, h4'])
          have H1 := Lib.hid h1
          have H2 := Lib.hid h2
          have H3 := Lib.hid h3
          clear h1 h2 h3
          go_enter Try.func44, Try.ntmps44
          go_wp2_with (first | (go_at_call 40; refine (rng_idx _ _).mono ?_; rintro e w' ⟨rfl, rfl⟩; (first | rw [H1.out] | rw [H2.out] | rw [H3.out])))
          go_ret
          exact ⟨by rw [HE.out]; rfl, (Below.refl _ _).alloc (Nat.le_refl _) _⟩
        | false =>
          have h4' : (s != 0) = true := by rw [bne, h4]; rfl
          cases hf with
          | true =>
            cases ht with
            | true =>
              have HE := Lib.hid (show okC f t s true true = true by unfold okC; simp [h1, h2, h3, h4'])
              have H1 := Lib.hid h1
              have H2 := Lib.hid h2
              have H3 := Lib.hid h3
              clear h1 h2 h3
              go_enter Try.func44, Try.ntmps44
              go_wp2_with (first | (go_at_call 40; refine (rng_idx _ _).mono ?_; rintro e w' ⟨rfl, rfl⟩; (first | rw [H1.out] | rw [H2.out] | rw [H3.out])))
              go_ret
              exact ⟨by rw [HE.out]; rfl, (Below.refl _ _).alloc (Nat.le_refl _) _⟩
            | false =>
              cases h6 : (t == 0) with
              | true =>
                have HE := Lib.hid (show okC f t s true false = true by unfold okC; simp [h1, h2, h3, h4', h6])
                have H1 := Lib.hid h1
                have H2 := Lib.hid h2
                have H3 := Lib.hid h3
                clear h1 h2 h3
                go_enter Try.func44, Try.ntmps44
                go_wp2_with (first | (go_at_call 40; refine (rng_idx _ _).mono ?_; rintro e w' ⟨rfl, rfl⟩; (first | rw [H1.out] | rw [H2.out] | rw [H3.out])))
                go_ret
                exact ⟨by rw [HE.out]; rfl, (Below.refl _ _).alloc (Nat.le_refl _) _⟩
              | false =>
                have HE := Lib.hid (show okC f t s true false = false by unfold okC; simp [h1, h2, h3, h4', h6])
                have H1 := Lib.hid h1
                have H2 := Lib.hid h2
                have H3 := Lib.hid h3
                clear h1 h2 h3
                go_enter Try.func44, Try.ntmps44
                go_wp2_with (first | (go_at_call 40; refine (rng_idx _ _).mono ?_; rintro e w' ⟨rfl, rfl⟩; (first | rw [H1.out] | rw [H2.out] | rw [H3.out])))
                go_ret
                exact ⟨by rw [HE.out]; rfl, (Below.refl _ _).alloc (Nat.le_refl _) _⟩
          | false =>
            cases h5 : (f == 0) with
            | true =>
              cases ht with
              | true =>
                have HE := Lib.hid (show okC f t s false true = true by unfold okC; simp [h1, h2, h3, h4', h5])
                have H1 := Lib.hid h1
                have H2 := Lib.hid h2
                have H3 := Lib.hid h3
                clear h1 h2 h3
                go_enter Try.func44, Try.ntmps44
                go_wp2_with (first | (go_at_call 40; refine (rng_idx _ _).mono ?_; rintro e w' ⟨rfl, rfl⟩; (first | rw [H1.out] | rw [H2.out] | rw [H3.out])))
                go_ret
                exact ⟨by rw [HE.out]; rfl, (Below.refl _ _).alloc (Nat.le_refl _) _⟩
              | false =>
                cases h6 : (t == 0) with
                | true =>
                  have HE := Lib.hid (show okC f t s false false = true by unfold okC; simp [h1, h2, h3, h4', h5, h6])
                  have H1 := Lib.hid h1
                  have H2 := Lib.hid h2
                  have H3 := Lib.hid h3
                  clear h1 h2 h3
                  go_enter Try.func44, Try.ntmps44
                  go_wp2_with (first | (go_at_call 40; refine (rng_idx _ _).mono ?_; rintro e w' ⟨rfl, rfl⟩; (first | rw [H1.out] | rw [H2.out] | rw [H3.out])))
                  go_ret
                  exact ⟨by rw [HE.out]; rfl, (Below.refl _ _).alloc (Nat.le_refl _) _⟩
                | false =>
                  have HE := Lib.hid (show okC f t s false false = false by unfold okC; simp [h1, h2, h3, h4', h5, h6])
                  have H1 := Lib.hid h1
                  have H2 := Lib.hid h2
                  have H3 := Lib.hid h3
                  clear h1 h2 h3
                  go_enter Try.func44, Try.ntmps44
                  go_wp2_with (first | (go_at_call 40; refine (rng_idx _ _).mono ?_; rintro e w' ⟨rfl, rfl⟩; (first | rw [H1.out] | rw [H2.out] | rw [H3.out])))
                  go_ret
                  exact ⟨by rw [HE.out]; rfl, (Below.refl _ _).alloc (Nat.le_refl _) _⟩
            | false =>
              have HE := Lib.hid (show okC f t s false ht = false by unfold okC; simp [h1, h2, h3, h4', h5])
              have H1 := Lib.hid h1
              have H2 := Lib.hid h2
              have H3 := Lib.hid h3
              clear h1 h2 h3
              go_enter Try.func44, Try.ntmps44
              go_wp2_with (first | (go_at_call 40; refine (rng_idx _ _).mono ?_; rintro e w' ⟨rfl, rfl⟩; (first | rw [H1.out] | rw [H2.out] | rw [H3.out])))
              go_ret
              exact ⟨by rw [HE.out]; rfl, (Below.refl _ _).alloc (Nat.le_refl _) _⟩
set_option maxHeartbeats 4000000 in
theorem cutOk_any (f t s : Int) (hf ht : Bool) (w : World) : Calls Try.prog 46 #[.agg (cutC f t s hf ht)] w fun e w' => e = .returned (.bool (okC f t s hf ht)) ∧ Below w.heap.size w w' := by
  unfold cutC
  cases h1 : idx f with
  | false =>
    have HE := Lib.hid (show okC f t s hf ht = false by unfold okC; simp [h1])
    have H1 := Lib.hid h1
    clear h1
    go_enter Try.func46, Try.ntmps46
    go_wp2_with (first | (go_at_call 62; refine (isIndex_any _ _).mono ?_; rintro e w' ⟨rfl, rfl⟩; (first | rw [H1.out] | rw [H2.out] | rw [H3.out])))
    go_ret
    exact ⟨by rw [HE.out]; rfl, (Below.refl _ _).alloc (Nat.le_refl _) _⟩
  | true =>
    cases h2 : idx t with
    | false =>
      have HE := Lib.hid (show okC f t s hf ht = false by unfold okC; simp [h1, h2])
      have H1 := Lib.hid h1
      have H2 := Lib.hid h2
      clear h1 h2
      go_enter Try.func46, Try.ntmps46
      go_wp2_with (first | (go_at_call 62; refine (isIndex_any _ _).mono ?_; rintro e w' ⟨rfl, rfl⟩; (first | rw [H1.out] | rw [H2.out] | rw [H3.out])))
      go_ret
      exact ⟨by rw [HE.out]; rfl, (Below.refl _ _).alloc (Nat.le_refl _) _⟩
    | true =>
      cases h3 : idx s with
      | false =>
        have HE := Lib.hid (show okC f t s hf ht = false by unfold okC; simp [h1, h2, h3])
        have H1 := Lib.hid h1
        have H2 := Lib.hid h2
        have H3 := Lib.hid h3
        clear h1 h2 h3
        go_enter Try.func46, Try.ntmps46
        go_wp2_with (first | (go_at_call 62; refine (isIndex_any _ _).mono ?_; rintro e w' ⟨rfl, rfl⟩; (first | rw [H1.out] | rw [H2.out] | rw [H3.out])))
        go_ret
        exact ⟨by rw [HE.out]; rfl, (Below.refl _ _).alloc (Nat.le_refl _) _⟩
      | true =>
        cases h4 : (s == 0) with
        | true =>
          have h4' : (s != 0) = false := by rw [bne, h4]; rfl
          have HE := Lib.hid (show okC f t s hf ht = false by unfold okC; simp [h1, h2, h3, h4'])
          have H1 := Lib.hid h1
          have H2 := Lib.hid h2
          have H3 := Lib.hid h3
          clear h1 h2 h3
          go_enter Try.func46, Try.ntmps46
          go_wp2_with (first | (go_at_call 62; refine (isIndex_any _ _).mono ?_; rintro e w' ⟨rfl, rfl⟩; (first | rw [H1.out] | rw [H2.out] | rw [H3.out])))
          go_ret
          exact ⟨by rw [HE.out]; rfl, (Below.refl _ _).alloc (Nat.le_refl _) _⟩
        | false =>
          have h4' : (s != 0) = true := by rw [bne, h4]; rfl
          cases hf with
          | true =>
            cases ht with
            | true =>
              have HE := Lib.hid (show okC f t s true true = true by unfold okC; simp [h1, h2, h3, h4'])
              have H1 := Lib.hid h1
              have H2 := Lib.hid h2
              have H3 := Lib.hid h3
              clear h1 h2 h3
              go_enter Try.func46, Try.ntmps46
              go_wp2_with (first | (go_at_call 62; refine (isIndex_any _ _).mono ?_; rintro e w' ⟨rfl, rfl⟩; (first | rw [H1.out] | rw [H2.out] | rw [H3.out])))
              go_ret
              exact ⟨by rw [HE.out]; rfl, (Below.refl _ _).alloc (Nat.le_refl _) _⟩
            | false =>
              cases h6 : (t == 0) with
              | true =>
                have HE := Lib.hid (show okC f t s true false = true by unfold okC; simp [h1, h2, h3, h4', h6])
                have H1 := Lib.hid h1
                have H2 := Lib.hid h2
                have H3 := Lib.hid h3
                clear h1 h2 h3
                go_enter Try.func46, Try.ntmps46
                go_wp2_with (first | (go_at_call 62; refine (isIndex_any _ _).mono ?_; rintro e w' ⟨rfl, rfl⟩; (first | rw [H1.out] | rw [H2.out] | rw [H3.out])))
                go_ret
                exact ⟨by rw [HE.out]; rfl, (Below.refl _ _).alloc (Nat.le_refl _) _⟩
              | false =>
                have HE := Lib.hid (show okC f t s true false = false by unfold okC; simp [h1, h2, h3, h4', h6])
                have H1 := Lib.hid h1
                have H2 := Lib.hid h2
                have H3 := Lib.hid h3
                clear h1 h2 h3
                go_enter Try.func46, Try.ntmps46
                go_wp2_with (first | (go_at_call 62; refine (isIndex_any _ _).mono ?_; rintro e w' ⟨rfl, rfl⟩; (first | rw [H1.out] | rw [H2.out] | rw [H3.out])))
                go_ret
                exact ⟨by rw [HE.out]; rfl, (Below.refl _ _).alloc (Nat.le_refl _) _⟩
          | false =>
            cases h5 : (f == 0) with
            | true =>
              cases ht with
              | true =>
                have HE := Lib.hid (show okC f t s false true = true by unfold okC; simp [h1, h2, h3, h4', h5])
                have H1 := Lib.hid h1
                have H2 := Lib.hid h2
                have H3 := Lib.hid h3
                clear h1 h2 h3
                go_enter Try.func46, Try.ntmps46
                go_wp2_with (first | (go_at_call 62; refine (isIndex_any _ _).mono ?_; rintro e w' ⟨rfl, rfl⟩; (first | rw [H1.out] | rw [H2.out] | rw [H3.out])))
                go_ret
                exact ⟨by rw [HE.out]; rfl, (Below.refl _ _).alloc (Nat.le_refl _) _⟩
              | false =>
                cases h6 : (t == 0) with
                | true =>
                  have HE := Lib.hid (show okC f t s false false = true by unfold okC; simp [h1, h2, h3, h4', h5, h6])
                  have H1 := Lib.hid h1
                  have H2 := Lib.hid h2
                  have H3 := Lib.hid h3
                  clear h1 h2 h3
                  go_enter Try.func46, Try.ntmps46
                  go_wp2_with (first | (go_at_call 62; refine (isIndex_any _ _).mono ?_; rintro e w' ⟨rfl, rfl⟩; (first | rw [H1.out] | rw [H2.out] | rw [H3.out])))
                  go_ret
                  exact ⟨by rw [HE.out]; rfl, (Below.refl _ _).alloc (Nat.le_refl _) _⟩
                | false =>
                  have HE := Lib.hid (show okC f t s false false = false by unfold okC; simp [h1, h2, h3, h4', h5, h6])
                  have H1 := Lib.hid h1
                  have H2 := Lib.hid h2
                  have H3 := Lib.hid h3
                  clear h1 h2 h3
                  go_enter Try.func46, Try.ntmps46
                  go_wp2_with (first | (go_at_call 62; refine (isIndex_any _ _).mono ?_; rintro e w' ⟨rfl, rfl⟩; (first | rw [H1.out] | rw [H2.out] | rw [H3.out])))
                  go_ret
                  exact ⟨by rw [HE.out]; rfl, (Below.refl _ _).alloc (Nat.le_refl _) _⟩
            | false =>
              have HE := Lib.hid (show okC f t s false ht = false by unfold okC; simp [h1, h2, h3, h4', h5])
              have H1 := Lib.hid h1
              have H2 := Lib.hid h2
              have H3 := Lib.hid h3
              clear h1 h2 h3
              go_enter Try.func46, Try.ntmps46
              go_wp2_with (first | (go_at_call 62; refine (isIndex_any _ _).mono ?_; rintro e w' ⟨rfl, rfl⟩; (first | rw [H1.out] | rw [H2.out] | rw [H3.out])))
              go_ret
              exact ⟨by rw [HE.out]; rfl, (Below.refl _ _).alloc (Nat.le_refl _) _⟩
end Go.Proofs.Ytbcphejblopekaa
