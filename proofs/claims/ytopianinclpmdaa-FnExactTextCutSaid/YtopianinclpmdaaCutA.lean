/- Slices as values: the law's struct made the program's; which ones are valid. -/
import Derived.Test.YtopianinclpmdaaAt
namespace Go.Proofs.Ytopianinclpmdaa
open Go.RowKit
/-- The cells of a slice. -/
def cutC (f t s : Int) (hf ht : Bool) : Array Value := #[.int .i64 f, .int .i64 t, .int .i64 s, .bool hf, .bool ht]
set_option maxHeartbeats 1000000 in
theorem toCut_any (f t s : Int) (hf ht : Bool) (w : World) : Calls Try.prog 16 #[.agg (cutC f t s hf ht)] w fun e w' => e = .returned (.agg (cutC f t s hf ht)) ∧ Below w.heap.size w w' := by
  unfold cutC
  go_enter Try.func16, Try.ntmps16
  go_wp2
  refine bodyPost_ret (v := .agg #[.int .i64 f, .int .i64 t, .int .i64 s, .bool hf, .bool ht]) ?_ rfl ⟨rfl, (((Below.refl _ _).alloc (Nat.le_refl _) _).alloc (by simp) _).alloc (by simp; omega) _⟩
  exact results_cell_row rfl _ _ (w.heap.size + 1) 25 #[.int .i64 f, .int .i64 t, .int .i64 s, .bool hf, .bool ht] (0, 0) _ rfl ((Blk.new _ _ _ (by simp)).alloc _) Try.underlying25 rfl (by kernel_rfl)
def idx (n : Int) : Bool := decide (-1000000 ≤ n) && decide (n ≤ 1000000)
theorem idx_iff (n : Int) : idx n = true ↔ -1000000 ≤ n ∧ n ≤ 1000000 := by unfold idx; simp
/-- A slice is valid. -/
def okC (f t s : Int) (hf ht : Bool) : Bool := idx f && idx t && idx s && (s != 0) && (hf || (f == 0)) && (ht || (t == 0))
set_option maxHeartbeats 400000 in
theorem isIndex_any (n : Int) (w : World) : Calls Try.prog 41 #[.int .i64 n] w fun e w' => e = .returned (.bool (idx n)) ∧ w = w' := by
  by_cases h1 : -1000000 ≤ n
  · have E1 := Lib.hid (show idx n = decide (n ≤ 1000000) by unfold idx; simp [h1])
    go_enter Try.func41, Try.ntmps41
    go_wp2
    go_ret
    exact ⟨by rw [E1.out]; rfl, rfl⟩
  · have E1 := Lib.hid (show idx n = false by unfold idx; simp [h1])
    have h1' : n < -1000000 := by omega
    clear h1
    go_enter Try.func41, Try.ntmps41
    go_wp2
    go_ret
    exact ⟨by rw [E1.out]; rfl, rfl⟩
theorem rng_idx (n : Int) (w : World) : Calls Try.prog 42 #[.int .i64 n, .int .i64 (-1000000), .int .i64 1000000] w fun e w' => e = .returned (.bool (idx n)) ∧ w = w' := inRange_any n (-1000000) 1000000 w
set_option maxHeartbeats 4000000 in
theorem validCut_any (f t s : Int) (hf ht : Bool) (w : World) : Calls Try.prog 40 #[.agg (cutC f t s hf ht)] w fun e w' => e = .returned (.bool (okC f t s hf ht)) ∧ Below w.heap.size w w' := by
  unfold cutC
  cases h1 : idx f with
  | false =>
    have HE := Lib.hid (show okC f t s hf ht = false by unfold okC; simp [h1])
    have H1 := Lib.hid h1
    clear h1
    go_enter Try.func40, Try.ntmps40
    go_wp2_with (first | (go_at_call 42; refine (rng_idx _ _).mono ?_; rintro e w' ⟨rfl, rfl⟩; (first | rw [H1.out] | rw [H2.out] | rw [H3.out])))
    go_ret
    exact ⟨by rw [HE.out]; rfl, (Below.refl _ _).alloc (Nat.le_refl _) _⟩
  | true =>
    cases h2 : idx t with
    | false =>
      have HE := Lib.hid (show okC f t s hf ht = false by unfold okC; simp [h1, h2])
      have H1 := Lib.hid h1
      have H2 := Lib.hid h2
      clear h1 h2
      go_enter Try.func40, Try.ntmps40
      go_wp2_with (first | (go_at_call 42; refine (rng_idx _ _).mono ?_; rintro e w' ⟨rfl, rfl⟩; (first | rw [H1.out] | rw [H2.out] | rw [H3.out])))
      go_ret
      exact ⟨by rw [HE.out]; rfl, (Below.refl _ _).alloc (Nat.le_refl _) _⟩
    | true =>
      cases h3 : idx s with
      | false =>
        have HE := Lib.hid (show okC f t s hf ht = false by unfold okC; simp [h1, h2, h3])
        have H1 := Lib.hid h1
        have H2 := Lib.hid h2
        have H3 := Lib.hid h3
        clear h1 h2 h3
        go_enter Try.func40, Try.ntmps40
        go_wp2_with (first | (go_at_call 42; refine (rng_idx _ _).mono ?_; rintro e w' ⟨rfl, rfl⟩; (first | rw [H1.out] | rw [H2.out] | rw [H3.out])))
        go_ret
        exact ⟨by rw [HE.out]; rfl, (Below.refl _ _).alloc (Nat.le_refl _) _⟩
      | true =>
        cases h4 : (s == 0) with
        | true =>
          have h4' : (s != 0) = false := by rw [bne, h4]; rfl
          have HE := Lib.hid (show okC f t s hf ht = false by unfold okC; simp [h1, h2, h3, h4'])
          have H1 := Lib.hid h1
          have H2 := Lib.hid h2
          have H3 := Lib.hid h3
          clear h1 h2 h3
          go_enter Try.func40, Try.ntmps40
          go_wp2_with (first | (go_at_call 42; refine (rng_idx _ _).mono ?_; rintro e w' ⟨rfl, rfl⟩; (first | rw [H1.out] | rw [H2.out] | rw [H3.out])))
          go_ret
          exact ⟨by rw [HE.out]; rfl, (Below.refl _ _).alloc (Nat.le_refl _) _⟩
        | false =>
          have h4' : (s != 0) = true := by rw [bne, h4]; rfl
          cases hf with
          | true =>
            cases ht with
            | true =>
              have HE := Lib.hid (show okC f t s true true = true by unfold okC; simp [h1, h2, h3, h4'])
              have H1 := Lib.hid h1
              have H2 := Lib.hid h2
              have H3 := Lib.hid h3
              clear h1 h2 h3
              go_enter Try.func40, Try.ntmps40
              go_wp2_with (first | (go_at_call 42; refine (rng_idx _ _).mono ?_; rintro e w' ⟨rfl, rfl⟩; (first | rw [H1.out] | rw [H2.out] | rw [H3.out])))
              go_ret
              exact ⟨by rw [HE.out]; rfl, (Below.refl _ _).alloc (Nat.le_refl _) _⟩
            | false =>
              cases h6 : (t == 0) with
              | true =>
                have HE := Lib.hid (show okC f t s true false = true by unfold okC; simp [h1, h2, h3, h4', h6])
                have H1 := Lib.hid h1
                have H2 := Lib.hid h2
                have H3 := Lib.hid h3
                clear h1 h2 h3
                go_enter Try.func40, Try.ntmps40
                go_wp2_with (first | (go_at_call 42; refine (rng_idx _ _).mono ?_; rintro e w' ⟨rfl, rfl⟩; (first | rw [H1.out] | rw [H2.out] | rw [H3.out])))
                go_ret
                exact ⟨by rw [HE.out]; rfl, (Below.refl _ _).alloc (Nat.le_refl _) _⟩
              | false =>
                have HE := Lib.hid (show okC f t s true false = false by unfold okC; simp [h1, h2, h3, h4', h6])
                have H1 := Lib.hid h1
                have H2 := Lib.hid h2
                have H3 := Lib.hid h3
                clear h1 h2 h3
                go_enter Try.func40, Try.ntmps40
                go_wp2_with (first | (go_at_call 42; refine (rng_idx _ _).mono ?_; rintro e w' ⟨rfl, rfl⟩; (first | rw [H1.out] | rw [H2.out] | rw [H3.out])))
                go_ret
                exact ⟨by rw [HE.out]; rfl, (Below.refl _ _).alloc (Nat.le_refl _) _⟩
          | false =>
            cases h5 : (f == 0) with
            | true =>
              cases ht with
              | true =>
                have HE := Lib.hid (show okC f t s false true = true by unfold okC; simp [h1, h2, h3, h4', h5])
                have H1 := Lib.hid h1
                have H2 := Lib.hid h2
                have H3 := Lib.hid h3
                clear h1 h2 h3
                go_enter Try.func40, Try.ntmps40
                go_wp2_with (first | (go_at_call 42; refine (rng_idx _ _).mono ?_; rintro e w' ⟨rfl, rfl⟩; (first | rw [H1.out] | rw [H2.out] | rw [H3.out])))
                go_ret
                exact ⟨by rw [HE.out]; rfl, (Below.refl _ _).alloc (Nat.le_refl _) _⟩
              | false =>
                cases h6 : (t == 0) with
                | true =>
                  have HE := Lib.hid (show okC f t s false false = true by unfold okC; simp [h1, h2, h3, h4', h5, h6])
                  have H1 := Lib.hid h1
                  have H2 := Lib.hid h2
                  have H3 := Lib.hid h3
                  clear h1 h2 h3
                  go_enter Try.func40, Try.ntmps40
                  go_wp2_with (first | (go_at_call 42; refine (rng_idx _ _).mono ?_; rintro e w' ⟨rfl, rfl⟩; (first | rw [H1.out] | rw [H2.out] | rw [H3.out])))
                  go_ret
                  exact ⟨by rw [HE.out]; rfl, (Below.refl _ _).alloc (Nat.le_refl _) _⟩
                | false =>
                  have HE := Lib.hid (show okC f t s false false = false by unfold okC; simp [h1, h2, h3, h4', h5, h6])
                  have H1 := Lib.hid h1
                  have H2 := Lib.hid h2
                  have H3 := Lib.hid h3
                  clear h1 h2 h3
                  go_enter Try.func40, Try.ntmps40
                  go_wp2_with (first | (go_at_call 42; refine (rng_idx _ _).mono ?_; rintro e w' ⟨rfl, rfl⟩; (first | rw [H1.out] | rw [H2.out] | rw [H3.out])))
                  go_ret
                  exact ⟨by rw [HE.out]; rfl, (Below.refl _ _).alloc (Nat.le_refl _) _⟩
            | false =>
              have HE := Lib.hid (show okC f t s false ht = false by unfold okC; simp [h1, h2, h3, h4', h5])
              have H1 := Lib.hid h1
              have H2 := Lib.hid h2
              have H3 := Lib.hid h3
              clear h1 h2 h3
              go_enter Try.func40, Try.ntmps40
              go_wp2_with (first | (go_at_call 42; refine (rng_idx _ _).mono ?_; rintro e w' ⟨rfl, rfl⟩; (first | rw [H1.out] | rw [H2.out] | rw [H3.out])))
              go_ret
              exact ⟨by rw [HE.out]; rfl, (Below.refl _ _).alloc (Nat.le_refl _) _⟩
set_option maxHeartbeats 4000000 in
theorem cutOk_any (f t s : Int) (hf ht : Bool) (w : World) : Calls Try.prog 17 #[.agg (cutC f t s hf ht)] w fun e w' => e = .returned (.bool (okC f t s hf ht)) ∧ Below w.heap.size w w' := by
  unfold cutC
  cases h1 : idx f with
  | false =>
    have HE := Lib.hid (show okC f t s hf ht = false by unfold okC; simp [h1])
    have H1 := Lib.hid h1
    clear h1
    go_enter Try.func17, Try.ntmps17
    go_wp2_with (first | (go_at_call 41; refine (isIndex_any _ _).mono ?_; rintro e w' ⟨rfl, rfl⟩; (first | rw [H1.out] | rw [H2.out] | rw [H3.out])))
    go_ret
    exact ⟨by rw [HE.out]; rfl, (Below.refl _ _).alloc (Nat.le_refl _) _⟩
  | true =>
    cases h2 : idx t with
    | false =>
      have HE := Lib.hid (show okC f t s hf ht = false by unfold okC; simp [h1, h2])
      have H1 := Lib.hid h1
      have H2 := Lib.hid h2
      clear h1 h2
      go_enter Try.func17, Try.ntmps17
      go_wp2_with (first | (go_at_call 41; refine (isIndex_any _ _).mono ?_; rintro e w' ⟨rfl, rfl⟩; (first | rw [H1.out] | rw [H2.out] | rw [H3.out])))
      go_ret
      exact ⟨by rw [HE.out]; rfl, (Below.refl _ _).alloc (Nat.le_refl _) _⟩
    | true =>
      cases h3 : idx s with
      | false =>
        have HE := Lib.hid (show okC f t s hf ht = false by unfold okC; simp [h1, h2, h3])
        have H1 := Lib.hid h1
        have H2 := Lib.hid h2
        have H3 := Lib.hid h3
        clear h1 h2 h3
        go_enter Try.func17, Try.ntmps17
        go_wp2_with (first | (go_at_call 41; refine (isIndex_any _ _).mono ?_; rintro e w' ⟨rfl, rfl⟩; (first | rw [H1.out] | rw [H2.out] | rw [H3.out])))
        go_ret
        exact ⟨by rw [HE.out]; rfl, (Below.refl _ _).alloc (Nat.le_refl _) _⟩
      | true =>
        cases h4 : (s == 0) with
        | true =>
          have h4' : (s != 0) = false := by rw [bne, h4]; rfl
          have HE := Lib.hid (show okC f t s hf ht = false by unfold okC; simp [h1, h2, h3, h4'])
          have H1 := Lib.hid h1
          have H2 := Lib.hid h2
          have H3 := Lib.hid h3
          clear h1 h2 h3
          go_enter Try.func17, Try.ntmps17
          go_wp2_with (first | (go_at_call 41; refine (isIndex_any _ _).mono ?_; rintro e w' ⟨rfl, rfl⟩; (first | rw [H1.out] | rw [H2.out] | rw [H3.out])))
          go_ret
          exact ⟨by rw [HE.out]; rfl, (Below.refl _ _).alloc (Nat.le_refl _) _⟩
        | false =>
          have h4' : (s != 0) = true := by rw [bne, h4]; rfl
          cases hf with
          | true =>
            cases ht with
            | true =>
              have HE := Lib.hid (show okC f t s true true = true by unfold okC; simp [h1, h2, h3, h4'])
              have H1 := Lib.hid h1
              have H2 := Lib.hid h2
              have H3 := Lib.hid h3
              clear h1 h2 h3
              go_enter Try.func17, Try.ntmps17
              go_wp2_with (first | (go_at_call 41; refine (isIndex_any _ _).mono ?_; rintro e w' ⟨rfl, rfl⟩; (first | rw [H1.out] | rw [H2.out] | rw [H3.out])))
              go_ret
              exact ⟨by rw [HE.out]; rfl, (Below.refl _ _).alloc (Nat.le_refl _) _⟩
            | false =>
              cases h6 : (t == 0) with
              | true =>
                have HE := Lib.hid (show okC f t s true false = true by unfold okC; simp [h1, h2, h3, h4', h6])
                have H1 := Lib.hid h1
                have H2 := Lib.hid h2
                have H3 := Lib.hid h3
                clear h1 h2 h3
                go_enter Try.func17, Try.ntmps17
                go_wp2_with (first | (go_at_call 41; refine (isIndex_any _ _).mono ?_; rintro e w' ⟨rfl, rfl⟩; (first | rw [H1.out] | rw [H2.out] | rw [H3.out])))
                go_ret
                exact ⟨by rw [HE.out]; rfl, (Below.refl _ _).alloc (Nat.le_refl _) _⟩
              | false =>
                have HE := Lib.hid (show okC f t s true false = false by unfold okC; simp [h1, h2, h3, h4', h6])
                have H1 := Lib.hid h1
                have H2 := Lib.hid h2
                have H3 := Lib.hid h3
                clear h1 h2 h3
                go_enter Try.func17, Try.ntmps17
                go_wp2_with (first | (go_at_call 41; refine (isIndex_any _ _).mono ?_; rintro e w' ⟨rfl, rfl⟩; (first | rw [H1.out] | rw [H2.out] | rw [H3.out])))
                go_ret
                exact ⟨by rw [HE.out]; rfl, (Below.refl _ _).alloc (Nat.le_refl _) _⟩
          | false =>
            cases h5 : (f == 0) with
            | true =>
              cases ht with
              | true =>
                have HE := Lib.hid (show okC f t s false true = true by unfold okC; simp [h1, h2, h3, h4', h5])
                have H1 := Lib.hid h1
                have H2 := Lib.hid h2
                have H3 := Lib.hid h3
                clear h1 h2 h3
                go_enter Try.func17, Try.ntmps17
                go_wp2_with (first | (go_at_call 41; refine (isIndex_any _ _).mono ?_; rintro e w' ⟨rfl, rfl⟩; (first | rw [H1.out] | rw [H2.out] | rw [H3.out])))
                go_ret
                exact ⟨by rw [HE.out]; rfl, (Below.refl _ _).alloc (Nat.le_refl _) _⟩
              | false =>
                cases h6 : (t == 0) with
                | true =>
                  have HE := Lib.hid (show okC f t s false false = true by unfold okC; simp [h1, h2, h3, h4', h5, h6])
                  have H1 := Lib.hid h1
                  have H2 := Lib.hid h2
                  have H3 := Lib.hid h3
                  clear h1 h2 h3
                  go_enter Try.func17, Try.ntmps17
                  go_wp2_with (first | (go_at_call 41; refine (isIndex_any _ _).mono ?_; rintro e w' ⟨rfl, rfl⟩; (first | rw [H1.out] | rw [H2.out] | rw [H3.out])))
                  go_ret
                  exact ⟨by rw [HE.out]; rfl, (Below.refl _ _).alloc (Nat.le_refl _) _⟩
                | false =>
                  have HE := Lib.hid (show okC f t s false false = false by unfold okC; simp [h1, h2, h3, h4', h5, h6])
                  have H1 := Lib.hid h1
                  have H2 := Lib.hid h2
                  have H3 := Lib.hid h3
                  clear h1 h2 h3
                  go_enter Try.func17, Try.ntmps17
                  go_wp2_with (first | (go_at_call 41; refine (isIndex_any _ _).mono ?_; rintro e w' ⟨rfl, rfl⟩; (first | rw [H1.out] | rw [H2.out] | rw [H3.out])))
                  go_ret
                  exact ⟨by rw [HE.out]; rfl, (Below.refl _ _).alloc (Nat.le_refl _) _⟩
            | false =>
              have HE := Lib.hid (show okC f t s false ht = false by unfold okC; simp [h1, h2, h3, h4', h5])
              have H1 := Lib.hid h1
              have H2 := Lib.hid h2
              have H3 := Lib.hid h3
              clear h1 h2 h3
              go_enter Try.func17, Try.ntmps17
              go_wp2_with (first | (go_at_call 41; refine (isIndex_any _ _).mono ?_; rintro e w' ⟨rfl, rfl⟩; (first | rw [H1.out] | rw [H2.out] | rw [H3.out])))
              go_ret
              exact ⟨by rw [HE.out]; rfl, (Below.refl _ _).alloc (Nat.le_refl _) _⟩
set_option maxHeartbeats 1000000 in
theorem specCutOk_any (f t s : Int) (hf ht : Bool) (w : World) : Calls Try.prog 15 #[.agg (cutC f t s hf ht)] w fun e w' => e = .returned (.bool (okC f t s hf ht)) ∧ Below w.heap.size w w' := by
  have HV := Lib.hid (fun w => validCut_any f t s hf ht w)
  have HB := Lib.hid (show Below w.heap.size w (w.alloc (Obj.cells (cutC f t s hf ht) 25)) from (Below.refl _ _).alloc (Nat.le_refl _) _)
  generalize okC f t s hf ht = b at HV ⊢
  unfold cutC at *
  go_enter Try.func15, Try.ntmps15
  go_wp2_with fail
  refine (HV.out _).mono ?_
  rintro e w2 ⟨rfl, hb2⟩
  have HB2 := Lib.hid (HB.out.trans (hb2.mono HB.out.size))
  clear hb2
  go_wp2_with fail
  go_ret
  exact ⟨rfl, HB2.out⟩
set_option maxHeartbeats 1000000 in
theorem exactCutOk_walk (f t s : Int) (hf ht : Bool) (_wf : (Lit.int .i64 f).wf = true) (_wt : (Lit.int .i64 t).wf = true) (_ws : (Lit.int .i64 s).wf = true) (w : World) :
    Calls Try.prog 3 #[.agg (cutC f t s hf ht)] w fun e w' => e = .returned (.bool true) ∧ Below w.heap.size w w' := by
  have HT := Lib.hid (fun w => toCut_any f t s hf ht w)
  have H1 := Lib.hid (fun w => specCutOk_any f t s hf ht w)
  have H2 := Lib.hid (fun w => cutOk_any f t s hf ht w)
  generalize okC f t s hf ht = b at H1 H2
  unfold cutC at *
  have HX := Lib.hid (show Blk (w.alloc (Obj.cells #[.int .i64 f, .int .i64 t, .int .i64 s, .bool hf, .bool ht] 23)) w.heap.size 23 #[.int .i64 f, .int .i64 t, .int .i64 s, .bool hf, .bool ht] from Blk.new _ _ _ rfl)
  have HB := Lib.hid (show Below w.heap.size w (w.alloc (Obj.cells #[.int .i64 f, .int .i64 t, .int .i64 s, .bool hf, .bool ht] 23)) from (Below.refl _ _).alloc (Nat.le_refl _) _)
  cases b
  all_goals
    go_enter Try.func3, Try.ntmps3
    go_wp2_with fail
    refine (HT.out _).mono ?_
    rintro e w2 ⟨rfl, hb2⟩
    have HX2 := Lib.hid (HX.out.below hb2 HX.out.lt)
    have HB2 := Lib.hid (HB.out.trans (hb2.mono HB.out.size))
    clear hb2
    go_wp2_with fail
    refine (H1.out _).mono ?_
    rintro e w3 ⟨rfl, hb3⟩
    have HX3 := Lib.hid (HX2.out.below hb3 HX2.out.lt)
    have HB3 := Lib.hid (HB2.out.trans (hb3.mono HB2.out.size))
    clear hb3
    have c0 : w3.cell? ⟨w.heap.size, 0, none⟩ = some (.int .i64 f) := HX3.out.cell 0
    have c1 : w3.cell? ⟨w.heap.size, 1, none⟩ = some (.int .i64 t) := HX3.out.cell 1
    have c2 : w3.cell? ⟨w.heap.size, 2, none⟩ = some (.int .i64 s) := HX3.out.cell 2
    have c3 : w3.cell? ⟨w.heap.size, 3, none⟩ = some (.bool hf) := HX3.out.cell 3
    have c4 : w3.cell? ⟨w.heap.size, 4, none⟩ = some (.bool ht) := HX3.out.cell 4
    go_wp2_with fail
    refine (HT.out _).mono ?_
    rintro e w4 ⟨rfl, hb4⟩
    have HB4 := Lib.hid (HB3.out.trans (hb4.mono HB3.out.size))
    clear hb4
    go_wp2_with fail
    refine (H2.out _).mono ?_
    rintro e w5 ⟨rfl, hb5⟩
    have HB5 := Lib.hid (HB4.out.trans (hb5.mono HB4.out.size))
    clear hb5
    go_wp2_with fail
    go_ret
    exact ⟨rfl, HB5.out⟩
end Go.Proofs.Ytopianinclpmdaa
