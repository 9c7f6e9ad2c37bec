/- What a slice selects: the whole functions, the law. -/
import Derived.Test.YtbcphejblopekaaRange
namespace Go.Proofs.Ytbcphejblopekaa
open Go.RowKit
theorem okC_parts {f t s : Int} {hf ht : Bool} (h : okC f t s hf ht = true) : (-1000000 ≤ f ∧ f ≤ 1000000) ∧ (-1000000 ≤ t ∧ t ≤ 1000000) ∧ (-1000000 ≤ s ∧ s ≤ 1000000) ∧ s ≠ 0 := by
  unfold okC at h
  simp only [Bool.and_eq_true, idx_iff, bne_iff_ne] at h
  exact ⟨h.1.1.1.1.1, h.1.1.1.1.2, h.1.1.1.2, h.1.1.2⟩
theorem specCutOf_any (n f t s : Int) (hf ht : Bool) (w : World) (hok : okC f t s hf ht = true) (hn1 : 0 ≤ n) (hn2 : n ≤ 1000000) :
    Calls Try.prog 45 #[.int .i64 n, .agg (cutC f t s hf ht)] w fun e w' => e = .returned (rngV n f t s hf ht) ∧ Below w.heap.size w w' := by
  obtain ⟨⟨hf1, hf2⟩, ⟨ht1, ht2⟩, ⟨hs1, hs2⟩, h0⟩ := okC_parts hok
  by_cases hneg : s < 0
  · obtain ⟨x, rfl⟩ : ∃ x, s = -x := ⟨-s, by omega⟩
    unfold rngV cFrom cTo cLo cHi
    simp only [hneg, if_true]
    cases hf <;> cases ht
    · exact specRN00 n f t x w hn1 hn2 hf1 hf2 ht1 ht2 (by omega) (by omega)
    · exact specRN01 n f t x w hn1 hn2 hf1 hf2 ht1 ht2 (by omega) (by omega)
    · exact specRN10 n f t x w hn1 hn2 hf1 hf2 ht1 ht2 (by omega) (by omega)
    · exact specRN11 n f t x w hn1 hn2 hf1 hf2 ht1 ht2 (by omega) (by omega)
  · unfold rngV cFrom cTo cLo cHi
    simp only [hneg, if_false]
    cases hf <;> cases ht
    · exact specRP00 n f t s w hn1 hn2 hf1 hf2 ht1 ht2 (by omega) (by omega)
    · exact specRP01 n f t s w hn1 hn2 hf1 hf2 ht1 ht2 (by omega) (by omega)
    · exact specRP10 n f t s w hn1 hn2 hf1 hf2 ht1 ht2 (by omega) (by omega)
    · exact specRP11 n f t s w hn1 hn2 hf1 hf2 ht1 ht2 (by omega) (by omega)
theorem implRange_ok (n f t s : Int) (hf ht : Bool) (w : World) (hok : okC f t s hf ht = true) (hn1 : 0 ≤ n) (hn2 : n ≤ 1000000) :
    Calls Try.prog 39 #[.int .i64 n, .agg (cutC f t s hf ht)] w fun e w' => e = .returned (rngV n f t s hf ht) ∧ Below w.heap.size w w' := by
  obtain ⟨⟨hf1, hf2⟩, ⟨ht1, ht2⟩, ⟨hs1, hs2⟩, h0⟩ := okC_parts hok
  by_cases hneg : s < 0
  · obtain ⟨x, rfl⟩ : ∃ x, s = -x := ⟨-s, by omega⟩
    unfold rngV cFrom cTo cLo cHi
    simp only [hneg, if_true]
    cases hf <;> cases ht
    · exact implRN00 n f t x w hn1 hn2 hf1 hf2 ht1 ht2 (by omega) (by omega) hok
    · exact implRN01 n f t x w hn1 hn2 hf1 hf2 ht1 ht2 (by omega) (by omega) hok
    · exact implRN10 n f t x w hn1 hn2 hf1 hf2 ht1 ht2 (by omega) (by omega) hok
    · exact implRN11 n f t x w hn1 hn2 hf1 hf2 ht1 ht2 (by omega) (by omega) hok
  · unfold rngV cFrom cTo cLo cHi
    simp only [hneg, if_false]
    cases hf <;> cases ht
    · exact implRP00 n f t s w hn1 hn2 hf1 hf2 ht1 ht2 (by omega) (by omega) hok
    · exact implRP01 n f t s w hn1 hn2 hf1 hf2 ht1 ht2 (by omega) (by omega) hok
    · exact implRP10 n f t s w hn1 hn2 hf1 hf2 ht1 ht2 (by omega) (by omega) hok
    · exact implRP11 n f t s w hn1 hn2 hf1 hf2 ht1 ht2 (by omega) (by omega) hok
def badV : Value := .tuple #[.int .i64 0, .int .i64 0]
theorem implRange_lo (n f t s : Int) (hf ht : Bool) (w : World) (hn : n < 0) :
    Calls Try.prog 39 #[.int .i64 n, .agg (cutC f t s hf ht)] w fun e w' => e = .returned badV ∧ Below w.heap.size w w' := by
  unfold cutC
  go_enter Try.func39, Try.ntmps39
  go_wp2
  go_ret2
  exact ⟨rfl, (Below.refl _ _).alloc (Nat.le_refl _) _⟩
theorem implRange_hi (n f t s : Int) (hf ht : Bool) (w : World) (hn : 1000000 < n) :
    Calls Try.prog 39 #[.int .i64 n, .agg (cutC f t s hf ht)] w fun e w' => e = .returned badV ∧ Below w.heap.size w w' := by
  have hn0 : 0 ≤ n := by omega
  unfold cutC
  go_enter Try.func39, Try.ntmps39
  go_wp2
  go_ret2
  exact ⟨rfl, (Below.refl _ _).alloc (Nat.le_refl _) _⟩
theorem implRange_no (n f t s : Int) (hf ht : Bool) (w : World) (hok : okC f t s hf ht = false) (hn1 : 0 ≤ n) (hn2 : n ≤ 1000000) :
    Calls Try.prog 39 #[.int .i64 n, .agg (cutC f t s hf ht)] w fun e w' => e = .returned badV ∧ Below w.heap.size w w' := by
  have HK := Lib.hid (fun w => cutOk_any f t s hf ht w)
  rw [hok] at HK
  clear hok
  unfold cutC at *
  have HB := Lib.hid (show Below w.heap.size w (w.alloc (Obj.cells #[.int .i64 f, .int .i64 t, .int .i64 s, .bool hf, .bool ht] 32)) from (Below.refl _ _).alloc (Nat.le_refl _) _)
  go_enter Try.func39, Try.ntmps39
  go_wp2_with (first | (go_at_call 46; refine (HK.out _).mono ?_; rintro e w2 ⟨rfl, hb2⟩; have HB2 := Lib.hid (HB.out.trans (hb2.mono HB.out.size)); clear hb2))
  go_ret2
  exact ⟨rfl, HB2.out⟩
end Go.Proofs.Ytbcphejblopekaa
