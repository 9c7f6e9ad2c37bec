/- What a slice selects: the whole functions, the law. -/
import Derived.Test.YtfmpplolhhjpoaaRange
namespace Go.Proofs.Ytfmpplolhhjpoaa
open Go.RowKit
theorem okC_parts {f t s : Int} {hf ht : Bool} (h : okC f t s hf ht = true) : (-1000000 ≤ f ∧ f ≤ 1000000) ∧ (-1000000 ≤ t ∧ t ≤ 1000000) ∧ (-1000000 ≤ s ∧ s ≤ 1000000) ∧ s ≠ 0 := by
  unfold okC at h
  simp only [Bool.and_eq_true, idx_iff, bne_iff_ne] at h
  exact ⟨h.1.1.1.1.1, h.1.1.1.1.2, h.1.1.1.2, h.1.1.2⟩
theorem specCutOf_any (n f t s : Int) (hf ht : Bool) (w : World) (hok : okC f t s hf ht = true) (hn1 : 0 ≤ n) (hn2 : n ≤ 1000000) :
    Calls Try.prog 62 #[.int .i64 n, .agg (cutC f t s hf ht)] w fun e w' => e = .returned (rngV n f t s hf ht) ∧ Below w.heap.size w w' := by
  obtain ⟨⟨hf1, hf2⟩, ⟨ht1, ht2⟩, ⟨hs1, hs2⟩, h0⟩ := okC_parts hok
  by_cases hneg : s < 0
  · obtain ⟨x, rfl⟩ : ∃ x, s = -x := ⟨-s, by omega⟩
    unfold rngV cFrom cTo cLo cHi
    simp only [hneg, if_true]
    cases hf <;> cases ht
    · exact specRN00 n f t x w hn1 hn2 hf1 hf2 ht1 ht2 (by omega) (by omega)
    · exact specRN01 n f t x w hn1 hn2 hf1 hf2 ht1 ht2 (by omega) (by omega)
    · exact specRN10 n f t x w hn1 hn2 hf1 hf2 ht1 ht2 (by omega) (by omega)
    · exact specRN11 n f t x w hn1 hn2 hf1 hf2 ht1 ht2 (by omega) (by omega)
  · unfold rngV cFrom cTo cLo cHi
    simp only [hneg, if_false]
    cases hf <;> cases ht
    · exact specRP00 n f t s w hn1 hn2 hf1 hf2 ht1 ht2 (by omega) (by omega)
    · exact specRP01 n f t s w hn1 hn2 hf1 hf2 ht1 ht2 (by omega) (by omega)
    · exact specRP10 n f t s w hn1 hn2 hf1 hf2 ht1 ht2 (by omega) (by omega)
    · exact specRP11 n f t s w hn1 hn2 hf1 hf2 ht1 ht2 (by omega) (by omega)
theorem implRange_ok (n f t s : Int) (hf ht : Bool) (w : World) (hok : okC f t s hf ht = true) (hn1 : 0 ≤ n) (hn2 : n ≤ 1000000) :
    Calls Try.prog 27 #[.int .i64 n, .agg (cutC f t s hf ht)] w fun e w' => e = .returned (rngV n f t s hf ht) ∧ Below w.heap.size w w' := by
  obtain ⟨⟨hf1, hf2⟩, ⟨ht1, ht2⟩, ⟨hs1, hs2⟩, h0⟩ := okC_parts hok
  by_cases hneg : s < 0
  · obtain ⟨x, rfl⟩ : ∃ x, s = -x := ⟨-s, by omega⟩
    unfold rngV cFrom cTo cLo cHi
    simp only [hneg, if_true]
    cases hf <;> cases ht
    · exact implRN00 n f t x w hn1 hn2 hf1 hf2 ht1 ht2 (by omega) (by omega) hok
    · exact implRN01 n f t x w hn1 hn2 hf1 hf2 ht1 ht2 (by omega) (by omega) hok
    · exact implRN10 n f t x w hn1 hn2 hf1 hf2 ht1 ht2 (by omega) (by omega) hok
    · exact implRN11 n f t x w hn1 hn2 hf1 hf2 ht1 ht2 (by omega) (by omega) hok
  · unfold rngV cFrom cTo cLo cHi
    simp only [hneg, if_false]
    cases hf <;> cases ht
    · exact implRP00 n f t s w hn1 hn2 hf1 hf2 ht1 ht2 (by omega) (by omega) hok
    · exact implRP01 n f t s w hn1 hn2 hf1 hf2 ht1 ht2 (by omega) (by omega) hok
    · exact implRP10 n f t s w hn1 hn2 hf1 hf2 ht1 ht2 (by omega) (by omega) hok
    · exact implRP11 n f t s w hn1 hn2 hf1 hf2 ht1 ht2 (by omega) (by omega) hok
def badV : Value := .tuple #[.int .i64 0, .int .i64 0]
theorem implRange_lo (n f t s : Int) (hf ht : Bool) (w : World) (hn : n < 0) :
    Calls Try.prog 27 #[.int .i64 n, .agg (cutC f t s hf ht)] w fun e w' => e = .returned badV ∧ Below w.heap.size w w' := by
  unfold cutC
  go_enter Try.func27, Try.ntmps27
  go_wp2
  go_ret2
  exact ⟨rfl, (Below.refl _ _).alloc (Nat.le_refl _) _⟩
theorem implRange_hi (n f t s : Int) (hf ht : Bool) (w : World) (hn : 1000000 < n) :
    Calls Try.prog 27 #[.int .i64 n, .agg (cutC f t s hf ht)] w fun e w' => e = .returned badV ∧ Below w.heap.size w w' := by
  have hn0 : 0 ≤ n := by omega
  unfold cutC
  go_enter Try.func27, Try.ntmps27
  go_wp2
  go_ret2
  exact ⟨rfl, (Below.refl _ _).alloc (Nat.le_refl _) _⟩
theorem implRange_no (n f t s : Int) (hf ht : Bool) (w : World) (hok : okC f t s hf ht = false) (hn1 : 0 ≤ n) (hn2 : n ≤ 1000000) :
    Calls Try.prog 27 #[.int .i64 n, .agg (cutC f t s hf ht)] w fun e w' => e = .returned badV ∧ Below w.heap.size w w' := by
  have HK := Lib.hid (fun w => cutOk_any f t s hf ht w)
  rw [hok] at HK
  clear hok
  unfold cutC at *
  have HB := Lib.hid (show Below w.heap.size w (w.alloc (Obj.cells #[.int .i64 f, .int .i64 t, .int .i64 s, .bool hf, .bool ht] 35)) from (Below.refl _ _).alloc (Nat.le_refl _) _)
  go_enter Try.func27, Try.ntmps27
  go_wp2_with (first | (go_at_call 25; refine (HK.out _).mono ?_; rintro e w2 ⟨rfl, hb2⟩; have HB2 := Lib.hid (HB.out.trans (hb2.mono HB.out.size)); clear hb2))
  go_ret2
  exact ⟨rfl, HB2.out⟩
theorem specRange_no (n f t s : Int) (hf ht : Bool) (w : World) (hok : okC f t s hf ht = false) :
    Calls Try.prog 29 #[.int .i64 n, .agg (cutC f t s hf ht)] w fun e w' => e = .returned badV ∧ Below w.heap.size w w' := by
  have HK := Lib.hid (fun w => validCut_any f t s hf ht w)
  rw [hok] at HK
  clear hok
  unfold cutC at *
  have HB := Lib.hid (show Below w.heap.size w (w.alloc (Obj.cells #[.int .i64 f, .int .i64 t, .int .i64 s, .bool hf, .bool ht] 35)) from (Below.refl _ _).alloc (Nat.le_refl _) _)
  go_enter Try.func29, Try.ntmps29
  go_wp2_with (first | (go_at_call 56; refine (HK.out _).mono ?_; rintro e w2 ⟨rfl, hb2⟩; have HB2 := Lib.hid (HB.out.trans (hb2.mono HB.out.size)); clear hb2))
  go_ret2
  exact ⟨rfl, HB2.out⟩
theorem specRange_out (n f t s : Int) (hf ht : Bool) (w : World) (hok : okC f t s hf ht = true) (hn : ¬ (0 ≤ n ∧ n ≤ 1000000)) :
    Calls Try.prog 29 #[.int .i64 n, .agg (cutC f t s hf ht)] w fun e w' => e = .returned badV ∧ Below w.heap.size w w' := by
  have HK := Lib.hid (fun w => validCut_any f t s hf ht w)
  rw [hok] at HK
  clear hok
  have HR := Lib.hid (show (decide ((0 : Int) ≤ n) && decide (n ≤ 1000000)) = false by rw [Bool.and_eq_false_iff, decide_eq_false_iff_not, decide_eq_false_iff_not]; omega)
  clear hn
  unfold cutC at *
  have HB := Lib.hid (show Below w.heap.size w (w.alloc (Obj.cells #[.int .i64 f, .int .i64 t, .int .i64 s, .bool hf, .bool ht] 35)) from (Below.refl _ _).alloc (Nat.le_refl _) _)
  go_enter Try.func29, Try.ntmps29
  go_wp2_with (first | (go_at_call 56; refine (HK.out _).mono ?_; rintro e w2 ⟨rfl, hb2⟩; have HB2 := Lib.hid (HB.out.trans (hb2.mono HB.out.size)); clear hb2) | (go_at_call 61; refine (inRange_any _ _ _ _).mono ?_; rintro e w' ⟨rfl, rfl⟩; rw [HR.out]))
  go_ret2
  exact ⟨rfl, HB2.out⟩
set_option maxHeartbeats 1000000 in
theorem specRange_ok (n f t s : Int) (hf ht : Bool) (w : World) (hok : okC f t s hf ht = true) (hn1 : 0 ≤ n) (hn2 : n ≤ 1000000) :
    Calls Try.prog 29 #[.int .i64 n, .agg (cutC f t s hf ht)] w fun e w' => e = .returned (rngV n f t s hf ht) ∧ Below w.heap.size w w' := by
  have HO := Lib.hid (fun w => specCutOf_any n f t s hf ht w hok hn1 hn2)
  have HK := Lib.hid (fun w => validCut_any f t s hf ht w)
  rw [hok] at HK
  clear hok
  have HR := Lib.hid (show (decide ((0 : Int) ≤ n) && decide (n ≤ 1000000)) = true by rw [Bool.and_eq_true, decide_eq_true_eq, decide_eq_true_eq]; exact ⟨hn1, hn2⟩)
  unfold rngV at *
  generalize cFrom n f s hf = a at *
  generalize cntZ a (cTo n t s ht) s = b at *
  unfold cutC at *
  have HX := Lib.hid (show Blk (w.alloc (Obj.cells #[.int .i64 f, .int .i64 t, .int .i64 s, .bool hf, .bool ht] 35)) w.heap.size 35 #[.int .i64 f, .int .i64 t, .int .i64 s, .bool hf, .bool ht] from Blk.new _ _ _ rfl)
  have HB := Lib.hid (show Below w.heap.size w (w.alloc (Obj.cells #[.int .i64 f, .int .i64 t, .int .i64 s, .bool hf, .bool ht] 35)) from (Below.refl _ _).alloc (Nat.le_refl _) _)
  go_enter Try.func29, Try.ntmps29
  go_wp2_with (first | (go_at_call 56; refine (HK.out _).mono ?_; rintro e w2 ⟨rfl, hb2⟩; have HX2 := Lib.hid (HX.out.below hb2 HX.out.lt); have HB2 := Lib.hid (HB.out.trans (hb2.mono HB.out.size)); have c0 := HX2.out.cell 0; have c1 := HX2.out.cell 1; have c2 := HX2.out.cell 2; have c3 := HX2.out.cell 3; have c4 := HX2.out.cell 4; clear hb2) | (go_at_call 61; refine (inRange_any _ _ _ _).mono ?_; rintro e w' ⟨rfl, rfl⟩; rw [HR.out]) | (go_at_call 62; refine (HO.out _).mono ?_; rintro e w3 ⟨rfl, hb3⟩; have HB3 := Lib.hid (HB2.out.trans (hb3.mono HB2.out.size)); clear hb3) | (refine ext rfl (.tmp 16) 0 [.int .i64 a, .int .i64 b] (.int .i64 a) rfl rfl rfl ?_) | (refine ext rfl (.tmp 16) 1 [.int .i64 a, .int .i64 b] (.int .i64 b) rfl rfl rfl ?_))
  go_ret2
  exact ⟨rfl, HB3.out⟩
theorem range_all (n f t s : Int) (hf ht : Bool) : ∃ a b, (∀ w, Calls Try.prog 29 #[.int .i64 n, .agg (cutC f t s hf ht)] w fun e w' => e = .returned (.tuple #[.int .i64 a, .int .i64 b]) ∧ Below w.heap.size w w') ∧ (∀ w, Calls Try.prog 27 #[.int .i64 n, .agg (cutC f t s hf ht)] w fun e w' => e = .returned (.tuple #[.int .i64 a, .int .i64 b]) ∧ Below w.heap.size w w') := by
  by_cases hlo : n < 0
  · refine ⟨0, 0, fun w => ?_, fun w => implRange_lo n f t s hf ht w hlo⟩
    cases hok : okC f t s hf ht with
    | false => exact specRange_no n f t s hf ht w hok
    | true => exact specRange_out n f t s hf ht w hok (by omega)
  · by_cases hhi : 1000000 < n
    · refine ⟨0, 0, fun w => ?_, fun w => implRange_hi n f t s hf ht w hhi⟩
      cases hok : okC f t s hf ht with
      | false => exact specRange_no n f t s hf ht w hok
      | true => exact specRange_out n f t s hf ht w hok (by omega)
    · cases hok : okC f t s hf ht with
      | false => exact ⟨0, 0, fun w => specRange_no n f t s hf ht w hok, fun w => implRange_no n f t s hf ht w hok (by omega) (by omega)⟩
      | true => exact ⟨_, _, fun w => specRange_ok n f t s hf ht w hok (by omega) (by omega), fun w => implRange_ok n f t s hf ht w hok (by omega) (by omega)⟩
end Go.Proofs.Ytfmpplolhhjpoaa
