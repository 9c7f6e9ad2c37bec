/- The model's IntPow and IntRoot; the laws. -/
import Derived.Test.YtckmpenlpkhnfabMRoot
namespace Go.Proofs.Ytckmpenlpkhnfab
open Go.RowKit
theorem specRoot_any (s : ByteArray) (w : World) (hs : s.size ≤ 1048576) :
    Calls Try.prog 34 #[.string s] w fun e w' => e = .returned (rootV s.data.toList) ∧ Below w.heap.size w w' := by
  cases h1 : okI s.data.toList with
  | false =>
    have HE := Lib.hid (show rootV s.data.toList = noV by unfold rootV; rw [h1]; rfl)
    rw [HE.out]
    have HV := Lib.hid (fun w => val_any s w hs)
    rw [h1] at HV
    clear h1
    go_enter Try.func34, Try.ntmps34
    go_wp2_with fail
    refine (HV.out _).mono ?_
    rintro e w1 ⟨rfl, rfl⟩
    go_wp2_with fail
    go_ret2
    exact ⟨rfl, Below.refl _ _⟩
  | true =>
    by_cases hneg : rz s.data.toList < 0
    · have HE := Lib.hid (show rootV s.data.toList = noV by unfold rootV; rw [h1, if_pos rfl, if_pos hneg])
      rw [HE.out]
      have HV := Lib.hid (fun w => val_any s w hs)
      rw [h1] at HV
      have h0 := (okI_size h1).2
      have h45 : ((s[0].toNat : Int) == 45) = true := by
        have e1 := (isNeg_rz h1).1
        rw [decide_eq_true hneg] at e1
        have e2 := e1.symm
        unfold isNeg at e2
        rw [head_data s h0] at e2
        simp at e2
        rw [e2]; rfl
      clear h1 hneg
      go_enter Try.func34, Try.ntmps34
      go_wp2_with fail
      refine (HV.out _).mono ?_
      rintro e w1 ⟨rfl, rfl⟩
      go_wp2_with fail
      go_ret2
      exact ⟨rfl, Below.refl _ _⟩
    · have h := root_walk s w hs h1 hneg
      have hm := okI_lt (l := s.data.toList)
      have hle : isqrt (rz s.data.toList).natAbs < 10 ^ 40 := by
        have h2 := isqrt_le (rz s.data.toList).natAbs
        omega
      have e : rootV s.data.toList = .tuple #[txV (isqrt (rz s.data.toList).natAbs : Nat), .bool true] := by
        unfold rootV
        rw [h1, if_pos rfl, if_neg hneg]
        exact out_ok (by simpa using hle)
      rw [e]
      exact h
theorem specPow_any (s : ByteArray) (n : Int) (w : World) (hs : s.size ≤ 1048576) :
    Calls Try.prog 28 #[.string s, .int .i64 n] w fun e w' => e = .returned (powV s.data.toList n) ∧ Below w.heap.size w w' := by
  have HV := Lib.hid (fun w => val_any s w hs)
  cases h1 : okI s.data.toList with
  | false =>
    have HE := Lib.hid (show powV s.data.toList n = noV by unfold powV; rw [h1]; rfl)
    rw [HE.out]
    rw [h1] at HV
    clear h1
    go_enter Try.func28, Try.ntmps28
    go_wp2_with fail
    refine (HV.out _).mono ?_
    rintro e w1 ⟨rfl, rfl⟩
    go_wp2_with fail
    go_ret2
    exact ⟨rfl, Below.refl _ _⟩
  | true =>
    by_cases hn : 0 ≤ n ∧ n ≤ 200
    · have HE := Lib.hid (show powV s.data.toList n = outI ((rz s.data.toList) ^ n.toNat) by unfold powV; rw [h1, if_pos rfl, if_pos hn])
      rw [HE.out]
      obtain ⟨k, rfl⟩ : ∃ k : Nat, n = (k : Int) := ⟨n.toNat, by omega⟩
      rw [Int.toNat_natCast]
      have HC := Lib.hid (fun w => powInts_any s k w h1 (by omega))
      obtain ⟨l, bb, hl⟩ := outI_form ((rz s.data.toList) ^ k)
      have HO := Lib.hid hl
      rw [HO.out]
      have HR := Lib.hid (show (decide ((0 : Int) ≤ (k : Int)) && decide ((k : Int) ≤ 200)) = true by rw [Bool.and_eq_true, decide_eq_true_eq, decide_eq_true_eq]; exact hn)
      rw [h1] at HV
      clear h1 hl
      go_enter Try.func28, Try.ntmps28
      go_wp2_with fail
      refine (HV.out _).mono ?_
      rintro e w1 ⟨rfl, rfl⟩
      go_wp2_with fail
      refine (inRange_any _ _ _ _).mono ?_
      rintro e w1 ⟨rfl, rfl⟩
      rw [HR.out]
      go_wp2_with fail
      refine (HC.out _).mono ?_
      rintro e w2 ⟨rfl, hb2⟩
      rw [HO.out]
      have HB2 := Lib.hid hb2
      clear hb2
      go_wp2_with (first | (refine ext rfl (.tmp 16) 0 [.string ⟨l⟩, .bool bb] (.string ⟨l⟩) rfl rfl rfl ?_) | (refine ext rfl (.tmp 16) 1 [.string ⟨l⟩, .bool bb] (.bool bb) rfl rfl rfl ?_))
      go_ret2
      exact ⟨rfl, HB2.out⟩
    · have HE := Lib.hid (show powV s.data.toList n = noV by unfold powV; rw [h1, if_pos rfl, if_neg hn])
      rw [HE.out]
      have HR := Lib.hid (show (decide ((0 : Int) ≤ n) && decide (n ≤ 200)) = false by rw [Bool.and_eq_false_iff, decide_eq_false_iff_not, decide_eq_false_iff_not]; omega)
      rw [h1] at HV
      clear h1 hn
      go_enter Try.func28, Try.ntmps28
      go_wp2_with fail
      refine (HV.out _).mono ?_
      rintro e w1 ⟨rfl, rfl⟩
      go_wp2_with fail
      refine (inRange_any _ _ _ _).mono ?_
      rintro e w1 ⟨rfl, rfl⟩
      rw [HR.out]
      go_wp2_with fail
      go_ret2
      exact ⟨rfl, Below.refl _ _⟩
theorem powV_form (a : List UInt8) (n : Int) : ∃ l c, powV a n = .tuple #[.string ⟨l⟩, .bool c] := by
  unfold powV; split
  · split
    · exact outI_form _
    · exact noV_form
  · exact noV_form
theorem rootV_form (a : List UInt8) : ∃ l c, rootV a = .tuple #[.string ⟨l⟩, .bool c] := by
  unfold rootV; split
  · split
    · exact noV_form
    · exact outI_form _
  · exact noV_form
end Go.Proofs.Ytckmpenlpkhnfab
