/- The model's IntAdd, IntSub, IntMul, IntCmp. -/
import Derived.Test.YtckmpenlpkhnfaaMOps
import Derived.Test.YtckmpenlpkhnfaaVal2
namespace Go.Proofs.Ytckmpenlpkhnfaa
open Go.RowKit
set_option maxHeartbeats 4000000 in
theorem specAdd_any (s t : ByteArray) (w : World) (hs : s.size ≤ 1048576) (ht : t.size ≤ 1048576) :
    Calls Try.prog 17 #[.string s, .string t] w fun e w' => e = .returned (addV s.data.toList t.data.toList) ∧ Below w.heap.size w w' := by
  have HV1 := Lib.hid (fun w => val_any s w hs)
  have HV2 := Lib.hid (fun w => val_any t w ht)
  clear hs ht
  cases h1 : okI s.data.toList with
  | false =>
    have HE := Lib.hid (show addV s.data.toList t.data.toList = noV by unfold addV; rw [h1]; rfl)
    rw [HE.out]
    rw [h1] at HV1
    clear h1
    go_enter Try.func17, Try.ntmps17
    go_wp2_with fail
    refine (HV1.out _).mono ?_
    rintro e w1 ⟨rfl, rfl⟩
    go_wp2_with fail
    go_ret2
    exact ⟨rfl, Below.refl _ _⟩
  | true =>
    cases h2 : okI t.data.toList with
    | false =>
      have HE := Lib.hid (show addV s.data.toList t.data.toList = noV by unfold addV; rw [h1, h2]; rfl)
      rw [HE.out]
      rw [h1] at HV1
      rw [h2] at HV2
      clear h1 h2
      go_enter Try.func17, Try.ntmps17
      go_wp2_with fail
      refine (HV1.out _).mono ?_
      rintro e w1 ⟨rfl, rfl⟩
      go_wp2_with fail
      refine (HV2.out _).mono ?_
      rintro e w1 ⟨rfl, rfl⟩
      go_wp2_with fail
      go_ret2
      exact ⟨rfl, Below.refl _ _⟩
    | true =>
      have HC := Lib.hid (fun w => addInts_any s t w h1 h2)
      obtain ⟨l, bb, hl⟩ := outI_form (rz s.data.toList + rz t.data.toList)
      have HO := Lib.hid hl
      have HE := Lib.hid (show addV s.data.toList t.data.toList = .tuple #[.string ⟨l⟩, .bool bb] by unfold addV; rw [h1, h2]; exact hl)
      rw [HE.out]
      rw [h1] at HV1
      rw [h2] at HV2
      clear h1 h2 hl
      go_enter Try.func17, Try.ntmps17
      go_wp2_with fail
      refine (HV1.out _).mono ?_
      rintro e w1 ⟨rfl, rfl⟩
      go_wp2_with fail
      refine (HV2.out _).mono ?_
      rintro e w1 ⟨rfl, rfl⟩
      go_wp2_with fail
      refine (HC.out _).mono ?_
      rintro e w2 ⟨rfl, hb2⟩
      rw [HO.out]
      have HB2 := Lib.hid hb2
      clear hb2
      go_wp2_with (first | (refine ext rfl (.tmp 16) 0 [.string ⟨l⟩, .bool bb] (.string ⟨l⟩) rfl rfl rfl ?_) | (refine ext rfl (.tmp 16) 1 [.string ⟨l⟩, .bool bb] (.bool bb) rfl rfl rfl ?_))
      go_ret2
      exact ⟨rfl, HB2.out⟩
set_option maxHeartbeats 4000000 in
theorem specMul_any (s t : ByteArray) (w : World) (hs : s.size ≤ 1048576) (ht : t.size ≤ 1048576) :
    Calls Try.prog 21 #[.string s, .string t] w fun e w' => e = .returned (mulV s.data.toList t.data.toList) ∧ Below w.heap.size w w' := by
  have HV1 := Lib.hid (fun w => val_any s w hs)
  have HV2 := Lib.hid (fun w => val_any t w ht)
  clear hs ht
  cases h1 : okI s.data.toList with
  | false =>
    have HE := Lib.hid (show mulV s.data.toList t.data.toList = noV by unfold mulV; rw [h1]; rfl)
    rw [HE.out]
    rw [h1] at HV1
    clear h1
    go_enter Try.func21, Try.ntmps21
    go_wp2_with fail
    refine (HV1.out _).mono ?_
    rintro e w1 ⟨rfl, rfl⟩
    go_wp2_with fail
    go_ret2
    exact ⟨rfl, Below.refl _ _⟩
  | true =>
    cases h2 : okI t.data.toList with
    | false =>
      have HE := Lib.hid (show mulV s.data.toList t.data.toList = noV by unfold mulV; rw [h1, h2]; rfl)
      rw [HE.out]
      rw [h1] at HV1
      rw [h2] at HV2
      clear h1 h2
      go_enter Try.func21, Try.ntmps21
      go_wp2_with fail
      refine (HV1.out _).mono ?_
      rintro e w1 ⟨rfl, rfl⟩
      go_wp2_with fail
      refine (HV2.out _).mono ?_
      rintro e w1 ⟨rfl, rfl⟩
      go_wp2_with fail
      go_ret2
      exact ⟨rfl, Below.refl _ _⟩
    | true =>
      have HC := Lib.hid (fun w => mulInts_any s t w h1 h2)
      obtain ⟨l, bb, hl⟩ := outI_form (rz s.data.toList * rz t.data.toList)
      have HO := Lib.hid hl
      have HE := Lib.hid (show mulV s.data.toList t.data.toList = .tuple #[.string ⟨l⟩, .bool bb] by unfold mulV; rw [h1, h2]; exact hl)
      rw [HE.out]
      rw [h1] at HV1
      rw [h2] at HV2
      clear h1 h2 hl
      go_enter Try.func21, Try.ntmps21
      go_wp2_with fail
      refine (HV1.out _).mono ?_
      rintro e w1 ⟨rfl, rfl⟩
      go_wp2_with fail
      refine (HV2.out _).mono ?_
      rintro e w1 ⟨rfl, rfl⟩
      go_wp2_with fail
      refine (HC.out _).mono ?_
      rintro e w2 ⟨rfl, hb2⟩
      rw [HO.out]
      have HB2 := Lib.hid hb2
      clear hb2
      go_wp2_with (first | (refine ext rfl (.tmp 16) 0 [.string ⟨l⟩, .bool bb] (.string ⟨l⟩) rfl rfl rfl ?_) | (refine ext rfl (.tmp 16) 1 [.string ⟨l⟩, .bool bb] (.bool bb) rfl rfl rfl ?_))
      go_ret2
      exact ⟨rfl, HB2.out⟩
set_option maxHeartbeats 4000000 in
theorem specSub_any (s t : ByteArray) (w : World) (hs : s.size ≤ 1048576) (ht : t.size ≤ 1048576) :
    Calls Try.prog 19 #[.string s, .string t] w fun e w' => e = .returned (subV s.data.toList t.data.toList) ∧ Below w.heap.size w w' := by
  have HV1 := Lib.hid (fun w => val_any s w hs)
  have HV2 := Lib.hid (fun w => val_any t w ht)
  clear hs ht
  cases h1 : okI s.data.toList with
  | false =>
    have HE := Lib.hid (show subV s.data.toList t.data.toList = noV by unfold subV; rw [h1]; rfl)
    rw [HE.out]
    rw [h1] at HV1
    clear h1
    go_enter Try.func19, Try.ntmps19
    go_wp2_with fail
    refine (HV1.out _).mono ?_
    rintro e w1 ⟨rfl, rfl⟩
    go_wp2_with fail
    go_ret2
    exact ⟨rfl, Below.refl _ _⟩
  | true =>
    cases h2 : okI t.data.toList with
    | false =>
      have HE := Lib.hid (show subV s.data.toList t.data.toList = noV by unfold subV; rw [h1, h2]; rfl)
      rw [HE.out]
      rw [h1] at HV1
      rw [h2] at HV2
      clear h1 h2
      go_enter Try.func19, Try.ntmps19
      go_wp2_with fail
      refine (HV1.out _).mono ?_
      rintro e w1 ⟨rfl, rfl⟩
      go_wp2_with fail
      refine (HV2.out _).mono ?_
      rintro e w1 ⟨rfl, rfl⟩
      go_wp2_with fail
      go_ret2
      exact ⟨rfl, Below.refl _ _⟩
    | true =>
      have HC := Lib.hid (fun w => negInt_any t w h2)
      have hf := okI_fmtZ (z := -rz t.data.toList) (by rw [Int.natAbs_neg]; exact okI_lt)
      have HA := Lib.hid (fun w => addInts_any s ⟨(fmtZ (-rz t.data.toList)).toArray⟩ w h1 (by simpa using hf.1))
      have hrz : rz (⟨(fmtZ (-rz t.data.toList)).toArray⟩ : ByteArray).data.toList = -rz t.data.toList := by simpa using hf.2
      rw [hrz] at HA
      clear hf hrz
      obtain ⟨l, bb, hl⟩ := outI_form (rz s.data.toList + -rz t.data.toList)
      have HO := Lib.hid hl
      have HE := Lib.hid (show subV s.data.toList t.data.toList = .tuple #[.string ⟨l⟩, .bool bb] by unfold subV; rw [h1, h2]; exact hl)
      rw [HE.out]
      rw [h1] at HV1
      rw [h2] at HV2
      clear h1 h2 hl
      go_enter Try.func19, Try.ntmps19
      go_wp2_with fail
      refine (HV1.out _).mono ?_
      rintro e w1 ⟨rfl, rfl⟩
      go_wp2_with fail
      refine (HV2.out _).mono ?_
      rintro e w1 ⟨rfl, rfl⟩
      go_wp2_with fail
      refine (HC.out _).mono ?_
      rintro e w3 ⟨rfl, hb3⟩
      have HB3 := Lib.hid hb3
      clear hb3
      unfold txV
      go_wp2_with fail
      refine (HA.out _).mono ?_
      rintro e w2 ⟨rfl, hb2⟩
      rw [HO.out]
      have HB2 := Lib.hid (HB3.out.trans (hb2.mono HB3.out.size))
      clear hb2
      go_wp2_with (first | (refine ext rfl (.tmp 17) 0 [.string ⟨l⟩, .bool bb] (.string ⟨l⟩) rfl rfl rfl ?_) | (refine ext rfl (.tmp 17) 1 [.string ⟨l⟩, .bool bb] (.bool bb) rfl rfl rfl ?_))
      go_ret2
      exact ⟨rfl, HB2.out⟩
set_option maxHeartbeats 4000000 in
theorem specCmp_any (s t : ByteArray) (w : World) (hs : s.size ≤ 1048576) (ht : t.size ≤ 1048576) :
    Calls Try.prog 29 #[.string s, .string t] w fun e w' => e = .returned (cmpV s.data.toList t.data.toList) ∧ Below w.heap.size w w' := by
  have HV1 := Lib.hid (fun w => val_any s w hs)
  have HV2 := Lib.hid (fun w => val_any t w ht)
  clear hs ht
  cases h1 : okI s.data.toList with
  | false =>
    have HE := Lib.hid (show cmpV s.data.toList t.data.toList = .int .i64 (-2) by unfold cmpV; rw [h1]; rfl)
    rw [HE.out]
    rw [h1] at HV1
    clear h1
    go_enter Try.func29, Try.ntmps29
    go_wp2_with fail
    refine (HV1.out _).mono ?_
    rintro e w1 ⟨rfl, rfl⟩
    go_wp2_with fail
    go_ret
    exact ⟨rfl, Below.refl _ _⟩
  | true =>
    cases h2 : okI t.data.toList with
    | false =>
      have HE := Lib.hid (show cmpV s.data.toList t.data.toList = .int .i64 (-2) by unfold cmpV; rw [h1, h2]; rfl)
      rw [HE.out]
      rw [h1] at HV1
      rw [h2] at HV2
      clear h1 h2
      go_enter Try.func29, Try.ntmps29
      go_wp2_with fail
      refine (HV1.out _).mono ?_
      rintro e w1 ⟨rfl, rfl⟩
      go_wp2_with fail
      refine (HV2.out _).mono ?_
      rintro e w1 ⟨rfl, rfl⟩
      go_wp2_with fail
      go_ret
      exact ⟨rfl, Below.refl _ _⟩
    | true =>
      have HC := Lib.hid (fun w => cmpInts_any s t w h1 h2)
      have HE := Lib.hid (show cmpV s.data.toList t.data.toList = .int .i64 (cmpZ (rz s.data.toList) (rz t.data.toList)) by unfold cmpV; rw [h1, h2]; rfl)
      rw [HE.out]
      rw [h1] at HV1
      rw [h2] at HV2
      clear h1 h2
      generalize cmpZ (rz s.data.toList) (rz t.data.toList) = cz at HC
      go_enter Try.func29, Try.ntmps29
      go_wp2_with fail
      refine (HV1.out _).mono ?_
      rintro e w1 ⟨rfl, rfl⟩
      go_wp2_with fail
      refine (HV2.out _).mono ?_
      rintro e w1 ⟨rfl, rfl⟩
      go_wp2_with fail
      refine (HC.out _).mono ?_
      rintro e w2 ⟨rfl, hb2⟩
      have HB2 := Lib.hid hb2
      clear hb2
      go_wp2_with fail
      go_ret
      exact ⟨rfl, HB2.out⟩
end Go.Proofs.Ytckmpenlpkhnfaa
