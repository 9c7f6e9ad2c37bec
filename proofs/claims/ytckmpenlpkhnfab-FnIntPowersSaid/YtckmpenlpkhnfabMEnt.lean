/- The model's IntAdd, IntSub, IntMul, IntCmp. -/
import Derived.Test.YtckmpenlpkhnfabMOps
import Derived.Test.YtckmpenlpkhnfabVal2
namespace Go.Proofs.Ytckmpenlpkhnfab
open Go.RowKit
set_option maxHeartbeats 4000000 in
theorem specMul_any (s t : ByteArray) (w : World) (hs : s.size ≤ 1048576) (ht : t.size ≤ 1048576) :
    Calls Try.prog 17 #[.string s, .string t] w fun e w' => e = .returned (mulV s.data.toList t.data.toList) ∧ Below w.heap.size w w' := by
  have HV1 := Lib.hid (fun w => val_any s w hs)
  have HV2 := Lib.hid (fun w => val_any t w ht)
  clear hs ht
  cases h1 : okI s.data.toList with
  | false =>
    have HE := Lib.hid (show mulV s.data.toList t.data.toList = noV by unfold mulV; rw [h1]; rfl)
    rw [HE.out]
    rw [h1] at HV1
    clear h1
    go_enter Try.func17, Try.ntmps17
    go_wp2_with fail
    refine (HV1.out _).mono ?_
    rintro e w1 ⟨rfl, rfl⟩
    go_wp2_with fail
    go_ret2
    exact ⟨rfl, Below.refl _ _⟩
  | true =>
    cases h2 : okI t.data.toList with
    | false =>
      have HE := Lib.hid (show mulV s.data.toList t.data.toList = noV by unfold mulV; rw [h1, h2]; rfl)
      rw [HE.out]
      rw [h1] at HV1
      rw [h2] at HV2
      clear h1 h2
      go_enter Try.func17, Try.ntmps17
      go_wp2_with fail
      refine (HV1.out _).mono ?_
      rintro e w1 ⟨rfl, rfl⟩
      go_wp2_with fail
      refine (HV2.out _).mono ?_
      rintro e w1 ⟨rfl, rfl⟩
      go_wp2_with fail
      go_ret2
      exact ⟨rfl, Below.refl _ _⟩
    | true =>
      have HC := Lib.hid (fun w => mulInts_any s t w h1 h2)
      obtain ⟨l, bb, hl⟩ := outI_form (rz s.data.toList * rz t.data.toList)
      have HO := Lib.hid hl
      have HE := Lib.hid (show mulV s.data.toList t.data.toList = .tuple #[.string ⟨l⟩, .bool bb] by unfold mulV; rw [h1, h2]; exact hl)
      rw [HE.out]
      rw [h1] at HV1
      rw [h2] at HV2
      clear h1 h2 hl
      go_enter Try.func17, Try.ntmps17
      go_wp2_with fail
      refine (HV1.out _).mono ?_
      rintro e w1 ⟨rfl, rfl⟩
      go_wp2_with fail
      refine (HV2.out _).mono ?_
      rintro e w1 ⟨rfl, rfl⟩
      go_wp2_with fail
      refine (HC.out _).mono ?_
      rintro e w2 ⟨rfl, hb2⟩
      rw [HO.out]
      have HB2 := Lib.hid hb2
      clear hb2
      go_wp2_with (first | (refine ext rfl (.tmp 16) 0 [.string ⟨l⟩, .bool bb] (.string ⟨l⟩) rfl rfl rfl ?_) | (refine ext rfl (.tmp 16) 1 [.string ⟨l⟩, .bool bb] (.bool bb) rfl rfl rfl ?_))
      go_ret2
      exact ⟨rfl, HB2.out⟩
set_option maxHeartbeats 4000000 in
theorem specCmp_any (s t : ByteArray) (w : World) (hs : s.size ≤ 1048576) (ht : t.size ≤ 1048576) :
    Calls Try.prog 30 #[.string s, .string t] w fun e w' => e = .returned (cmpV s.data.toList t.data.toList) ∧ Below w.heap.size w w' := by
  have HV1 := Lib.hid (fun w => val_any s w hs)
  have HV2 := Lib.hid (fun w => val_any t w ht)
  clear hs ht
  cases h1 : okI s.data.toList with
  | false =>
    have HE := Lib.hid (show cmpV s.data.toList t.data.toList = .int .i64 (-2) by unfold cmpV; rw [h1]; rfl)
    rw [HE.out]
    rw [h1] at HV1
    clear h1
    go_enter Try.func30, Try.ntmps30
    go_wp2_with fail
    refine (HV1.out _).mono ?_
    rintro e w1 ⟨rfl, rfl⟩
    go_wp2_with fail
    go_ret
    exact ⟨rfl, Below.refl _ _⟩
  | true =>
    cases h2 : okI t.data.toList with
    | false =>
      have HE := Lib.hid (show cmpV s.data.toList t.data.toList = .int .i64 (-2) by unfold cmpV; rw [h1, h2]; rfl)
      rw [HE.out]
      rw [h1] at HV1
      rw [h2] at HV2
      clear h1 h2
      go_enter Try.func30, Try.ntmps30
      go_wp2_with fail
      refine (HV1.out _).mono ?_
      rintro e w1 ⟨rfl, rfl⟩
      go_wp2_with fail
      refine (HV2.out _).mono ?_
      rintro e w1 ⟨rfl, rfl⟩
      go_wp2_with fail
      go_ret
      exact ⟨rfl, Below.refl _ _⟩
    | true =>
      have HC := Lib.hid (fun w => cmpInts_any s t w h1 h2)
      have HE := Lib.hid (show cmpV s.data.toList t.data.toList = .int .i64 (cmpZ (rz s.data.toList) (rz t.data.toList)) by unfold cmpV; rw [h1, h2]; rfl)
      rw [HE.out]
      rw [h1] at HV1
      rw [h2] at HV2
      clear h1 h2
      generalize cmpZ (rz s.data.toList) (rz t.data.toList) = cz at HC
      go_enter Try.func30, Try.ntmps30
      go_wp2_with fail
      refine (HV1.out _).mono ?_
      rintro e w1 ⟨rfl, rfl⟩
      go_wp2_with fail
      refine (HV2.out _).mono ?_
      rintro e w1 ⟨rfl, rfl⟩
      go_wp2_with fail
      refine (HC.out _).mono ?_
      rintro e w2 ⟨rfl, hb2⟩
      have HB2 := Lib.hid hb2
      clear hb2
      go_wp2_with fail
      go_ret
      exact ⟨rfl, HB2.out⟩
end Go.Proofs.Ytckmpenlpkhnfab
