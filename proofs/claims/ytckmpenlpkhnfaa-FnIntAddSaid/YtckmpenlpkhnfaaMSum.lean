/- The model's sums of texts, and the other sign. -/
import Derived.Test.YtckmpenlpkhnfaaMAdd
import Derived.Test.YtckmpenlpkhnfaaFns
namespace Go.Proofs.Ytckmpenlpkhnfaa
open Go.RowKit
theorem cmpN_ge' {m n : Nat} (h : n ≤ m) : 0 ≤ cmpN m n := by
  unfold cmpN
  split
  · omega
  · rw [if_neg (by omega)]; omega
theorem sg_same (b : Bool) (m n : Nat) : sgn b m + sgn b n = sgn b (m + n) := by cases b <;> simp [sgn] <;> omega
theorem sg_tf_lt {m n : Nat} (h : m < n) : sgn true m + sgn false n = sgn false (n - m) := by simp [sgn]; omega
theorem sg_tf_ge {m n : Nat} (h : n ≤ m) : sgn true m + sgn false n = sgn true (m - n) := by simp [sgn]; omega
theorem sg_ft_lt {m n : Nat} (h : m < n) : sgn false m + sgn true n = sgn true (n - m) := by simp [sgn]; omega
theorem sg_ft_ge {m n : Nat} (h : n ≤ m) : sgn false m + sgn true n = sgn false (m - n) := by simp [sgn]; omega
set_option maxHeartbeats 4000000 in
theorem addInts_any (s t : ByteArray) (w : World) (h1 : okI s.data.toList = true) (h2 : okI t.data.toList = true) :
    Calls Try.prog 38 #[.string s, .string t] w fun e w' => e = .returned (outI (rz s.data.toList + rz t.data.toList)) ∧ Below w.heap.size w w' := by
  have HD1 := Lib.hid (fun w => digits_any s w h1)
  have HD2 := Lib.hid (fun w => digits_any t w h2)
  have hx := okI_lt (l := s.data.toList)
  have hy := okI_lt (l := t.data.toList)
  have hG : outI (rz s.data.toList + rz t.data.toList) = outI (sgn (decide (rz s.data.toList < 0)) (rz s.data.toList).natAbs + sgn (decide (rz t.data.toList < 0)) (rz t.data.toList).natAbs) := by rw [sgn_self, sgn_self]
  rw [hG]
  clear hG
  generalize decide (rz s.data.toList < 0) = p at *
  generalize decide (rz t.data.toList < 0) = q at *
  generalize (rz s.data.toList).natAbs = m at *
  generalize (rz t.data.toList).natAbs = n at *
  have HK := Lib.hid (show m < 10 ^ 40 ∧ n < 10 ^ 40 ∧ 10 ^ 40 + 10 ^ 40 < 10 ^ 80 from ⟨hx, hy, by decide⟩)
  have HM := Lib.hid (show m < 10 ^ 80 from Nat.lt_trans hx (by decide))
  have HN := Lib.hid (show n < 10 ^ 80 from Nat.lt_trans hy (by decide))
  have HNM := Lib.hid (Nat.le_trans (nd_le_of hx) (show 40 ≤ 100 by decide))
  have HNN := Lib.hid (Nat.le_trans (nd_le_of hy) (show 40 ≤ 100 by decide))
  clear hx hy h1 h2
  cases p with
  | false =>
    cases q with
    | false =>
      obtain ⟨l, bb, hl⟩ := outI_form (sgn false (m + n))
      have HO := Lib.hid hl
      have HE := Lib.hid (show outI (sgn false m + sgn false n) = .tuple #[.string ⟨l⟩, .bool bb] from (congrArg outI (sg_same _ m n)).trans hl)
      rw [HE.out]
      clear hl
      go_enter Try.func38, Try.ntmps38
      go_wp2_with fail
      refine (HD1.out _).mono ?_
      rintro e w1 ⟨u1, rfl, hu1, hb1⟩
      have HU1 := Lib.hid hu1
      have HB1 := Lib.hid hb1
      clear hu1 hb1
      go_wp2_with (first | (refine ext rfl (.tmp 10) 0 [u1, .bool false] u1 rfl rfl rfl ?_) | (refine ext rfl (.tmp 10) 1 [u1, .bool false] (.bool false) rfl rfl rfl ?_))
      refine (HD2.out _).mono ?_
      rintro e w2 ⟨u2, rfl, hu2, hb2⟩
      have HV1 := Lib.hid ((HU1.out.below hb2).lower (Nat.zero_le _))
      have HV2 := Lib.hid (hu2.lower (Nat.zero_le _))
      have HB2 := Lib.hid (HB1.out.trans (hb2.mono HB1.out.size))
      clear hu2 hb2
      go_wp2_with (first | (refine ext rfl (.tmp 10) 0 [u1, .bool false] u1 rfl rfl rfl ?_) | (refine ext rfl (.tmp 10) 1 [u1, .bool false] (.bool false) rfl rfl rfl ?_) | (refine ext rfl (.tmp 15) 0 [u2, .bool false] u2 rfl rfl rfl ?_) | (refine ext rfl (.tmp 15) 1 [u2, .bool false] (.bool false) rfl rfl rfl ?_) | (go_at_call 65; refine (plus_dg m n _ _ _ HV1.out HV2.out HNM.out HNN.out).mono ?_; rintro e w3 ⟨u3, rfl, hu3, hb3⟩; have HU3 := Lib.hid (hu3.lower (Nat.zero_le _)); have HB3 := Lib.hid (HB2.out.trans (hb3.mono HB2.out.size)); clear hu3 hb3) | (go_at_call 64; refine (fit_any (m + n) false _ _ (HU3.out) (by have := HK.out; omega)).mono ?_; rintro e w4 ⟨rfl, hb4⟩; rw [HO.out]; have HB4 := Lib.hid (HB3.out.trans (hb4.mono HB3.out.size)); clear hb4) | (refine ext rfl (.tmp 27) 0 [.string ⟨l⟩, .bool bb] (.string ⟨l⟩) rfl rfl rfl ?_) | (refine ext rfl (.tmp 27) 1 [.string ⟨l⟩, .bool bb] (.bool bb) rfl rfl rfl ?_))
      go_ret2
      exact ⟨rfl, HB4.out⟩
    | true =>
        by_cases hlt : m < n
        · have HC := Lib.hid (cmpN_of_lt hlt)
          obtain ⟨l, bb, hl⟩ := outI_form (sgn true (n - m))
          have HO := Lib.hid hl
          have HE := Lib.hid (show outI (sgn false m + sgn true n) = .tuple #[.string ⟨l⟩, .bool bb] from (congrArg outI (sg_ft_lt (by assumption))).trans hl)
          rw [HE.out]
          clear hl
          go_enter Try.func38, Try.ntmps38
          go_wp2_with fail
          refine (HD1.out _).mono ?_
          rintro e w1 ⟨u1, rfl, hu1, hb1⟩
          have HU1 := Lib.hid hu1
          have HB1 := Lib.hid hb1
          clear hu1 hb1
          go_wp2_with (first | (refine ext rfl (.tmp 10) 0 [u1, .bool false] u1 rfl rfl rfl ?_) | (refine ext rfl (.tmp 10) 1 [u1, .bool false] (.bool false) rfl rfl rfl ?_))
          refine (HD2.out _).mono ?_
          rintro e w2 ⟨u2, rfl, hu2, hb2⟩
          have HV1 := Lib.hid ((HU1.out.below hb2).lower (Nat.zero_le _))
          have HV2 := Lib.hid (hu2.lower (Nat.zero_le _))
          have HB2 := Lib.hid (HB1.out.trans (hb2.mono HB1.out.size))
          clear hu2 hb2
          go_wp2_with (first | (refine ext rfl (.tmp 10) 0 [u1, .bool false] u1 rfl rfl rfl ?_) | (refine ext rfl (.tmp 10) 1 [u1, .bool false] (.bool false) rfl rfl rfl ?_) | (refine ext rfl (.tmp 15) 0 [u2, .bool true] u2 rfl rfl rfl ?_) | (refine ext rfl (.tmp 15) 1 [u2, .bool true] (.bool true) rfl rfl rfl ?_) | (go_at_call 56; refine (compare_any m n _ _ _ HV1.out HV2.out HM.out HN.out).mono ?_; rintro e w5 ⟨rfl, hb5⟩; rw [HC.out]; have HV1 := Lib.hid (HV1.out.below hb5); have HV2 := Lib.hid (HV2.out.below hb5); have HB2 := Lib.hid (HB2.out.trans (hb5.mono HB2.out.size)); clear hb5) | (go_at_call 66; refine (less_dg n m _ _ _ HV2.out HV1.out HNN.out HNM.out (by omega)).mono ?_; rintro e w3 ⟨u3, rfl, hu3, hb3⟩; have HU3 := Lib.hid (hu3.lower (Nat.zero_le _)); have HB3 := Lib.hid (HB2.out.trans (hb3.mono HB2.out.size)); clear hu3 hb3) | (go_at_call 64; refine (fit_any (n - m) true _ _ (HU3.out) (by have := HK.out; omega)).mono ?_; rintro e w4 ⟨rfl, hb4⟩; rw [HO.out]; have HB4 := Lib.hid (HB3.out.trans (hb4.mono HB3.out.size)); clear hb4) | (refine ext rfl (.tmp 38) 0 [.string ⟨l⟩, .bool bb] (.string ⟨l⟩) rfl rfl rfl ?_) | (refine ext rfl (.tmp 38) 1 [.string ⟨l⟩, .bool bb] (.bool bb) rfl rfl rfl ?_))
          go_ret2
          exact ⟨rfl, HB4.out⟩
        · obtain ⟨cz, hcz, hc0⟩ : ∃ cz, cmpN m n = cz ∧ 0 ≤ cz := ⟨_, rfl, cmpN_ge' (Nat.le_of_not_lt hlt)⟩
          have HC := Lib.hid hcz
          clear hcz
          have hge : n ≤ m := Nat.le_of_not_lt hlt
          clear hlt
          obtain ⟨l, bb, hl⟩ := outI_form (sgn false (m - n))
          have HO := Lib.hid hl
          have HE := Lib.hid (show outI (sgn false m + sgn true n) = .tuple #[.string ⟨l⟩, .bool bb] from (congrArg outI (sg_ft_ge (by assumption))).trans hl)
          rw [HE.out]
          clear hl
          go_enter Try.func38, Try.ntmps38
          go_wp2_with fail
          refine (HD1.out _).mono ?_
          rintro e w1 ⟨u1, rfl, hu1, hb1⟩
          have HU1 := Lib.hid hu1
          have HB1 := Lib.hid hb1
          clear hu1 hb1
          go_wp2_with (first | (refine ext rfl (.tmp 10) 0 [u1, .bool false] u1 rfl rfl rfl ?_) | (refine ext rfl (.tmp 10) 1 [u1, .bool false] (.bool false) rfl rfl rfl ?_))
          refine (HD2.out _).mono ?_
          rintro e w2 ⟨u2, rfl, hu2, hb2⟩
          have HV1 := Lib.hid ((HU1.out.below hb2).lower (Nat.zero_le _))
          have HV2 := Lib.hid (hu2.lower (Nat.zero_le _))
          have HB2 := Lib.hid (HB1.out.trans (hb2.mono HB1.out.size))
          clear hu2 hb2
          go_wp2_with (first | (refine ext rfl (.tmp 10) 0 [u1, .bool false] u1 rfl rfl rfl ?_) | (refine ext rfl (.tmp 10) 1 [u1, .bool false] (.bool false) rfl rfl rfl ?_) | (refine ext rfl (.tmp 15) 0 [u2, .bool true] u2 rfl rfl rfl ?_) | (refine ext rfl (.tmp 15) 1 [u2, .bool true] (.bool true) rfl rfl rfl ?_) | (go_at_call 56; refine (compare_any m n _ _ _ HV1.out HV2.out HM.out HN.out).mono ?_; rintro e w5 ⟨rfl, hb5⟩; rw [HC.out]; have HV1 := Lib.hid (HV1.out.below hb5); have HV2 := Lib.hid (HV2.out.below hb5); have HB2 := Lib.hid (HB2.out.trans (hb5.mono HB2.out.size)); clear hb5) | (go_at_call 66; refine (less_dg m n _ _ _ HV1.out HV2.out HNM.out HNN.out (by omega)).mono ?_; rintro e w3 ⟨u3, rfl, hu3, hb3⟩; have HU3 := Lib.hid (hu3.lower (Nat.zero_le _)); have HB3 := Lib.hid (HB2.out.trans (hb3.mono HB2.out.size)); clear hu3 hb3) | (go_at_call 64; refine (fit_any (m - n) false _ _ (HU3.out) (by have := HK.out; omega)).mono ?_; rintro e w4 ⟨rfl, hb4⟩; rw [HO.out]; have HB4 := Lib.hid (HB3.out.trans (hb4.mono HB3.out.size)); clear hb4) | (refine ext rfl (.tmp 45) 0 [.string ⟨l⟩, .bool bb] (.string ⟨l⟩) rfl rfl rfl ?_) | (refine ext rfl (.tmp 45) 1 [.string ⟨l⟩, .bool bb] (.bool bb) rfl rfl rfl ?_))
          go_ret2
          exact ⟨rfl, HB4.out⟩
  | true =>
    cases q with
    | false =>
        by_cases hlt : m < n
        · have HC := Lib.hid (cmpN_of_lt hlt)
          obtain ⟨l, bb, hl⟩ := outI_form (sgn false (n - m))
          have HO := Lib.hid hl
          have HE := Lib.hid (show outI (sgn true m + sgn false n) = .tuple #[.string ⟨l⟩, .bool bb] from (congrArg outI (sg_tf_lt (by assumption))).trans hl)
          rw [HE.out]
          clear hl
          go_enter Try.func38, Try.ntmps38
          go_wp2_with fail
          refine (HD1.out _).mono ?_
          rintro e w1 ⟨u1, rfl, hu1, hb1⟩
          have HU1 := Lib.hid hu1
          have HB1 := Lib.hid hb1
          clear hu1 hb1
          go_wp2_with (first | (refine ext rfl (.tmp 10) 0 [u1, .bool true] u1 rfl rfl rfl ?_) | (refine ext rfl (.tmp 10) 1 [u1, .bool true] (.bool true) rfl rfl rfl ?_))
          refine (HD2.out _).mono ?_
          rintro e w2 ⟨u2, rfl, hu2, hb2⟩
          have HV1 := Lib.hid ((HU1.out.below hb2).lower (Nat.zero_le _))
          have HV2 := Lib.hid (hu2.lower (Nat.zero_le _))
          have HB2 := Lib.hid (HB1.out.trans (hb2.mono HB1.out.size))
          clear hu2 hb2
          go_wp2_with (first | (refine ext rfl (.tmp 10) 0 [u1, .bool true] u1 rfl rfl rfl ?_) | (refine ext rfl (.tmp 10) 1 [u1, .bool true] (.bool true) rfl rfl rfl ?_) | (refine ext rfl (.tmp 15) 0 [u2, .bool false] u2 rfl rfl rfl ?_) | (refine ext rfl (.tmp 15) 1 [u2, .bool false] (.bool false) rfl rfl rfl ?_) | (go_at_call 56; refine (compare_any m n _ _ _ HV1.out HV2.out HM.out HN.out).mono ?_; rintro e w5 ⟨rfl, hb5⟩; rw [HC.out]; have HV1 := Lib.hid (HV1.out.below hb5); have HV2 := Lib.hid (HV2.out.below hb5); have HB2 := Lib.hid (HB2.out.trans (hb5.mono HB2.out.size)); clear hb5) | (go_at_call 66; refine (less_dg n m _ _ _ HV2.out HV1.out HNN.out HNM.out (by omega)).mono ?_; rintro e w3 ⟨u3, rfl, hu3, hb3⟩; have HU3 := Lib.hid (hu3.lower (Nat.zero_le _)); have HB3 := Lib.hid (HB2.out.trans (hb3.mono HB2.out.size)); clear hu3 hb3) | (go_at_call 64; refine (fit_any (n - m) false _ _ (HU3.out) (by have := HK.out; omega)).mono ?_; rintro e w4 ⟨rfl, hb4⟩; rw [HO.out]; have HB4 := Lib.hid (HB3.out.trans (hb4.mono HB3.out.size)); clear hb4) | (refine ext rfl (.tmp 38) 0 [.string ⟨l⟩, .bool bb] (.string ⟨l⟩) rfl rfl rfl ?_) | (refine ext rfl (.tmp 38) 1 [.string ⟨l⟩, .bool bb] (.bool bb) rfl rfl rfl ?_))
          go_ret2
          exact ⟨rfl, HB4.out⟩
        · obtain ⟨cz, hcz, hc0⟩ : ∃ cz, cmpN m n = cz ∧ 0 ≤ cz := ⟨_, rfl, cmpN_ge' (Nat.le_of_not_lt hlt)⟩
          have HC := Lib.hid hcz
          clear hcz
          have hge : n ≤ m := Nat.le_of_not_lt hlt
          clear hlt
          obtain ⟨l, bb, hl⟩ := outI_form (sgn true (m - n))
          have HO := Lib.hid hl
          have HE := Lib.hid (show outI (sgn true m + sgn false n) = .tuple #[.string ⟨l⟩, .bool bb] from (congrArg outI (sg_tf_ge (by assumption))).trans hl)
          rw [HE.out]
          clear hl
          go_enter Try.func38, Try.ntmps38
          go_wp2_with fail
          refine (HD1.out _).mono ?_
          rintro e w1 ⟨u1, rfl, hu1, hb1⟩
          have HU1 := Lib.hid hu1
          have HB1 := Lib.hid hb1
          clear hu1 hb1
          go_wp2_with (first | (refine ext rfl (.tmp 10) 0 [u1, .bool true] u1 rfl rfl rfl ?_) | (refine ext rfl (.tmp 10) 1 [u1, .bool true] (.bool true) rfl rfl rfl ?_))
          refine (HD2.out _).mono ?_
          rintro e w2 ⟨u2, rfl, hu2, hb2⟩
          have HV1 := Lib.hid ((HU1.out.below hb2).lower (Nat.zero_le _))
          have HV2 := Lib.hid (hu2.lower (Nat.zero_le _))
          have HB2 := Lib.hid (HB1.out.trans (hb2.mono HB1.out.size))
          clear hu2 hb2
          go_wp2_with (first | (refine ext rfl (.tmp 10) 0 [u1, .bool true] u1 rfl rfl rfl ?_) | (refine ext rfl (.tmp 10) 1 [u1, .bool true] (.bool true) rfl rfl rfl ?_) | (refine ext rfl (.tmp 15) 0 [u2, .bool false] u2 rfl rfl rfl ?_) | (refine ext rfl (.tmp 15) 1 [u2, .bool false] (.bool false) rfl rfl rfl ?_) | (go_at_call 56; refine (compare_any m n _ _ _ HV1.out HV2.out HM.out HN.out).mono ?_; rintro e w5 ⟨rfl, hb5⟩; rw [HC.out]; have HV1 := Lib.hid (HV1.out.below hb5); have HV2 := Lib.hid (HV2.out.below hb5); have HB2 := Lib.hid (HB2.out.trans (hb5.mono HB2.out.size)); clear hb5) | (go_at_call 66; refine (less_dg m n _ _ _ HV1.out HV2.out HNM.out HNN.out (by omega)).mono ?_; rintro e w3 ⟨u3, rfl, hu3, hb3⟩; have HU3 := Lib.hid (hu3.lower (Nat.zero_le _)); have HB3 := Lib.hid (HB2.out.trans (hb3.mono HB2.out.size)); clear hu3 hb3) | (go_at_call 64; refine (fit_any (m - n) true _ _ (HU3.out) (by have := HK.out; omega)).mono ?_; rintro e w4 ⟨rfl, hb4⟩; rw [HO.out]; have HB4 := Lib.hid (HB3.out.trans (hb4.mono HB3.out.size)); clear hb4) | (refine ext rfl (.tmp 45) 0 [.string ⟨l⟩, .bool bb] (.string ⟨l⟩) rfl rfl rfl ?_) | (refine ext rfl (.tmp 45) 1 [.string ⟨l⟩, .bool bb] (.bool bb) rfl rfl rfl ?_))
          go_ret2
          exact ⟨rfl, HB4.out⟩
    | true =>
      obtain ⟨l, bb, hl⟩ := outI_form (sgn true (m + n))
      have HO := Lib.hid hl
      have HE := Lib.hid (show outI (sgn true m + sgn true n) = .tuple #[.string ⟨l⟩, .bool bb] from (congrArg outI (sg_same _ m n)).trans hl)
      rw [HE.out]
      clear hl
      go_enter Try.func38, Try.ntmps38
      go_wp2_with fail
      refine (HD1.out _).mono ?_
      rintro e w1 ⟨u1, rfl, hu1, hb1⟩
      have HU1 := Lib.hid hu1
      have HB1 := Lib.hid hb1
      clear hu1 hb1
      go_wp2_with (first | (refine ext rfl (.tmp 10) 0 [u1, .bool true] u1 rfl rfl rfl ?_) | (refine ext rfl (.tmp 10) 1 [u1, .bool true] (.bool true) rfl rfl rfl ?_))
      refine (HD2.out _).mono ?_
      rintro e w2 ⟨u2, rfl, hu2, hb2⟩
      have HV1 := Lib.hid ((HU1.out.below hb2).lower (Nat.zero_le _))
      have HV2 := Lib.hid (hu2.lower (Nat.zero_le _))
      have HB2 := Lib.hid (HB1.out.trans (hb2.mono HB1.out.size))
      clear hu2 hb2
      go_wp2_with (first | (refine ext rfl (.tmp 10) 0 [u1, .bool true] u1 rfl rfl rfl ?_) | (refine ext rfl (.tmp 10) 1 [u1, .bool true] (.bool true) rfl rfl rfl ?_) | (refine ext rfl (.tmp 15) 0 [u2, .bool true] u2 rfl rfl rfl ?_) | (refine ext rfl (.tmp 15) 1 [u2, .bool true] (.bool true) rfl rfl rfl ?_) | (go_at_call 65; refine (plus_dg m n _ _ _ HV1.out HV2.out HNM.out HNN.out).mono ?_; rintro e w3 ⟨u3, rfl, hu3, hb3⟩; have HU3 := Lib.hid (hu3.lower (Nat.zero_le _)); have HB3 := Lib.hid (HB2.out.trans (hb3.mono HB2.out.size)); clear hu3 hb3) | (go_at_call 64; refine (fit_any (m + n) true _ _ (HU3.out) (by have := HK.out; omega)).mono ?_; rintro e w4 ⟨rfl, hb4⟩; rw [HO.out]; have HB4 := Lib.hid (HB3.out.trans (hb4.mono HB3.out.size)); clear hb4) | (refine ext rfl (.tmp 27) 0 [.string ⟨l⟩, .bool bb] (.string ⟨l⟩) rfl rfl rfl ?_) | (refine ext rfl (.tmp 27) 1 [.string ⟨l⟩, .bool bb] (.bool bb) rfl rfl rfl ?_))
      go_ret2
      exact ⟨rfl, HB4.out⟩
end Go.Proofs.Ytckmpenlpkhnfaa
