/- The model's products, orders, the other sign of texts. -/
import Derived.Test.YtckmpenlpkhnfabFmt
import Derived.Test.YtckmpenlpkhnfabMTimes
import Derived.Test.YtckmpenlpkhnfabFns3
namespace Go.Proofs.Ytckmpenlpkhnfab
open Go.RowKit
set_option maxHeartbeats 4000000 in
theorem mulInts_any (s t : ByteArray) (w : World) (h1 : okI s.data.toList = true) (h2 : okI t.data.toList = true) :
    Calls Try.prog 46 #[.string s, .string t] w fun e w' => e = .returned (outI (rz s.data.toList * rz t.data.toList)) ∧ Below w.heap.size w w' := by
  have HGOAL : rz s.data.toList * rz t.data.toList = sgn (decide (rz s.data.toList < 0) != decide (rz t.data.toList < 0)) ((rz s.data.toList).natAbs * (rz t.data.toList).natAbs) := by rw [← sgn_mul, sgn_self, sgn_self]
  have HD1 := Lib.hid (fun w => digits_any s w h1)
  have HD2 := Lib.hid (fun w => digits_any t w h2)
  have hx := okI_lt (l := s.data.toList)
  have hy := okI_lt (l := t.data.toList)
  rw [HGOAL]
  generalize decide (rz s.data.toList < 0) = p at *
  generalize decide (rz t.data.toList < 0) = q at *
  generalize (rz s.data.toList).natAbs = m at *
  generalize (rz t.data.toList).natAbs = n at *
  have HM := Lib.hid (show m < 10 ^ 80 from Nat.lt_trans hx (by decide))
  have HN := Lib.hid (show n < 10 ^ 80 from Nat.lt_trans hy (by decide))
  have HNM := Lib.hid (Nat.le_trans (nd_le_of hx) (show 40 ≤ 100 by decide))
  have HNN := Lib.hid (Nat.le_trans (nd_le_of hy) (show 40 ≤ 100 by decide))
  have HK := Lib.hid (show m * n < 10 ^ 80 by
    have := Nat.mul_lt_mul'' hx hy
    rw [← Nat.pow_add] at this
    exact this)
  clear hx hy h1 h2 HGOAL
  obtain ⟨l, bb, hl⟩ := outI_form (sgn (p != q) (m * n))
  have HO := Lib.hid hl
  rw [HO.out]
  clear hl
  cases p with
  | false =>
    cases q with
    | false =>
      go_enter Try.func46, Try.ntmps46
      go_wp2_with fail
      refine (HD1.out _).mono ?_
      rintro e w1 ⟨u1, rfl, hu1, hb1⟩
      have HU1 := Lib.hid hu1
      have HB1 := Lib.hid hb1
      clear hu1 hb1
      go_wp2_with (first | (refine ext rfl (.tmp 10) 0 [u1, .bool false] u1 rfl rfl rfl ?_) | (refine ext rfl (.tmp 10) 1 [u1, .bool false] (.bool false) rfl rfl rfl ?_))
      refine (HD2.out _).mono ?_
      rintro e w2 ⟨u2, rfl, hu2, hb2⟩
      have HV1 := Lib.hid ((HU1.out.below hb2).lower (Nat.zero_le _))
      have HV2 := Lib.hid (hu2.lower (Nat.zero_le _))
      have HB2 := Lib.hid (HB1.out.trans (hb2.mono HB1.out.size))
      clear hu2 hb2
      go_wp2_with (first | (refine ext rfl (.tmp 15) 0 [u2, .bool false] u2 rfl rfl rfl ?_) | (refine ext rfl (.tmp 15) 1 [u2, .bool false] (.bool false) rfl rfl rfl ?_) | (go_at_call 66; refine (times_dg m n _ _ _ HV1.out HV2.out HNM.out HNN.out).mono ?_; rintro e w3 ⟨u3, rfl, hu3, hb3⟩; have HU3 := Lib.hid (hu3.lower (Nat.zero_le _)); have HB3 := Lib.hid (HB2.out.trans (hb3.mono HB2.out.size)); clear hu3 hb3) | (go_at_call 71; refine (fit_any (m * n) (false != false) _ _ HU3.out HK.out).mono ?_; rintro e w4 ⟨rfl, hb4⟩; rw [HO.out]; have HB4 := Lib.hid (HB3.out.trans (hb4.mono HB3.out.size)); clear hb4) | (refine ext rfl (.tmp 26) 0 [.string ⟨l⟩, .bool bb] (.string ⟨l⟩) rfl rfl rfl ?_) | (refine ext rfl (.tmp 26) 1 [.string ⟨l⟩, .bool bb] (.bool bb) rfl rfl rfl ?_))
      go_ret2
      exact ⟨rfl, HB4.out⟩
    | true =>
      go_enter Try.func46, Try.ntmps46
      go_wp2_with fail
      refine (HD1.out _).mono ?_
      rintro e w1 ⟨u1, rfl, hu1, hb1⟩
      have HU1 := Lib.hid hu1
      have HB1 := Lib.hid hb1
      clear hu1 hb1
      go_wp2_with (first | (refine ext rfl (.tmp 10) 0 [u1, .bool false] u1 rfl rfl rfl ?_) | (refine ext rfl (.tmp 10) 1 [u1, .bool false] (.bool false) rfl rfl rfl ?_))
      refine (HD2.out _).mono ?_
      rintro e w2 ⟨u2, rfl, hu2, hb2⟩
      have HV1 := Lib.hid ((HU1.out.below hb2).lower (Nat.zero_le _))
      have HV2 := Lib.hid (hu2.lower (Nat.zero_le _))
      have HB2 := Lib.hid (HB1.out.trans (hb2.mono HB1.out.size))
      clear hu2 hb2
      go_wp2_with (first | (refine ext rfl (.tmp 15) 0 [u2, .bool true] u2 rfl rfl rfl ?_) | (refine ext rfl (.tmp 15) 1 [u2, .bool true] (.bool true) rfl rfl rfl ?_) | (go_at_call 66; refine (times_dg m n _ _ _ HV1.out HV2.out HNM.out HNN.out).mono ?_; rintro e w3 ⟨u3, rfl, hu3, hb3⟩; have HU3 := Lib.hid (hu3.lower (Nat.zero_le _)); have HB3 := Lib.hid (HB2.out.trans (hb3.mono HB2.out.size)); clear hu3 hb3) | (go_at_call 71; refine (fit_any (m * n) (false != true) _ _ HU3.out HK.out).mono ?_; rintro e w4 ⟨rfl, hb4⟩; rw [HO.out]; have HB4 := Lib.hid (HB3.out.trans (hb4.mono HB3.out.size)); clear hb4) | (refine ext rfl (.tmp 26) 0 [.string ⟨l⟩, .bool bb] (.string ⟨l⟩) rfl rfl rfl ?_) | (refine ext rfl (.tmp 26) 1 [.string ⟨l⟩, .bool bb] (.bool bb) rfl rfl rfl ?_))
      go_ret2
      exact ⟨rfl, HB4.out⟩
  | true =>
    cases q with
    | false =>
      go_enter Try.func46, Try.ntmps46
      go_wp2_with fail
      refine (HD1.out _).mono ?_
      rintro e w1 ⟨u1, rfl, hu1, hb1⟩
      have HU1 := Lib.hid hu1
      have HB1 := Lib.hid hb1
      clear hu1 hb1
      go_wp2_with (first | (refine ext rfl (.tmp 10) 0 [u1, .bool true] u1 rfl rfl rfl ?_) | (refine ext rfl (.tmp 10) 1 [u1, .bool true] (.bool true) rfl rfl rfl ?_))
      refine (HD2.out _).mono ?_
      rintro e w2 ⟨u2, rfl, hu2, hb2⟩
      have HV1 := Lib.hid ((HU1.out.below hb2).lower (Nat.zero_le _))
      have HV2 := Lib.hid (hu2.lower (Nat.zero_le _))
      have HB2 := Lib.hid (HB1.out.trans (hb2.mono HB1.out.size))
      clear hu2 hb2
      go_wp2_with (first | (refine ext rfl (.tmp 15) 0 [u2, .bool false] u2 rfl rfl rfl ?_) | (refine ext rfl (.tmp 15) 1 [u2, .bool false] (.bool false) rfl rfl rfl ?_) | (go_at_call 66; refine (times_dg m n _ _ _ HV1.out HV2.out HNM.out HNN.out).mono ?_; rintro e w3 ⟨u3, rfl, hu3, hb3⟩; have HU3 := Lib.hid (hu3.lower (Nat.zero_le _)); have HB3 := Lib.hid (HB2.out.trans (hb3.mono HB2.out.size)); clear hu3 hb3) | (go_at_call 71; refine (fit_any (m * n) (true != false) _ _ HU3.out HK.out).mono ?_; rintro e w4 ⟨rfl, hb4⟩; rw [HO.out]; have HB4 := Lib.hid (HB3.out.trans (hb4.mono HB3.out.size)); clear hb4) | (refine ext rfl (.tmp 26) 0 [.string ⟨l⟩, .bool bb] (.string ⟨l⟩) rfl rfl rfl ?_) | (refine ext rfl (.tmp 26) 1 [.string ⟨l⟩, .bool bb] (.bool bb) rfl rfl rfl ?_))
      go_ret2
      exact ⟨rfl, HB4.out⟩
    | true =>
      go_enter Try.func46, Try.ntmps46
      go_wp2_with fail
      refine (HD1.out _).mono ?_
      rintro e w1 ⟨u1, rfl, hu1, hb1⟩
      have HU1 := Lib.hid hu1
      have HB1 := Lib.hid hb1
      clear hu1 hb1
      go_wp2_with (first | (refine ext rfl (.tmp 10) 0 [u1, .bool true] u1 rfl rfl rfl ?_) | (refine ext rfl (.tmp 10) 1 [u1, .bool true] (.bool true) rfl rfl rfl ?_))
      refine (HD2.out _).mono ?_
      rintro e w2 ⟨u2, rfl, hu2, hb2⟩
      have HV1 := Lib.hid ((HU1.out.below hb2).lower (Nat.zero_le _))
      have HV2 := Lib.hid (hu2.lower (Nat.zero_le _))
      have HB2 := Lib.hid (HB1.out.trans (hb2.mono HB1.out.size))
      clear hu2 hb2
      go_wp2_with (first | (refine ext rfl (.tmp 15) 0 [u2, .bool true] u2 rfl rfl rfl ?_) | (refine ext rfl (.tmp 15) 1 [u2, .bool true] (.bool true) rfl rfl rfl ?_) | (go_at_call 66; refine (times_dg m n _ _ _ HV1.out HV2.out HNM.out HNN.out).mono ?_; rintro e w3 ⟨u3, rfl, hu3, hb3⟩; have HU3 := Lib.hid (hu3.lower (Nat.zero_le _)); have HB3 := Lib.hid (HB2.out.trans (hb3.mono HB2.out.size)); clear hu3 hb3) | (go_at_call 71; refine (fit_any (m * n) (true != true) _ _ HU3.out HK.out).mono ?_; rintro e w4 ⟨rfl, hb4⟩; rw [HO.out]; have HB4 := Lib.hid (HB3.out.trans (hb4.mono HB3.out.size)); clear hb4) | (refine ext rfl (.tmp 26) 0 [.string ⟨l⟩, .bool bb] (.string ⟨l⟩) rfl rfl rfl ?_) | (refine ext rfl (.tmp 26) 1 [.string ⟨l⟩, .bool bb] (.bool bb) rfl rfl rfl ?_))
      go_ret2
      exact ⟨rfl, HB4.out⟩
theorem cmpZ_same (m n : Nat) : cmpZ (sgn false m) (sgn false n) = cmpN m n ∧ cmpZ (sgn true m) (sgn true n) = cmpN n m := by
  constructor
  · unfold cmpZ cmpN
    simp only [sgn, Bool.false_eq_true, if_false]
    by_cases h : m = n
    · subst h; simp
    · have h' : ¬ n = m := fun e => h e.symm
      by_cases h2 : m < n <;> simp [h, h2] <;> omega
  · unfold cmpZ cmpN
    simp only [sgn, if_true]
    by_cases h : m = n
    · subst h; simp
    · have h' : ¬ n = m := fun e => h e.symm
      by_cases h2 : n < m <;> simp [h', h2] <;> omega
theorem cmpZ_neg {x y : Int} (h : x < 0) (h2 : ¬ y < 0) : cmpZ x y = -1 := by unfold cmpZ; rw [if_neg (by omega), if_pos (by omega)]
theorem cmpZ_pos {x y : Int} (h : ¬ x < 0) (h2 : y < 0) : cmpZ x y = 1 := by unfold cmpZ; rw [if_neg (by omega), if_neg (by omega)]
set_option maxHeartbeats 4000000 in
theorem cmpInts_any (s t : ByteArray) (w : World) (h1 : okI s.data.toList = true) (h2 : okI t.data.toList = true) :
    Calls Try.prog 61 #[.string s, .string t] w fun e w' => e = .returned (.int .i64 (cmpZ (rz s.data.toList) (rz t.data.toList))) ∧ Below w.heap.size w w' := by
  have HGOAL : cmpZ (rz s.data.toList) (rz t.data.toList) = cmpZ (sgn (decide (rz s.data.toList < 0)) (rz s.data.toList).natAbs) (sgn (decide (rz t.data.toList < 0)) (rz t.data.toList).natAbs) := by rw [sgn_self, sgn_self]
  have hsx : ∀ p q, decide (rz s.data.toList < 0) = p → decide (rz t.data.toList < 0) = q → (p = true → q = false → cmpZ (rz s.data.toList) (rz t.data.toList) = -1) ∧ (p = false → q = true → cmpZ (rz s.data.toList) (rz t.data.toList) = 1) := by
    intro p q hp hq
    subst hp hq
    simp only [decide_eq_true_eq, decide_eq_false_iff_not]
    exact ⟨fun a b => cmpZ_neg a b, fun a b => cmpZ_pos a b⟩
  have HS := hsx _ _ rfl rfl
  clear hsx
  rw [HGOAL] at HS
  have HD1 := Lib.hid (fun w => digits_any s w h1)
  have HD2 := Lib.hid (fun w => digits_any t w h2)
  have hx := okI_lt (l := s.data.toList)
  have hy := okI_lt (l := t.data.toList)
  rw [HGOAL]
  generalize decide (rz s.data.toList < 0) = p at *
  generalize decide (rz t.data.toList < 0) = q at *
  generalize (rz s.data.toList).natAbs = m at *
  generalize (rz t.data.toList).natAbs = n at *
  have HM := Lib.hid (show m < 10 ^ 80 from Nat.lt_trans hx (by decide))
  have HN := Lib.hid (show n < 10 ^ 80 from Nat.lt_trans hy (by decide))
  have HNM := Lib.hid (Nat.le_trans (nd_le_of hx) (show 40 ≤ 100 by decide))
  have HNN := Lib.hid (Nat.le_trans (nd_le_of hy) (show 40 ≤ 100 by decide))
  have HS2 := Lib.hid HS
  clear hx hy h1 h2 HGOAL HS
  cases p with
  | false =>
    cases q with
    | false =>
      have HE := Lib.hid (cmpZ_same m n).1
      rw [HE.out]
      go_enter Try.func61, Try.ntmps61
      go_wp2_with fail
      refine (HD1.out _).mono ?_
      rintro e w1 ⟨u1, rfl, hu1, hb1⟩
      have HU1 := Lib.hid hu1
      have HB1 := Lib.hid hb1
      clear hu1 hb1
      go_wp2_with (first | (refine ext rfl (.tmp 9) 0 [u1, .bool false] u1 rfl rfl rfl ?_) | (refine ext rfl (.tmp 9) 1 [u1, .bool false] (.bool false) rfl rfl rfl ?_))
      refine (HD2.out _).mono ?_
      rintro e w2 ⟨u2, rfl, hu2, hb2⟩
      have HV1 := Lib.hid ((HU1.out.below hb2).lower (Nat.zero_le _))
      have HV2 := Lib.hid (hu2.lower (Nat.zero_le _))
      have HB2 := Lib.hid (HB1.out.trans (hb2.mono HB1.out.size))
      clear hu2 hb2
      go_wp2_with (first | (refine ext rfl (.tmp 14) 0 [u2, .bool false] u2 rfl rfl rfl ?_) | (refine ext rfl (.tmp 14) 1 [u2, .bool false] (.bool false) rfl rfl rfl ?_) | (go_at_call 65; refine (compare_any m n _ _ _ HV1.out HV2.out HM.out HN.out).mono ?_; rintro e w5 ⟨rfl, hb5⟩; have HB5 := Lib.hid (HB2.out.trans (hb5.mono HB2.out.size)); clear hb5))
      go_ret
      exact ⟨rfl, HB5.out⟩
    | true =>
      have HE := Lib.hid (HS2.out.2 rfl rfl)
      rw [HE.out]
      go_enter Try.func61, Try.ntmps61
      go_wp2_with fail
      refine (HD1.out _).mono ?_
      rintro e w1 ⟨u1, rfl, hu1, hb1⟩
      have HU1 := Lib.hid hu1
      have HB1 := Lib.hid hb1
      clear hu1 hb1
      go_wp2_with (first | (refine ext rfl (.tmp 9) 0 [u1, .bool false] u1 rfl rfl rfl ?_) | (refine ext rfl (.tmp 9) 1 [u1, .bool false] (.bool false) rfl rfl rfl ?_))
      refine (HD2.out _).mono ?_
      rintro e w2 ⟨u2, rfl, hu2, hb2⟩
      have HV1 := Lib.hid ((HU1.out.below hb2).lower (Nat.zero_le _))
      have HV2 := Lib.hid (hu2.lower (Nat.zero_le _))
      have HB2 := Lib.hid (HB1.out.trans (hb2.mono HB1.out.size))
      clear hu2 hb2
      go_wp2_with (first | (refine ext rfl (.tmp 14) 0 [u2, .bool true] u2 rfl rfl rfl ?_) | (refine ext rfl (.tmp 14) 1 [u2, .bool true] (.bool true) rfl rfl rfl ?_))
      go_ret
      exact ⟨rfl, HB2.out⟩
  | true =>
    cases q with
    | false =>
      have HE := Lib.hid (HS2.out.1 rfl rfl)
      rw [HE.out]
      go_enter Try.func61, Try.ntmps61
      go_wp2_with fail
      refine (HD1.out _).mono ?_
      rintro e w1 ⟨u1, rfl, hu1, hb1⟩
      have HU1 := Lib.hid hu1
      have HB1 := Lib.hid hb1
      clear hu1 hb1
      go_wp2_with (first | (refine ext rfl (.tmp 9) 0 [u1, .bool true] u1 rfl rfl rfl ?_) | (refine ext rfl (.tmp 9) 1 [u1, .bool true] (.bool true) rfl rfl rfl ?_))
      refine (HD2.out _).mono ?_
      rintro e w2 ⟨u2, rfl, hu2, hb2⟩
      have HV1 := Lib.hid ((HU1.out.below hb2).lower (Nat.zero_le _))
      have HV2 := Lib.hid (hu2.lower (Nat.zero_le _))
      have HB2 := Lib.hid (HB1.out.trans (hb2.mono HB1.out.size))
      clear hu2 hb2
      go_wp2_with (first | (refine ext rfl (.tmp 14) 0 [u2, .bool false] u2 rfl rfl rfl ?_) | (refine ext rfl (.tmp 14) 1 [u2, .bool false] (.bool false) rfl rfl rfl ?_))
      go_ret
      exact ⟨rfl, HB2.out⟩
    | true =>
      have HE := Lib.hid (cmpZ_same m n).2
      rw [HE.out]
      go_enter Try.func61, Try.ntmps61
      go_wp2_with fail
      refine (HD1.out _).mono ?_
      rintro e w1 ⟨u1, rfl, hu1, hb1⟩
      have HU1 := Lib.hid hu1
      have HB1 := Lib.hid hb1
      clear hu1 hb1
      go_wp2_with (first | (refine ext rfl (.tmp 9) 0 [u1, .bool true] u1 rfl rfl rfl ?_) | (refine ext rfl (.tmp 9) 1 [u1, .bool true] (.bool true) rfl rfl rfl ?_))
      refine (HD2.out _).mono ?_
      rintro e w2 ⟨u2, rfl, hu2, hb2⟩
      have HV1 := Lib.hid ((HU1.out.below hb2).lower (Nat.zero_le _))
      have HV2 := Lib.hid (hu2.lower (Nat.zero_le _))
      have HB2 := Lib.hid (HB1.out.trans (hb2.mono HB1.out.size))
      clear hu2 hb2
      go_wp2_with (first | (refine ext rfl (.tmp 14) 0 [u2, .bool true] u2 rfl rfl rfl ?_) | (refine ext rfl (.tmp 14) 1 [u2, .bool true] (.bool true) rfl rfl rfl ?_) | (go_at_call 65; refine (compare_any n m _ _ _ HV2.out HV1.out HN.out HM.out).mono ?_; rintro e w5 ⟨rfl, hb5⟩; have HB5 := Lib.hid (HB2.out.trans (hb5.mono HB2.out.size)); clear hb5))
      go_ret
      exact ⟨rfl, HB5.out⟩
end Go.Proofs.Ytckmpenlpkhnfab
