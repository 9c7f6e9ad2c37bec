/- The model's quotients and remainders of texts. -/
import Derived.Test.YtckmpenlpkhnfabMDiv
import Derived.Test.YtckmpenlpkhnfabMEnt
import Derived.Test.YtckmpenlpkhnfabFns2
namespace Go.Proofs.Ytckmpenlpkhnfab
open Go.RowKit
theorem D_one : D 1 = [1] := by
  have h : nd 1 = 1 := by rw [nd_pos (by decide)]; rw [show 1 / 10 = 0 from rfl, nd_zero]
  unfold D; rw [h]; rfl
theorem rd_lit1 (w : World) : Rd (w.alloc (.cells #[.int .i64 1] 3)) 0 (.slice (some ⟨w.heap.size, 0, none⟩) 1 1) (D 1) := by
  rw [D_one]; exact Rd.lit1 w 0 1 (Nat.zero_le _)
theorem nd_zero_iff {n : Nat} (h : n ≠ 0) : 0 < nd n := by rw [nd_pos h]; omega
set_option maxHeartbeats 4000000 in
theorem divInts_any (s t : ByteArray) (w : World) (h1 : okI s.data.toList = true) (h2 : okI t.data.toList = true) (h0 : rz t.data.toList ≠ 0) :
    Calls Try.prog 49 #[.string s, .string t] w fun e w' => e = .returned (.tuple #[txV (qI (rz s.data.toList) (rz t.data.toList)), txV (rI (rz s.data.toList) (rz t.data.toList))]) ∧ Below w.heap.size w w' := by
  have HD1 := Lib.hid (fun w => digits_any s w h1)
  have HD2 := Lib.hid (fun w => digits_any t w h2)
  have hx := okI_lt (l := s.data.toList)
  have hy := okI_lt (l := t.data.toList)
  have hn0 : 0 < (rz t.data.toList).natAbs := by omega
  unfold qI rI
  generalize decide (rz s.data.toList < 0) = p at *
  generalize decide (rz t.data.toList < 0) = q at *
  generalize (rz s.data.toList).natAbs = m at *
  generalize (rz t.data.toList).natAbs = n at *
  have HM := Lib.hid hx
  have HN := Lib.hid hy
  have HN0 := Lib.hid hn0
  have HNN := Lib.hid (Nat.le_trans (nd_le_of hy) (show 40 ≤ 100 by decide))
  have HQ := Lib.hid (show m / n < 10 ^ 40 from Nat.lt_of_le_of_lt (Nat.div_le_self _ _) hx)
  have HR := Lib.hid (Nat.mod_lt m hn0)
  have HNQ := Lib.hid (Nat.le_trans (nd_le_of HQ.out) (show 40 ≤ 100 by decide))
  have HNR := Lib.hid (Nat.le_trans (nd_le_of (Nat.lt_trans HR.out hy)) (show 40 ≤ 100 by decide))
  have hrd : nd (m % n) ≤ 100 := HNR.out
  clear hx hy h1 h2 h0 hn0
  cases p with
  | false =>
    cases q with
    | false =>
      by_cases hz : m % n = 0
      · skip
        have HE1 := Lib.hid (show dq false false m n = m / n by unfold dq; rw [if_neg (fun h => h.1 rfl)])
        have HE2 := Lib.hid (show dr false false m n = m % n by unfold dr; rw [if_neg (fun h => h.1 rfl)])
        have HPZ := Lib.hid (show nd (m % n) = 0 by rw [hz, nd_zero])
        clear hz
        go_enter Try.func49, Try.ntmps49
        go_wp2_with fail
        refine (HD1.out _).mono ?_
        rintro e w1 ⟨u1, rfl, hu1, hb1⟩
        have HU1 := Lib.hid hu1
        have HB1 := Lib.hid hb1
        clear hu1 hb1
        go_wp2_with (first | (refine ext rfl (.tmp 12) 0 [u1, .bool false] u1 rfl rfl rfl ?_) | (refine ext rfl (.tmp 12) 1 [u1, .bool false] (.bool false) rfl rfl rfl ?_))
        refine (HD2.out _).mono ?_
        rintro e w2 ⟨u2, rfl, hu2, hb2⟩
        have HV1 := Lib.hid ((HU1.out.below hb2).lower (Nat.zero_le _))
        have HV2 := Lib.hid (hu2.lower (Nat.zero_le _))
        have HB2 := Lib.hid (HB1.out.trans (hb2.mono HB1.out.size))
        clear hu2 hb2
        go_wp2_with (first | (refine ext rfl (.tmp 17) 0 [u2, .bool false] u2 rfl rfl rfl ?_) | (refine ext rfl (.tmp 17) 1 [u2, .bool false] (.bool false) rfl rfl rfl ?_))
        refine (divided_dg m n _ _ _ HV1.out HV2.out HM.out HN.out HN0.out).mono ?_
        rintro e w3 ⟨u3, v3, rfl, hu3, ⟨g, cap, rfl, hgl, hg, hc, hr⟩, hb3⟩
        have HU3 := Lib.hid (hu3.lower (Nat.zero_le _))
        have HR3 := Lib.hid (show Rd w3 0 (.slice (some ⟨g, 0, none⟩) 0 cap) (D (m % n)) from ⟨g, cap, by rw [D_len, HPZ.out], Nat.zero_le _, hg, hc, hr⟩)
        have HY3 := Lib.hid (HV2.out.below hb3)
        have HB3 := Lib.hid (HB2.out.trans (hb3.mono HB2.out.size))
        rw [D_len, HPZ.out]
        clear hc hrd
        clear hu3 hb3 hr hg hgl
        go_wp2_with (first | (refine ext rfl (.tmp 22) 0 [u3, .slice (some ⟨g, 0, none⟩) 0 cap] u3 rfl rfl rfl ?_) | (refine ext rfl (.tmp 22) 1 [u3, .slice (some ⟨g, 0, none⟩) 0 cap] (.slice (some ⟨g, 0, none⟩) 0 cap) rfl rfl rfl ?_))
        refine (integer_any (m / n) (nd (m / n)) _ _ _ HU3.out (nd_lt _) (by have := HNQ.out; omega)).mono ?_
        rintro e w6 ⟨rfl, hb6⟩
        have HR6 := Lib.hid (HR3.out.below hb6)
        have HB6 := Lib.hid (HB3.out.trans (hb6.mono HB3.out.size))
        clear hb6
        go_wp2_with fail
        refine (integer_any (m % n) (nd (m % n)) _ _ _ HR6.out (nd_lt _) (by have := HNR.out; omega)).mono ?_
        rintro e w7 ⟨rfl, hb7⟩
        have HB7 := Lib.hid (HB6.out.trans (hb7.mono HB6.out.size))
        clear hb7
        go_wp2_with fail
        go_ret2
        exact ⟨by rw [HE1.out, HE2.out]; rfl, HB7.out⟩
      · skip
        have HE1 := Lib.hid (show dq false false m n = m / n by unfold dq; rw [if_neg (fun h => h.1 rfl)])
        have HE2 := Lib.hid (show dr false false m n = m % n by unfold dr; rw [if_neg (fun h => h.1 rfl)])
        have hpos := nd_zero_iff hz
        clear hz
        go_enter Try.func49, Try.ntmps49
        go_wp2_with fail
        refine (HD1.out _).mono ?_
        rintro e w1 ⟨u1, rfl, hu1, hb1⟩
        have HU1 := Lib.hid hu1
        have HB1 := Lib.hid hb1
        clear hu1 hb1
        go_wp2_with (first | (refine ext rfl (.tmp 12) 0 [u1, .bool false] u1 rfl rfl rfl ?_) | (refine ext rfl (.tmp 12) 1 [u1, .bool false] (.bool false) rfl rfl rfl ?_))
        refine (HD2.out _).mono ?_
        rintro e w2 ⟨u2, rfl, hu2, hb2⟩
        have HV1 := Lib.hid ((HU1.out.below hb2).lower (Nat.zero_le _))
        have HV2 := Lib.hid (hu2.lower (Nat.zero_le _))
        have HB2 := Lib.hid (HB1.out.trans (hb2.mono HB1.out.size))
        clear hu2 hb2
        go_wp2_with (first | (refine ext rfl (.tmp 17) 0 [u2, .bool false] u2 rfl rfl rfl ?_) | (refine ext rfl (.tmp 17) 1 [u2, .bool false] (.bool false) rfl rfl rfl ?_))
        refine (divided_dg m n _ _ _ HV1.out HV2.out HM.out HN.out HN0.out).mono ?_
        rintro e w3 ⟨u3, v3, rfl, hu3, ⟨g, cap, rfl, hgl, hg, hc, hr⟩, hb3⟩
        have HU3 := Lib.hid (hu3.lower (Nat.zero_le _))
        have HR3 := Lib.hid (show Rd w3 0 (.slice (some ⟨g, 0, none⟩) (nd (m % n)) cap) (D (m % n)) from ⟨g, cap, by rw [D_len], Nat.zero_le _, hg, hc, hr⟩)
        have HY3 := Lib.hid (HV2.out.below hb3)
        have HB3 := Lib.hid (HB2.out.trans (hb3.mono HB2.out.size))
        rw [D_len]
        rw [D_len] at hc
        clear hu3 hb3 hr hg hgl
        go_wp2_with (first | (refine ext rfl (.tmp 22) 0 [u3, .slice (some ⟨g, 0, none⟩) (nd (m % n)) cap] u3 rfl rfl rfl ?_) | (refine ext rfl (.tmp 22) 1 [u3, .slice (some ⟨g, 0, none⟩) (nd (m % n)) cap] (.slice (some ⟨g, 0, none⟩) (nd (m % n)) cap) rfl rfl rfl ?_))
        refine (integer_any (m / n) (nd (m / n)) _ _ _ HU3.out (nd_lt _) (by have := HNQ.out; omega)).mono ?_
        rintro e w6 ⟨rfl, hb6⟩
        have HR6 := Lib.hid (HR3.out.below hb6)
        have HB6 := Lib.hid (HB3.out.trans (hb6.mono HB3.out.size))
        clear hb6
        go_wp2_with fail
        refine (integer_any (m % n) (nd (m % n)) _ _ _ HR6.out (nd_lt _) (by have := HNR.out; omega)).mono ?_
        rintro e w7 ⟨rfl, hb7⟩
        have HB7 := Lib.hid (HB6.out.trans (hb7.mono HB6.out.size))
        clear hb7
        go_wp2_with fail
        go_ret2
        exact ⟨by rw [HE1.out, HE2.out]; rfl, HB7.out⟩
    | true =>
      by_cases hz : m % n = 0
      · skip
        have HE1 := Lib.hid (show dq false true m n = m / n by unfold dq; rw [if_neg (fun h => h.2 hz)])
        have HE2 := Lib.hid (show dr false true m n = m % n by unfold dr; rw [if_neg (fun h => h.2 hz)])
        have HPZ := Lib.hid (show nd (m % n) = 0 by rw [hz, nd_zero])
        clear hz
        go_enter Try.func49, Try.ntmps49
        go_wp2_with fail
        refine (HD1.out _).mono ?_
        rintro e w1 ⟨u1, rfl, hu1, hb1⟩
        have HU1 := Lib.hid hu1
        have HB1 := Lib.hid hb1
        clear hu1 hb1
        go_wp2_with (first | (refine ext rfl (.tmp 12) 0 [u1, .bool false] u1 rfl rfl rfl ?_) | (refine ext rfl (.tmp 12) 1 [u1, .bool false] (.bool false) rfl rfl rfl ?_))
        refine (HD2.out _).mono ?_
        rintro e w2 ⟨u2, rfl, hu2, hb2⟩
        have HV1 := Lib.hid ((HU1.out.below hb2).lower (Nat.zero_le _))
        have HV2 := Lib.hid (hu2.lower (Nat.zero_le _))
        have HB2 := Lib.hid (HB1.out.trans (hb2.mono HB1.out.size))
        clear hu2 hb2
        go_wp2_with (first | (refine ext rfl (.tmp 17) 0 [u2, .bool true] u2 rfl rfl rfl ?_) | (refine ext rfl (.tmp 17) 1 [u2, .bool true] (.bool true) rfl rfl rfl ?_))
        refine (divided_dg m n _ _ _ HV1.out HV2.out HM.out HN.out HN0.out).mono ?_
        rintro e w3 ⟨u3, v3, rfl, hu3, ⟨g, cap, rfl, hgl, hg, hc, hr⟩, hb3⟩
        have HU3 := Lib.hid (hu3.lower (Nat.zero_le _))
        have HR3 := Lib.hid (show Rd w3 0 (.slice (some ⟨g, 0, none⟩) 0 cap) (D (m % n)) from ⟨g, cap, by rw [D_len, HPZ.out], Nat.zero_le _, hg, hc, hr⟩)
        have HY3 := Lib.hid (HV2.out.below hb3)
        have HB3 := Lib.hid (HB2.out.trans (hb3.mono HB2.out.size))
        rw [D_len, HPZ.out]
        clear hc hrd
        clear hu3 hb3 hr hg hgl
        go_wp2_with (first | (refine ext rfl (.tmp 22) 0 [u3, .slice (some ⟨g, 0, none⟩) 0 cap] u3 rfl rfl rfl ?_) | (refine ext rfl (.tmp 22) 1 [u3, .slice (some ⟨g, 0, none⟩) 0 cap] (.slice (some ⟨g, 0, none⟩) 0 cap) rfl rfl rfl ?_))
        refine (integer_any (m / n) (nd (m / n)) _ _ _ HU3.out (nd_lt _) (by have := HNQ.out; omega)).mono ?_
        rintro e w6 ⟨rfl, hb6⟩
        have HR6 := Lib.hid (HR3.out.below hb6)
        have HB6 := Lib.hid (HB3.out.trans (hb6.mono HB3.out.size))
        clear hb6
        go_wp2_with fail
        refine (integer_any (m % n) (nd (m % n)) _ _ _ HR6.out (nd_lt _) (by have := HNR.out; omega)).mono ?_
        rintro e w7 ⟨rfl, hb7⟩
        have HB7 := Lib.hid (HB6.out.trans (hb7.mono HB6.out.size))
        clear hb7
        go_wp2_with fail
        go_ret2
        exact ⟨by rw [HE1.out, HE2.out]; rfl, HB7.out⟩
      · skip
        have HE1 := Lib.hid (show dq false true m n = m / n + 1 by unfold dq; rw [if_pos ⟨by decide, hz⟩])
        have HE2 := Lib.hid (show dr false true m n = n - m % n by unfold dr; rw [if_pos ⟨by decide, hz⟩])
        have hpos := nd_zero_iff hz
        have HNP := Lib.hid (nd_le_of (show m / n + 1 < 10 ^ 41 by have := HQ.out; omega))
        have HND := Lib.hid (nd_le_of (show n - m % n < 10 ^ 40 by have := HN.out; omega))
        clear hz
        go_enter Try.func49, Try.ntmps49
        go_wp2_with fail
        refine (HD1.out _).mono ?_
        rintro e w1 ⟨u1, rfl, hu1, hb1⟩
        have HU1 := Lib.hid hu1
        have HB1 := Lib.hid hb1
        clear hu1 hb1
        go_wp2_with (first | (refine ext rfl (.tmp 12) 0 [u1, .bool false] u1 rfl rfl rfl ?_) | (refine ext rfl (.tmp 12) 1 [u1, .bool false] (.bool false) rfl rfl rfl ?_))
        refine (HD2.out _).mono ?_
        rintro e w2 ⟨u2, rfl, hu2, hb2⟩
        have HV1 := Lib.hid ((HU1.out.below hb2).lower (Nat.zero_le _))
        have HV2 := Lib.hid (hu2.lower (Nat.zero_le _))
        have HB2 := Lib.hid (HB1.out.trans (hb2.mono HB1.out.size))
        clear hu2 hb2
        go_wp2_with (first | (refine ext rfl (.tmp 17) 0 [u2, .bool true] u2 rfl rfl rfl ?_) | (refine ext rfl (.tmp 17) 1 [u2, .bool true] (.bool true) rfl rfl rfl ?_))
        refine (divided_dg m n _ _ _ HV1.out HV2.out HM.out HN.out HN0.out).mono ?_
        rintro e w3 ⟨u3, v3, rfl, hu3, ⟨g, cap, rfl, hgl, hg, hc, hr⟩, hb3⟩
        have HU3 := Lib.hid (hu3.lower (Nat.zero_le _))
        have HR3 := Lib.hid (show Rd w3 0 (.slice (some ⟨g, 0, none⟩) (nd (m % n)) cap) (D (m % n)) from ⟨g, cap, by rw [D_len], Nat.zero_le _, hg, hc, hr⟩)
        have HY3 := Lib.hid (HV2.out.below hb3)
        have HB3 := Lib.hid (HB2.out.trans (hb3.mono HB2.out.size))
        rw [D_len]
        rw [D_len] at hc
        clear hu3 hb3 hr hg hgl
        go_wp2_with (first | (refine ext rfl (.tmp 22) 0 [u3, .slice (some ⟨g, 0, none⟩) (nd (m % n)) cap] u3 rfl rfl rfl ?_) | (refine ext rfl (.tmp 22) 1 [u3, .slice (some ⟨g, 0, none⟩) (nd (m % n)) cap] (.slice (some ⟨g, 0, none⟩) (nd (m % n)) cap) rfl rfl rfl ?_) | (go_at_call 76; refine (plus_dg (m / n) 1 _ _ _ (HU3.out.alloc _) (rd_lit1 w3) HNQ.out (by rw [nd_pos (by decide)]; rw [show 1 / 10 = 0 from rfl, nd_zero]; decide)).mono ?_; rintro e w4 ⟨u4, rfl, hu4, hb4⟩; have HU4 := Lib.hid (hu4.lower (Nat.zero_le _)); have HA4 := Lib.hid (((Below.refl w3.heap.size w3).alloc (Nat.le_refl _) (.cells #[.int .i64 1] 3)).trans (hb4.mono (by simp))); have HR4 := Lib.hid (HR3.out.below HA4.out); have HY4 := Lib.hid (HY3.out.below HA4.out); have HB4 := Lib.hid (HB3.out.trans (HA4.out.mono HB3.out.size)); clear hu4 hb4) | (go_at_call 77; refine (less_dg n (m % n) _ _ _ HY4.out HR4.out HNN.out HNR.out (Nat.le_of_lt HR.out)).mono ?_; rintro e w5 ⟨u5, rfl, hu5, hb5⟩; have HU5 := Lib.hid (HU4.out.below hb5); have HR5 := Lib.hid (hu5.lower (Nat.zero_le _)); have HB5 := Lib.hid (HB4.out.trans (hb5.mono HB4.out.size)); clear hu5 hb5))
        refine (integer_any (m / n + 1) (nd (m / n + 1)) _ _ _ HU5.out (nd_lt _) (by have := HNP.out; omega)).mono ?_
        rintro e w6 ⟨rfl, hb6⟩
        have HR6 := Lib.hid (HR5.out.below hb6)
        have HB6 := Lib.hid (HB5.out.trans (hb6.mono HB5.out.size))
        clear hb6
        go_wp2_with fail
        refine (integer_any (n - m % n) (nd (n - m % n)) _ _ _ HR6.out (nd_lt _) (by have := HND.out; omega)).mono ?_
        rintro e w7 ⟨rfl, hb7⟩
        have HB7 := Lib.hid (HB6.out.trans (hb7.mono HB6.out.size))
        clear hb7
        go_wp2_with fail
        go_ret2
        exact ⟨by rw [HE1.out, HE2.out]; rfl, HB7.out⟩
  | true =>
    cases q with
    | false =>
      by_cases hz : m % n = 0
      · skip
        have HE1 := Lib.hid (show dq true false m n = m / n by unfold dq; rw [if_neg (fun h => h.2 hz)])
        have HE2 := Lib.hid (show dr true false m n = m % n by unfold dr; rw [if_neg (fun h => h.2 hz)])
        have HPZ := Lib.hid (show nd (m % n) = 0 by rw [hz, nd_zero])
        clear hz
        go_enter Try.func49, Try.ntmps49
        go_wp2_with fail
        refine (HD1.out _).mono ?_
        rintro e w1 ⟨u1, rfl, hu1, hb1⟩
        have HU1 := Lib.hid hu1
        have HB1 := Lib.hid hb1
        clear hu1 hb1
        go_wp2_with (first | (refine ext rfl (.tmp 12) 0 [u1, .bool true] u1 rfl rfl rfl ?_) | (refine ext rfl (.tmp 12) 1 [u1, .bool true] (.bool true) rfl rfl rfl ?_))
        refine (HD2.out _).mono ?_
        rintro e w2 ⟨u2, rfl, hu2, hb2⟩
        have HV1 := Lib.hid ((HU1.out.below hb2).lower (Nat.zero_le _))
        have HV2 := Lib.hid (hu2.lower (Nat.zero_le _))
        have HB2 := Lib.hid (HB1.out.trans (hb2.mono HB1.out.size))
        clear hu2 hb2
        go_wp2_with (first | (refine ext rfl (.tmp 17) 0 [u2, .bool false] u2 rfl rfl rfl ?_) | (refine ext rfl (.tmp 17) 1 [u2, .bool false] (.bool false) rfl rfl rfl ?_))
        refine (divided_dg m n _ _ _ HV1.out HV2.out HM.out HN.out HN0.out).mono ?_
        rintro e w3 ⟨u3, v3, rfl, hu3, ⟨g, cap, rfl, hgl, hg, hc, hr⟩, hb3⟩
        have HU3 := Lib.hid (hu3.lower (Nat.zero_le _))
        have HR3 := Lib.hid (show Rd w3 0 (.slice (some ⟨g, 0, none⟩) 0 cap) (D (m % n)) from ⟨g, cap, by rw [D_len, HPZ.out], Nat.zero_le _, hg, hc, hr⟩)
        have HY3 := Lib.hid (HV2.out.below hb3)
        have HB3 := Lib.hid (HB2.out.trans (hb3.mono HB2.out.size))
        rw [D_len, HPZ.out]
        clear hc hrd
        clear hu3 hb3 hr hg hgl
        go_wp2_with (first | (refine ext rfl (.tmp 22) 0 [u3, .slice (some ⟨g, 0, none⟩) 0 cap] u3 rfl rfl rfl ?_) | (refine ext rfl (.tmp 22) 1 [u3, .slice (some ⟨g, 0, none⟩) 0 cap] (.slice (some ⟨g, 0, none⟩) 0 cap) rfl rfl rfl ?_))
        refine (integer_any (m / n) (nd (m / n)) _ _ _ HU3.out (nd_lt _) (by have := HNQ.out; omega)).mono ?_
        rintro e w6 ⟨rfl, hb6⟩
        have HR6 := Lib.hid (HR3.out.below hb6)
        have HB6 := Lib.hid (HB3.out.trans (hb6.mono HB3.out.size))
        clear hb6
        go_wp2_with fail
        refine (integer_any (m % n) (nd (m % n)) _ _ _ HR6.out (nd_lt _) (by have := HNR.out; omega)).mono ?_
        rintro e w7 ⟨rfl, hb7⟩
        have HB7 := Lib.hid (HB6.out.trans (hb7.mono HB6.out.size))
        clear hb7
        go_wp2_with fail
        go_ret2
        exact ⟨by rw [HE1.out, HE2.out]; rfl, HB7.out⟩
      · skip
        have HE1 := Lib.hid (show dq true false m n = m / n + 1 by unfold dq; rw [if_pos ⟨by decide, hz⟩])
        have HE2 := Lib.hid (show dr true false m n = n - m % n by unfold dr; rw [if_pos ⟨by decide, hz⟩])
        have hpos := nd_zero_iff hz
        have HNP := Lib.hid (nd_le_of (show m / n + 1 < 10 ^ 41 by have := HQ.out; omega))
        have HND := Lib.hid (nd_le_of (show n - m % n < 10 ^ 40 by have := HN.out; omega))
        clear hz
        go_enter Try.func49, Try.ntmps49
        go_wp2_with fail
        refine (HD1.out _).mono ?_
        rintro e w1 ⟨u1, rfl, hu1, hb1⟩
        have HU1 := Lib.hid hu1
        have HB1 := Lib.hid hb1
        clear hu1 hb1
        go_wp2_with (first | (refine ext rfl (.tmp 12) 0 [u1, .bool true] u1 rfl rfl rfl ?_) | (refine ext rfl (.tmp 12) 1 [u1, .bool true] (.bool true) rfl rfl rfl ?_))
        refine (HD2.out _).mono ?_
        rintro e w2 ⟨u2, rfl, hu2, hb2⟩
        have HV1 := Lib.hid ((HU1.out.below hb2).lower (Nat.zero_le _))
        have HV2 := Lib.hid (hu2.lower (Nat.zero_le _))
        have HB2 := Lib.hid (HB1.out.trans (hb2.mono HB1.out.size))
        clear hu2 hb2
        go_wp2_with (first | (refine ext rfl (.tmp 17) 0 [u2, .bool false] u2 rfl rfl rfl ?_) | (refine ext rfl (.tmp 17) 1 [u2, .bool false] (.bool false) rfl rfl rfl ?_))
        refine (divided_dg m n _ _ _ HV1.out HV2.out HM.out HN.out HN0.out).mono ?_
        rintro e w3 ⟨u3, v3, rfl, hu3, ⟨g, cap, rfl, hgl, hg, hc, hr⟩, hb3⟩
        have HU3 := Lib.hid (hu3.lower (Nat.zero_le _))
        have HR3 := Lib.hid (show Rd w3 0 (.slice (some ⟨g, 0, none⟩) (nd (m % n)) cap) (D (m % n)) from ⟨g, cap, by rw [D_len], Nat.zero_le _, hg, hc, hr⟩)
        have HY3 := Lib.hid (HV2.out.below hb3)
        have HB3 := Lib.hid (HB2.out.trans (hb3.mono HB2.out.size))
        rw [D_len]
        rw [D_len] at hc
        clear hu3 hb3 hr hg hgl
        go_wp2_with (first | (refine ext rfl (.tmp 22) 0 [u3, .slice (some ⟨g, 0, none⟩) (nd (m % n)) cap] u3 rfl rfl rfl ?_) | (refine ext rfl (.tmp 22) 1 [u3, .slice (some ⟨g, 0, none⟩) (nd (m % n)) cap] (.slice (some ⟨g, 0, none⟩) (nd (m % n)) cap) rfl rfl rfl ?_) | (go_at_call 76; refine (plus_dg (m / n) 1 _ _ _ (HU3.out.alloc _) (rd_lit1 w3) HNQ.out (by rw [nd_pos (by decide)]; rw [show 1 / 10 = 0 from rfl, nd_zero]; decide)).mono ?_; rintro e w4 ⟨u4, rfl, hu4, hb4⟩; have HU4 := Lib.hid (hu4.lower (Nat.zero_le _)); have HA4 := Lib.hid (((Below.refl w3.heap.size w3).alloc (Nat.le_refl _) (.cells #[.int .i64 1] 3)).trans (hb4.mono (by simp))); have HR4 := Lib.hid (HR3.out.below HA4.out); have HY4 := Lib.hid (HY3.out.below HA4.out); have HB4 := Lib.hid (HB3.out.trans (HA4.out.mono HB3.out.size)); clear hu4 hb4) | (go_at_call 77; refine (less_dg n (m % n) _ _ _ HY4.out HR4.out HNN.out HNR.out (Nat.le_of_lt HR.out)).mono ?_; rintro e w5 ⟨u5, rfl, hu5, hb5⟩; have HU5 := Lib.hid (HU4.out.below hb5); have HR5 := Lib.hid (hu5.lower (Nat.zero_le _)); have HB5 := Lib.hid (HB4.out.trans (hb5.mono HB4.out.size)); clear hu5 hb5))
        refine (integer_any (m / n + 1) (nd (m / n + 1)) _ _ _ HU5.out (nd_lt _) (by have := HNP.out; omega)).mono ?_
        rintro e w6 ⟨rfl, hb6⟩
        have HR6 := Lib.hid (HR5.out.below hb6)
        have HB6 := Lib.hid (HB5.out.trans (hb6.mono HB5.out.size))
        clear hb6
        go_wp2_with fail
        refine (integer_any (n - m % n) (nd (n - m % n)) _ _ _ HR6.out (nd_lt _) (by have := HND.out; omega)).mono ?_
        rintro e w7 ⟨rfl, hb7⟩
        have HB7 := Lib.hid (HB6.out.trans (hb7.mono HB6.out.size))
        clear hb7
        go_wp2_with fail
        go_ret2
        exact ⟨by rw [HE1.out, HE2.out]; rfl, HB7.out⟩
    | true =>
      by_cases hz : m % n = 0
      · skip
        have HE1 := Lib.hid (show dq true true m n = m / n by unfold dq; rw [if_neg (fun h => h.1 rfl)])
        have HE2 := Lib.hid (show dr true true m n = m % n by unfold dr; rw [if_neg (fun h => h.1 rfl)])
        have HPZ := Lib.hid (show nd (m % n) = 0 by rw [hz, nd_zero])
        clear hz
        go_enter Try.func49, Try.ntmps49
        go_wp2_with fail
        refine (HD1.out _).mono ?_
        rintro e w1 ⟨u1, rfl, hu1, hb1⟩
        have HU1 := Lib.hid hu1
        have HB1 := Lib.hid hb1
        clear hu1 hb1
        go_wp2_with (first | (refine ext rfl (.tmp 12) 0 [u1, .bool true] u1 rfl rfl rfl ?_) | (refine ext rfl (.tmp 12) 1 [u1, .bool true] (.bool true) rfl rfl rfl ?_))
        refine (HD2.out _).mono ?_
        rintro e w2 ⟨u2, rfl, hu2, hb2⟩
        have HV1 := Lib.hid ((HU1.out.below hb2).lower (Nat.zero_le _))
        have HV2 := Lib.hid (hu2.lower (Nat.zero_le _))
        have HB2 := Lib.hid (HB1.out.trans (hb2.mono HB1.out.size))
        clear hu2 hb2
        go_wp2_with (first | (refine ext rfl (.tmp 17) 0 [u2, .bool true] u2 rfl rfl rfl ?_) | (refine ext rfl (.tmp 17) 1 [u2, .bool true] (.bool true) rfl rfl rfl ?_))
        refine (divided_dg m n _ _ _ HV1.out HV2.out HM.out HN.out HN0.out).mono ?_
        rintro e w3 ⟨u3, v3, rfl, hu3, ⟨g, cap, rfl, hgl, hg, hc, hr⟩, hb3⟩
        have HU3 := Lib.hid (hu3.lower (Nat.zero_le _))
        have HR3 := Lib.hid (show Rd w3 0 (.slice (some ⟨g, 0, none⟩) 0 cap) (D (m % n)) from ⟨g, cap, by rw [D_len, HPZ.out], Nat.zero_le _, hg, hc, hr⟩)
        have HY3 := Lib.hid (HV2.out.below hb3)
        have HB3 := Lib.hid (HB2.out.trans (hb3.mono HB2.out.size))
        rw [D_len, HPZ.out]
        clear hc hrd
        clear hu3 hb3 hr hg hgl
        go_wp2_with (first | (refine ext rfl (.tmp 22) 0 [u3, .slice (some ⟨g, 0, none⟩) 0 cap] u3 rfl rfl rfl ?_) | (refine ext rfl (.tmp 22) 1 [u3, .slice (some ⟨g, 0, none⟩) 0 cap] (.slice (some ⟨g, 0, none⟩) 0 cap) rfl rfl rfl ?_))
        refine (integer_any (m / n) (nd (m / n)) _ _ _ HU3.out (nd_lt _) (by have := HNQ.out; omega)).mono ?_
        rintro e w6 ⟨rfl, hb6⟩
        have HR6 := Lib.hid (HR3.out.below hb6)
        have HB6 := Lib.hid (HB3.out.trans (hb6.mono HB3.out.size))
        clear hb6
        go_wp2_with fail
        refine (integer_any (m % n) (nd (m % n)) _ _ _ HR6.out (nd_lt _) (by have := HNR.out; omega)).mono ?_
        rintro e w7 ⟨rfl, hb7⟩
        have HB7 := Lib.hid (HB6.out.trans (hb7.mono HB6.out.size))
        clear hb7
        go_wp2_with fail
        go_ret2
        exact ⟨by rw [HE1.out, HE2.out]; rfl, HB7.out⟩
      · skip
        have HE1 := Lib.hid (show dq true true m n = m / n by unfold dq; rw [if_neg (fun h => h.1 rfl)])
        have HE2 := Lib.hid (show dr true true m n = m % n by unfold dr; rw [if_neg (fun h => h.1 rfl)])
        have hpos := nd_zero_iff hz
        clear hz
        go_enter Try.func49, Try.ntmps49
        go_wp2_with fail
        refine (HD1.out _).mono ?_
        rintro e w1 ⟨u1, rfl, hu1, hb1⟩
        have HU1 := Lib.hid hu1
        have HB1 := Lib.hid hb1
        clear hu1 hb1
        go_wp2_with (first | (refine ext rfl (.tmp 12) 0 [u1, .bool true] u1 rfl rfl rfl ?_) | (refine ext rfl (.tmp 12) 1 [u1, .bool true] (.bool true) rfl rfl rfl ?_))
        refine (HD2.out _).mono ?_
        rintro e w2 ⟨u2, rfl, hu2, hb2⟩
        have HV1 := Lib.hid ((HU1.out.below hb2).lower (Nat.zero_le _))
        have HV2 := Lib.hid (hu2.lower (Nat.zero_le _))
        have HB2 := Lib.hid (HB1.out.trans (hb2.mono HB1.out.size))
        clear hu2 hb2
        go_wp2_with (first | (refine ext rfl (.tmp 17) 0 [u2, .bool true] u2 rfl rfl rfl ?_) | (refine ext rfl (.tmp 17) 1 [u2, .bool true] (.bool true) rfl rfl rfl ?_))
        refine (divided_dg m n _ _ _ HV1.out HV2.out HM.out HN.out HN0.out).mono ?_
        rintro e w3 ⟨u3, v3, rfl, hu3, ⟨g, cap, rfl, hgl, hg, hc, hr⟩, hb3⟩
        have HU3 := Lib.hid (hu3.lower (Nat.zero_le _))
        have HR3 := Lib.hid (show Rd w3 0 (.slice (some ⟨g, 0, none⟩) (nd (m % n)) cap) (D (m % n)) from ⟨g, cap, by rw [D_len], Nat.zero_le _, hg, hc, hr⟩)
        have HY3 := Lib.hid (HV2.out.below hb3)
        have HB3 := Lib.hid (HB2.out.trans (hb3.mono HB2.out.size))
        rw [D_len]
        rw [D_len] at hc
        clear hu3 hb3 hr hg hgl
        go_wp2_with (first | (refine ext rfl (.tmp 22) 0 [u3, .slice (some ⟨g, 0, none⟩) (nd (m % n)) cap] u3 rfl rfl rfl ?_) | (refine ext rfl (.tmp 22) 1 [u3, .slice (some ⟨g, 0, none⟩) (nd (m % n)) cap] (.slice (some ⟨g, 0, none⟩) (nd (m % n)) cap) rfl rfl rfl ?_))
        refine (integer_any (m / n) (nd (m / n)) _ _ _ HU3.out (nd_lt _) (by have := HNQ.out; omega)).mono ?_
        rintro e w6 ⟨rfl, hb6⟩
        have HR6 := Lib.hid (HR3.out.below hb6)
        have HB6 := Lib.hid (HB3.out.trans (hb6.mono HB3.out.size))
        clear hb6
        go_wp2_with fail
        refine (integer_any (m % n) (nd (m % n)) _ _ _ HR6.out (nd_lt _) (by have := HNR.out; omega)).mono ?_
        rintro e w7 ⟨rfl, hb7⟩
        have HB7 := Lib.hid (HB6.out.trans (hb7.mono HB6.out.size))
        clear hb7
        go_wp2_with fail
        go_ret2
        exact ⟨by rw [HE1.out, HE2.out]; rfl, HB7.out⟩
end Go.Proofs.Ytckmpenlpkhnfab
