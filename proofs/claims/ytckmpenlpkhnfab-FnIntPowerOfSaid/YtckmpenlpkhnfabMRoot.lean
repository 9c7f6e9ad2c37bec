/- The model's roots; the laws on powers and roots. -/
import Derived.Test.YtckmpenlpkhnfabMPow
import Derived.Test.YtckmpenlpkhnfabLaws2
namespace Go.Proofs.Ytckmpenlpkhnfab
open Go.RowKit
def RtA (w wr : World) (L m k : Nat) : Prop := ∃ q, TmI w wr w.heap.size L (dgl (q * 10 ^ k) L) ∧ (q * 10 ^ k) * (q * 10 ^ k) ≤ m ∧ m < ((q + 1) * 10 ^ k) * ((q + 1) * 10 ^ k)
def RtI (w wr : World) (L m j q c : Nat) : Prop := TmI w wr w.heap.size L (dgl ((q * 10 + c) * 10 ^ j) L) ∧ ((q * 10 + c) * 10 ^ j) * ((q * 10 + c) * 10 ^ j) ≤ m ∧ c ≤ 9
theorem rt_room {q j L m : Nat} (hj : j + 1 ≤ L) (h : (q * 10 ^ (j + 1)) * (q * 10 ^ (j + 1)) ≤ m) (hm : m < 10 ^ (L + L)) {c : Nat} (hc : c ≤ 9) : (q * 10 + c) * 10 ^ j < 10 ^ L := by
  have h1 := sq_lt _ m L h hm
  have e : 10 ^ L = 10 ^ (L - (j + 1)) * 10 ^ (j + 1) := by rw [← Nat.pow_add]; congr 1; omega
  rw [e] at h1 ⊢
  have hp := ten_pos (j + 1)
  have h2 : q < 10 ^ (L - (j + 1)) := Nat.lt_of_mul_lt_mul_right h1
  have h3 : (q + 1) * 10 ^ (j + 1) ≤ 10 ^ (L - (j + 1)) * 10 ^ (j + 1) := Nat.mul_le_mul_right _ h2
  have e2 : (q + 1) * 10 ^ (j + 1) = (q * 10 + 10) * 10 ^ j := by rw [Nat.pow_succ', ← Nat.mul_assoc]; congr 1; omega
  have h4 : (q * 10 + c + 1) * 10 ^ j ≤ (q * 10 + 10) * 10 ^ j := Nat.mul_le_mul_right _ (by omega)
  have h5 : (q * 10 + c + 1) * 10 ^ j = (q * 10 + c) * 10 ^ j + 10 ^ j := by rw [Nat.add_mul, Nat.one_mul]
  have := ten_pos j
  omega
theorem rt_start {w w1 : World} {m L : Nat} (h : TmI w w1 w.heap.size L (List.replicate L 0)) (hm : m < 10 ^ (L + L)) : RtA w w1 L m L := by
  refine ⟨0, by rw [Nat.zero_mul, dgl_zeros]; exact h, by simp, ?_⟩
  rw [Nat.zero_add, Nat.one_mul, ← Nat.pow_add]; exact hm
theorem cmpN_gt0 {a b : Nat} (h : b < a) : cmpN a b = 1 := cmpN_of_gt h
theorem cmpN_le0 {a b : Nat} (h : a ≤ b) : cmpN a b ≤ 0 := by
  unfold cmpN
  split
  · omega
  · rw [if_pos (by omega)]; omega
theorem rt_unset (q c j : Nat) (hc : c + 1 ≤ 9) : setDg ((q * 10 + (c + 1)) * 10 ^ j) j c = (q * 10 + c) * 10 ^ j := by
  unfold setDg
  rw [divIn_digit q (c + 1) j hc, Nat.add_mul (q * 10), Nat.add_mul (q * 10)]
  omega
set_option maxHeartbeats 4000000 in
theorem root_walk (s : ByteArray) (w : World) (hs : s.size ≤ 1048576) (h1 : okI s.data.toList = true) (hpos : ¬ rz s.data.toList < 0) :
    Calls Try.prog 34 #[.string s] w fun e w' => e = .returned (.tuple #[txV (isqrt (rz s.data.toList).natAbs : Nat), .bool true]) ∧ Below w.heap.size w w' := by
  have HV := Lib.hid (fun w => val_any s w hs)
  rw [h1] at HV
  have HD := Lib.hid (fun w => digits_any s w h1)
  rw [decide_eq_false hpos] at HD
  have h0 := (okI_size h1).2
  have h45 : ((s[0].toNat : Int) == 45) = false := by
    have e1 := (isNeg_rz h1).1
    rw [decide_eq_false hpos] at e1
    rw [beq_eq_false_iff_ne]
    intro h
    have h2 : s[0].toNat = (45 : UInt8).toNat := by
      have h3 : s[0].toNat = 45 := by omega
      rw [h3]; rfl
    have this : s[0] = 45 := UInt8.toNat_inj.1 h2
    unfold isNeg at e1
    rw [head_data s h0, this] at e1
    simp at e1
  have hm := okI_lt (l := s.data.toList)
  generalize (rz s.data.toList).natAbs = m at *
  have hnd := nd_le_of hm
  obtain ⟨L, hL⟩ : ∃ L, nd m / 2 + 1 = L := ⟨_, rfl⟩
  have HML := Lib.hid (show m < 10 ^ (L + L) from Nat.lt_of_lt_of_le (nd_lt m) (Nat.pow_le_pow_right (by decide) (by omega)))
  have HM80 := Lib.hid (Nat.lt_trans hm (show (10 : Nat) ^ 40 < 10 ^ 80 by decide))
  clear hm h1 hpos hs
  go_enter Try.func34, Try.ntmps34
  go_wp2_with fail
  refine (HV.out _).mono ?_
  rintro e w1 ⟨rfl, rfl⟩
  go_wp2_with fail
  refine (HD.out _).mono ?_
  rintro e w2 ⟨u, rfl, hu, hb2⟩
  have HU := Lib.hid (hu.lower (Nat.zero_le _))
  have HB2 := Lib.hid hb2
  obtain ⟨g, cap, rfl, hgl, hg, hc, hr⟩ := hu
  have HU2 := Lib.hid (show Rd w2 0 (.slice (some ⟨g, 0, none⟩) (nd m) cap) (D m) by have h := HU.out; rw [D_len] at h; exact h)
  rw [D_len] at hc ⊢
  clear hb2 hr hg hgl HU
  have hq2 : (0 : Int) ≤ (nd m : Int) / 2 := by omega
  go_wp2_with (first | (refine ext rfl (.tmp 16) 0 [.slice (some ⟨g, 0, none⟩) (nd m) cap, .bool false] (.slice (some ⟨g, 0, none⟩) (nd m) cap) rfl rfl rfl ?_) | (refine ext rfl (.tmp 16) 1 [.slice (some ⟨g, 0, none⟩) (nd m) cap, .bool false] (.bool false) rfl rfl rfl ?_) | (refine mkI rfl (.tmp 24) (.tmp 24) rfl L _ _ rfl rfl (by omega) (by omega) (by omega) ?_; intro w3 ho hb3; have H1 := Lib.hid (rt_start (m := m) (show TmI w2 w3 w2.heap.size L (List.replicate L 0) from ⟨hb3, ho⟩) HML.out); clear ho hb3))
  go_loopw [7] (fun i wr => ∃ k : Nat, k ≤ L ∧ i = .int .i64 ((k : Int) - 1) ∧ Hid (RtA w2 wr L m k)) (fun i _ => (intOf i + 1).toNat)
  case atStart => exact ⟨L, Nat.le_refl _, rfl, H1⟩
  case round =>
    obtain ⟨k, hk, rfl, HI⟩ := hrel
    clear H1
    obtain ⟨wo, rfl⟩ : ∃ wo : World, wo = wr := ⟨_, rfl⟩
    cases k with
    | zero =>
      obtain ⟨q, hT, hq1, hq2⟩ := HI.out
      simp only [Nat.pow_zero, Nat.mul_one] at hT hq1 hq2
      have HS := Lib.hid (isqrt_eq m q hq1 hq2)
      have HQL := Lib.hid (sq_lt q m L hq1 HML.out)
      have HT := Lib.hid hT
      have HR := Lib.hid ((hT.rd (dgl_len _ _)).lower (Nat.zero_le _))
      clear hT hq1 hq2
      go_wp2_with (first | (go_at_call 68; refine (integer_any q L false _ _ HR.out HQL.out (by omega)).mono ?_; rintro e w4 ⟨rfl, hb4⟩; have HB4 := Lib.hid (HB2.out.trans ((HT.out.1.trans (hb4.mono HT.out.1.size)).mono HB2.out.size)); clear hb4))
      go_ret2
      exact ⟨by rw [HS.out]; rfl, HB4.out⟩
    | succ j =>
      obtain ⟨q, hT, hq1, hq2⟩ := HI.out
      have HQ1 := Lib.hid hq1
      have HIn := Lib.hid (show RtI w2 wo L m j q 0 from ⟨by rw [root_up]; exact hT, by rw [root_up]; exact hq1, by omega⟩)
      have HUp := Lib.hid (show m < ((q * 10 + 9 + 1) * 10 ^ j) * ((q * 10 + 9 + 1) * 10 ^ j) by
        have e : (q * 10 + 9 + 1) * 10 ^ j = (q + 1) * 10 ^ (j + 1) := by rw [Nat.pow_succ', ← Nat.mul_assoc]; congr 1; omega
        rw [e]; exact hq2)
      have hkk : ((j + 1 : Nat) : Int) - 1 = (j : Int) := by omega
      rw [hkk]
      clear hT hq1 hq2
      go_wp2_with fail
      go_loopg [] 9 (fun g wr => ∃ c, g + c = 9 ∧ Hid (RtI w2 wr L m j q c))
      case atStart => exact ⟨0, rfl, HIn⟩
      case round =>
        obtain ⟨c, hg, HI2⟩ := hrel
        clear HIn
        have hc9 := HI2.out.2.2
        have c3 : wr.cell? ⟨w2.heap.size, j, none⟩ = some (.int .i64 (c : Int)) := by
          have h := HI2.out.1.cell (j := j) (show j < L by omega) (dgl_get _ _ _ (by omega))
          rw [divIn_digit _ _ _ hc9] at h
          exact h
        have f3 := HI2.out.1.free j
        have Hg := Lib.hid hg
        clear hg
        by_cases h9 : c = 9
        · subst h9
          have HA := Lib.hid (show RtA w2 wr L m j from ⟨q * 10 + 9, HI2.out.1, HI2.out.2.1, HUp.out⟩)
          go_wp2_with fail
          go_roundw
          case rel => exact ⟨j, by omega, by go_num, HA⟩
          case measure => simp [intOf]; try omega
        · have hlt : (c : Int) < 9 := by omega
          have HP := Lib.hid (show TmI w2 (wr.setCell ⟨w2.heap.size, j, none⟩ (.int .i64 ((c : Int) + 1))) w2.heap.size L (dgl ((q * 10 + (c + 1)) * 10 ^ j) L) by
            have h := HI2.out.1.put j (c + 1) (z := (c : Int) + 1) (by omega)
            rw [dgl_set _ _ _ _ (by omega), divIn_set _ _ _ (by omega)] at h
            exact h)
          have HRm := Lib.hid (rt_room (c := c + 1) (show j + 1 ≤ L by omega) HQ1.out HML.out (by omega))
          have HR21 := Lib.hid (Nat.lt_of_lt_of_le HRm.out (Nat.pow_le_pow_right (n := 10) (by decide) (show L ≤ 21 by omega)))
          have HNR := Lib.hid (Nat.le_trans (nd_le_of HR21.out) (show 21 ≤ 100 by decide))
          have HSq := Lib.hid (show ((q * 10 + (c + 1)) * 10 ^ j) * ((q * 10 + (c + 1)) * 10 ^ j) < 10 ^ 80 by
            have := Nat.mul_lt_mul'' HR21.out HR21.out
            rw [← Nat.pow_add] at this
            exact Nat.lt_trans this (by decide))
          have HEq := Lib.hid (show q * 10 + (c + 1) = q * 10 + c + 1 from rfl)
          have HUp2 := Lib.hid (fun (h : m < ((q * 10 + (c + 1)) * 10 ^ j) * ((q * 10 + (c + 1)) * 10 ^ j)) => h)
          generalize hRv : (q * 10 + (c + 1)) * 10 ^ j = R at HP HRm HR21 HNR HSq HUp2
          have HRV := Lib.hid hRv
          have HPR := Lib.hid ((HP.out.rd (dgl_len _ _)).lower (Nat.zero_le _))
          have HBW := Lib.hid (HU2.out.below HP.out.1)
          have c4 : (wr.setCell ⟨w2.heap.size, j, none⟩ (.int .i64 ((c : Int) + 1))).cell? ⟨w2.heap.size, j, none⟩ = some (.int .i64 ((c + 1 : Nat) : Int)) := by
            have h := HP.out.cell (j := j) (show j < L by omega) (dgl_get _ _ _ (by omega))
            rw [← HRV.out, divIn_digit _ _ _ (by omega)] at h
            exact h
          clear hRv h9
          obtain ⟨ws, hws⟩ : ∃ ws, wr.setCell ⟨w2.heap.size, j, none⟩ (.int .i64 ((c : Int) + 1)) = ws := ⟨_, rfl⟩
          rw [hws] at HP HPR HBW c4
          have HWS := Lib.hid hws
          clear hws
          by_cases hgt : m < R * R
          · have HC := Lib.hid (cmpN_gt0 hgt)
            have HGT := Lib.hid hgt
            clear hgt
            go_wp2_with fail
            rw [HWS.out]
            refine (trimmed_any R L _ _ 0 HPR.out HRm.out (by omega)).mono ?_
            rintro e w5 ⟨u5, rfl, hu5, hb5⟩
            have HT5 := Lib.hid (HP.out.below hb5)
            have HU5 := Lib.hid hu5
            have HBW5 := Lib.hid (HBW.out.below hb5)
            clear hu5 hb5
            go_wp2_with fail
            refine (trimmed_any R L _ _ 0 ((HT5.out.rd (dgl_len _ _)).lower (Nat.zero_le _)) HRm.out (by omega)).mono ?_
            rintro e w6 ⟨u6, rfl, hu6, hb6⟩
            have HT6 := Lib.hid (HT5.out.below hb6)
            have HV5 := Lib.hid (HU5.out.below hb6)
            have HU6 := Lib.hid hu6
            have HBW6 := Lib.hid (HBW5.out.below hb6)
            clear hu6 hb6
            go_wp2_with fail
            refine (times_dg R R _ _ _ HV5.out HU6.out HNR.out HNR.out).mono ?_
            rintro e w7 ⟨u7, rfl, hu7, hb7⟩
            have HT7 := Lib.hid (HT6.out.below hb7)
            have HU7 := Lib.hid (hu7.lower (Nat.zero_le _))
            have HBW7 := Lib.hid (HBW6.out.below hb7)
            clear hu7 hb7
            go_wp2_with fail
            refine (compare_any (R * R) m _ _ _ HU7.out HBW7.out HSq.out HM80.out).mono ?_
            rintro e w8 ⟨rfl, hb8⟩
            rw [HC.out]
            have HT8 := Lib.hid (HT7.out.below hb8)
            clear hb8
            have c8 : w8.cell? ⟨w2.heap.size, j, none⟩ = some (.int .i64 ((c : Int) + 1)) := by
              have h := HT8.out.cell (j := j) (show j < L by omega) (dgl_get _ _ _ (by omega))
              rw [← HRV.out, divIn_digit _ _ _ (by omega)] at h
              exact h
            have f8 := HT8.out.free j
            go_wp2_with fail
            go_roundw
            case rel =>
              refine ⟨j, by omega, by go_num, Lib.hid ⟨q * 10 + c, ?_, HI2.out.2.1, ?_⟩⟩
              · have h := HT8.out.put j c (z := (c : Int)) rfl
                rw [dgl_set _ _ _ _ (by omega), ← HRV.out, show setDg ((q * 10 + (c + 1)) * 10 ^ j) j c = (q * 10 + c) * 10 ^ j from rt_unset q c j (by omega)] at h
                first | exact h | (have e : (c : Int) + 1 - 1 = (c : Int) := by omega
                                   rw [e]; exact h)
              · have h := HGT.out
                rw [← HRV.out] at h
                exact h
            case measure => simp [intOf]; try omega
          · obtain ⟨cz, hcz, hcz0⟩ : ∃ cz, cmpN (R * R) m = cz ∧ cz ≤ 0 := ⟨_, rfl, cmpN_le0 (Nat.le_of_not_lt hgt)⟩
            have HC := Lib.hid hcz
            have HLE := Lib.hid (Nat.le_of_not_lt hgt)
            clear hgt hcz
            go_wp2_with fail
            rw [HWS.out]
            refine (trimmed_any R L _ _ 0 HPR.out HRm.out (by omega)).mono ?_
            rintro e w5 ⟨u5, rfl, hu5, hb5⟩
            have HT5 := Lib.hid (HP.out.below hb5)
            have HU5 := Lib.hid hu5
            have HBW5 := Lib.hid (HBW.out.below hb5)
            clear hu5 hb5
            go_wp2_with fail
            refine (trimmed_any R L _ _ 0 ((HT5.out.rd (dgl_len _ _)).lower (Nat.zero_le _)) HRm.out (by omega)).mono ?_
            rintro e w6 ⟨u6, rfl, hu6, hb6⟩
            have HT6 := Lib.hid (HT5.out.below hb6)
            have HV5 := Lib.hid (HU5.out.below hb6)
            have HU6 := Lib.hid hu6
            have HBW6 := Lib.hid (HBW5.out.below hb6)
            clear hu6 hb6
            go_wp2_with fail
            refine (times_dg R R _ _ _ HV5.out HU6.out HNR.out HNR.out).mono ?_
            rintro e w7 ⟨u7, rfl, hu7, hb7⟩
            have HT7 := Lib.hid (HT6.out.below hb7)
            have HU7 := Lib.hid (hu7.lower (Nat.zero_le _))
            have HBW7 := Lib.hid (HBW6.out.below hb7)
            clear hu7 hb7
            go_wp2_with fail
            refine (compare_any (R * R) m _ _ _ HU7.out HBW7.out HSq.out HM80.out).mono ?_
            rintro e w8 ⟨rfl, hb8⟩
            rw [HC.out]
            have HT8 := Lib.hid (HT7.out.below hb8)
            clear hb8
            have c8 : w8.cell? ⟨w2.heap.size, j, none⟩ = some (.int .i64 ((c : Int) + 1)) := by
              have h := HT8.out.cell (j := j) (show j < L by omega) (dgl_get _ _ _ (by omega))
              rw [← HRV.out, divIn_digit _ _ _ (by omega)] at h
              exact h
            have f8 := HT8.out.free j
            go_wp2_with fail
            go_roundg (8 - c)
            case measure => have := Hg.out; omega
            case rel =>
              refine ⟨c + 1, by have := Hg.out; omega, Lib.hid ⟨?_, ?_, by omega⟩⟩
              · have h := HT8.out
                rw [← HRV.out] at h
                exact h
              · have h := HLE.out
                rw [← HRV.out] at h
                exact h
end Go.Proofs.Ytckmpenlpkhnfab
