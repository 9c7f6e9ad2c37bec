/- An integer is drawn, or something like one. -/
import Derived.Test.YtckmpenlpkhnfabDraw4
namespace Go.Proofs.Ytckmpenlpkhnfab
open Go.RowKit
def oddL : List ByteArray := [⟨#[]⟩, ⟨#[45]⟩, ⟨#[45, 48]⟩, ⟨#[48, 49]⟩, ⟨#[49, 97]⟩, ⟨#[32, 49]⟩, ⟨#[43, 49]⟩, ⟨#[48, 48]⟩]
def evenL : List ByteArray := [⟨#[48]⟩, ⟨#[49]⟩, ⟨#[45, 49]⟩, ⟨#[57]⟩, ⟨#[49, 48]⟩, ⟨#[45, 49, 48]⟩, ⟨#[57, 57]⟩, ⟨#[49, 48, 48]⟩]
theorem oddL_le : ∀ d ∈ oddL, d.size ≤ 10 := by decide
theorem evenL_le : ∀ d ∈ evenL, d.size ≤ 10 := by decide
theorem as_list (d : ByteArray) : d = ⟨d.data.toList.toArray⟩ := by cases d; simp
def widths : List Nat := [2, 5, 12, 19, 20, 38, 39, 40, 40, 41]
def nines : List Nat := [9, 9, 1]
theorem widths_le : ∀ d ∈ widths, d ≤ 41 := by decide
theorem nines_le : ∀ d ∈ nines, d ≤ 9 := by decide
set_option maxHeartbeats 8000000 in
theorem integer_draw (w : World) (g n cap k : Nat) (a : Option Addr) (h : RI w g a n cap k) (hk : k ≤ 50000) :
    Calls Try.prog 40 #[.pointer (some ⟨g, 0, none⟩)] w (DtP w g a n cap k 200 50000) := by
  have HP := Lib.hid (pick_any w g a n cap k 14 h (by omega) (by decide))
  clear h
  go_enter Try.func40, Try.ntmps40
  go_wp2_with fail
  refine HP.out.mono ?_
  rintro e w1 ⟨r, rfl, hrl, hg1, k1, hk1, hR1⟩
  have HG1 := Lib.hid hg1
  have HR1 := Lib.hid hR1
  have hr14 : r < 14 := by omega
  clear hrl hg1 hR1 HP
  by_cases h0 : r = 0
  · subst h0
    go_wp2_with fail
    refine (of_lit oddL HR1.out (by omega) (by decide) (by decide)).mono ?_
    rintro e w2 ⟨⟨d, hd, rfl⟩, hD⟩
    have HM := Lib.hid (oddL_le d hd)
    have HD := Lib.hid ((DrP.then HG1.out hk1 hD).more (show 1 + 1 ≤ 200 by omega))
    clear hd hD
    go_wp2_with fail
    go_ret
    exact ⟨⟨d.data.toList, by rw [← as_list]; rfl, by have := HM.out; show d.size ≤ 50000; omega⟩, HD.out⟩
  · by_cases h1 : r = 1
    · subst h1
      go_wp2_with fail
      refine (of_lit evenL HR1.out (by omega) (by decide) (by decide)).mono ?_
      rintro e w2 ⟨⟨d, hd, rfl⟩, hD⟩
      have HM := Lib.hid (evenL_le d hd)
      have HD := Lib.hid ((DrP.then HG1.out hk1 hD).more (show 1 + 1 ≤ 200 by omega))
      clear hd hD
      go_wp2_with fail
      go_ret
      exact ⟨⟨d.data.toList, by rw [← as_list]; rfl, by have := HM.out; show d.size ≤ 50000; omega⟩, HD.out⟩
    · by_cases h2 : r ≤ 4
      · have hc : r = 2 ∨ r = 3 ∨ r = 4 := by omega
        clear h0 h1 h2
        rcases hc with rfl | rfl | rfl
        all_goals
          go_wp2_with fail
          refine (pick_any w1 g a n cap k1 2000 HR1.out (by omega) (by decide)).mono ?_
          rintro e w2 ⟨z, rfl, hzl, hg2, hk2⟩
          have hz : (z : Int) ≤ 2000 := by omega
          have HD2 := Lib.hid (DrP.then HG1.out hk1 (pk_dr hg2 hk2))
          clear hzl hg2 hk2
          go_wp2_with fail
          refine (decimal_any _ _ (by omega) (by omega)).mono ?_
          rintro e w3 ⟨l, rfl, hl, hb3⟩
          have HL := Lib.hid hl
          have HD3 := Lib.hid ((HD2.out.below hb3).more (show 1 + 1 ≤ 200 by omega))
          clear hl hb3
          go_wp2_with fail
          go_ret
          exact ⟨⟨l, rfl, by have := HL.out; omega⟩, HD3.out⟩
      · have e0 : ((r : Int) == 0) = false := beq_eq_false_iff_ne.2 (by omega)
        have e1 : ((r : Int) == 1) = false := beq_eq_false_iff_ne.2 (by omega)
        have e2 : ((r : Int) == 2) = false := beq_eq_false_iff_ne.2 (by omega)
        have e3 : ((r : Int) == 3) = false := beq_eq_false_iff_ne.2 (by omega)
        have e4 : ((r : Int) == 4) = false := beq_eq_false_iff_ne.2 (by omega)
        clear h0 h1
        go_wp2_with fail
        refine (one_lit widths HR1.out (by omega) (by decide) (by decide)).mono ?_
        rintro e w2 ⟨⟨N, hN, rfl⟩, hD⟩
        have hN41 := widths_le N hN
        have HD := Lib.hid (DrP.then HG1.out hk1 hD)
        clear hN hD
        go_wp2_with fail
        go_loopw [3, 5] (fun v i wr => ∃ (j : Nat) (l : List UInt8), j ≤ N ∧ i = .int .i64 (j : Int) ∧ v = .string ⟨l.toArray⟩ ∧ l.length ≤ 1002 * j ∧ Hid (DrP w g a n cap k (2 + 3 * j) wr)) (fun _ i _ => N - (intOf i).toNat)
        case atStart => exact ⟨0, [], by omega, rfl, rfl, by simp, HD⟩
        case round =>
          obtain ⟨j, l, hj, rfl, rfl, hl, HI⟩ := hrel
          obtain ⟨hgI, kI, hkI, hRI⟩ := HI.out
          have HGI := Lib.hid hgI
          have HRI := Lib.hid hRI
          clear hgI hRI
          by_cases hlt : j < N
          · skip
            go_wp2_with fail
            refine (pick_any _ g a n cap kI 10 HRI.out (by omega) (by decide)).mono ?_
            rintro e w3 ⟨d, rfl, hdl, hg3, k3, hk3, hR3⟩
            have HG3 := Lib.hid (grown_trans HGI.out hg3)
            have HR3 := Lib.hid hR3
            have hd9 : d ≤ 9 := by omega
            clear hdl hg3 hR3
            by_cases hj0 : j = 0
            · subst hj0
              by_cases hd0 : d = 0
              · subst hd0
                go_wp2_with fail
                refine (pick_any _ g a n cap k3 9 HR3.out (by omega) (by decide)).mono ?_
                rintro e w4 ⟨s, rfl, hsl, hg4, k4, hk4, hR4⟩
                have HG4 := Lib.hid (grown_trans HG3.out hg4)
                have HR4 := Lib.hid hR4
                clear hsl hg4 hR4
                by_cases hs0 : s = 0
                · subst hs0
                  go_wp2_with fail
                  refine (one_lit nines HR4.out (by omega) (by decide) (by decide)).mono ?_
                  rintro e w5 ⟨⟨q, hq, rfl⟩, hD5⟩
                  have hq9 := nines_le q hq
                  have HD5 := Lib.hid (DrP.then (k := k) (j := 2 + 3 * 0 + 2) HG4.out (by omega) hD5)
                  clear hq hD5
                  go_wp2_with fail
                  refine (decimal_any _ _ (by omega) (by omega)).mono ?_
                  rintro e w6 ⟨m, rfl, hm, hb6⟩
                  have HM := Lib.hid hm
                  have HD6 := Lib.hid ((HD5.out.below hb6))
                  clear hm hb6
                  go_wp2_with (first | (refine (puts_cat2 9 9 (.tmp 47) (.tmp 49) rfl l m rfl rfl (by omega) (by have := HM.out; omega)).gives.plain rfl ?_))
                  go_roundw
                  case rel => exact ⟨0 + 1, l ++ m, by omega, by go_num, rfl, by have := HM.out; simp; omega, Lib.hid (HD6.out.more (by omega))⟩
                  case measure => simp [intOf]; try omega
                · have hsf : ((s : Int) == 0) = false := beq_eq_false_iff_ne.2 (by omega)
                  have HD5 := Lib.hid (show DrP w g a n cap k (2 + 3 * 0 + 2) w4 from ⟨HG4.out, k4, by omega, HR4.out⟩)
                  go_wp2_with fail
                  refine (decimal_any _ _ (by omega) (by omega)).mono ?_
                  rintro e w6 ⟨m, rfl, hm, hb6⟩
                  have HM := Lib.hid hm
                  have HD6 := Lib.hid ((HD5.out.below hb6))
                  clear hm hb6
                  go_wp2_with (first | (refine (puts_cat2 9 9 (.tmp 47) (.tmp 49) rfl l m rfl rfl (by omega) (by have := HM.out; omega)).gives.plain rfl ?_))
                  go_roundw
                  case rel => exact ⟨0 + 1, l ++ m, by omega, by go_num, rfl, by have := HM.out; simp; omega, Lib.hid (HD6.out.more (by omega))⟩
                  case measure => simp [intOf]; try omega
              · by_cases hd1 : d = 1
                · subst hd1
                  go_wp2_with fail
                  refine (pick_any _ g a n cap k3 9 HR3.out (by omega) (by decide)).mono ?_
                  rintro e w4 ⟨s, rfl, hsl, hg4, k4, hk4, hR4⟩
                  have HG4 := Lib.hid (grown_trans HG3.out hg4)
                  have HR4 := Lib.hid hR4
                  clear hsl hg4 hR4
                  by_cases hs0 : s = 0
                  · subst hs0
                    go_wp2_with fail
                    refine (one_lit nines HR4.out (by omega) (by decide) (by decide)).mono ?_
                    rintro e w5 ⟨⟨q, hq, rfl⟩, hD5⟩
                    have hq9 := nines_le q hq
                    have HD5 := Lib.hid (DrP.then (k := k) (j := 2 + 3 * 0 + 2) HG4.out (by omega) hD5)
                    clear hq hD5
                    go_wp2_with fail
                    refine (decimal_any _ _ (by omega) (by omega)).mono ?_
                    rintro e w6 ⟨m, rfl, hm, hb6⟩
                    have HM := Lib.hid hm
                    have HD6 := Lib.hid ((HD5.out.below hb6))
                    clear hm hb6
                    go_wp2_with (first | (refine (puts_cat2 9 9 (.tmp 47) (.tmp 49) rfl l m rfl rfl (by omega) (by have := HM.out; omega)).gives.plain rfl ?_))
                    go_roundw
                    case rel => exact ⟨0 + 1, l ++ m, by omega, by go_num, rfl, by have := HM.out; simp; omega, Lib.hid (HD6.out.more (by omega))⟩
                    case measure => simp [intOf]; try omega
                  · have hsf : ((s : Int) == 0) = false := beq_eq_false_iff_ne.2 (by omega)
                    have HD5 := Lib.hid (show DrP w g a n cap k (2 + 3 * 0 + 2) w4 from ⟨HG4.out, k4, by omega, HR4.out⟩)
                    go_wp2_with fail
                    refine (decimal_any _ _ (by omega) (by omega)).mono ?_
                    rintro e w6 ⟨m, rfl, hm, hb6⟩
                    have HM := Lib.hid hm
                    have HD6 := Lib.hid ((HD5.out.below hb6))
                    clear hm hb6
                    go_wp2_with (first | (refine (puts_cat2 9 9 (.tmp 47) (.tmp 49) rfl l m rfl rfl (by omega) (by have := HM.out; omega)).gives.plain rfl ?_))
                    go_roundw
                    case rel => exact ⟨0 + 1, l ++ m, by omega, by go_num, rfl, by have := HM.out; simp; omega, Lib.hid (HD6.out.more (by omega))⟩
                    case measure => simp [intOf]; try omega
                · have hd2 : 1 < (d : Int) := by omega
                  go_wp2_with fail
                  refine (pick_any _ g a n cap k3 9 HR3.out (by omega) (by decide)).mono ?_
                  rintro e w4 ⟨s, rfl, hsl, hg4, k4, hk4, hR4⟩
                  have HG4 := Lib.hid (grown_trans HG3.out hg4)
                  have HR4 := Lib.hid hR4
                  clear hsl hg4 hR4
                  by_cases hs0 : s = 0
                  · subst hs0
                    go_wp2_with fail
                    refine (one_lit nines HR4.out (by omega) (by decide) (by decide)).mono ?_
                    rintro e w5 ⟨⟨q, hq, rfl⟩, hD5⟩
                    have hq9 := nines_le q hq
                    have HD5 := Lib.hid (DrP.then (k := k) (j := 2 + 3 * 0 + 2) HG4.out (by omega) hD5)
                    clear hq hD5
                    go_wp2_with fail
                    refine (decimal_any _ _ (by omega) (by omega)).mono ?_
                    rintro e w6 ⟨m, rfl, hm, hb6⟩
                    have HM := Lib.hid hm
                    have HD6 := Lib.hid ((HD5.out.below hb6))
                    clear hm hb6
                    go_wp2_with (first | (refine (puts_cat2 9 9 (.tmp 47) (.tmp 49) rfl l m rfl rfl (by omega) (by have := HM.out; omega)).gives.plain rfl ?_))
                    go_roundw
                    case rel => exact ⟨0 + 1, l ++ m, by omega, by go_num, rfl, by have := HM.out; simp; omega, Lib.hid (HD6.out.more (by omega))⟩
                    case measure => simp [intOf]; try omega
                  · have hsf : ((s : Int) == 0) = false := beq_eq_false_iff_ne.2 (by omega)
                    have HD5 := Lib.hid (show DrP w g a n cap k (2 + 3 * 0 + 2) w4 from ⟨HG4.out, k4, by omega, HR4.out⟩)
                    go_wp2_with fail
                    refine (decimal_any _ _ (by omega) (by omega)).mono ?_
                    rintro e w6 ⟨m, rfl, hm, hb6⟩
                    have HM := Lib.hid hm
                    have HD6 := Lib.hid ((HD5.out.below hb6))
                    clear hm hb6
                    go_wp2_with (first | (refine (puts_cat2 9 9 (.tmp 47) (.tmp 49) rfl l m rfl rfl (by omega) (by have := HM.out; omega)).gives.plain rfl ?_))
                    go_roundw
                    case rel => exact ⟨0 + 1, l ++ m, by omega, by go_num, rfl, by have := HM.out; simp; omega, Lib.hid (HD6.out.more (by omega))⟩
                    case measure => simp [intOf]; try omega
            · have hjf : ((j : Int) == 0) = false := beq_eq_false_iff_ne.2 (by omega)
              go_wp2_with fail
              refine (pick_any _ g a n cap k3 9 HR3.out (by omega) (by decide)).mono ?_
              rintro e w4 ⟨s, rfl, hsl, hg4, k4, hk4, hR4⟩
              have HG4 := Lib.hid (grown_trans HG3.out hg4)
              have HR4 := Lib.hid hR4
              clear hsl hg4 hR4
              by_cases hs0 : s = 0
              · subst hs0
                go_wp2_with fail
                refine (one_lit nines HR4.out (by omega) (by decide) (by decide)).mono ?_
                rintro e w5 ⟨⟨q, hq, rfl⟩, hD5⟩
                have hq9 := nines_le q hq
                have HD5 := Lib.hid (DrP.then (k := k) (j := 2 + 3 * j + 2) HG4.out (by omega) hD5)
                clear hq hD5
                go_wp2_with fail
                refine (decimal_any _ _ (by omega) (by omega)).mono ?_
                rintro e w6 ⟨m, rfl, hm, hb6⟩
                have HM := Lib.hid hm
                have HD6 := Lib.hid ((HD5.out.below hb6))
                clear hm hb6
                go_wp2_with (first | (refine (puts_cat2 9 9 (.tmp 47) (.tmp 49) rfl l m rfl rfl (by omega) (by have := HM.out; omega)).gives.plain rfl ?_))
                go_roundw
                case rel => exact ⟨j + 1, l ++ m, by omega, by go_num, rfl, by have := HM.out; simp; omega, Lib.hid (HD6.out.more (by omega))⟩
                case measure => simp [intOf]; try omega
              · have hsf : ((s : Int) == 0) = false := beq_eq_false_iff_ne.2 (by omega)
                have HD5 := Lib.hid (show DrP w g a n cap k (2 + 3 * j + 2) w4 from ⟨HG4.out, k4, by omega, HR4.out⟩)
                go_wp2_with fail
                refine (decimal_any _ _ (by omega) (by omega)).mono ?_
                rintro e w6 ⟨m, rfl, hm, hb6⟩
                have HM := Lib.hid hm
                have HD6 := Lib.hid ((HD5.out.below hb6))
                clear hm hb6
                go_wp2_with (first | (refine (puts_cat2 9 9 (.tmp 47) (.tmp 49) rfl l m rfl rfl (by omega) (by have := HM.out; omega)).gives.plain rfl ?_))
                go_roundw
                case rel => exact ⟨j + 1, l ++ m, by omega, by go_num, rfl, by have := HM.out; simp; omega, Lib.hid (HD6.out.more (by omega))⟩
                case measure => simp [intOf]; try omega
          · obtain rfl : j = N := by omega
            clear hlt
            go_wp2_with fail
            refine (pick_any _ g a n cap kI 2 HRI.out (by omega) (by decide)).mono ?_
            rintro e w3 ⟨s, rfl, hsl, hg3, hk3⟩
            have HD3 := Lib.hid ((DrP.then HGI.out hkI (pk_dr hg3 hk3)).more (show 2 + 3 * j + 1 ≤ 200 by omega))
            have hs2 : s = 0 ∨ s = 1 := by omega
            clear hsl hg3 hk3
            rcases hs2 with rfl | rfl
            · go_wp2_with (first | (refine (puts_cons2 9 9 (.const (.string ⟨#[45]⟩)) (.tmp 54) rfl 45 l rfl rfl (by omega)).gives.plain rfl ?_))
              go_ret
              exact ⟨⟨_, rfl, by simp; omega⟩, HD3.out⟩
            · go_wp2_with fail
              go_ret
              exact ⟨⟨l, rfl, by omega⟩, HD3.out⟩
end Go.Proofs.Ytckmpenlpkhnfab
