/- The law on orders. -/
import Derived.Test.YtckmpenlpkhnfabLawsE
namespace Go.Proofs.Ytckmpenlpkhnfab
open Go.RowKit
set_option maxHeartbeats 4000000 in
theorem fnIntCmp_walk (a : Option Addr) (n cap : Nat) (zs : List Int) (w : World) (h : (a = none ∧ n = 0 ∧ cap = 0 ∧ zs = []) ∨ ∃ x, a = some x ∧ n ≤ cap ∧ cap ≤ maxLen ∧ zs.length = cap ∧ (∀ i, i < zs.length → w.cell? (x.add i) = some (.int .u8 (zs.getD i 0))) ∧ ∀ n ∈ zs, (Lit.int .u8 n).wf = true) :
    Calls Try.prog 7 #[.slice a n cap] w fun e w' => e = .returned (.bool true) ∧ Below w.heap.size w w' := by
  have HC := Lib.hid (dIntCmp w a n cap (cr_of h))
  have hcap : n ≤ 9223372036854775807 := by
    rcases h with ⟨_, rfl, _⟩ | ⟨x, _, h1, h2, _⟩
    · omega
    · unfold maxLen at h2; omega
  clear h
  by_cases h0 : n ≤ 1048576
  · go_enter Try.func7, Try.ntmps7
    go_wp2_with fail
    refine HC.out.mono ?_
    rintro e w2 ⟨l, m, rfl, hl, hm, hb2⟩
    have HB2 := Lib.hid hb2
    clear hb2
    go_wp2_with (first | (refine ext rfl (.tmp 13) 0 [.string ⟨l.toArray⟩, .string ⟨m.toArray⟩] (.string ⟨l.toArray⟩) rfl rfl rfl ?_) | (refine ext rfl (.tmp 13) 1 [.string ⟨l.toArray⟩, .string ⟨m.toArray⟩] (.string ⟨m.toArray⟩) rfl rfl rfl ?_))
    have H1 := Lib.hid (fun w => iCmp l m w)
    have H2 := Lib.hid (fun w => sCmp l m w hl hm)
    by_cases hc : okI l = true ∧ okI m = true
    · obtain ⟨k1, k2⟩ := hc
      rw [cmpV_ok k1 k2] at H1 H2
      have H3 := Lib.hid (fun w => iSub l m w)
      have H4 := Lib.hid (fun w => iCmp m l w)
      rw [cmpV_ok k2 k1] at H4
      have H5 := Lib.hid (fun w => iCmp (fmtZ (rz l + -rz m)) [48] w)
      by_cases he : l = m
      · subst he
        rw [cz_eq rfl] at H1 H2 H4
        rw [subV_ok k1 k1 (by rw [Int.add_right_neg]; decide), Int.add_right_neg, fmt0] at H3
        rw [Int.add_right_neg, fmt0, cmpV_ok ok0 ok0, cz_eq rfl] at H5
        clear k1 k2
        refine (H1.out _).mono ?_
        rintro e w3 ⟨rfl, hb⟩
        have HBw3 := Lib.hid (HB2.out.trans (hb.mono HB2.out.size))
        clear hb
        go_wp2_with fail
        refine (H2.out _).mono ?_
        rintro e w4 ⟨rfl, hb⟩
        have HBw4 := Lib.hid (HBw3.out.trans (hb.mono HBw3.out.size))
        clear hb
        go_wp2_with fail
        refine (H3.out _).mono ?_
        rintro e w5 ⟨rfl, hb⟩
        have HBw5 := Lib.hid (HBw4.out.trans (hb.mono HBw4.out.size))
        clear hb
        go_wp2_with (first | (refine ext rfl (.tmp 34) 0 [.string ⟨[48].toArray⟩, .bool true] (.string ⟨[48].toArray⟩) rfl rfl rfl ?_) | (refine ext rfl (.tmp 34) 1 [.string ⟨[48].toArray⟩, .bool true] (.bool true) rfl rfl rfl ?_))
        refine (H4.out _).mono ?_
        rintro e w6 ⟨rfl, hb⟩
        have HBw6 := Lib.hid (HBw5.out.trans (hb.mono HBw5.out.size))
        clear hb
        go_wp2_with fail
        refine (H5.out _).mono ?_
        rintro e w7 ⟨rfl, hb⟩
        have HBw7 := Lib.hid (HBw6.out.trans (hb.mono HBw6.out.size))
        clear hb
        go_wp2_with fail
        go_ret
        exact ⟨rfl, HBw7.out⟩
      · have hne : (l == m) = false := beq_eq_false_iff_ne.2 he
        have hz : rz l ≠ rz m := fun h => he (by rw [← fmtZ_rz k1, ← fmtZ_rz k2, h])
        by_cases hlt : rz l < rz m
        · rw [cz_lt hlt] at H1 H2
          rw [cz_gt hlt] at H4
          by_cases k3 : (rz l + -rz m).natAbs < 10 ^ 40
          · have f1 := okI_fmtZ k3
            rw [subV_ok k1 k2 k3] at H3
            rw [cmpV_ok f1.1 ok0, f1.2, rz0, cz_lt (by omega)] at H5
            generalize fmtZ (rz l + -rz m) = sd at H3 H5
            clear k1 k2 k3 f1 he hz hlt
            refine (H1.out _).mono ?_
            rintro e w3 ⟨rfl, hb⟩
            have HBw3 := Lib.hid (HB2.out.trans (hb.mono HB2.out.size))
            clear hb
            go_wp2_with fail
            refine (H2.out _).mono ?_
            rintro e w4 ⟨rfl, hb⟩
            have HBw4 := Lib.hid (HBw3.out.trans (hb.mono HBw3.out.size))
            clear hb
            go_wp2_with fail
            refine (H3.out _).mono ?_
            rintro e w5 ⟨rfl, hb⟩
            have HBw5 := Lib.hid (HBw4.out.trans (hb.mono HBw4.out.size))
            clear hb
            go_wp2_with (first | (refine ext rfl (.tmp 34) 0 [.string ⟨sd.toArray⟩, .bool true] (.string ⟨sd.toArray⟩) rfl rfl rfl ?_) | (refine ext rfl (.tmp 34) 1 [.string ⟨sd.toArray⟩, .bool true] (.bool true) rfl rfl rfl ?_))
            refine (H4.out _).mono ?_
            rintro e w6 ⟨rfl, hb⟩
            have HBw6 := Lib.hid (HBw5.out.trans (hb.mono HBw5.out.size))
            clear hb
            go_wp2_with fail
            refine (H5.out _).mono ?_
            rintro e w7 ⟨rfl, hb⟩
            have HBw7 := Lib.hid (HBw6.out.trans (hb.mono HBw6.out.size))
            clear hb
            go_wp2_with fail
            go_ret
            exact ⟨rfl, HBw7.out⟩
          · rw [subV_no fun h => k3 h.2.2] at H3
            clear k1 k2 k3 he hz hlt H5
            refine (H1.out _).mono ?_
            rintro e w3 ⟨rfl, hb⟩
            have HBw3 := Lib.hid (HB2.out.trans (hb.mono HB2.out.size))
            clear hb
            go_wp2_with fail
            refine (H2.out _).mono ?_
            rintro e w4 ⟨rfl, hb⟩
            have HBw4 := Lib.hid (HBw3.out.trans (hb.mono HBw3.out.size))
            clear hb
            go_wp2_with fail
            refine (H3.out _).mono ?_
            rintro e w5 ⟨rfl, hb⟩
            have HBw5 := Lib.hid (HBw4.out.trans (hb.mono HBw4.out.size))
            clear hb
            go_wp2_with (first | (refine ext rfl (.tmp 34) 0 [.string ⟨#[]⟩, .bool false] (.string ⟨#[]⟩) rfl rfl rfl ?_) | (refine ext rfl (.tmp 34) 1 [.string ⟨#[]⟩, .bool false] (.bool false) rfl rfl rfl ?_))
            refine (H4.out _).mono ?_
            rintro e w6 ⟨rfl, hb⟩
            have HBw6 := Lib.hid (HBw5.out.trans (hb.mono HBw5.out.size))
            clear hb
            go_wp2_with fail
            go_ret
            exact ⟨rfl, HBw6.out⟩
        · have hgt : rz m < rz l := by omega
          rw [cz_gt hgt] at H1 H2
          rw [cz_lt hgt] at H4
          by_cases k3 : (rz l + -rz m).natAbs < 10 ^ 40
          · have f1 := okI_fmtZ k3
            rw [subV_ok k1 k2 k3] at H3
            rw [cmpV_ok f1.1 ok0, f1.2, rz0, cz_gt (by omega)] at H5
            generalize fmtZ (rz l + -rz m) = sd at H3 H5
            clear k1 k2 k3 f1 he hz hlt hgt
            refine (H1.out _).mono ?_
            rintro e w3 ⟨rfl, hb⟩
            have HBw3 := Lib.hid (HB2.out.trans (hb.mono HB2.out.size))
            clear hb
            go_wp2_with fail
            refine (H2.out _).mono ?_
            rintro e w4 ⟨rfl, hb⟩
            have HBw4 := Lib.hid (HBw3.out.trans (hb.mono HBw3.out.size))
            clear hb
            go_wp2_with fail
            refine (H3.out _).mono ?_
            rintro e w5 ⟨rfl, hb⟩
            have HBw5 := Lib.hid (HBw4.out.trans (hb.mono HBw4.out.size))
            clear hb
            go_wp2_with (first | (refine ext rfl (.tmp 34) 0 [.string ⟨sd.toArray⟩, .bool true] (.string ⟨sd.toArray⟩) rfl rfl rfl ?_) | (refine ext rfl (.tmp 34) 1 [.string ⟨sd.toArray⟩, .bool true] (.bool true) rfl rfl rfl ?_))
            refine (H4.out _).mono ?_
            rintro e w6 ⟨rfl, hb⟩
            have HBw6 := Lib.hid (HBw5.out.trans (hb.mono HBw5.out.size))
            clear hb
            go_wp2_with fail
            refine (H5.out _).mono ?_
            rintro e w7 ⟨rfl, hb⟩
            have HBw7 := Lib.hid (HBw6.out.trans (hb.mono HBw6.out.size))
            clear hb
            go_wp2_with fail
            go_ret
            exact ⟨rfl, HBw7.out⟩
          · rw [subV_no fun h => k3 h.2.2] at H3
            clear k1 k2 k3 he hz hlt hgt H5
            refine (H1.out _).mono ?_
            rintro e w3 ⟨rfl, hb⟩
            have HBw3 := Lib.hid (HB2.out.trans (hb.mono HB2.out.size))
            clear hb
            go_wp2_with fail
            refine (H2.out _).mono ?_
            rintro e w4 ⟨rfl, hb⟩
            have HBw4 := Lib.hid (HBw3.out.trans (hb.mono HBw3.out.size))
            clear hb
            go_wp2_with fail
            refine (H3.out _).mono ?_
            rintro e w5 ⟨rfl, hb⟩
            have HBw5 := Lib.hid (HBw4.out.trans (hb.mono HBw4.out.size))
            clear hb
            go_wp2_with (first | (refine ext rfl (.tmp 34) 0 [.string ⟨#[]⟩, .bool false] (.string ⟨#[]⟩) rfl rfl rfl ?_) | (refine ext rfl (.tmp 34) 1 [.string ⟨#[]⟩, .bool false] (.bool false) rfl rfl rfl ?_))
            refine (H4.out _).mono ?_
            rintro e w6 ⟨rfl, hb⟩
            have HBw6 := Lib.hid (HBw5.out.trans (hb.mono HBw5.out.size))
            clear hb
            go_wp2_with fail
            go_ret
            exact ⟨rfl, HBw6.out⟩
    · rw [cmpV_no hc] at H1 H2
      clear hc
      refine (H1.out _).mono ?_
      rintro e w3 ⟨rfl, hb⟩
      have HBw3 := Lib.hid (HB2.out.trans (hb.mono HB2.out.size))
      clear hb
      go_wp2_with fail
      refine (H2.out _).mono ?_
      rintro e w4 ⟨rfl, hb⟩
      have HBw4 := Lib.hid (HBw3.out.trans (hb.mono HBw3.out.size))
      clear hb
      go_wp2_with fail
      go_ret
      exact ⟨rfl, HBw4.out⟩
  · go_enter Try.func7, Try.ntmps7
    go_wp2_with fail
    go_ret
    exact ⟨rfl, Below.refl _ _⟩
end Go.Proofs.Ytckmpenlpkhnfab
