/- The law on remainders. -/
import Derived.Test.YtckmpenlpkhnfabLawsE
namespace Go.Proofs.Ytckmpenlpkhnfab
open Go.RowKit
set_option maxHeartbeats 4000000 in
theorem fnIntMod_walk (a : Option Addr) (n cap : Nat) (zs : List Int) (w : World) (h : (a = none ∧ n = 0 ∧ cap = 0 ∧ zs = []) ∨ ∃ x, a = some x ∧ n ≤ cap ∧ cap ≤ maxLen ∧ zs.length = cap ∧ (∀ i, i < zs.length → w.cell? (x.add i) = some (.int .u8 (zs.getD i 0))) ∧ ∀ n ∈ zs, (Lit.int .u8 n).wf = true) :
    Calls Try.prog 5 #[.slice a n cap] w fun e w' => e = .returned (.bool true) ∧ Below w.heap.size w w' := by
  have HC := Lib.hid (dIntMod w a n cap (cr_of h))
  have hcap : n ≤ 9223372036854775807 := by
    rcases h with ⟨_, rfl, _⟩ | ⟨x, _, h1, h2, _⟩
    · omega
    · unfold maxLen at h2; omega
  clear h
  by_cases h0 : n ≤ 1048576
  · go_enter Try.func5, Try.ntmps5
    go_wp2_with fail
    refine HC.out.mono ?_
    rintro e w2 ⟨l, m, rfl, hl, hm, hb2⟩
    have HB2 := Lib.hid hb2
    clear hb2
    go_wp2_with (first | (refine ext rfl (.tmp 16) 0 [.string ⟨l.toArray⟩, .string ⟨m.toArray⟩] (.string ⟨l.toArray⟩) rfl rfl rfl ?_) | (refine ext rfl (.tmp 16) 1 [.string ⟨l.toArray⟩, .string ⟨m.toArray⟩] (.string ⟨m.toArray⟩) rfl rfl rfl ?_))
    have H1 := Lib.hid (fun w => iMod l m w)
    have H2 := Lib.hid (fun w => sMod l m w hl hm)
    by_cases hc : okI l = true ∧ okI m = true ∧ rz m ≠ 0
    · obtain ⟨k1, k2, k3⟩ := hc
      rw [modV_ok k1 k2 k3] at H1 H2
      obtain ⟨_, hp, hn⟩ := qr_spec (x := rz l) k3
      have f2 := okI_fmtZ (rI_b (x := rz l) (okI_lt (l := m)) k3)
      have H3 := Lib.hid (fun w => iMod (fmtZ (rI (rz l) (rz m))) m w)
      rw [modV_ok f2.1 k2 k3, f2.2, rI_idem k3] at H3
      have H4 := Lib.hid (fun w => iCmp (fmtZ (rI (rz l) (rz m))) [48] w)
      rw [cmpV_ok f2.1 ok0, f2.2, rz0] at H4
      have H5 := Lib.hid (fun w => iCmp m [48] w)
      rw [cmpV_ok k2 ok0, rz0] at H5
      have H6 := Lib.hid (fun w => iCmp (fmtZ (rI (rz l) (rz m))) m w)
      rw [cmpV_ok f2.1 k2, f2.2] at H6
      by_cases hy : 0 < rz m
      · have hp2 := hp hy
        rw [cz_gt hy] at H5
        rw [cz_lt hp2.2] at H6
        by_cases hr : rI (rz l) (rz m) = 0
        · rw [cz_eq hr] at H4
          generalize fmtZ (rI (rz l) (rz m)) = sr at H1 H2 H3 H4 H6
          clear hp hn f2 k1 k2 k3 hy hp2 hr
          refine (H1.out _).mono ?_
          rintro e w3 ⟨rfl, hb⟩
          have HBw3 := Lib.hid (HB2.out.trans (hb.mono HB2.out.size))
          clear hb
          go_wp2_with (first | (refine ext rfl (.tmp 21) 0 [.string ⟨sr.toArray⟩, .bool true] (.string ⟨sr.toArray⟩) rfl rfl rfl ?_) | (refine ext rfl (.tmp 21) 1 [.string ⟨sr.toArray⟩, .bool true] (.bool true) rfl rfl rfl ?_))
          refine (H2.out _).mono ?_
          rintro e w4 ⟨rfl, hb⟩
          have HBw4 := Lib.hid (HBw3.out.trans (hb.mono HBw3.out.size))
          clear hb
          go_wp2_with (first | (refine ext rfl (.tmp 27) 0 [.string ⟨sr.toArray⟩, .bool true] (.string ⟨sr.toArray⟩) rfl rfl rfl ?_) | (refine ext rfl (.tmp 27) 1 [.string ⟨sr.toArray⟩, .bool true] (.bool true) rfl rfl rfl ?_))
          refine (H3.out _).mono ?_
          rintro e w5 ⟨rfl, hb⟩
          have HBw5 := Lib.hid (HBw4.out.trans (hb.mono HBw4.out.size))
          clear hb
          go_wp2_with (first | (refine ext rfl (.tmp 48) 0 [.string ⟨sr.toArray⟩, .bool true] (.string ⟨sr.toArray⟩) rfl rfl rfl ?_) | (refine ext rfl (.tmp 48) 1 [.string ⟨sr.toArray⟩, .bool true] (.bool true) rfl rfl rfl ?_))
          refine (H4.out _).mono ?_
          rintro e w6 ⟨rfl, hb⟩
          have HBw6 := Lib.hid (HBw5.out.trans (hb.mono HBw5.out.size))
          clear hb
          go_wp2_with fail
          refine (H5.out _).mono ?_
          rintro e w7 ⟨rfl, hb⟩
          have HBw7 := Lib.hid (HBw6.out.trans (hb.mono HBw6.out.size))
          clear hb
          go_wp2_with fail
          refine (H6.out _).mono ?_
          rintro e w8 ⟨rfl, hb⟩
          have HBw8 := Lib.hid (HBw7.out.trans (hb.mono HBw7.out.size))
          clear hb
          go_wp2_with fail
          go_ret
          exact ⟨rfl, HBw8.out⟩
        · rw [cz_gt (by omega)] at H4
          generalize fmtZ (rI (rz l) (rz m)) = sr at H1 H2 H3 H4 H6
          clear hp hn f2 k1 k2 k3 hy hp2 hr
          refine (H1.out _).mono ?_
          rintro e w3 ⟨rfl, hb⟩
          have HBw3 := Lib.hid (HB2.out.trans (hb.mono HB2.out.size))
          clear hb
          go_wp2_with (first | (refine ext rfl (.tmp 21) 0 [.string ⟨sr.toArray⟩, .bool true] (.string ⟨sr.toArray⟩) rfl rfl rfl ?_) | (refine ext rfl (.tmp 21) 1 [.string ⟨sr.toArray⟩, .bool true] (.bool true) rfl rfl rfl ?_))
          refine (H2.out _).mono ?_
          rintro e w4 ⟨rfl, hb⟩
          have HBw4 := Lib.hid (HBw3.out.trans (hb.mono HBw3.out.size))
          clear hb
          go_wp2_with (first | (refine ext rfl (.tmp 27) 0 [.string ⟨sr.toArray⟩, .bool true] (.string ⟨sr.toArray⟩) rfl rfl rfl ?_) | (refine ext rfl (.tmp 27) 1 [.string ⟨sr.toArray⟩, .bool true] (.bool true) rfl rfl rfl ?_))
          refine (H3.out _).mono ?_
          rintro e w5 ⟨rfl, hb⟩
          have HBw5 := Lib.hid (HBw4.out.trans (hb.mono HBw4.out.size))
          clear hb
          go_wp2_with (first | (refine ext rfl (.tmp 48) 0 [.string ⟨sr.toArray⟩, .bool true] (.string ⟨sr.toArray⟩) rfl rfl rfl ?_) | (refine ext rfl (.tmp 48) 1 [.string ⟨sr.toArray⟩, .bool true] (.bool true) rfl rfl rfl ?_))
          refine (H4.out _).mono ?_
          rintro e w6 ⟨rfl, hb⟩
          have HBw6 := Lib.hid (HBw5.out.trans (hb.mono HBw5.out.size))
          clear hb
          go_wp2_with fail
          refine (H5.out _).mono ?_
          rintro e w7 ⟨rfl, hb⟩
          have HBw7 := Lib.hid (HBw6.out.trans (hb.mono HBw6.out.size))
          clear hb
          go_wp2_with fail
          refine (H6.out _).mono ?_
          rintro e w8 ⟨rfl, hb⟩
          have HBw8 := Lib.hid (HBw7.out.trans (hb.mono HBw7.out.size))
          clear hb
          go_wp2_with fail
          go_ret
          exact ⟨rfl, HBw8.out⟩
      · have hy' : rz m < 0 := by omega
        have hp2 := hn hy'
        rw [cz_lt hy'] at H5
        rw [cz_gt hp2.1] at H6
        by_cases hr : rI (rz l) (rz m) = 0
        · rw [cz_eq hr] at H4
          generalize fmtZ (rI (rz l) (rz m)) = sr at H1 H2 H3 H4 H6
          clear hp hn f2 k1 k2 k3 hy hp2 hr hy'
          refine (H1.out _).mono ?_
          rintro e w3 ⟨rfl, hb⟩
          have HBw3 := Lib.hid (HB2.out.trans (hb.mono HB2.out.size))
          clear hb
          go_wp2_with (first | (refine ext rfl (.tmp 21) 0 [.string ⟨sr.toArray⟩, .bool true] (.string ⟨sr.toArray⟩) rfl rfl rfl ?_) | (refine ext rfl (.tmp 21) 1 [.string ⟨sr.toArray⟩, .bool true] (.bool true) rfl rfl rfl ?_))
          refine (H2.out _).mono ?_
          rintro e w4 ⟨rfl, hb⟩
          have HBw4 := Lib.hid (HBw3.out.trans (hb.mono HBw3.out.size))
          clear hb
          go_wp2_with (first | (refine ext rfl (.tmp 27) 0 [.string ⟨sr.toArray⟩, .bool true] (.string ⟨sr.toArray⟩) rfl rfl rfl ?_) | (refine ext rfl (.tmp 27) 1 [.string ⟨sr.toArray⟩, .bool true] (.bool true) rfl rfl rfl ?_))
          refine (H3.out _).mono ?_
          rintro e w5 ⟨rfl, hb⟩
          have HBw5 := Lib.hid (HBw4.out.trans (hb.mono HBw4.out.size))
          clear hb
          go_wp2_with (first | (refine ext rfl (.tmp 48) 0 [.string ⟨sr.toArray⟩, .bool true] (.string ⟨sr.toArray⟩) rfl rfl rfl ?_) | (refine ext rfl (.tmp 48) 1 [.string ⟨sr.toArray⟩, .bool true] (.bool true) rfl rfl rfl ?_))
          refine (H4.out _).mono ?_
          rintro e w6 ⟨rfl, hb⟩
          have HBw6 := Lib.hid (HBw5.out.trans (hb.mono HBw5.out.size))
          clear hb
          go_wp2_with fail
          refine (H5.out _).mono ?_
          rintro e w7 ⟨rfl, hb⟩
          have HBw7 := Lib.hid (HBw6.out.trans (hb.mono HBw6.out.size))
          clear hb
          go_wp2_with fail
          refine (H6.out _).mono ?_
          rintro e w8 ⟨rfl, hb⟩
          have HBw8 := Lib.hid (HBw7.out.trans (hb.mono HBw7.out.size))
          clear hb
          go_wp2_with fail
          go_ret
          exact ⟨rfl, HBw8.out⟩
        · rw [cz_lt (by omega)] at H4
          generalize fmtZ (rI (rz l) (rz m)) = sr at H1 H2 H3 H4 H6
          clear hp hn f2 k1 k2 k3 hy hp2 hr hy'
          refine (H1.out _).mono ?_
          rintro e w3 ⟨rfl, hb⟩
          have HBw3 := Lib.hid (HB2.out.trans (hb.mono HB2.out.size))
          clear hb
          go_wp2_with (first | (refine ext rfl (.tmp 21) 0 [.string ⟨sr.toArray⟩, .bool true] (.string ⟨sr.toArray⟩) rfl rfl rfl ?_) | (refine ext rfl (.tmp 21) 1 [.string ⟨sr.toArray⟩, .bool true] (.bool true) rfl rfl rfl ?_))
          refine (H2.out _).mono ?_
          rintro e w4 ⟨rfl, hb⟩
          have HBw4 := Lib.hid (HBw3.out.trans (hb.mono HBw3.out.size))
          clear hb
          go_wp2_with (first | (refine ext rfl (.tmp 27) 0 [.string ⟨sr.toArray⟩, .bool true] (.string ⟨sr.toArray⟩) rfl rfl rfl ?_) | (refine ext rfl (.tmp 27) 1 [.string ⟨sr.toArray⟩, .bool true] (.bool true) rfl rfl rfl ?_))
          refine (H3.out _).mono ?_
          rintro e w5 ⟨rfl, hb⟩
          have HBw5 := Lib.hid (HBw4.out.trans (hb.mono HBw4.out.size))
          clear hb
          go_wp2_with (first | (refine ext rfl (.tmp 48) 0 [.string ⟨sr.toArray⟩, .bool true] (.string ⟨sr.toArray⟩) rfl rfl rfl ?_) | (refine ext rfl (.tmp 48) 1 [.string ⟨sr.toArray⟩, .bool true] (.bool true) rfl rfl rfl ?_))
          refine (H4.out _).mono ?_
          rintro e w6 ⟨rfl, hb⟩
          have HBw6 := Lib.hid (HBw5.out.trans (hb.mono HBw5.out.size))
          clear hb
          go_wp2_with fail
          refine (H5.out _).mono ?_
          rintro e w7 ⟨rfl, hb⟩
          have HBw7 := Lib.hid (HBw6.out.trans (hb.mono HBw6.out.size))
          clear hb
          go_wp2_with fail
          refine (H6.out _).mono ?_
          rintro e w8 ⟨rfl, hb⟩
          have HBw8 := Lib.hid (HBw7.out.trans (hb.mono HBw7.out.size))
          clear hb
          go_wp2_with fail
          go_ret
          exact ⟨rfl, HBw8.out⟩
    · rw [modV_no hc] at H1 H2
      clear hc
      refine (H1.out _).mono ?_
      rintro e w3 ⟨rfl, hb⟩
      have HBw3 := Lib.hid (HB2.out.trans (hb.mono HB2.out.size))
      clear hb
      go_wp2_with (first | (refine ext rfl (.tmp 21) 0 [.string ⟨#[]⟩, .bool false] (.string ⟨#[]⟩) rfl rfl rfl ?_) | (refine ext rfl (.tmp 21) 1 [.string ⟨#[]⟩, .bool false] (.bool false) rfl rfl rfl ?_))
      refine (H2.out _).mono ?_
      rintro e w4 ⟨rfl, hb⟩
      have HBw4 := Lib.hid (HBw3.out.trans (hb.mono HBw3.out.size))
      clear hb
      go_wp2_with (first | (refine ext rfl (.tmp 27) 0 [.string ⟨#[]⟩, .bool false] (.string ⟨#[]⟩) rfl rfl rfl ?_) | (refine ext rfl (.tmp 27) 1 [.string ⟨#[]⟩, .bool false] (.bool false) rfl rfl rfl ?_))
      go_ret
      exact ⟨rfl, HBw4.out⟩
  · go_enter Try.func5, Try.ntmps5
    go_wp2_with fail
    go_ret
    exact ⟨rfl, Below.refl _ _⟩
end Go.Proofs.Ytckmpenlpkhnfab
