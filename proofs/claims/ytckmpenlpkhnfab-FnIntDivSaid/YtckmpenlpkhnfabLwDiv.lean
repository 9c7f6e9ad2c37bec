/- The law on quotients. -/
import Derived.Test.YtckmpenlpkhnfabLawsE
namespace Go.Proofs.Ytckmpenlpkhnfab
open Go.RowKit
set_option maxHeartbeats 4000000 in
theorem fnIntDiv_walk (a : Option Addr) (n cap : Nat) (zs : List Int) (w : World) (h : (a = none ∧ n = 0 ∧ cap = 0 ∧ zs = []) ∨ ∃ x, a = some x ∧ n ≤ cap ∧ cap ≤ maxLen ∧ zs.length = cap ∧ (∀ i, i < zs.length → w.cell? (x.add i) = some (.int .u8 (zs.getD i 0))) ∧ ∀ n ∈ zs, (Lit.int .u8 n).wf = true) :
    Calls Try.prog 4 #[.slice a n cap] w fun e w' => e = .returned (.bool true) ∧ Below w.heap.size w w' := by
  have HC := Lib.hid (dIntDiv w a n cap (cr_of h))
  have hcap : n ≤ 9223372036854775807 := by
    rcases h with ⟨_, rfl, _⟩ | ⟨x, _, h1, h2, _⟩
    · omega
    · unfold maxLen at h2; omega
  clear h
  by_cases h0 : n ≤ 1048576
  · go_enter Try.func4, Try.ntmps4
    go_wp2_with fail
    refine HC.out.mono ?_
    rintro e w2 ⟨l, m, rfl, hl, hm, hb2⟩
    have HB2 := Lib.hid hb2
    clear hb2
    go_wp2_with (first | (refine ext rfl (.tmp 18) 0 [.string ⟨l.toArray⟩, .string ⟨m.toArray⟩] (.string ⟨l.toArray⟩) rfl rfl rfl ?_) | (refine ext rfl (.tmp 18) 1 [.string ⟨l.toArray⟩, .string ⟨m.toArray⟩] (.string ⟨m.toArray⟩) rfl rfl rfl ?_))
    have H1 := Lib.hid (fun w => iDiv l m w)
    have H2 := Lib.hid (fun w => sDiv l m w hl hm)
    by_cases hc : okI l = true ∧ okI m = true ∧ rz m ≠ 0
    · obtain ⟨k1, k2, k3⟩ := hc
      rw [divV_ok k1 k2 k3] at H1 H2
      have x1 := okI_lt (l := l)
      have e := (qr_spec (x := rz l) k3).1
      have f1 := okI_fmtZ (qI_b (y := rz m) x1 k3)
      have f2 := okI_fmtZ (rI_b (x := rz l) (okI_lt (l := m)) k3)
      have H3 := Lib.hid (fun w => iMod l m w)
      rw [modV_ok k1 k2 k3] at H3
      have H4 := Lib.hid (fun w => iMul (fmtZ (qI (rz l) (rz m))) m w)
      by_cases k4 : (qI (rz l) (rz m) * rz m).natAbs < 10 ^ 40
      · rw [mulV_ok f1.1 k2 (by rw [f1.2]; exact k4), f1.2] at H4
        have f4 := okI_fmtZ k4
        have H5 := Lib.hid (fun w => iAdd (fmtZ (qI (rz l) (rz m) * rz m)) (fmtZ (rI (rz l) (rz m))) w)
        rw [addV_ok f4.1 f2.1 (by rw [f4.2, f2.2, ← e]; exact x1), f4.2, f2.2, ← e, fmtZ_rz k1] at H5
        generalize fmtZ (qI (rz l) (rz m)) = sq at H1 H2 H4
        generalize fmtZ (rI (rz l) (rz m)) = sr at H3 H5
        generalize fmtZ (qI (rz l) (rz m) * rz m) = sp at H4 H5
        clear f1 f2 f4 k1 k2 k3 k4 e x1
        refine (H1.out _).mono ?_
        rintro e w3 ⟨rfl, hb⟩
        have HBw3 := Lib.hid (HB2.out.trans (hb.mono HB2.out.size))
        clear hb
        go_wp2_with (first | (refine ext rfl (.tmp 23) 0 [.string ⟨sq.toArray⟩, .bool true] (.string ⟨sq.toArray⟩) rfl rfl rfl ?_) | (refine ext rfl (.tmp 23) 1 [.string ⟨sq.toArray⟩, .bool true] (.bool true) rfl rfl rfl ?_))
        refine (H2.out _).mono ?_
        rintro e w4 ⟨rfl, hb⟩
        have HBw4 := Lib.hid (HBw3.out.trans (hb.mono HBw3.out.size))
        clear hb
        go_wp2_with (first | (refine ext rfl (.tmp 29) 0 [.string ⟨sq.toArray⟩, .bool true] (.string ⟨sq.toArray⟩) rfl rfl rfl ?_) | (refine ext rfl (.tmp 29) 1 [.string ⟨sq.toArray⟩, .bool true] (.bool true) rfl rfl rfl ?_))
        refine (H3.out _).mono ?_
        rintro e w5 ⟨rfl, hb⟩
        have HBw5 := Lib.hid (HBw4.out.trans (hb.mono HBw4.out.size))
        clear hb
        go_wp2_with (first | (refine ext rfl (.tmp 50) 0 [.string ⟨sr.toArray⟩, .bool true] (.string ⟨sr.toArray⟩) rfl rfl rfl ?_) | (refine ext rfl (.tmp 50) 1 [.string ⟨sr.toArray⟩, .bool true] (.bool true) rfl rfl rfl ?_))
        refine (H4.out _).mono ?_
        rintro e w6 ⟨rfl, hb⟩
        have HBw6 := Lib.hid (HBw5.out.trans (hb.mono HBw5.out.size))
        clear hb
        go_wp2_with (first | (refine ext rfl (.tmp 56) 0 [.string ⟨sp.toArray⟩, .bool true] (.string ⟨sp.toArray⟩) rfl rfl rfl ?_) | (refine ext rfl (.tmp 56) 1 [.string ⟨sp.toArray⟩, .bool true] (.bool true) rfl rfl rfl ?_))
        refine (H5.out _).mono ?_
        rintro e w7 ⟨rfl, hb⟩
        have HBw7 := Lib.hid (HBw6.out.trans (hb.mono HBw6.out.size))
        clear hb
        go_wp2_with (first | (refine ext rfl (.tmp 69) 0 [.string ⟨l.toArray⟩, .bool true] (.string ⟨l.toArray⟩) rfl rfl rfl ?_) | (refine ext rfl (.tmp 69) 1 [.string ⟨l.toArray⟩, .bool true] (.bool true) rfl rfl rfl ?_))
        go_ret
        exact ⟨rfl, HBw7.out⟩
      · rw [mulV_no (by rw [f1.2]; exact fun h => k4 h.2.2)] at H4
        generalize fmtZ (qI (rz l) (rz m)) = sq at H1 H2 H4
        generalize fmtZ (rI (rz l) (rz m)) = sr at H3
        clear f1 f2 k1 k2 k3 k4 e x1
        refine (H1.out _).mono ?_
        rintro e w3 ⟨rfl, hb⟩
        have HBw3 := Lib.hid (HB2.out.trans (hb.mono HB2.out.size))
        clear hb
        go_wp2_with (first | (refine ext rfl (.tmp 23) 0 [.string ⟨sq.toArray⟩, .bool true] (.string ⟨sq.toArray⟩) rfl rfl rfl ?_) | (refine ext rfl (.tmp 23) 1 [.string ⟨sq.toArray⟩, .bool true] (.bool true) rfl rfl rfl ?_))
        refine (H2.out _).mono ?_
        rintro e w4 ⟨rfl, hb⟩
        have HBw4 := Lib.hid (HBw3.out.trans (hb.mono HBw3.out.size))
        clear hb
        go_wp2_with (first | (refine ext rfl (.tmp 29) 0 [.string ⟨sq.toArray⟩, .bool true] (.string ⟨sq.toArray⟩) rfl rfl rfl ?_) | (refine ext rfl (.tmp 29) 1 [.string ⟨sq.toArray⟩, .bool true] (.bool true) rfl rfl rfl ?_))
        refine (H3.out _).mono ?_
        rintro e w5 ⟨rfl, hb⟩
        have HBw5 := Lib.hid (HBw4.out.trans (hb.mono HBw4.out.size))
        clear hb
        go_wp2_with (first | (refine ext rfl (.tmp 50) 0 [.string ⟨sr.toArray⟩, .bool true] (.string ⟨sr.toArray⟩) rfl rfl rfl ?_) | (refine ext rfl (.tmp 50) 1 [.string ⟨sr.toArray⟩, .bool true] (.bool true) rfl rfl rfl ?_))
        refine (H4.out _).mono ?_
        rintro e w6 ⟨rfl, hb⟩
        have HBw6 := Lib.hid (HBw5.out.trans (hb.mono HBw5.out.size))
        clear hb
        go_wp2_with (first | (refine ext rfl (.tmp 56) 0 [.string ⟨#[]⟩, .bool false] (.string ⟨#[]⟩) rfl rfl rfl ?_) | (refine ext rfl (.tmp 56) 1 [.string ⟨#[]⟩, .bool false] (.bool false) rfl rfl rfl ?_))
        go_ret
        exact ⟨rfl, HBw6.out⟩
    · rw [divV_no hc] at H1 H2
      clear hc
      refine (H1.out _).mono ?_
      rintro e w3 ⟨rfl, hb⟩
      have HBw3 := Lib.hid (HB2.out.trans (hb.mono HB2.out.size))
      clear hb
      go_wp2_with (first | (refine ext rfl (.tmp 23) 0 [.string ⟨#[]⟩, .bool false] (.string ⟨#[]⟩) rfl rfl rfl ?_) | (refine ext rfl (.tmp 23) 1 [.string ⟨#[]⟩, .bool false] (.bool false) rfl rfl rfl ?_))
      refine (H2.out _).mono ?_
      rintro e w4 ⟨rfl, hb⟩
      have HBw4 := Lib.hid (HBw3.out.trans (hb.mono HBw3.out.size))
      clear hb
      go_wp2_with (first | (refine ext rfl (.tmp 29) 0 [.string ⟨#[]⟩, .bool false] (.string ⟨#[]⟩) rfl rfl rfl ?_) | (refine ext rfl (.tmp 29) 1 [.string ⟨#[]⟩, .bool false] (.bool false) rfl rfl rfl ?_))
      go_ret
      exact ⟨rfl, HBw4.out⟩
  · go_enter Try.func4, Try.ntmps4
    go_wp2_with fail
    go_ret
    exact ⟨rfl, Below.refl _ _⟩
end Go.Proofs.Ytckmpenlpkhnfab
