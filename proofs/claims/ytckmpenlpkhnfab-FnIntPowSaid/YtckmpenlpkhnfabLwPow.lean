/- The law on powers. -/
import Derived.Test.YtckmpenlpkhnfabPwBase
namespace Go.Proofs.Ytckmpenlpkhnfab
open Go.RowKit
set_option maxHeartbeats 8000000 in
theorem fnIntPow_walk (a : Option Addr) (n cap : Nat) (zs : List Int) (w : World) (h : (a = none ∧ n = 0 ∧ cap = 0 ∧ zs = []) ∨ ∃ x, a = some x ∧ n ≤ cap ∧ cap ≤ maxLen ∧ zs.length = cap ∧ (∀ i, i < zs.length → w.cell? (x.add i) = some (.int .u8 (zs.getD i 0))) ∧ ∀ n ∈ zs, (Lit.int .u8 n).wf = true) :
    Calls Try.prog 6 #[.slice a n cap] w fun e w' => e = .returned (.bool true) ∧ Below w.heap.size w w' := by
  have HR := Lib.hid (cr_of h)
  have HC := Lib.hid (dIntPow w a n cap (cr_of h))
  have hcap : n ≤ 9223372036854775807 := by
    rcases h with ⟨_, rfl, _⟩ | ⟨x, _, h1, h2, _⟩
    · omega
    · unfold maxLen at h2; omega
  clear h
  by_cases h0 : n ≤ 1048576
  · go_enter Try.func6, Try.ntmps6
    go_wp2_with fail
    refine HC.out.mono ?_
    rintro e w2 ⟨l, z, rfl, hl, hz, hb2⟩
    have HB2 := Lib.hid hb2
    clear hb2
    go_wp2_with (first | (refine ext rfl (.tmp 16) 0 [.string ⟨l.toArray⟩, .int .i64 z] (.string ⟨l.toArray⟩) rfl rfl rfl ?_) | (refine ext rfl (.tmp 16) 1 [.string ⟨l.toArray⟩, .int .i64 z] (.int .i64 z) rfl rfl rfl ?_))
    have H1 := Lib.hid (fun w => iPow l z hz w)
    have H2 := Lib.hid (fun w => sPow l z w hl)
    by_cases hc : okI l = true ∧ (0 ≤ z ∧ z ≤ 200) ∧ (rz l ^ z.toNat).natAbs < 10 ^ 40
    · obtain ⟨k1, ⟨k2, k3⟩, k4⟩ := hc
      obtain ⟨k, rfl⟩ := Int.eq_ofNat_of_zero_le k2
      rw [Int.toNat_natCast] at k4
      have hk : k ≤ 200 := by omega
      rw [powN_ok k1 hk k4] at H1 H2
      have f1 := okI_fmtZ k4
      clear k2 k3 hz
      have H3 := Lib.hid (fun w => iPow l ((k : Int) + 1) (by omega) w)
      have e3 : ((k : Int) + 1) = ((k + 1 : Nat) : Int) := by omega
      have e4 : rz l * rz l ^ k = rz l ^ (k + 1) := by rw [Int.pow_succ, Int.mul_comm]
      by_cases c3 : okI l = true ∧ k + 1 ≤ 200 ∧ (rz l ^ (k + 1)).natAbs < 10 ^ 40
      · have v3 := powN_ok c3.1 c3.2.1 c3.2.2
        rw [← e3] at v3
        rw [v3] at H3
        have H4 := Lib.hid (fun w => iMul l (fmtZ (rz l ^ k)) w)
        rw [mulV_ok k1 f1.1 (by rw [f1.2, e4]; exact c3.2.2), f1.2, e4] at H4
        clear v3 e3 e4
        by_cases k0 : k = 0
        · subst k0
          rw [Int.pow_zero, fmt1] at H1 H2 H4
          generalize fmtZ (rz l ^ (0 + 1)) = s3 at H3 H4
          clear c3 f1 k4 k1
          refine (H1.out _).mono ?_
          rintro e w3 ⟨rfl, hb⟩
          have HBw3 := Lib.hid (HB2.out.trans (hb.mono HB2.out.size))
          clear hb
          go_wp2_with (first | (refine ext rfl (.tmp 21) 0 [.string ⟨[49].toArray⟩, .bool true] (.string ⟨[49].toArray⟩) rfl rfl rfl ?_) | (refine ext rfl (.tmp 21) 1 [.string ⟨[49].toArray⟩, .bool true] (.bool true) rfl rfl rfl ?_))
          refine (H2.out _).mono ?_
          rintro e w4 ⟨rfl, hb⟩
          have HBw4 := Lib.hid (HBw3.out.trans (hb.mono HBw3.out.size))
          clear hb
          go_wp2_with (first | (refine ext rfl (.tmp 27) 0 [.string ⟨[49].toArray⟩, .bool true] (.string ⟨[49].toArray⟩) rfl rfl rfl ?_) | (refine ext rfl (.tmp 27) 1 [.string ⟨[49].toArray⟩, .bool true] (.bool true) rfl rfl rfl ?_))
          refine (H3.out _).mono ?_
          rintro e w5 ⟨rfl, hb⟩
          have HBw5 := Lib.hid (HBw4.out.trans (hb.mono HBw4.out.size))
          clear hb
          go_wp2_with (first | (refine ext rfl (.tmp 48) 0 [.string ⟨s3.toArray⟩, .bool true] (.string ⟨s3.toArray⟩) rfl rfl rfl ?_) | (refine ext rfl (.tmp 48) 1 [.string ⟨s3.toArray⟩, .bool true] (.bool true) rfl rfl rfl ?_))
          refine (H4.out _).mono ?_
          rintro e w6 ⟨rfl, hb⟩
          have HBw6 := Lib.hid (HBw5.out.trans (hb.mono HBw5.out.size))
          clear hb
          go_wp2_with (first | (refine ext rfl (.tmp 55) 0 [.string ⟨s3.toArray⟩, .bool true] (.string ⟨s3.toArray⟩) rfl rfl rfl ?_) | (refine ext rfl (.tmp 55) 1 [.string ⟨s3.toArray⟩, .bool true] (.bool true) rfl rfl rfl ?_))
          go_ret
          exact ⟨rfl, HBw6.out⟩
        · have k5 : 0 < k := by omega
          generalize fmtZ (rz l ^ (k + 1)) = s3 at H3 H4
          generalize fmtZ (rz l ^ k) = s1 at H1 H2 H4
          clear c3 f1 k4 k1 k0
          refine (H1.out _).mono ?_
          rintro e w3 ⟨rfl, hb⟩
          have HBw3 := Lib.hid (HB2.out.trans (hb.mono HB2.out.size))
          clear hb
          go_wp2_with (first | (refine ext rfl (.tmp 21) 0 [.string ⟨s1.toArray⟩, .bool true] (.string ⟨s1.toArray⟩) rfl rfl rfl ?_) | (refine ext rfl (.tmp 21) 1 [.string ⟨s1.toArray⟩, .bool true] (.bool true) rfl rfl rfl ?_))
          refine (H2.out _).mono ?_
          rintro e w4 ⟨rfl, hb⟩
          have HBw4 := Lib.hid (HBw3.out.trans (hb.mono HBw3.out.size))
          clear hb
          go_wp2_with (first | (refine ext rfl (.tmp 27) 0 [.string ⟨s1.toArray⟩, .bool true] (.string ⟨s1.toArray⟩) rfl rfl rfl ?_) | (refine ext rfl (.tmp 27) 1 [.string ⟨s1.toArray⟩, .bool true] (.bool true) rfl rfl rfl ?_))
          refine (H3.out _).mono ?_
          rintro e w5 ⟨rfl, hb⟩
          have HBw5 := Lib.hid (HBw4.out.trans (hb.mono HBw4.out.size))
          clear hb
          go_wp2_with (first | (refine ext rfl (.tmp 48) 0 [.string ⟨s3.toArray⟩, .bool true] (.string ⟨s3.toArray⟩) rfl rfl rfl ?_) | (refine ext rfl (.tmp 48) 1 [.string ⟨s3.toArray⟩, .bool true] (.bool true) rfl rfl rfl ?_))
          refine (H4.out _).mono ?_
          rintro e w6 ⟨rfl, hb⟩
          have HBw6 := Lib.hid (HBw5.out.trans (hb.mono HBw5.out.size))
          clear hb
          go_wp2_with (first | (refine ext rfl (.tmp 55) 0 [.string ⟨s3.toArray⟩, .bool true] (.string ⟨s3.toArray⟩) rfl rfl rfl ?_) | (refine ext rfl (.tmp 55) 1 [.string ⟨s3.toArray⟩, .bool true] (.bool true) rfl rfl rfl ?_))
          go_ret
          exact ⟨rfl, HBw6.out⟩
      · have v3 := powN_no c3
        rw [← e3] at v3
        rw [v3] at H3
        have k5 : 0 < k := by
          rcases Nat.eq_zero_or_pos k with h | h
          · subst h
            exact absurd ⟨k1, by decide, by rw [← e4, Int.pow_zero, Int.mul_one]; exact okI_lt⟩ c3
          · exact h
        obtain ⟨u4, b4, h4⟩ := fMul ⟨l.toArray⟩ ⟨(fmtZ (rz l ^ k)).toArray⟩
        have H4 := Lib.hid h4
        generalize fmtZ (rz l ^ k) = s1 at H1 H2 H4
        clear h4 v3 e3 e4 c3 f1 k4 k1
        refine (H1.out _).mono ?_
        rintro e w3 ⟨rfl, hb⟩
        have HBw3 := Lib.hid (HB2.out.trans (hb.mono HB2.out.size))
        clear hb
        go_wp2_with (first | (refine ext rfl (.tmp 21) 0 [.string ⟨s1.toArray⟩, .bool true] (.string ⟨s1.toArray⟩) rfl rfl rfl ?_) | (refine ext rfl (.tmp 21) 1 [.string ⟨s1.toArray⟩, .bool true] (.bool true) rfl rfl rfl ?_))
        refine (H2.out _).mono ?_
        rintro e w4 ⟨rfl, hb⟩
        have HBw4 := Lib.hid (HBw3.out.trans (hb.mono HBw3.out.size))
        clear hb
        go_wp2_with (first | (refine ext rfl (.tmp 27) 0 [.string ⟨s1.toArray⟩, .bool true] (.string ⟨s1.toArray⟩) rfl rfl rfl ?_) | (refine ext rfl (.tmp 27) 1 [.string ⟨s1.toArray⟩, .bool true] (.bool true) rfl rfl rfl ?_))
        refine (H3.out _).mono ?_
        rintro e w5 ⟨rfl, hb⟩
        have HBw5 := Lib.hid (HBw4.out.trans (hb.mono HBw4.out.size))
        clear hb
        go_wp2_with (first | (refine ext rfl (.tmp 48) 0 [.string ⟨#[]⟩, .bool false] (.string ⟨#[]⟩) rfl rfl rfl ?_) | (refine ext rfl (.tmp 48) 1 [.string ⟨#[]⟩, .bool false] (.bool false) rfl rfl rfl ?_))
        refine (H4.out _).mono ?_
        rintro e w6 ⟨rfl, hb⟩
        have HBw6 := Lib.hid (HBw5.out.trans (hb.mono HBw5.out.size))
        clear hb
        go_wp2_with (first | (refine ext rfl (.tmp 55) 0 [.string u4, .bool b4] (.string u4) rfl rfl rfl ?_) | (refine ext rfl (.tmp 55) 1 [.string u4, .bool b4] (.bool b4) rfl rfl rfl ?_))
        go_ret
        exact ⟨rfl, HBw6.out⟩
    · rw [powV_no hc] at H1 H2
      clear hc
      refine (H1.out _).mono ?_
      rintro e w3 ⟨rfl, hb⟩
      have HBw3 := Lib.hid (HB2.out.trans (hb.mono HB2.out.size))
      clear hb
      go_wp2_with (first | (refine ext rfl (.tmp 21) 0 [.string ⟨#[]⟩, .bool false] (.string ⟨#[]⟩) rfl rfl rfl ?_) | (refine ext rfl (.tmp 21) 1 [.string ⟨#[]⟩, .bool false] (.bool false) rfl rfl rfl ?_))
      refine (H2.out _).mono ?_
      rintro e w4 ⟨rfl, hb⟩
      have HBw4 := Lib.hid (HBw3.out.trans (hb.mono HBw3.out.size))
      clear hb
      go_wp2_with (first | (refine ext rfl (.tmp 27) 0 [.string ⟨#[]⟩, .bool false] (.string ⟨#[]⟩) rfl rfl rfl ?_) | (refine ext rfl (.tmp 27) 1 [.string ⟨#[]⟩, .bool false] (.bool false) rfl rfl rfl ?_))
      go_ret
      exact ⟨rfl, HBw4.out⟩
  · go_enter Try.func6, Try.ntmps6
    go_wp2_with fail
    go_ret
    exact ⟨rfl, Below.refl _ _⟩
end Go.Proofs.Ytckmpenlpkhnfab
