/- The law on powers of sums. -/
import Derived.Test.YtckmpenlpkhnfabPwBase
namespace Go.Proofs.Ytckmpenlpkhnfab
open Go.RowKit
set_option maxHeartbeats 8000000 in
theorem fnIntPowers_walk (a : Option Addr) (n cap : Nat) (zs : List Int) (w : World) (h : (a = none ∧ n = 0 ∧ cap = 0 ∧ zs = []) ∨ ∃ x, a = some x ∧ n ≤ cap ∧ cap ≤ maxLen ∧ zs.length = cap ∧ (∀ i, i < zs.length → w.cell? (x.add i) = some (.int .u8 (zs.getD i 0))) ∧ ∀ n ∈ zs, (Lit.int .u8 n).wf = true) :
    Calls Try.prog 11 #[.slice a n cap] w fun e w' => e = .returned (.bool true) ∧ Below w.heap.size w w' := by
  have HR := Lib.hid (cr_of h)
  have HC := Lib.hid (dIntPow w a n cap (cr_of h))
  have hcap : n ≤ 9223372036854775807 := by
    rcases h with ⟨_, rfl, _⟩ | ⟨x, _, h1, h2, _⟩
    · omega
    · unfold maxLen at h2; omega
  clear h
  by_cases h0 : n ≤ 1048576
  · go_enter Try.func11, Try.ntmps11
    go_wp2_with fail
    refine HC.out.mono ?_
    rintro e w2 ⟨l, z, rfl, hl, hz, hb2⟩
    have HB2 := Lib.hid hb2
    have HH := Lib.hid (half_any w2 a n cap (cr_below HR.out hb2) h0)
    clear hb2
    go_wp2_with (first | (refine ext rfl (.tmp 20) 0 [.string ⟨l.toArray⟩, .int .i64 z] (.string ⟨l.toArray⟩) rfl rfl rfl ?_) | (refine ext rfl (.tmp 20) 1 [.string ⟨l.toArray⟩, .int .i64 z] (.int .i64 z) rfl rfl rfl ?_))
    refine HH.out.mono ?_
    rintro e w3' ⟨rfl, a2, n2, cap2, rfl, hc2⟩
    have HD := Lib.hid (dIntPow w2 a2 n2 cap2 hc2)
    clear hc2
    go_wp2_with fail
    refine HD.out.mono ?_
    rintro e w3 ⟨c, y, rfl, hc', hy, hb3⟩
    have HB3 := Lib.hid (HB2.out.trans (hb3.mono HB2.out.size))
    clear hb3
    go_wp2_with (first | (refine ext rfl (.tmp 25) 0 [.string ⟨c.toArray⟩, .int .i64 y] (.string ⟨c.toArray⟩) rfl rfl rfl ?_) | (refine ext rfl (.tmp 25) 1 [.string ⟨c.toArray⟩, .int .i64 y] (.int .i64 y) rfl rfl rfl ?_))
    have H1 := Lib.hid (fun w => iPow l z hz w)
    have H2 := Lib.hid (fun w => sPow l z w hl)
    by_cases hc : okI l = true ∧ (0 ≤ z ∧ z ≤ 200) ∧ (rz l ^ z.toNat).natAbs < 10 ^ 40
    · obtain ⟨k1, ⟨k2, k3⟩, k4⟩ := hc
      obtain ⟨k, rfl⟩ := Int.eq_ofNat_of_zero_le k2
      rw [Int.toNat_natCast] at k4
      have hk : k ≤ 200 := by omega
      rw [powN_ok k1 hk k4] at H1 H2
      have f1 := okI_fmtZ k4
      clear k2 k3 hz
      have H3 := Lib.hid (fun w => iPow l y hy w)
      by_cases c2 : okI l = true ∧ (0 ≤ y ∧ y ≤ 200) ∧ (rz l ^ y.toNat).natAbs < 10 ^ 40
      · obtain ⟨_, ⟨j2, j3⟩, j4⟩ := c2
        obtain ⟨j, rfl⟩ := Int.eq_ofNat_of_zero_le j2
        rw [Int.toNat_natCast] at j4
        have hj : j ≤ 200 := by omega
        rw [powN_ok k1 hj j4] at H3
        have f2 := okI_fmtZ j4
        clear j2 j3 hy
        have H4 := Lib.hid (fun w => iMul (fmtZ (rz l ^ k)) (fmtZ (rz l ^ j)) w)
        by_cases c3 : (rz l ^ k * rz l ^ j).natAbs < 10 ^ 40
        · rw [mulV_ok f1.1 f2.1 (by rw [f1.2, f2.2]; exact c3), f1.2, f2.2] at H4
          by_cases c4 : k + j ≤ 200
          · have H5 := Lib.hid (fun w => iPow l ((k : Int) + (j : Int)) (by omega) w)
            have e5 : ((k : Int) + (j : Int)) = ((k + j : Nat) : Int) := by omega
            have v5 := powN_ok k1 c4 (by rw [Int.pow_add]; exact c3)
            rw [← e5, Int.pow_add] at v5
            rw [v5] at H5
            generalize fmtZ (rz l ^ k * rz l ^ j) = s4 at H4 H5
            generalize fmtZ (rz l ^ k) = s1 at H1 H2 H4
            generalize fmtZ (rz l ^ j) = s3 at H3 H4
            clear v5 e5 c3 f2 f1 k4 j4 k1
            refine (H1.out _).mono ?_
            rintro e w4 ⟨rfl, hb⟩
            have HBw4 := Lib.hid (HB3.out.trans (hb.mono HB3.out.size))
            clear hb
            go_wp2_with (first | (refine ext rfl (.tmp 31) 0 [.string ⟨s1.toArray⟩, .bool true] (.string ⟨s1.toArray⟩) rfl rfl rfl ?_) | (refine ext rfl (.tmp 31) 1 [.string ⟨s1.toArray⟩, .bool true] (.bool true) rfl rfl rfl ?_))
            refine (H2.out _).mono ?_
            rintro e w5 ⟨rfl, hb⟩
            have HBw5 := Lib.hid (HBw4.out.trans (hb.mono HBw4.out.size))
            clear hb
            go_wp2_with (first | (refine ext rfl (.tmp 37) 0 [.string ⟨s1.toArray⟩, .bool true] (.string ⟨s1.toArray⟩) rfl rfl rfl ?_) | (refine ext rfl (.tmp 37) 1 [.string ⟨s1.toArray⟩, .bool true] (.bool true) rfl rfl rfl ?_))
            refine (H3.out _).mono ?_
            rintro e w6 ⟨rfl, hb⟩
            have HBw6 := Lib.hid (HBw5.out.trans (hb.mono HBw5.out.size))
            clear hb
            go_wp2_with (first | (refine ext rfl (.tmp 51) 0 [.string ⟨s3.toArray⟩, .bool true] (.string ⟨s3.toArray⟩) rfl rfl rfl ?_) | (refine ext rfl (.tmp 51) 1 [.string ⟨s3.toArray⟩, .bool true] (.bool true) rfl rfl rfl ?_))
            refine (H4.out _).mono ?_
            rintro e w7 ⟨rfl, hb⟩
            have HBw7 := Lib.hid (HBw6.out.trans (hb.mono HBw6.out.size))
            clear hb
            go_wp2_with (first | (refine ext rfl (.tmp 57) 0 [.string ⟨s4.toArray⟩, .bool true] (.string ⟨s4.toArray⟩) rfl rfl rfl ?_) | (refine ext rfl (.tmp 57) 1 [.string ⟨s4.toArray⟩, .bool true] (.bool true) rfl rfl rfl ?_))
            refine (H5.out _).mono ?_
            rintro e w8 ⟨rfl, hb⟩
            have HBw8 := Lib.hid (HBw7.out.trans (hb.mono HBw7.out.size))
            clear hb
            go_wp2_with (first | (refine ext rfl (.tmp 79) 0 [.string ⟨s4.toArray⟩, .bool true] (.string ⟨s4.toArray⟩) rfl rfl rfl ?_) | (refine ext rfl (.tmp 79) 1 [.string ⟨s4.toArray⟩, .bool true] (.bool true) rfl rfl rfl ?_))
            go_ret
            exact ⟨rfl, HBw8.out⟩
          · have c5 : 200 < k + j := by omega
            generalize fmtZ (rz l ^ k * rz l ^ j) = s4 at H4
            generalize fmtZ (rz l ^ k) = s1 at H1 H2 H4
            generalize fmtZ (rz l ^ j) = s3 at H3 H4
            clear c3 f2 f1 k4 j4 k1 c4
            refine (H1.out _).mono ?_
            rintro e w4 ⟨rfl, hb⟩
            have HBw4 := Lib.hid (HB3.out.trans (hb.mono HB3.out.size))
            clear hb
            go_wp2_with (first | (refine ext rfl (.tmp 31) 0 [.string ⟨s1.toArray⟩, .bool true] (.string ⟨s1.toArray⟩) rfl rfl rfl ?_) | (refine ext rfl (.tmp 31) 1 [.string ⟨s1.toArray⟩, .bool true] (.bool true) rfl rfl rfl ?_))
            refine (H2.out _).mono ?_
            rintro e w5 ⟨rfl, hb⟩
            have HBw5 := Lib.hid (HBw4.out.trans (hb.mono HBw4.out.size))
            clear hb
            go_wp2_with (first | (refine ext rfl (.tmp 37) 0 [.string ⟨s1.toArray⟩, .bool true] (.string ⟨s1.toArray⟩) rfl rfl rfl ?_) | (refine ext rfl (.tmp 37) 1 [.string ⟨s1.toArray⟩, .bool true] (.bool true) rfl rfl rfl ?_))
            refine (H3.out _).mono ?_
            rintro e w6 ⟨rfl, hb⟩
            have HBw6 := Lib.hid (HBw5.out.trans (hb.mono HBw5.out.size))
            clear hb
            go_wp2_with (first | (refine ext rfl (.tmp 51) 0 [.string ⟨s3.toArray⟩, .bool true] (.string ⟨s3.toArray⟩) rfl rfl rfl ?_) | (refine ext rfl (.tmp 51) 1 [.string ⟨s3.toArray⟩, .bool true] (.bool true) rfl rfl rfl ?_))
            refine (H4.out _).mono ?_
            rintro e w7 ⟨rfl, hb⟩
            have HBw7 := Lib.hid (HBw6.out.trans (hb.mono HBw6.out.size))
            clear hb
            go_wp2_with (first | (refine ext rfl (.tmp 57) 0 [.string ⟨s4.toArray⟩, .bool true] (.string ⟨s4.toArray⟩) rfl rfl rfl ?_) | (refine ext rfl (.tmp 57) 1 [.string ⟨s4.toArray⟩, .bool true] (.bool true) rfl rfl rfl ?_))
            go_ret
            exact ⟨rfl, HBw7.out⟩
        · rw [mulV_no (by rw [f1.2, f2.2]; exact fun h => c3 h.2.2)] at H4
          generalize fmtZ (rz l ^ k) = s1 at H1 H2 H4
          generalize fmtZ (rz l ^ j) = s3 at H3 H4
          clear c3 f2 f1 k4 j4 k1
          refine (H1.out _).mono ?_
          rintro e w4 ⟨rfl, hb⟩
          have HBw4 := Lib.hid (HB3.out.trans (hb.mono HB3.out.size))
          clear hb
          go_wp2_with (first | (refine ext rfl (.tmp 31) 0 [.string ⟨s1.toArray⟩, .bool true] (.string ⟨s1.toArray⟩) rfl rfl rfl ?_) | (refine ext rfl (.tmp 31) 1 [.string ⟨s1.toArray⟩, .bool true] (.bool true) rfl rfl rfl ?_))
          refine (H2.out _).mono ?_
          rintro e w5 ⟨rfl, hb⟩
          have HBw5 := Lib.hid (HBw4.out.trans (hb.mono HBw4.out.size))
          clear hb
          go_wp2_with (first | (refine ext rfl (.tmp 37) 0 [.string ⟨s1.toArray⟩, .bool true] (.string ⟨s1.toArray⟩) rfl rfl rfl ?_) | (refine ext rfl (.tmp 37) 1 [.string ⟨s1.toArray⟩, .bool true] (.bool true) rfl rfl rfl ?_))
          refine (H3.out _).mono ?_
          rintro e w6 ⟨rfl, hb⟩
          have HBw6 := Lib.hid (HBw5.out.trans (hb.mono HBw5.out.size))
          clear hb
          go_wp2_with (first | (refine ext rfl (.tmp 51) 0 [.string ⟨s3.toArray⟩, .bool true] (.string ⟨s3.toArray⟩) rfl rfl rfl ?_) | (refine ext rfl (.tmp 51) 1 [.string ⟨s3.toArray⟩, .bool true] (.bool true) rfl rfl rfl ?_))
          refine (H4.out _).mono ?_
          rintro e w7 ⟨rfl, hb⟩
          have HBw7 := Lib.hid (HBw6.out.trans (hb.mono HBw6.out.size))
          clear hb
          go_wp2_with (first | (refine ext rfl (.tmp 57) 0 [.string ⟨#[]⟩, .bool false] (.string ⟨#[]⟩) rfl rfl rfl ?_) | (refine ext rfl (.tmp 57) 1 [.string ⟨#[]⟩, .bool false] (.bool false) rfl rfl rfl ?_))
          go_ret
          exact ⟨rfl, HBw7.out⟩
      · rw [powV_no c2] at H3
        obtain ⟨u4, b4, h4⟩ := fMul ⟨(fmtZ (rz l ^ k)).toArray⟩ ⟨#[]⟩
        have H4 := Lib.hid h4
        clear h4
        generalize fmtZ (rz l ^ k) = s1 at H1 H2 H4
        clear c2 f1 k4 k1
        refine (H1.out _).mono ?_
        rintro e w4 ⟨rfl, hb⟩
        have HBw4 := Lib.hid (HB3.out.trans (hb.mono HB3.out.size))
        clear hb
        go_wp2_with (first | (refine ext rfl (.tmp 31) 0 [.string ⟨s1.toArray⟩, .bool true] (.string ⟨s1.toArray⟩) rfl rfl rfl ?_) | (refine ext rfl (.tmp 31) 1 [.string ⟨s1.toArray⟩, .bool true] (.bool true) rfl rfl rfl ?_))
        refine (H2.out _).mono ?_
        rintro e w5 ⟨rfl, hb⟩
        have HBw5 := Lib.hid (HBw4.out.trans (hb.mono HBw4.out.size))
        clear hb
        go_wp2_with (first | (refine ext rfl (.tmp 37) 0 [.string ⟨s1.toArray⟩, .bool true] (.string ⟨s1.toArray⟩) rfl rfl rfl ?_) | (refine ext rfl (.tmp 37) 1 [.string ⟨s1.toArray⟩, .bool true] (.bool true) rfl rfl rfl ?_))
        refine (H3.out _).mono ?_
        rintro e w6 ⟨rfl, hb⟩
        have HBw6 := Lib.hid (HBw5.out.trans (hb.mono HBw5.out.size))
        clear hb
        go_wp2_with (first | (refine ext rfl (.tmp 51) 0 [.string ⟨#[]⟩, .bool false] (.string ⟨#[]⟩) rfl rfl rfl ?_) | (refine ext rfl (.tmp 51) 1 [.string ⟨#[]⟩, .bool false] (.bool false) rfl rfl rfl ?_))
        refine (H4.out _).mono ?_
        rintro e w7 ⟨rfl, hb⟩
        have HBw7 := Lib.hid (HBw6.out.trans (hb.mono HBw6.out.size))
        clear hb
        go_wp2_with (first | (refine ext rfl (.tmp 57) 0 [.string u4, .bool b4] (.string u4) rfl rfl rfl ?_) | (refine ext rfl (.tmp 57) 1 [.string u4, .bool b4] (.bool b4) rfl rfl rfl ?_))
        go_ret
        exact ⟨rfl, HBw7.out⟩
    · rw [powV_no hc] at H1 H2
      clear hc
      obtain ⟨u3, b3, h3⟩ := fPow ⟨l.toArray⟩ y hy
      have H3 := Lib.hid h3
      clear h3
      obtain ⟨u4, b4, h4⟩ := fMul ⟨#[]⟩ u3
      have H4 := Lib.hid h4
      clear h4
      refine (H1.out _).mono ?_
      rintro e w4 ⟨rfl, hb⟩
      have HBw4 := Lib.hid (HB3.out.trans (hb.mono HB3.out.size))
      clear hb
      go_wp2_with (first | (refine ext rfl (.tmp 31) 0 [.string ⟨#[]⟩, .bool false] (.string ⟨#[]⟩) rfl rfl rfl ?_) | (refine ext rfl (.tmp 31) 1 [.string ⟨#[]⟩, .bool false] (.bool false) rfl rfl rfl ?_))
      refine (H2.out _).mono ?_
      rintro e w5 ⟨rfl, hb⟩
      have HBw5 := Lib.hid (HBw4.out.trans (hb.mono HBw4.out.size))
      clear hb
      go_wp2_with (first | (refine ext rfl (.tmp 37) 0 [.string ⟨#[]⟩, .bool false] (.string ⟨#[]⟩) rfl rfl rfl ?_) | (refine ext rfl (.tmp 37) 1 [.string ⟨#[]⟩, .bool false] (.bool false) rfl rfl rfl ?_))
      refine (H3.out _).mono ?_
      rintro e w6 ⟨rfl, hb⟩
      have HBw6 := Lib.hid (HBw5.out.trans (hb.mono HBw5.out.size))
      clear hb
      go_wp2_with (first | (refine ext rfl (.tmp 51) 0 [.string u3, .bool b3] (.string u3) rfl rfl rfl ?_) | (refine ext rfl (.tmp 51) 1 [.string u3, .bool b3] (.bool b3) rfl rfl rfl ?_))
      refine (H4.out _).mono ?_
      rintro e w7 ⟨rfl, hb⟩
      have HBw7 := Lib.hid (HBw6.out.trans (hb.mono HBw6.out.size))
      clear hb
      go_wp2_with (first | (refine ext rfl (.tmp 57) 0 [.string u4, .bool b4] (.string u4) rfl rfl rfl ?_) | (refine ext rfl (.tmp 57) 1 [.string u4, .bool b4] (.bool b4) rfl rfl rfl ?_))
      go_ret
      exact ⟨rfl, HBw7.out⟩
  · go_enter Try.func11, Try.ntmps11
    go_wp2_with fail
    go_ret
    exact ⟨rfl, Below.refl _ _⟩
end Go.Proofs.Ytckmpenlpkhnfab
