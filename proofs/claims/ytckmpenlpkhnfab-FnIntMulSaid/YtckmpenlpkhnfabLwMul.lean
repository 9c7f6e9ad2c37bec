/- The law on products. -/
import Derived.Test.YtckmpenlpkhnfabLawsE
namespace Go.Proofs.Ytckmpenlpkhnfab
open Go.RowKit
set_option maxHeartbeats 4000000 in
theorem fnIntMul_walk (a : Option Addr) (n cap : Nat) (zs : List Int) (w : World) (h : (a = none ∧ n = 0 ∧ cap = 0 ∧ zs = []) ∨ ∃ x, a = some x ∧ n ≤ cap ∧ cap ≤ maxLen ∧ zs.length = cap ∧ (∀ i, i < zs.length → w.cell? (x.add i) = some (.int .u8 (zs.getD i 0))) ∧ ∀ n ∈ zs, (Lit.int .u8 n).wf = true) :
    Calls Try.prog 3 #[.slice a n cap] w fun e w' => e = .returned (.bool true) ∧ Below w.heap.size w w' := by
  have HC := Lib.hid (dIntMul w a n cap (cr_of h))
  have hcap : n ≤ 9223372036854775807 := by
    rcases h with ⟨_, rfl, _⟩ | ⟨x, _, h1, h2, _⟩
    · omega
    · unfold maxLen at h2; omega
  clear h
  by_cases h0 : n ≤ 1048576
  · go_enter Try.func3, Try.ntmps3
    go_wp2_with fail
    refine HC.out.mono ?_
    rintro e w2 ⟨l, m, rfl, hl, hm, hb2⟩
    have HB2 := Lib.hid hb2
    clear hb2
    go_wp2_with (first | (refine ext rfl (.tmp 18) 0 [.string ⟨l.toArray⟩, .string ⟨m.toArray⟩] (.string ⟨l.toArray⟩) rfl rfl rfl ?_) | (refine ext rfl (.tmp 18) 1 [.string ⟨l.toArray⟩, .string ⟨m.toArray⟩] (.string ⟨m.toArray⟩) rfl rfl rfl ?_))
    have H1 := Lib.hid (fun w => iMul l m w)
    have H2 := Lib.hid (fun w => sMul l m w hl hm)
    by_cases hc : okI l = true ∧ okI m = true ∧ (rz l * rz m).natAbs < 10 ^ 40
    · obtain ⟨k1, k2, k3⟩ := hc
      have f1 := okI_fmtZ k3
      have H3 := Lib.hid (fun w => iMul m l w)
      rw [mulV_ok k2 k1 (by rw [Int.mul_comm]; exact k3), Int.mul_comm (rz m)] at H3
      rw [mulV_ok k1 k2 k3] at H1 H2
      by_cases hz : rz m = 0
      · obtain rfl := is0 k2 hz
        rw [rz0, Int.mul_zero, fmt0] at H1 H2 H3
        clear f1 k1 k2 k3 hz
        refine (H1.out _).mono ?_
        rintro e w3 ⟨rfl, hb⟩
        have HBw3 := Lib.hid (HB2.out.trans (hb.mono HB2.out.size))
        clear hb
        go_wp2_with (first | (refine ext rfl (.tmp 23) 0 [.string ⟨[48].toArray⟩, .bool true] (.string ⟨[48].toArray⟩) rfl rfl rfl ?_) | (refine ext rfl (.tmp 23) 1 [.string ⟨[48].toArray⟩, .bool true] (.bool true) rfl rfl rfl ?_))
        refine (H2.out _).mono ?_
        rintro e w4 ⟨rfl, hb⟩
        have HBw4 := Lib.hid (HBw3.out.trans (hb.mono HBw3.out.size))
        clear hb
        go_wp2_with (first | (refine ext rfl (.tmp 29) 0 [.string ⟨[48].toArray⟩, .bool true] (.string ⟨[48].toArray⟩) rfl rfl rfl ?_) | (refine ext rfl (.tmp 29) 1 [.string ⟨[48].toArray⟩, .bool true] (.bool true) rfl rfl rfl ?_))
        refine (H3.out _).mono ?_
        rintro e w5 ⟨rfl, hb⟩
        have HBw5 := Lib.hid (HBw4.out.trans (hb.mono HBw4.out.size))
        clear hb
        go_wp2_with (first | (refine ext rfl (.tmp 50) 0 [.string ⟨[48].toArray⟩, .bool true] (.string ⟨[48].toArray⟩) rfl rfl rfl ?_) | (refine ext rfl (.tmp 50) 1 [.string ⟨[48].toArray⟩, .bool true] (.bool true) rfl rfl rfl ?_))
        go_ret
        exact ⟨rfl, HBw5.out⟩
      · have H4 := Lib.hid (fun w => iDiv (fmtZ (rz l * rz m)) m w)
        rw [divV_ok f1.1 k2 hz, f1.2, (qr_mul hz).1, fmtZ_rz k1] at H4
        have H5 := Lib.hid (fun w => iMod (fmtZ (rz l * rz m)) m w)
        rw [modV_ok f1.1 k2 hz, f1.2, (qr_mul hz).2, fmt0] at H5
        have hzb : (m == [48]) = false := beq_eq_false_iff_ne.2 fun h => hz (by rw [h]; rfl)
        generalize fmtZ (rz l * rz m) = so at H1 H2 H3 H4 H5
        clear f1 k1 k2 k3 hz
        refine (H1.out _).mono ?_
        rintro e w3 ⟨rfl, hb⟩
        have HBw3 := Lib.hid (HB2.out.trans (hb.mono HB2.out.size))
        clear hb
        go_wp2_with (first | (refine ext rfl (.tmp 23) 0 [.string ⟨so.toArray⟩, .bool true] (.string ⟨so.toArray⟩) rfl rfl rfl ?_) | (refine ext rfl (.tmp 23) 1 [.string ⟨so.toArray⟩, .bool true] (.bool true) rfl rfl rfl ?_))
        refine (H2.out _).mono ?_
        rintro e w4 ⟨rfl, hb⟩
        have HBw4 := Lib.hid (HBw3.out.trans (hb.mono HBw3.out.size))
        clear hb
        go_wp2_with (first | (refine ext rfl (.tmp 29) 0 [.string ⟨so.toArray⟩, .bool true] (.string ⟨so.toArray⟩) rfl rfl rfl ?_) | (refine ext rfl (.tmp 29) 1 [.string ⟨so.toArray⟩, .bool true] (.bool true) rfl rfl rfl ?_))
        refine (H3.out _).mono ?_
        rintro e w5 ⟨rfl, hb⟩
        have HBw5 := Lib.hid (HBw4.out.trans (hb.mono HBw4.out.size))
        clear hb
        go_wp2_with (first | (refine ext rfl (.tmp 50) 0 [.string ⟨so.toArray⟩, .bool true] (.string ⟨so.toArray⟩) rfl rfl rfl ?_) | (refine ext rfl (.tmp 50) 1 [.string ⟨so.toArray⟩, .bool true] (.bool true) rfl rfl rfl ?_))
        refine (H4.out _).mono ?_
        rintro e w6 ⟨rfl, hb⟩
        have HBw6 := Lib.hid (HBw5.out.trans (hb.mono HBw5.out.size))
        clear hb
        go_wp2_with (first | (refine ext rfl (.tmp 67) 0 [.string ⟨l.toArray⟩, .bool true] (.string ⟨l.toArray⟩) rfl rfl rfl ?_) | (refine ext rfl (.tmp 67) 1 [.string ⟨l.toArray⟩, .bool true] (.bool true) rfl rfl rfl ?_))
        refine (H5.out _).mono ?_
        rintro e w7 ⟨rfl, hb⟩
        have HBw7 := Lib.hid (HBw6.out.trans (hb.mono HBw6.out.size))
        clear hb
        go_wp2_with (first | (refine ext rfl (.tmp 73) 0 [.string ⟨[48].toArray⟩, .bool true] (.string ⟨[48].toArray⟩) rfl rfl rfl ?_) | (refine ext rfl (.tmp 73) 1 [.string ⟨[48].toArray⟩, .bool true] (.bool true) rfl rfl rfl ?_))
        go_ret
        exact ⟨rfl, HBw7.out⟩
    · rw [mulV_no hc] at H1 H2
      clear hc
      refine (H1.out _).mono ?_
      rintro e w3 ⟨rfl, hb⟩
      have HBw3 := Lib.hid (HB2.out.trans (hb.mono HB2.out.size))
      clear hb
      go_wp2_with (first | (refine ext rfl (.tmp 23) 0 [.string ⟨#[]⟩, .bool false] (.string ⟨#[]⟩) rfl rfl rfl ?_) | (refine ext rfl (.tmp 23) 1 [.string ⟨#[]⟩, .bool false] (.bool false) rfl rfl rfl ?_))
      refine (H2.out _).mono ?_
      rintro e w4 ⟨rfl, hb⟩
      have HBw4 := Lib.hid (HBw3.out.trans (hb.mono HBw3.out.size))
      clear hb
      go_wp2_with (first | (refine ext rfl (.tmp 29) 0 [.string ⟨#[]⟩, .bool false] (.string ⟨#[]⟩) rfl rfl rfl ?_) | (refine ext rfl (.tmp 29) 1 [.string ⟨#[]⟩, .bool false] (.bool false) rfl rfl rfl ?_))
      go_ret
      exact ⟨rfl, HBw4.out⟩
  · go_enter Try.func3, Try.ntmps3
    go_wp2_with fail
    go_ret
    exact ⟨rfl, Below.refl _ _⟩
end Go.Proofs.Ytckmpenlpkhnfab
