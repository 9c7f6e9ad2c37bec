/- The model's digits without zeros at the end. -/
import Derived.Test.YtckmpenlpkhnfabSlc
import Derived.Test.YtckmpenlpkhnfabDig2
namespace Go.Proofs.Ytckmpenlpkhnfab
open Go.RowKit
theorem trim_end {w : World} {lo g cap n k j : Nat} (h : Rd w lo (.slice (some ⟨g, 0, none⟩) k cap) (dgl n k)) (hj : j ≤ k) (hn : n < 10 ^ j) (hd : j = 0 ∨ dg n (j - 1) ≠ 0) : Rd w lo (.slice (some ⟨g, 0, none⟩) j cap) (D n) := by
  have h1 := h.take j hj
  rw [dgl_take n k j hj, dgl_D hn hd] at h1
  exact h1
set_option maxHeartbeats 400000 in
theorem trimmed_any (n k : Nat) (v : Value) (w : World) (lo : Nat) (h : Rd w lo v (dgl n k)) (hn : n < 10 ^ k) (hk : k ≤ 1000) :
    Calls Try.prog 67 #[v] w (SlP w lo n) := by
  have h0 := h
  obtain ⟨g, cap, rfl, _, _, hcap, hr⟩ := h
  rw [dgl_len] at hcap h0
  have HR := Lib.hid h0
  have HN := Lib.hid hn
  have HC := Lib.hid hr
  rw [dgl_len]
  clear hn hr h0
  go_enter Try.func67, Try.ntmps67
  go_wp2
  go_loop [3] (fun i => ∃ j : Nat, j ≤ k ∧ i = .int .i64 j ∧ Hid (n < 10 ^ j)) (fun i => (intOf i).toNat)
  case atStart => exact ⟨k, Nat.le_refl _, rfl, HN⟩
  case round =>
    obtain ⟨j, hj, rfl, HJ⟩ := hrel
    cases j with
    | zero =>
      have HE := Lib.hid (trim_end HR.out hj HJ.out (Or.inl rfl))
      go_wp2
      go_ret
      exact ⟨_, rfl, HE.out, Below.refl _ _⟩
    | succ j =>
      have c1 := HC.out j _ (dgl_get n k j (by omega))
      have hlt := dg_lt n j
      by_cases hd : dg n j = 0
      · have hd1 : ((dg n j : Int) == 0) = true := beq_iff_eq.2 (by omega)
        have HJ2 := Lib.hid (dg_zero_lt HJ.out hd)
        clear hd
        go_wp2
        go_round
        case rel => exact ⟨j, by omega, by go_num, HJ2⟩
        case measure => simp [intOf]; try omega
      · have hd1 : ((dg n j : Int) == 0) = false := beq_eq_false_iff_ne.2 (by omega)
        have HE := Lib.hid (trim_end HR.out hj HJ.out (Or.inr hd))
        clear hd
        go_wp2
        go_ret
        exact ⟨_, rfl, HE.out, Below.refl _ _⟩
end Go.Proofs.Ytckmpenlpkhnfab
