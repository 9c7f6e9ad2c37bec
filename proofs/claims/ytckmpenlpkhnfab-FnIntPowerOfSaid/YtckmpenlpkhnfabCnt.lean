/- impl.intDigits.count: how many digits, without leading zeros. -/
import Derived.Test.YtckmpenlpkhnfabArr
namespace Go.Proofs.Ytckmpenlpkhnfab
open Go.RowKit
/-- How many digits m has of k at most; at least one. -/
def cntF : Nat → Nat → Nat
  | 0, _ => 1
  | k + 1, m => if k = 0 ∨ dg m k ≠ 0 then k + 1 else cntF k m
def cnt (m : Nat) : Nat := cntF 80 m
theorem cntF_spec : ∀ (k m : Nat), 1 ≤ k → m < 10 ^ k → 1 ≤ cntF k m ∧ cntF k m ≤ k ∧ m < 10 ^ (cntF k m) ∧ (cntF k m = 1 ∨ 10 ^ (cntF k m - 1) ≤ m)
  | 0, _, h, _ => by omega
  | k + 1, m, _, hm => by
    unfold cntF
    by_cases h0 : k = 0
    · subst h0; simp; simpa using hm
    · by_cases hd : dg m k = 0
      · rw [if_neg (by simp [h0, hd])]
        have hlt : m < 10 ^ k := by
          unfold dg at hd
          have h1 : m / 10 ^ k < 10 := by rw [Nat.div_lt_iff_lt_mul (ten_pos k), ← Nat.pow_succ']; exact hm
          have h2 : m / 10 ^ k = 0 := by
            generalize m / 10 ^ k = q at *
            omega
          rcases Nat.div_eq_zero_iff.1 h2 with h3 | h3
          · have := ten_pos k; omega
          · exact h3
        have ih := cntF_spec k m (by omega) hlt
        omega
      · rw [if_pos (Or.inr hd)]
        refine ⟨by omega, by omega, hm, Or.inr ?_⟩
        rw [Nat.add_sub_cancel]
        rcases Nat.lt_or_ge m (10 ^ k) with h3 | h3
        · exact absurd (dg_of_lt m k h3) hd
        · exact h3
theorem cnt_spec (m : Nat) (h : m < 10 ^ 80) : 1 ≤ cnt m ∧ cnt m ≤ 80 ∧ m < 10 ^ (cnt m) ∧ (cnt m = 1 ∨ 10 ^ (cnt m - 1) ≤ m) := cntF_spec 80 m (by omega) h
def CntInv (w wr : World) (m k : Nat) : Prop := Below w.heap.size w wr ∧ Blk wr w.heap.size 41 (row80 m) ∧ cntF k m = cnt m
theorem cnt_start (w : World) (m : Nat) : CntInv w (w.alloc (Obj.cells (row80 m) 41)) m 80 := ⟨(Below.refl _ _).alloc (Nat.le_refl _) _, Blk.new _ _ _ rfl, rfl⟩
theorem cnt_more {w wr : World} {m k : Nat} (h : CntInv w wr m (k + 1)) (hk : k ≠ 0) (hd : dg m k = 0) : CntInv w wr m k :=
  ⟨h.1, h.2.1, by rw [← h.2.2]; unfold cntF; rw [if_neg (by simp [hk, hd])]; cases k with | zero => exact absurd rfl hk | succ k => rfl⟩
theorem cnt_end {w wr : World} {m k : Nat} (h : CntInv w wr m (k + 1)) (hk : k = 0 ∨ dg m k ≠ 0) : cnt m = k + 1 := by
  rw [← h.2.2]; unfold cntF; rw [if_pos hk]
set_option maxHeartbeats 400000 in
theorem cnt_any (m : Nat) (w : World) :
    Calls Try.prog 58 #[.agg (row80 m)] w fun e w' => e = .returned (.int .i64 (cnt m)) ∧ Below w.heap.size w w' := by
  go_enter Try.func58, Try.ntmps58
  go_wp2
  go_loopw [3] (fun i wr => ∃ k : Nat, k < 80 ∧ i = .int .i64 ((k : Int) + 1) ∧ CntInv w wr m (k + 1)) (fun i _ => (intOf i).toNat)
  case atStart => exact ⟨79, by omega, rfl, cnt_start w m⟩
  case round =>
    obtain ⟨k, hk, rfl, hI⟩ := hrel
    have c1 : wr.cell? ⟨w.heap.size, k, none⟩ = some (.int .u8 (dg m k)) := by rw [hI.2.1.cell, row80_get _ _ hk]
    have hb := dg_lt m k
    have HI := Lib.hid hI
    clear hI
    by_cases h0 : k = 0
    · subst h0
      have hv := cnt_end HI.out (Or.inl rfl)
      have Hv := Lib.hid hv
      clear hv
      go_wp2
      go_ret
      exact ⟨by rw [Hv.out]; rfl, HI.out.1⟩
    · have h1 : (1 : Int) < (k : Int) + 1 := by omega
      have h1d : decide ((1 : Int) < (k : Int) + 1) = true := by simpa using h1
      by_cases hd : dg m k = 0
      · have hd1 : ((dg m k : Int) == 0) = true := beq_iff_eq.2 (by omega)
        obtain ⟨k, rfl⟩ : ∃ k', k = k' + 1 := ⟨k - 1, by omega⟩
        have hn := cnt_more HI.out h0 hd
        have HN := Lib.hid hn
        clear hn hd
        go_wp2
        go_roundw
        case rel => exact ⟨k, by omega, by go_num, HN.out⟩
        case measure => simp [intOf]; try omega
      · have hd1 : ((dg m k : Int) == 0) = false := beq_eq_false_iff_ne.2 (by omega)
        have hv := cnt_end HI.out (Or.inr hd)
        have Hv := Lib.hid hv
        clear hv hd
        go_wp2
        go_ret
        exact ⟨by rw [Hv.out]; rfl, HI.out.1⟩
end Go.Proofs.Ytckmpenlpkhnfab
