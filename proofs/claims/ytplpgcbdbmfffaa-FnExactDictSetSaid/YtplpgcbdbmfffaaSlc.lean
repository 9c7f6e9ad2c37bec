/- How many slots are made for so many entries. -/
import Derived.Test.YtplpgcbdbmfffaaFst
namespace Go.Proofs.Ytplpgcbdbmfffaa
open Go.RowKit
def scN (k : Nat) : Nat := if 3 * k < 8 then 8 else if 3 * k < 16 then 16 else if 3 * k < 32 then 32 else if 3 * k < 64 then 64 else 128
def ScR (k : Nat) (n : Nat) : Prop := n = 8 ∨ (n = 16 ∧ 8 ≤ 3 * k) ∨ (n = 32 ∧ 16 ≤ 3 * k) ∨ (n = 64 ∧ 32 ≤ 3 * k) ∨ (n = 128 ∧ 64 ≤ 3 * k)
theorem ScR.le {k n : Nat} (h : ScR k n) : 8 ≤ n ∧ n ≤ 128 := by unfold ScR at h; omega
theorem ScR.next {k n : Nat} (h : ScR k n) (h1 : n ≤ 3 * k) (h2 : n < 128) : ScR k (2 * n) := by unfold ScR at h ⊢; omega
theorem ScR.done {k n : Nat} (h : ScR k n) (h1 : 3 * k < n ∨ 128 ≤ n) : scN k = n := by
  unfold ScR at h; unfold scN
  split
  · omega
  · split
    · omega
    · split
      · omega
      · split <;> omega
theorem scN_le (k : Nat) : 8 ≤ scN k ∧ scN k ≤ 128 := by
  unfold scN
  split
  · omega
  · split
    · omega
    · split
      · omega
      · split <;> omega
theorem slotN_sc (k : Nat) : slotN (scN k) = true := by
  unfold scN
  split
  · decide
  · split
    · decide
    · split
      · decide
      · split <;> decide
set_option maxRecDepth 20000 in
theorem slotCountFor_any (k : Nat) (w : World) (hk : k ≤ 1048576) : Calls Try.prog 98 #[.int .i64 (k : Int)] w fun e w' => e = .returned (.int .i64 (scN k : Int)) ∧ w = w' := by
  go_enter Try.func98, Try.ntmps98
  go_wp2_with fail
  go_loopw [3] (fun v wr => ∃ n : Nat, v = .int .i64 (n : Int) ∧ ScR k n ∧ wr = w) (fun v _ => 128 - (intOf v).toNat)
  case atStart => exact ⟨8, rfl, Or.inl rfl, rfl⟩
  case round =>
    obtain ⟨n, rfl, HR, rfl⟩ := hrel
    have hb := HR.le
    have HR := Lib.hid HR
    by_cases h1 : n ≤ 3 * k
    · have q1 : (n : Int) ≤ 3 * (k : Int) := by omega
      by_cases h2 : n < 128
      · have q2 : (n : Int) < 128 := by omega
        have HN := Lib.hid (HR.out.next h1 h2)
        go_wp2_with fail
        go_roundw
        case rel => exact ⟨2 * n, by go_num, HN.out, trivial⟩
        case measure => simp [intOf]; try omega
      · have q2 : ¬ (n : Int) < 128 := by omega
        have HE := Lib.hid (HR.out.done (Or.inr (by omega)))
        go_wp2_with fail
        go_ret
        rw [HE.out]
        exact ⟨rfl, rfl⟩
    · have q1 : ¬ (n : Int) ≤ 3 * (k : Int) := by omega
      have HE := Lib.hid (HR.out.done (Or.inl (by omega)))
      go_wp2_with fail
      go_ret
      rw [HE.out]
      exact ⟨rfl, rfl⟩
/-- As the model goes: past the greatest. -/
def ScS (k : Nat) (n : Nat) : Prop := n = 8 ∨ (n = 16 ∧ 8 ≤ 3 * k) ∨ (n = 32 ∧ 16 ≤ 3 * k) ∨ (n = 64 ∧ 32 ≤ 3 * k) ∨ (128 ≤ n ∧ 64 ≤ 3 * k ∧ n ≤ 6 * k)
theorem ScS.le {k n : Nat} (h : ScS k n) : 8 ≤ n ∧ n ≤ 6 * k + 128 := by unfold ScS at h; omega
theorem ScS.next {k n : Nat} (h : ScS k n) (h1 : n ≤ 3 * k) : ScS k (2 * n) := by unfold ScS at h ⊢; omega
theorem ScS.done {k n : Nat} (h : ScS k n) (h1 : 3 * k < n) : (scN k : Int) = if (n : Int) ≤ 128 then (n : Int) else 128 := by
  unfold ScS at h; unfold scN
  split
  · split <;> omega
  · split
    · split <;> omega
    · split
      · split <;> omega
      · split
        · split <;> omega
        · split <;> omega
set_option maxRecDepth 20000 in
theorem sizeFor_any (k : Nat) (w : World) (hk : k ≤ 1048576) : Calls Try.prog 70 #[.int .i64 (k : Int)] w fun e w' => e = .returned (.int .i64 (scN k : Int)) ∧ w = w' := by
  go_enter Try.func70, Try.ntmps70
  go_wp2_with fail
  go_loopw [3] (fun v wr => ∃ n : Nat, v = .int .i64 (n : Int) ∧ ScS k n ∧ wr = w) (fun v _ => 6 * k + 128 - (intOf v).toNat)
  case atStart => exact ⟨8, rfl, Or.inl rfl, rfl⟩
  case round =>
    obtain ⟨n, rfl, HR, rfl⟩ := hrel
    have hb := HR.le
    have HR := Lib.hid HR
    by_cases h1 : n ≤ 3 * k
    · have q1 : (n : Int) ≤ 3 * (k : Int) := by omega
      have HN := Lib.hid (HR.out.next h1)
      go_wp2_with fail
      go_roundw
      case rel => exact ⟨2 * n, by go_num, HN.out, trivial⟩
      case measure => simp [intOf]; try omega
    · have q1 : ¬ (n : Int) ≤ 3 * (k : Int) := by omega
      have HE := Lib.hid (HR.out.done (by omega))
      go_wp2_with fail
      all_goals (go_ret; rw [HE.out]; refine ⟨?_, rfl⟩; split)
      all_goals (first | rfl | (show Ending.returned (Value.int IntKind.i64 (min (n : Int) 128)) = _; congr 2; omega) | (congr 2; omega))
end Go.Proofs.Ytplpgcbdbmfffaa
