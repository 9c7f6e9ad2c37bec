/- Numbers of slots and of entries. -/
import Derived.Test.YtplpgcbdbmfffaaDok0
namespace Go.Proofs.Ytplpgcbdbmfffaa
open Go.RowKit
/-- Numbers of slots. -/
def slotN (n : Nat) : Bool := n == 8 || n == 16 || n == 32 || n == 64 || n == 128
theorem entryRoom_any (n : Nat) (w : World) (h : n ≤ 1048576) : Calls Try.prog 78 #[.int .i64 (n : Int)] w fun e w' => e = .returned (.int .i64 ((2 * n / 3 : Nat) : Int)) ∧ w = w' := by
  have e2 : (2 * (n : Int)).tdiv 3 = ((2 * n / 3 : Nat) : Int) := by rw [Int.tdiv_eq_ediv_of_nonneg (by omega)]; omega
  have hr : 0 ≤ ((2 * n / 3 : Nat) : Int) ∧ ((2 * n / 3 : Nat) : Int) ≤ 1048576 := by omega
  generalize ((2 * n / 3 : Nat) : Int) = r at *
  obtain ⟨r0, r1⟩ := hr
  go_enter Try.func78, Try.ntmps78
  go_wp2_with fail
  go_ret
  exact ⟨by go_num, rfl⟩
theorem bits_slot (n : Nat) (h : 8 ≤ n ∧ n ≤ 128) : (bits BinOp.and IntKind.i64 (n : Int) ((n : Int) - 1) == 0) = slotN n := by
  have hd : ∀ m : Fin 129, 8 ≤ m.val → (bits BinOp.and IntKind.i64 (m.val : Int) ((m.val : Int) - 1) == 0) = slotN m.val := by decide +kernel
  exact hd ⟨n, by omega⟩ h.1
set_option maxHeartbeats 400000 in
theorem isSlotCount_any (n : Nat) (w : World) (h : n ≤ 9223372036854775807) : Calls Try.prog 93 #[.int .i64 (n : Int)] w fun e w' => e = .returned (.bool (slotN n)) ∧ w = w' := by
  by_cases h1 : n < 8
  · have k1 : ¬ (8 : Int) ≤ (n : Int) := by omega
    have h3 : slotN n = false := by unfold slotN; simp; omega
    rw [h3]
    go_enter Try.func93, Try.ntmps93
    go_wp2_with fail
    go_ret
    exact ⟨rfl, rfl⟩
  · by_cases h2 : 128 < n
    · have k1 : (8 : Int) ≤ (n : Int) := by omega
      have k2 : ¬ (n : Int) ≤ 128 := by omega
      have h3 : slotN n = false := by unfold slotN; simp; omega
      rw [h3]
      go_enter Try.func93, Try.ntmps93
      go_wp2_with fail
      go_ret
      exact ⟨rfl, rfl⟩
    · have k1 : (8 : Int) ≤ (n : Int) := by omega
      have k2 : (n : Int) ≤ 128 := by omega
      go_enter Try.func93, Try.ntmps93
      go_wp2_with fail
      go_ret
      refine ⟨?_, rfl⟩
      show Ending.returned (.bool (bits BinOp.and IntKind.i64 (n : Int) ((n : Int) - 1) == 0)) = _
      rw [bits_slot n (by omega)]
end Go.Proofs.Ytplpgcbdbmfffaa
