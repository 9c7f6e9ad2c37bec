/- Rooms of lists: the model's, the program's. -/
import Derived.Test.YtdinjoenpiminaaLpure
namespace Go.Proofs.Ytdinjoenpiminaa
open Go.RowKit
def roomA (n : Int) : Int := if 0 ≤ n ∧ n ≤ 1000000 then roomZ n else -1
/-- Halved until it is less than 8. -/
def leastN (n r : Nat) : Nat := if n < 8 then n + r else leastN (n / 2) (max r (n % 2))
termination_by n
decreasing_by omega
theorem leastN_lt {n r : Nat} (h : n < 8) : leastN n r = n + r := by rw [leastN]; rw [if_pos h]
theorem leastN_ge {n r : Nat} (h : ¬ n < 8) : leastN n r = leastN (n / 2) (max r (n % 2)) := by rw [leastN]; rw [if_neg h]
theorem leastN_in (n : Nat) : ∀ r, r ≤ 1 → 4 ≤ n → 4 ≤ leastN n r ∧ leastN n r ≤ 8 := by
  induction n using Nat.strongRecOn with
  | ind n ih =>
    intro r hr hn
    by_cases h : n < 8
    · rw [leastN_lt h]; omega
    · rw [leastN_ge h]
      exact ih (n / 2) (by omega) _ (by omega) (by omega)
def leastA (n : Int) : Int := if 0 ≤ n ∧ n ≤ 1000000 then (leastN n.toNat 0 : Int) else -1
theorem leastA_ok {n : Nat} (h : n ≤ 1000000) : leastA (n : Int) = (leastN n 0 : Int) := by
  unfold leastA; rw [if_pos (by omega), Int.toNat_natCast]
end Go.Proofs.Ytdinjoenpiminaa
