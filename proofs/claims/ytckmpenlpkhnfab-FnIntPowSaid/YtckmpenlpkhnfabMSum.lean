/- The model's sums of texts, and the other sign. -/
import Derived.Test.YtckmpenlpkhnfabMAdd
import Derived.Test.YtckmpenlpkhnfabFns
namespace Go.Proofs.Ytckmpenlpkhnfab
open Go.RowKit
theorem cmpN_ge' {m n : Nat} (h : n ≤ m) : 0 ≤ cmpN m n := by
  unfold cmpN
  split
  · omega
  · rw [if_neg (by omega)]; omega
theorem sg_same (b : Bool) (m n : Nat) : sgn b m + sgn b n = sgn b (m + n) := by cases b <;> simp [sgn] <;> omega
theorem sg_tf_lt {m n : Nat} (h : m < n) : sgn true m + sgn false n = sgn false (n - m) := by simp [sgn]; omega
theorem sg_tf_ge {m n : Nat} (h : n ≤ m) : sgn true m + sgn false n = sgn true (m - n) := by simp [sgn]; omega
theorem sg_ft_lt {m n : Nat} (h : m < n) : sgn false m + sgn true n = sgn true (n - m) := by simp [sgn]; omega
theorem sg_ft_ge {m n : Nat} (h : n ≤ m) : sgn false m + sgn true n = sgn false (m - n) := by simp [sgn]; omega
end Go.Proofs.Ytckmpenlpkhnfab
