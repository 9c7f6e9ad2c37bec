/- Plain facts on the digits of natural numbers, and the row of eighty digit cells that a number lies in. -/
import Derived.WalkKit
namespace Go.Proofs.Ytckmpenlpkhnfab
/-- The digit of n at place i. -/
def dg (n i : Nat) : Nat := n / 10 ^ i % 10
theorem dg_lt (n i : Nat) : dg n i < 10 := Nat.mod_lt _ (by omega)
theorem ten_pos (i : Nat) : 0 < 10 ^ i := Nat.pow_pos (by omega)
theorem dg_add_pow (n d p i : Nat) (h : i < p) : dg (n + d * 10 ^ p) i = dg n i := by
  unfold dg
  have e : d * 10 ^ p = 10 ^ i * (10 * (d * 10 ^ (p - i - 1))) := by
    have : 10 ^ p = 10 ^ i * (10 * 10 ^ (p - i - 1)) := by
      rw [← Nat.pow_succ', ← Nat.pow_add]; congr 1; omega
    rw [this]; simp only [Nat.mul_left_comm d]
  rw [e, Nat.add_mul_div_left _ _ (ten_pos i), Nat.add_mul_mod_self_left]
/-- A number with another digit at place p. -/
def setDg (n p d : Nat) : Nat := n - dg n p * 10 ^ p + d * 10 ^ p
theorem dg_mul_le (n p : Nat) : dg n p * 10 ^ p ≤ n := by
  unfold dg
  have h1 : n / 10 ^ p * 10 ^ p ≤ n := Nat.div_mul_le_self _ _
  have h2 : n / 10 ^ p % 10 * 10 ^ p ≤ n / 10 ^ p * 10 ^ p := Nat.mul_le_mul_right _ (Nat.mod_le _ _)
  omega
/-- n is what is ahead of place p, the digit there, and what is behind. -/
theorem split_dg (n p : Nat) : n = n % 10 ^ p + (dg n p + 10 * (n / 10 ^ (p + 1))) * 10 ^ p := by
  have h1 := Nat.div_add_mod n (10 ^ p)
  have h2 : n / 10 ^ p = dg n p + 10 * (n / 10 ^ (p + 1)) := by
    unfold dg
    have e : n / 10 ^ (p + 1) = n / 10 ^ p / 10 := by rw [Nat.pow_succ, Nat.div_div_eq_div_mul]
    rw [e]; omega
  have h3 : n / 10 ^ p * 10 ^ p = (dg n p + 10 * (n / 10 ^ (p + 1))) * 10 ^ p := by rw [← h2]
  have h4 : 10 ^ p * (n / 10 ^ p) = n / 10 ^ p * 10 ^ p := Nat.mul_comm _ _
  omega
theorem setDg_eq (n p d : Nat) : setDg n p d = n % 10 ^ p + (d + 10 * (n / 10 ^ (p + 1))) * 10 ^ p := by
  unfold setDg
  have h := split_dg n p
  have e1 : (dg n p + 10 * (n / 10 ^ (p + 1))) * 10 ^ p = dg n p * 10 ^ p + 10 * (n / 10 ^ (p + 1)) * 10 ^ p := Nat.add_mul _ _ _
  have e2 : (d + 10 * (n / 10 ^ (p + 1))) * 10 ^ p = d * 10 ^ p + 10 * (n / 10 ^ (p + 1)) * 10 ^ p := Nat.add_mul _ _ _
  omega
theorem dg_low (a b p i : Nat) (h : i < p) : dg (a + b * 10 ^ p) i = dg a i := dg_add_pow a b p i h
theorem dg_high (a b p i : Nat) (ha : a < 10 ^ p) (h : p ≤ i) : dg (a + b * 10 ^ p) i = dg b (i - p) := by
  unfold dg
  have e : 10 ^ i = 10 ^ p * 10 ^ (i - p) := by rw [← Nat.pow_add]; congr 1; omega
  rw [e, ← Nat.div_div_eq_div_mul, Nat.add_mul_div_right _ _ (ten_pos p), Nat.div_eq_of_lt ha, Nat.zero_add]
theorem dg_small_zero (d x : Nat) (h : d < 10) : dg (d + 10 * x) 0 = d := by unfold dg; simp; omega
theorem dg_small_succ (d x j : Nat) (h : d < 10) : dg (d + 10 * x) (j + 1) = dg x j := by
  unfold dg
  rw [Nat.pow_succ', ← Nat.div_div_eq_div_mul]
  congr 2; omega
theorem dg_setDg (n p d i : Nat) (hd : d < 10) : dg (setDg n p d) i = if i = p then d else dg n i := by
  have hm : n % 10 ^ p < 10 ^ p := Nat.mod_lt _ (ten_pos p)
  rw [setDg_eq]
  by_cases h1 : i < p
  · rw [dg_low _ _ _ _ h1, if_neg (by omega)]
    conv => rhs; rw [split_dg n p]
    rw [dg_low _ _ _ _ h1]
  · rw [dg_high _ _ _ _ hm (by omega)]
    by_cases h2 : i = p
    · subst h2; rw [if_pos rfl, Nat.sub_self, dg_small_zero _ _ hd]
    · rw [if_neg h2]
      conv => rhs; rw [split_dg n p]
      rw [dg_high _ _ _ _ hm (by omega), show i - p = (i - p - 1) + 1 by omega, dg_small_succ _ _ _ hd, dg_small_succ _ _ _ (dg_lt _ _)]
theorem dg_zero (i : Nat) : dg 0 i = 0 := by unfold dg; simp
theorem dg_of_lt (n i : Nat) (h : n < 10 ^ i) : dg n i = 0 := by unfold dg; rw [Nat.div_eq_of_lt h]
theorem dg_mod (n p i : Nat) (h : i < p) : dg (n % 10 ^ p) i = dg n i := by
  conv => rhs; rw [← Nat.div_add_mod n (10 ^ p), Nat.add_comm, Nat.mul_comm]
  rw [dg_low _ _ _ _ h]
theorem mod_succ_dg (n k : Nat) : n % 10 ^ (k + 1) = n % 10 ^ k + dg n k * 10 ^ k := by
  unfold dg; rw [Nat.pow_succ, Nat.mod_mul]; rw [Nat.mul_comm (10 ^ k)]
/-- Digits below 10^p tell the number. -/
theorem eq_of_dg : ∀ (p a b : Nat), a < 10 ^ p → b < 10 ^ p → (∀ i, i < p → dg a i = dg b i) → a = b
  | 0, a, b, ha, hb, _ => by simp at ha hb; omega
  | p + 1, a, b, ha, hb, h => by
    have h0 := eq_of_dg p (a % 10 ^ p) (b % 10 ^ p) (Nat.mod_lt _ (ten_pos p)) (Nat.mod_lt _ (ten_pos p)) (fun i hi => by rw [dg_mod _ _ _ hi, dg_mod _ _ _ hi]; exact h i (by omega))
    have ea := mod_succ_dg a p
    have eb := mod_succ_dg b p
    rw [Nat.mod_eq_of_lt ha] at ea
    rw [Nat.mod_eq_of_lt hb] at eb
    rw [ea, eb, h0, h p (by omega)]
/-- The carry of a sum into place k. -/
def cry (m n k : Nat) : Nat := (m % 10 ^ k + n % 10 ^ k) / 10 ^ k
theorem cry_le (m n k : Nat) : cry m n k ≤ 1 := by
  unfold cry
  have h1 : m % 10 ^ k < 10 ^ k := Nat.mod_lt _ (ten_pos k)
  have h2 : n % 10 ^ k < 10 ^ k := Nat.mod_lt _ (ten_pos k)
  have h3 : (m % 10 ^ k + n % 10 ^ k) / 10 ^ k < 2 := by rw [Nat.div_lt_iff_lt_mul (ten_pos k)]; omega
  omega
/-- One place more of a sum: its digits there, and the carry. -/
theorem add_step (m n k : Nat) : (m % 10 ^ (k + 1) + n % 10 ^ (k + 1)) % 10 ^ (k + 1) = (m % 10 ^ k + n % 10 ^ k) % 10 ^ k + ((dg m k + dg n k + cry m n k) % 10) * 10 ^ k
    ∧ cry m n (k + 1) = (dg m k + dg n k + cry m n k) / 10 := by
  unfold cry
  have e : m % 10 ^ (k + 1) + n % 10 ^ (k + 1) = (m % 10 ^ k + n % 10 ^ k) % 10 ^ k + 10 ^ k * (dg m k + dg n k + (m % 10 ^ k + n % 10 ^ k) / 10 ^ k) := by
    rw [mod_succ_dg, mod_succ_dg, Nat.mul_add, Nat.mul_add, Nat.mul_comm (dg m k), Nat.mul_comm (dg n k)]
    have := Nat.div_add_mod (m % 10 ^ k + n % 10 ^ k) (10 ^ k)
    omega
  have hr : (m % 10 ^ k + n % 10 ^ k) % 10 ^ k < 10 ^ k := Nat.mod_lt _ (ten_pos k)
  generalize (m % 10 ^ k + n % 10 ^ k) % 10 ^ k = r at *
  generalize dg m k + dg n k + (m % 10 ^ k + n % 10 ^ k) / 10 ^ k = s at *
  rw [e, Nat.pow_succ]
  constructor
  · rw [Nat.mod_mul, Nat.add_mul_mod_self_left, Nat.add_mul_div_left _ _ (ten_pos k), Nat.mod_eq_of_lt hr, Nat.div_eq_of_lt hr, Nat.zero_add, Nat.mul_comm]
  · rw [← Nat.div_div_eq_div_mul, Nat.add_mul_div_left _ _ (ten_pos k), Nat.div_eq_of_lt hr, Nat.zero_add]
/-- The digit at a place behind the number's own. -/
theorem setDg_new (r k d : Nat) (h : r < 10 ^ k) : setDg r k d = r + d * 10 ^ k := by
  unfold setDg; rw [dg_of_lt r k h]; omega
/-- The cells of an array of eighty digits that hold n. -/
def row80 (n : Nat) : Array Value := Array.ofFn (n := 80) fun i => Value.int .u8 (dg n i.val : Int)
theorem row80_size (n : Nat) : (row80 n).size = 80 := by simp [row80]
theorem row80_get (n i : Nat) (h : i < 80) : (row80 n)[i]? = some (Value.int .u8 (dg n i : Int)) := by
  simp [row80, h]
theorem row80_none (n i : Nat) (h : 80 ≤ i) : (row80 n)[i]? = none := by
  rw [Array.getElem?_eq_none]; rw [row80_size]; exact h
theorem row80_set (n p d : Nat) (hd : d < 10) : (row80 n).setIfInBounds p (.int .u8 (d : Int)) = row80 (setDg n p d) := by
  apply Array.ext_getElem?
  intro i
  rw [Array.getElem?_setIfInBounds, row80_size]
  by_cases hi : i < 80
  · rw [row80_get _ _ hi, row80_get _ _ hi, dg_setDg n p d i hd]
    by_cases h : p = i
    · subst h; simp [hi]
    · rw [if_neg h, if_neg (Ne.symm h)]
  · rw [row80_none _ _ (by omega), row80_none _ _ (by omega)]
    by_cases h : p = i
    · rw [if_pos h, if_neg (by omega)]
    · rw [if_neg h]
theorem row80_one (n : Nat) : (row80 n).all (·.oneCell') = true := by
  rw [Array.all_eq_true]
  intro i h
  simp [row80, Value.oneCell']
theorem row80_mod (n : Nat) : row80 (n % 10 ^ 80) = row80 n := by
  apply Array.ext
  · simp [row80]
  · intro i h1 h2
    simp only [row80_size] at h2
    simp only [row80, Array.getElem_ofFn, dg_mod n 80 i h2]
theorem row80_inj (a b : Nat) (ha : a < 10 ^ 80) (hb : b < 10 ^ 80) (h : row80 a = row80 b) : a = b := by
  refine eq_of_dg 80 a b ha hb fun i hi => ?_
  have h1 := row80_get a i hi
  rw [h, row80_get b i hi] at h1
  simp only [Option.some.injEq, Value.int.injEq, true_and] at h1
  omega
end Go.Proofs.Ytckmpenlpkhnfab
