/- The digits of a number as a list, the lowest first, without zeros at the end; how a text is made of them. -/
import Derived.Test.YtckmpenlpkhnfabCnt
namespace Go.Proofs.Ytckmpenlpkhnfab
/-- How many digits a number has; 0 has none. -/
def nd (n : Nat) : Nat := if h : n = 0 then 0 else nd (n / 10) + 1
termination_by n
decreasing_by exact Nat.div_lt_self (Nat.pos_of_ne_zero h) (by decide)
theorem nd_zero : nd 0 = 0 := by unfold nd; rfl
theorem nd_pos {n : Nat} (h : n ≠ 0) : nd n = nd (n / 10) + 1 := by
  conv => lhs; unfold nd
  exact dif_neg h
theorem lt_nd : ∀ (k n : Nat), n ≤ k → n < 10 ^ nd n ∧ (n ≠ 0 → 10 ^ (nd n - 1) ≤ n)
  | 0, n, h => by
    obtain rfl : n = 0 := by omega
    rw [nd_zero]; exact ⟨by decide, fun h => absurd rfl h⟩
  | k + 1, n, h => by
    by_cases h0 : n = 0
    · subst h0; rw [nd_zero]; exact ⟨by decide, fun h => absurd rfl h⟩
    · have ih := lt_nd k (n / 10) (by omega)
      rw [nd_pos h0, Nat.add_sub_cancel]
      refine ⟨?_, fun _ => ?_⟩
      · rw [Nat.pow_succ']; have := ih.1; omega
      · by_cases h1 : n / 10 = 0
        · rw [h1, nd_zero]; simp; omega
        · have h2 := ih.2 h1
          have h3 : nd (n / 10) = nd (n / 10) - 1 + 1 := by rw [nd_pos h1]; rfl
          rw [h3, Nat.pow_succ']
          have := Nat.div_mul_le_self n 10
          omega
theorem nd_lt (n : Nat) : n < 10 ^ nd n := (lt_nd n n (Nat.le_refl _)).1
theorem nd_le {n : Nat} (h : n ≠ 0) : 10 ^ (nd n - 1) ≤ n := (lt_nd n n (Nat.le_refl _)).2 h
theorem pow_lt_of {a b : Nat} (h : 10 ^ a < 10 ^ b) : a < b := by
  rcases Nat.lt_or_ge a b with h1 | h1
  · exact h1
  · have := Nat.pow_le_pow_right (n := 10) (by decide) h1; omega
/-- The number of digits, told by its two sides. -/
theorem nd_eq {n k : Nat} (h1 : n < 10 ^ k) (h2 : k = 0 ∨ 10 ^ (k - 1) ≤ n) : nd n = k := by
  by_cases h0 : n = 0
  · subst h0
    rcases h2 with rfl | h2
    · exact nd_zero
    · have := ten_pos (k - 1); omega
  · have h3 := nd_lt n
    have h4 := nd_le h0
    have h5 : nd n - 1 < k := pow_lt_of (by omega)
    have h6 : nd n ≠ 0 := by intro h; rw [h] at h3; simp at h3; exact h0 h3
    rcases h2 with rfl | h2
    · simp at h1; exact absurd h1 h0
    · have h7 : k - 1 < nd n := pow_lt_of (by omega)
      omega
theorem nd_le_of {n k : Nat} (h : n < 10 ^ k) : nd n ≤ k := by
  by_cases h0 : n = 0
  · subst h0; rw [nd_zero]; omega
  · have h1 := nd_le h0
    have h2 : nd n - 1 < k := pow_lt_of (by omega)
    omega
theorem nd_mono_lt {m n : Nat} (h : nd m < nd n) : m < n := by
  have h1 := nd_lt m
  have h0 : n ≠ 0 := by intro h0; rw [h0, nd_zero] at h; omega
  have h2 := nd_le h0
  have h3 : 10 ^ nd m ≤ 10 ^ (nd n - 1) := Nat.pow_le_pow_right (by decide) (by omega)
  omega
theorem cnt_nd {n : Nat} (h : n < 10 ^ 80) (h0 : n ≠ 0) : cnt n = nd n := by
  obtain ⟨h1, _, h2, h3⟩ := cnt_spec n h
  symm
  refine nd_eq h2 ?_
  rcases h3 with h3 | h3
  · right; rw [h3]; simp; omega
  · exact Or.inr h3
theorem cnt_zero : cnt 0 = 1 := by
  obtain ⟨_, _, _, h⟩ := cnt_spec 0 (by decide)
  rcases h with h | h
  · exact h
  · have := ten_pos (cnt 0 - 1); omega
/-- The k lowest digits of n. -/
def dgl (n k : Nat) : List Nat := (List.range k).map (dg n)
/-- All of its digits. -/
def D (n : Nat) : List Nat := dgl n (nd n)
theorem dgl_len (n k : Nat) : (dgl n k).length = k := by simp [dgl]
theorem D_len (n : Nat) : (D n).length = nd n := dgl_len _ _
theorem dgl_get (n k j : Nat) (h : j < k) : (dgl n k)[j]? = some (dg n j) := by simp [dgl, h]
theorem D_get (n j : Nat) (h : j < nd n) : (D n)[j]? = some (dg n j) := dgl_get _ _ _ h
theorem dgl_zero (n : Nat) : dgl n 0 = [] := rfl
theorem dgl_succ (n k : Nat) : dgl n (k + 1) = dgl n k ++ [dg n k] := by simp [dgl, List.range_succ]
theorem dgl_congr {m n k : Nat} (h : ∀ i, i < k → dg m i = dg n i) : dgl m k = dgl n k := by
  unfold dgl
  apply List.map_congr_left
  intro i hi
  exact h i (List.mem_range.1 hi)
theorem dgl_mod (n k : Nat) : dgl (n % 10 ^ k) k = dgl n k := dgl_congr fun i hi => dg_mod n k i hi
theorem dgl_take (n k j : Nat) (h : j ≤ k) : (dgl n k).take j = dgl n j := by
  unfold dgl
  rw [← List.map_take, List.take_range, Nat.min_eq_left h]
theorem dg_high_zero {n k j : Nat} (h : n < 10 ^ k) (hj : k ≤ j) : dg n j = 0 :=
  dg_of_lt n j (Nat.lt_of_lt_of_le h (Nat.pow_le_pow_right (by decide) hj))
/-- One digit more behind the others. -/
theorem dgl_snoc (r k d : Nat) (h : r < 10 ^ k) (hd : d < 10) : dgl r k ++ [d] = dgl (r + d * 10 ^ k) (k + 1) := by
  rw [dgl_succ]
  have e1 : dgl (r + d * 10 ^ k) k = dgl r k := dgl_congr fun i hi => dg_low _ _ _ _ hi
  have e2 : dg (r + d * 10 ^ k) k = d := by
    rw [dg_high _ _ _ _ h (Nat.le_refl _), Nat.sub_self]
    unfold dg; simp; omega
  rw [e1, e2]
theorem snoc_lt {r k d : Nat} (h : r < 10 ^ k) (hd : d < 10) : r + d * 10 ^ k < 10 ^ (k + 1) := by
  have h2 : d * 10 ^ k ≤ 9 * 10 ^ k := Nat.mul_le_mul_right _ (by omega)
  rw [Nat.pow_succ]; omega
/-- If the highest of k + 1 digits is 0, there are k. -/
theorem dg_zero_lt {n k : Nat} (h : n < 10 ^ (k + 1)) (hd : dg n k = 0) : n < 10 ^ k := by
  have h1 := mod_succ_dg n k
  rw [Nat.mod_eq_of_lt h, hd] at h1
  have h2 : n % 10 ^ k < 10 ^ k := Nat.mod_lt _ (ten_pos k)
  omega
theorem dg_pos_le {n k : Nat} (hd : dg n k ≠ 0) : 10 ^ k ≤ n := by
  have h1 := dg_mul_le n k
  have h2 : 1 * 10 ^ k ≤ dg n k * 10 ^ k := Nat.mul_le_mul_right _ (by omega)
  omega
theorem dgl_D {n k : Nat} (h1 : n < 10 ^ k) (h2 : k = 0 ∨ dg n (k - 1) ≠ 0) : dgl n k = D n := by
  unfold D
  rw [nd_eq h1 (h2.imp id dg_pos_le)]
theorem D_zero : D 0 = [] := by unfold D; rw [nd_zero]; rfl
/-- The decimal text of a number with a sign ahead of it. -/
def dch (d : Nat) : UInt8 := UInt8.ofNat (48 + d)
def fmtN (n : Nat) : List UInt8 := if n = 0 then [48] else (D n).reverse.map dch
def fmtI (neg : Bool) (n : Nat) : List UInt8 := (if neg then [45] else []) ++ fmtN n
/-- The same by the loop that writes the highest digit first. -/
def hiD (n c k : Nat) : List UInt8 := ((dgl n c).drop k).reverse.map dch
theorem hiD_start (n c : Nat) : hiD n c c = [] := by unfold hiD; rw [List.drop_eq_nil_of_le (by rw [dgl_len]; exact Nat.le_refl _)]; rfl
theorem hiD_step (n c k : Nat) (h : k < c) : hiD n c k = hiD n c (k + 1) ++ [dch (dg n k)] := by
  unfold hiD
  have hk : k < (dgl n c).length := by rw [dgl_len]; exact h
  rw [List.drop_eq_getElem_cons hk]
  have e : (dgl n c)[k] = dg n k := by
    have := dgl_get n c k h
    rw [List.getElem?_eq_getElem hk] at this
    exact Option.some.inj this
  rw [e]; simp
theorem hiD_end {n : Nat} (h : n < 10 ^ 80) : hiD n (cnt n) 0 = fmtN n := by
  unfold hiD fmtN
  rw [List.drop_zero]
  by_cases h0 : n = 0
  · subst h0; rw [cnt_zero, if_pos rfl]; rfl
  · rw [if_neg h0, cnt_nd h h0]; rfl
theorem dch_toNat {d : Nat} (h : d < 10) : (dch d).toNat = 48 + d := by
  unfold dch; simp; omega
end Go.Proofs.Ytckmpenlpkhnfab
