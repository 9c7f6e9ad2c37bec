/- Number facts for the model's loops over digits: sums, differences, products with raw entries, divisions, roots. -/
import Derived.Test.YtckmpenlpkhnfabDigs
import Derived.Test.YtckmpenlpkhnfabSub
namespace Go.Proofs.Ytckmpenlpkhnfab
/-- The sum of what is ahead of place k, without what is carried. -/
def psum (a b k : Nat) : Nat := (a % 10 ^ k + b % 10 ^ k) % 10 ^ k
theorem psum_lt (a b k : Nat) : psum a b k < 10 ^ k := Nat.mod_lt _ (ten_pos k)
theorem psum_snoc (a b k : Nat) : dgl (psum a b k) k ++ [(cry a b k + dg a k + dg b k) % 10] = dgl (psum a b (k + 1)) (k + 1) ∧ (cry a b k + dg a k + dg b k) / 10 = cry a b (k + 1) := by
  obtain ⟨h1, h2⟩ := add_step a b k
  rw [dgl_snoc _ _ _ (psum_lt a b k) (Nat.mod_lt _ (by decide))]
  constructor
  · congr 1
    unfold psum
    rw [h1]
    congr 3; omega
  · rw [h2]; congr 1; omega
theorem psum_end {a b k : Nat} (ha : nd a ≤ k) (hb : nd b ≤ k) (hc : cry a b k = 0) : psum a b k = a + b := by
  have h1 := Nat.lt_of_lt_of_le (nd_lt a) (Nat.pow_le_pow_right (n := 10) (by decide) ha)
  have h2 := Nat.lt_of_lt_of_le (nd_lt b) (Nat.pow_le_pow_right (n := 10) (by decide) hb)
  unfold cry at hc
  unfold psum
  rw [Nat.mod_eq_of_lt h1, Nat.mod_eq_of_lt h2] at *
  rcases Nat.div_eq_zero_iff.1 hc with h | h
  · have := ten_pos k; omega
  · exact Nat.mod_eq_of_lt h
theorem dif_snoc (a b k : Nat) : dgl (dif a b k) k ++ [(10 + dg a k - dg b k - bor a b k) % 10] = dgl (dif a b (k + 1)) (k + 1) := by
  rw [dgl_snoc _ _ _ (dif_lt a b k) (Nat.mod_lt _ (by decide)), (sub_step a b k).1]
theorem dif_end {a b k : Nat} (ha : a < 10 ^ k) (h : b ≤ a) : dif a b k = a - b := by
  unfold dif bor
  rw [Nat.mod_eq_of_lt ha, Nat.mod_eq_of_lt (show b < 10 ^ k by omega), if_neg (by omega)]
  omega
/-- A digit ahead of the others. -/
theorem dgl_cons (d r k : Nat) (hd : d < 10) : d :: dgl r k = dgl (d + 10 * r) (k + 1) := by
  unfold dgl
  rw [List.range_succ_eq_map, List.map_cons, dg_small_zero _ _ hd, List.map_map]
  congr 1
  apply List.map_congr_left
  intro i _
  exact (dg_small_succ d r i hd).symm
theorem cons_D {d r : Nat} (hd : d < 10) : d :: D r = dgl (d + 10 * r) (nd r + 1) := dgl_cons _ _ _ hd
theorem cons_lt {d r : Nat} (hd : d < 10) : d + 10 * r < 10 ^ (nd r + 1) := by
  have := nd_lt r
  rw [Nat.pow_succ]; omega
/-- The number of entries that need not be digits, the lowest first. -/
def vl : List Nat → Nat
  | [] => 0
  | d :: l => d + 10 * vl l
theorem vl_append (l m : List Nat) : vl (l ++ m) = vl l + 10 ^ l.length * vl m := by
  induction l with
  | nil => simp [vl]
  | cons d l ih => simp only [List.cons_append, vl, ih, List.length_cons, Nat.pow_succ']; rw [Nat.mul_add, Nat.mul_assoc]; omega
theorem vl_zeros (n : Nat) : vl (List.replicate n 0) = 0 := by
  induction n with
  | zero => rfl
  | succ n ih => simp [List.replicate_succ, vl, ih]
theorem vl_set : ∀ (l : List Nat) (j y x : Nat), l[j]? = some y → vl (l.set j (y + x)) = vl l + x * 10 ^ j
  | [], j, y, x, h => by simp at h
  | d :: l, 0, y, x, h => by simp at h; subst h; simp [vl]; omega
  | d :: l, j + 1, y, x, h => by
    simp at h
    have ih := vl_set l j y x h
    simp only [List.set_cons_succ, vl, ih, Nat.pow_succ]
    rw [Nat.mul_add, Nat.add_assoc]
    congr 2
    rw [Nat.mul_comm 10, Nat.mul_assoc]
theorem vl_take (l : List Nat) (j y : Nat) (h : l[j]? = some y) : vl (l.take (j + 1)) = vl (l.take j) + y * 10 ^ j := by
  have hj : j < l.length := by
    rcases Nat.lt_or_ge j l.length with h1 | h1
    · exact h1
    · rw [List.getElem?_eq_none h1] at h; cases h
  rw [List.getElem?_eq_getElem hj] at h
  injection h with h
  rw [List.take_succ_eq_append_getElem hj, vl_append, List.length_take, Nat.min_eq_left (Nat.le_of_lt hj), h]
  simp [vl, Nat.mul_comm]
/-- The state of the product's raw entries: k places of b are taken for place i of a. -/
def TmAt (a b L i k : Nat) (l : List Nat) : Prop := l.length = L ∧ vl l = (a % 10 ^ i) * b + dg a i * (b % 10 ^ k) * 10 ^ i ∧ ∀ j x : Nat, l[j]? = some x → x ≤ 81 * (i * nd b + k)
theorem tm_start (a b L : Nat) : TmAt a b L 0 0 (List.replicate L 0) := by
  refine ⟨by simp, by rw [vl_zeros]; simp [Nat.mod_one], fun j x h => ?_⟩
  rw [List.getElem?_replicate] at h
  split at h
  · injection h with h; omega
  · cases h
theorem tm_step {a b L i k : Nat} {l : List Nat} (h : TmAt a b L i k l) {y : Nat} (hy : l[i + k]? = some y) : TmAt a b L i (k + 1) (l.set (i + k) (y + dg a i * dg b k)) := by
  obtain ⟨h1, h2, h3⟩ := h
  refine ⟨by simpa using h1, ?_, fun j x hx => ?_⟩
  · rw [vl_set l _ y _ hy, h2, mod_succ_dg, Nat.mul_add, Nat.add_mul, Nat.pow_add, Nat.add_assoc]
    congr 2
    rw [← Nat.mul_assoc (dg a i) (dg b k), Nat.mul_assoc (dg a i * dg b k), Nat.mul_comm (10 ^ k)]
  · have hab : dg a i * dg b k ≤ 9 * 9 := Nat.mul_le_mul (by have := dg_lt a i; omega) (by have := dg_lt b k; omega)
    rw [List.getElem?_set] at hx
    split at hx
    · split at hx
      · injection hx with hx
        have := h3 _ _ hy
        omega
      · cases hx
    · have := h3 _ _ hx
      omega
theorem tm_next {a b L i : Nat} {l : List Nat} (h : TmAt a b L i (nd b) l) : TmAt a b L (i + 1) 0 l := by
  obtain ⟨h1, h2, h3⟩ := h
  refine ⟨h1, ?_, fun j x hx => ?_⟩
  · rw [h2, Nat.mod_eq_of_lt (nd_lt b), mod_succ_dg, Nat.add_mul, Nat.pow_zero, Nat.mod_one, Nat.mul_zero, Nat.zero_mul, Nat.add_zero]
    congr 1
    rw [Nat.mul_assoc, Nat.mul_assoc, Nat.mul_comm b]
  · have := h3 _ _ hx
    rw [Nat.add_mul, Nat.one_mul]; omega
theorem tm_end {a b L : Nat} {l : List Nat} (h : TmAt a b L (nd a) 0 l) : vl l = a * b := by
  rw [h.2.1, Nat.mod_eq_of_lt (nd_lt a), Nat.pow_zero, Nat.mod_one]; simp
theorem tm_bound {a b L i k : Nat} {l : List Nat} (h : TmAt a b L i k l) (hi : i ≤ 100) (hb : nd b ≤ 100) (hk : k ≤ 100) {j x : Nat} (hx : l[j]? = some x) : x ≤ 1000000 := by
  have h1 := h.2.2 j x hx
  have h2 : i * nd b ≤ 100 * 100 := Nat.mul_le_mul hi hb
  omega
/-- The state of the pass that carries: i digits stand, behind them the raw entries of l. -/
def cyD (l : List Nat) (i : Nat) : List Nat := dgl (vl (l.take i)) i ++ l.drop i
def cyC (l : List Nat) (i : Nat) : Nat := vl (l.take i) / 10 ^ i
theorem cyD_start (l : List Nat) : cyD l 0 = l := by simp [cyD, dgl]
theorem cyC_start (l : List Nat) : cyC l 0 = 0 := by simp [cyC, vl]
theorem cyD_len (l : List Nat) (i : Nat) (h : i ≤ l.length) : (cyD l i).length = l.length := by simp [cyD, dgl_len]; omega
theorem cyD_get {l : List Nat} {i y : Nat} (h : l[i]? = some y) : (cyD l i)[i]? = some y := by
  unfold cyD
  rw [List.getElem?_append_right (by rw [dgl_len]; exact Nat.le_refl _), dgl_len, Nat.sub_self, List.getElem?_drop]
  exact h
theorem cy_step {l : List Nat} {i y : Nat} (h : l[i]? = some y) : (cyD l i).set i ((y + cyC l i) % 10) = cyD l (i + 1) ∧ (y + cyC l i) / 10 = cyC l (i + 1) := by
  have hi : i < l.length := by
    rcases Nat.lt_or_ge i l.length with h1 | h1
    · exact h1
    · rw [List.getElem?_eq_none h1] at h; cases h
  have hv := vl_take l i y h
  have hq : (vl (l.take (i + 1))) / 10 ^ i = y + cyC l i := by
    rw [hv]; unfold cyC
    rw [Nat.add_mul_div_right _ _ (ten_pos i), Nat.add_comm]
  constructor
  · unfold cyD
    rw [List.set_append_right _ _ (by rw [dgl_len]; exact Nat.le_refl _), dgl_len, Nat.sub_self, List.drop_eq_getElem_cons hi, List.set_cons_zero, dgl_succ]
    have e1 : dgl (vl (l.take (i + 1))) i = dgl (vl (l.take i)) i := dgl_congr fun j hj => by
      rw [hv]; exact dg_low _ _ _ _ hj
    have e2 : dg (vl (l.take (i + 1))) i = (y + cyC l i) % 10 := by unfold dg; rw [hq]
    rw [e1, e2]; simp
  · unfold cyC
    rw [Nat.pow_succ, ← Nat.div_div_eq_div_mul, hq]; rfl
theorem cyC_le {l : List Nat} {M : Nat} (hM : ∀ j x : Nat, l[j]? = some x → x ≤ M) : ∀ i, i ≤ l.length → cyC l i ≤ M
  | 0, _ => by rw [cyC_start]; omega
  | i + 1, h => by
    have ih := cyC_le hM i (by omega)
    have hi : l[i]? = some l[i] := List.getElem?_eq_getElem (by omega)
    have := hM _ _ hi
    rw [← (cy_step hi).2]
    omega
theorem cyD_end (l : List Nat) : cyD l l.length = dgl (vl l) l.length := by unfold cyD; simp
/-- A product of digits has room. -/
theorem mul_room (a b : Nat) : a * b < 10 ^ (nd a + nd b + 1) := by
  have h := Nat.mul_lt_mul'' (nd_lt a) (nd_lt b)
  rw [← Nat.pow_add] at h
  exact Nat.lt_trans h (Nat.pow_lt_pow_right (by decide) (by omega))
theorem dgl_zeros (L : Nat) : dgl 0 L = List.replicate L 0 := by
  apply List.ext_getElem?
  intro j
  rw [List.getElem?_replicate]
  by_cases h : j < L
  · rw [dgl_get _ _ _ h, if_pos h, dg_zero]
  · rw [List.getElem?_eq_none (by rw [dgl_len]; omega), if_neg h]
/-- One digit set. -/
theorem dgl_set (n L p d : Nat) (hd : d < 10) : (dgl n L).set p d = dgl (setDg n p d) L := by
  apply List.ext_getElem?
  intro j
  rw [List.getElem?_set, dgl_len]
  by_cases h : j < L
  · rw [dgl_get _ _ _ h, dgl_get _ _ _ h, dg_setDg n p d j hd]
    by_cases hp : p = j
    · subst hp; simp [h]
    · rw [if_neg hp, if_neg (Ne.symm hp)]
  · rw [List.getElem?_eq_none (by rw [dgl_len]; omega), List.getElem?_eq_none (by rw [dgl_len]; omega)]
    split
    · rw [if_neg (by omega)]
    · rfl
end Go.Proofs.Ytckmpenlpkhnfab
