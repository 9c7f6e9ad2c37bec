/- Rooms of lists, places that a slice selects, what is left: as lists of numbers. -/
import Derived.Test.YtbcphejblopekaaIl
import Derived.Test.YtbcphejblopekaaRange2
namespace Go.Proofs.Ytbcphejblopekaa
open Go.RowKit
def roomZ (n : Int) : Int := if n = 0 then 0 else (n + n / 8 + 6) / 4 * 4
theorem roomZ_in {n : Int} (h0 : 0 ≤ n) (h1 : n ≤ 1000000) : n ≤ roomZ n ∧ roomZ n ≤ 1125006 ∧ 0 ≤ roomZ n := by
  unfold roomZ
  by_cases h : n = 0
  · rw [if_pos h]; omega
  · rw [if_neg h]; omega
def okI (lo : Int) (n : Int) : Bool := decide (lo ≤ n) && decide (n ≤ 1000000)
theorem okI_parts {lo n : Int} (h : okI lo n = true) : lo ≤ n ∧ n ≤ 1000000 := by unfold okI at h; simpa using h
def okL (lo : Int) (is : List Int) : Bool := decide (is.length ≤ 60) && is.all (okI lo)
def roomStep (r n : Int) : Int := if r < n ∨ n < r / 2 then roomZ n else r
def roomFold (is : List Int) : Int := is.foldl roomStep 0
def roomsL (is : List Int) : List Int := (List.range is.length).map fun k => roomFold (is.take (k + 1))
theorem roomFold_next {is : List Int} {k : Nat} {i : Int} (h : is[k]? = some i) : roomFold (is.take (k + 1)) = roomStep (roomFold (is.take k)) i := by
  have hk : k < is.length := by
    rcases Nat.lt_or_ge k is.length with h2 | h2
    · exact h2
    · rw [List.getElem?_eq_none h2] at h; cases h
  rw [List.getElem?_eq_getElem hk] at h
  injection h with h
  unfold roomFold
  rw [List.take_succ_eq_append_getElem hk, List.foldl_append, h]; rfl
theorem roomsL_len (is : List Int) : (roomsL is).length = is.length := by simp [roomsL]
theorem roomsL_get {is : List Int} {k : Nat} (h : k < is.length) : (roomsL is)[k]? = some (roomFold (is.take (k + 1))) := by
  unfold roomsL
  rw [List.getElem?_map, List.getElem?_range h]; rfl
theorem roomsL_take (is : List Int) (k : Nat) : roomsL (is.take k) = (roomsL is).take k := by
  apply List.ext_getElem?
  intro j
  by_cases hj : j < (is.take k).length
  · have hj2 : j < k ∧ j < is.length := by rw [List.length_take] at hj; omega
    rw [roomsL_get hj, List.getElem?_take, if_pos hj2.1, roomsL_get hj2.2, List.take_take, show min (j + 1) k = j + 1 by omega]
  · rw [List.getElem?_eq_none (by rw [roomsL_len]; omega), List.getElem?_eq_none (by rw [List.length_take, roomsL_len]; rw [List.length_take] at hj; omega)]
theorem roomsL_next {is : List Int} {k : Nat} (hk : k < is.length) : roomsL (is.take (k + 1)) = roomsL (is.take k) ++ [roomFold (is.take (k + 1))] := by
  rw [roomsL_take, roomsL_take, List.take_succ_eq_append_getElem (by rw [roomsL_len]; exact hk)]
  have h := roomsL_get hk
  rw [List.getElem?_eq_getElem (by rw [roomsL_len]; exact hk)] at h
  injection h with h
  rw [h]
theorem roomStep_in {r n : Int} (hr0 : 0 ≤ r) (hr1 : r ≤ 1125006) (h0 : 0 ≤ n) (h1 : n ≤ 1000000) : 0 ≤ roomStep r n ∧ roomStep r n ≤ 1125006 ∧ n ≤ roomStep r n := by
  have := roomZ_in h0 h1
  unfold roomStep
  split <;> omega
theorem roomFold_in {is : List Int} (h : is.all (okI 0) = true) (k : Nat) : 0 ≤ roomFold (is.take k) ∧ roomFold (is.take k) ≤ 1125006 := by
  induction k with
  | zero => simp [roomFold]
  | succ k ih =>
    by_cases hk : k < is.length
    · rw [roomFold_next (List.getElem?_eq_getElem hk)]
      have h2 := List.all_eq_true.1 h is[k] (List.getElem_mem hk)
      obtain ⟨h3, h4⟩ := okI_parts h2
      have := roomStep_in ih.1 ih.2 h3 h4
      exact ⟨this.1, this.2.1⟩
    · rw [List.take_of_length_le (by omega)]
      rw [List.take_of_length_le (by omega)] at ih
      exact ih
theorem roomFold_ge {is : List Int} (h : is.all (okI 0) = true) {k : Nat} {i : Int} (hi : is[k]? = some i) : i ≤ roomFold (is.take (k + 1)) := by
  rw [roomFold_next hi]
  obtain ⟨h3, h4⟩ := okI_parts (List.all_eq_true.1 h i (List.mem_of_getElem? hi))
  exact (roomStep_in (roomFold_in h k).1 (roomFold_in h k).2 h3 h4).2.2
/-- The rooms, or nothing. -/
def roomsR (is : List Int) : List Int := if okL 0 is then roomsL is else []
/-- Places that a slice selects. -/
def plL (A st : Int) (k : Nat) : List Int := (List.range k).map fun i : Nat => A + (i : Int) * st
theorem plL_len (A st : Int) (k : Nat) : (plL A st k).length = k := by simp [plL]
theorem plL_succ (A st : Int) (k : Nat) : plL A st (k + 1) = plL A st k ++ [A + (k : Int) * st] := by
  unfold plL
  rw [List.range_succ, List.map_append]; rfl
theorem plL_get {A st : Int} {k j : Nat} (h : j < k) : (plL A st k)[j]? = some (A + (j : Int) * st) := by
  unfold plL
  rw [List.getElem?_map, List.getElem?_range h]; rfl
theorem plL_take {A st : Int} {M k : Nat} (h : k ≤ M) : (plL A st M).take k = plL A st k := by
  unfold plL
  rw [← List.map_take, List.take_range, Nat.min_eq_left h]
/-- The numbers that a slice selects. -/
def selI (is : List Int) (A st : Int) (k : Nat) : List Int := (List.range k).map fun i : Nat => is.getD (A + (i : Int) * st).toNat 0
theorem selI_len (is : List Int) (A st : Int) (k : Nat) : (selI is A st k).length = k := by simp [selI]
theorem selI_succ {is : List Int} {A st i : Int} {k p : Nat} (hp : is[p]? = some i) (h : A + (k : Int) * st = (p : Int)) : selI is A st (k + 1) = selI is A st k ++ [i] := by
  unfold selI
  rw [List.range_succ, List.map_append]
  simp only [List.map_cons, List.map_nil]
  rw [h, Int.toNat_natCast, List.getD_eq_getElem?_getD, hp]; rfl
/-- Whether an index is selected. -/
def gone (A st : Int) (k : Nat) (j : Nat) : Bool := (List.range k).any fun i : Nat => decide (A + (i : Int) * st = (j : Int))
theorem gone_succ {A st : Int} {k p : Nat} (h : A + (k : Int) * st = (p : Int)) (j : Nat) : gone A st (k + 1) j = (gone A st k j || decide (p = j)) := by
  unfold gone
  rw [List.range_succ, List.any_append]
  congr 1
  simp only [List.any_cons, List.any_nil, Bool.or_false]
  rw [h]
  by_cases hp : p = j
  · subst hp; simp
  · rw [decide_eq_false hp, decide_eq_false (by omega)]
def goneL (A st : Int) (n k : Nat) : List Bool := (List.range n).map (gone A st k)
theorem goneL_len (A st : Int) (n k : Nat) : (goneL A st n k).length = n := by simp [goneL]
theorem goneL_get {A st : Int} {n k j : Nat} (h : j < n) : (goneL A st n k)[j]? = some (gone A st k j) := by
  unfold goneL
  rw [List.getElem?_map, List.getElem?_range h]; rfl
theorem goneL_zero (A st : Int) (n : Nat) : goneL A st n 0 = List.replicate n false := by
  apply List.ext_getElem?
  intro j
  by_cases hj : j < n
  · rw [goneL_get hj, List.getElem?_replicate, if_pos hj]; rfl
  · rw [List.getElem?_eq_none (by rw [goneL_len]; omega), List.getElem?_eq_none (by simp; omega)]
theorem goneL_next {A st : Int} {n k p : Nat} (h : A + (k : Int) * st = (p : Int)) : (goneL A st n k).set p true = goneL A st n (k + 1) := by
  apply List.ext_getElem?
  intro j
  by_cases hj : j < n
  · rw [goneL_get hj, gone_succ h, List.getElem?_set]
    by_cases hp : p = j
    · subst hp; rw [if_pos rfl, if_pos (by rw [goneL_len]; exact hj)]; simp
    · rw [if_neg hp, goneL_get hj]; simp [hp]
  · rw [List.getElem?_eq_none (by rw [List.length_set, goneL_len]; omega), List.getElem?_eq_none (by rw [goneL_len]; omega)]
/-- What is left of the first j numbers. -/
def restI (is : List Int) (A st : Int) (k j : Nat) : List Int := ((List.range j).filter fun i => !gone A st k i).map fun i => is.getD i 0
theorem restI_succ {is : List Int} {A st i : Int} {k j : Nat} (hi : is[j]? = some i) : restI is A st k (j + 1) = restI is A st k j ++ (if gone A st k j then [] else [i]) := by
  unfold restI
  rw [List.range_succ, List.filter_append, List.map_append]
  congr 1
  cases hg : gone A st k j
  · simp [hg, List.getD_eq_getElem?_getD, hi]
  · simp [hg]
theorem restI_le (is : List Int) (A st : Int) (k j : Nat) : (restI is A st k j).length ≤ j := by
  unfold restI
  rw [List.length_map]
  exact Nat.le_trans (List.length_filter_le _ _) (by simp)
theorem gone_new {A st : Int} {k p : Nat} (h0 : st ≠ 0) (h : A + (k : Int) * st = (p : Int)) : gone A st k p = false := by
  unfold gone
  rw [List.any_eq_false]
  intro i hi
  rw [List.mem_range] at hi
  have h2 : A + (i : Int) * st ≠ (p : Int) := by
    intro h3
    have h4 : ((k : Int) - (i : Int)) * st = 0 := by rw [Int.sub_mul]; omega
    rcases Int.mul_eq_zero.1 h4 with h5 | h5
    · omega
    · exact h0 h5
  simpa using h2
/-- As many as are selected are gone. -/
theorem restI_count {is : List Int} {A st : Int} (h0 : st ≠ 0) (n : Nat) : ∀ k : Nat, (∀ i : Nat, i < k → ∃ p : Nat, p < n ∧ A + (i : Int) * st = (p : Int)) → (restI is A st k n).length + k = n := by
  intro k
  induction k with
  | zero => 
    intro _
    unfold restI
    rw [List.length_map, List.filter_eq_self.2 (fun a _ => by simp [gone])]
    simp
  | succ k ih =>
    intro h
    have h1 := ih (fun i hi => h i (by omega))
    obtain ⟨p, hp, he⟩ := h k (by omega)
    have hn := gone_new h0 he
    have h2 : (restI is A st (k + 1) n).length + 1 = (restI is A st k n).length := by
      unfold restI
      rw [List.length_map, List.length_map]
      have h3 : ∀ m, p < m → ((List.range m).filter fun i => !gone A st (k + 1) i).length + 1 = ((List.range m).filter fun i => !gone A st k i).length := by
        intro m
        induction m with
        | zero => intro h; omega
        | succ m ihm =>
          intro hm
          rw [List.range_succ, List.filter_append, List.filter_append, List.length_append, List.length_append]
          by_cases hpm : p = m
          · subst hpm
            have e1 : ((List.range p).filter fun i => !gone A st (k + 1) i) = (List.range p).filter fun i => !gone A st k i := by
              apply List.filter_congr
              intro x hx
              rw [List.mem_range] at hx
              rw [gone_succ he, decide_eq_false (by omega), Bool.or_false]
            rw [e1]
            have e2 : gone A st (k + 1) p = true := by rw [gone_succ he]; simp
            simp [List.filter, e2, hn]
          · have h5 := ihm (by omega)
            have e3 : gone A st (k + 1) m = gone A st k m := by rw [gone_succ he, decide_eq_false hpm, Bool.or_false]
            have e4 : ([m].filter fun i => !gone A st (k + 1) i) = [m].filter fun i => !gone A st k i := by simp [List.filter, e3]
            rw [e4]; omega
      exact h3 n hp
    omega
end Go.Proofs.Ytbcphejblopekaa
