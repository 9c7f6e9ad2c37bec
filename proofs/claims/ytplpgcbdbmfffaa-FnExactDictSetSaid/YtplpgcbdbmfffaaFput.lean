/- A whole table stays whole where a live entry is put into an empty slot, and where a slot's entry is dropped. -/
import Derived.Test.YtplpgcbdbmfffaaSlc
namespace Go.Proofs.Ytplpgcbdbmfffaa
open Go.RowKit
theorem Fit.empty {c : Nat} (h : slotN c = true) : Fit (List.replicate c (-1)) [] := by
  refine ⟨by simpa using h, by simp, ?_, ?_, ?_, ?_⟩
  · intro s n hs
    rw [List.getElem?_replicate] at hs
    split at hs
    · injection hs with hs; exact .inl hs.symm
    · cases hs
  · intro s t n _ hs _
    rw [List.getElem?_replicate] at hs
    split at hs
    · injection hs with hs; omega
    · cases hs
  · intro j e he; cases he
  · simp [liveN, List.count_replicate]
theorem set_at {ix : List Int} {s t : Nat} {v n : Int} (h : (ix.set s v)[t]? = some n) : (t = s ∧ n = v) ∨ (t ≠ s ∧ ix[t]? = some n) := by
  rw [List.getElem?_set] at h
  split at h
  · rename_i h1
    split at h
    · injection h with h; exact .inl ⟨h1.symm, h.symm⟩
    · cases h
  · rename_i h1; exact .inr ⟨fun h2 => h1 h2.symm, h⟩
theorem mem_set_ne {ix : List Int} {s : Nat} {v u n : Int} (hs : ix[s]? = some u) (h1 : n ≠ u) (h2 : n ≠ v) : (n ∈ ix.set s v) ↔ n ∈ ix := by
  rw [List.mem_iff_getElem?, List.mem_iff_getElem?]
  constructor
  · rintro ⟨t, ht⟩
    rcases set_at ht with h | h
    · exact absurd h.2 h2
    · exact ⟨t, h.2⟩
  · rintro ⟨t, ht⟩
    refine ⟨t, ?_⟩
    rw [List.getElem?_set]
    split
    · rename_i h3; subst h3; rw [hs] at ht; injection ht with ht; exact absurd ht.symm h1
    · exact ht
theorem lt_of_at {ix : List Int} {s : Nat} {u : Int} (hs : ix[s]? = some u) : s < ix.length := by
  rcases Nat.lt_or_ge s ix.length with h2 | h2
  · exact h2
  · rw [List.getElem?_eq_none h2] at hs; cases hs
theorem mem_set_self {ix : List Int} {s : Nat} {v u : Int} (hs : ix[s]? = some u) : v ∈ ix.set s v := by
  rw [List.mem_iff_getElem?]
  exact ⟨s, by rw [List.getElem?_set, if_pos rfl, if_pos (lt_of_at hs)]⟩
theorem liveN_app (es : List Ent) (e : Ent) : liveN (es ++ [e]) = liveN es + if e.live then 1 else 0 := by
  unfold liveN
  rw [List.filter_append, List.length_append]
  cases h : e.live <;> simp [List.filter, h]
theorem Fit.put {ix : List Int} {es : List Ent} {e : Ent} {s : Nat} (h : Fit ix es) (hs : ix[s]? = some (-1)) (hl : e.live = true) (hr : es.length + 1 ≤ 2 * ix.length / 3) : Fit (ix.set s (es.length : Int)) (es ++ [e]) := by
  obtain ⟨h1, h2, h3, h4, h5, h6⟩ := h
  refine ⟨by rw [List.length_set]; exact h1, by rw [List.length_set, List.length_append]; simpa using hr, ?_, ?_, ?_, ?_⟩
  · intro t n ht
    rw [List.length_append]
    rcases set_at ht with ⟨_, rfl⟩ | ⟨_, ht⟩
    · simp; omega
    · have := h3 t n ht
      simp; omega
  · intro t u n htu ht hu
    rcases set_at ht with ⟨ta, tb⟩ | ⟨ta, tb⟩
    · rcases set_at hu with ⟨ua, ub⟩ | ⟨ua, ub⟩
      · omega
      · have := h3 u _ ub; omega
    · rcases set_at hu with ⟨ua, ub⟩ | ⟨ua, ub⟩
      · have := h3 t _ tb; omega
      · exact h4 t u n htu tb ub
  · intro j e' hj
    rw [List.getElem?_append] at hj
    split at hj
    · rename_i hlt
      rw [h5 j e' hj, decide_eq_decide]
      exact (mem_set_ne hs (by omega) (by omega)).symm
    · rename_i hge
      have hje : j = es.length := by
        rcases Nat.lt_or_ge (j - es.length) 1 with h9 | h9
        · omega
        · rw [List.getElem?_eq_none (by simpa using h9)] at hj; cases hj
      subst hje
      rw [Nat.sub_self] at hj
      injection hj with hj
      subst hj
      rw [hl]
      exact (decide_eq_true (mem_set_self hs)).symm
  · have hlt := lt_of_at hs
    have hv : ix[s] = -1 := by rw [List.getElem?_eq_getElem hlt] at hs; injection hs
    rw [List.count_set hlt, hv, liveN_app, hl, List.length_append]
    have e1 : ((-1 : Int) == -2) = false := by decide
    have e2 : (((es.length : Nat) : Int) == -2) = false := beq_eq_false_iff_ne.2 (by omega)
    rw [e1, e2]
    simp; omega
theorem liveN_set {es : List Ent} {k : Nat} {e : Ent} (h : es[k]? = some e) (hl : e.live = true) (e' : Ent) (hl' : e'.live = false) : liveN (es.set k e') + 1 = liveN es := by
  unfold liveN
  rw [← List.countP_eq_length_filter, ← List.countP_eq_length_filter]
  have hk : k < es.length := by
    rcases Nat.lt_or_ge k es.length with h2 | h2
    · exact h2
    · rw [List.getElem?_eq_none h2] at h; cases h
  have hv : es[k] = e := by rw [List.getElem?_eq_getElem hk] at h; injection h
  have hp : 0 < es.countP (·.live) := List.countP_pos_iff.2 ⟨e, List.mem_of_getElem? h, hl⟩
  rw [List.countP_set hk, hv, hl, hl']
  simp; omega
theorem Fit.drop {ix : List Int} {es : List Ent} {e e' : Ent} {s k : Nat} (h : Fit ix es) (hs : ix[s]? = some (k : Int)) (he : es[k]? = some e) (hl' : e'.live = false) : Fit (ix.set s (-2)) (es.set k e') := by
  obtain ⟨h1, h2, h3, h4, h5, h6⟩ := h
  have hmem : (k : Int) ∈ ix := List.mem_of_getElem? hs
  have hl : e.live = true := by rw [h5 k e he]; exact decide_eq_true hmem
  have hlt := lt_of_at hs
  have hv : ix[s] = (k : Int) := by rw [List.getElem?_eq_getElem hlt] at hs; injection hs
  refine ⟨by rw [List.length_set]; exact h1, by rw [List.length_set, List.length_set]; exact h2, ?_, ?_, ?_, ?_⟩
  · intro t n ht
    rw [List.length_set]
    rcases set_at ht with ⟨_, ub⟩ | ⟨_, ub⟩
    · omega
    · exact h3 t n ub
  · intro t u n htu ht hu
    rcases set_at ht with ⟨ta, tb⟩ | ⟨ta, tb⟩
    · omega
    · rcases set_at hu with ⟨ua, ub⟩ | ⟨ua, ub⟩
      · omega
      · exact h4 t u n htu tb ub
  · intro j f hj
    rw [List.getElem?_set] at hj
    split at hj
    · rename_i hkj
      split at hj
      · injection hj with hj
        subst hj
        subst hkj
        rw [hl']
        refine (decide_eq_false ?_).symm
        intro hm
        rw [List.mem_iff_getElem?] at hm
        obtain ⟨t, ht⟩ := hm
        rcases set_at ht with ⟨_, ub⟩ | ⟨ua, ub⟩
        · omega
        · rcases Nat.lt_or_ge t s with h9 | h9
          · have := h4 t s _ h9 ub hs; omega
          · have := h4 s t _ (by omega) hs ub; omega
      · cases hj
    · rename_i hkj
      rw [h5 j f hj, decide_eq_decide]
      exact (mem_set_ne hs (by omega) (by omega)).symm
  · rw [List.count_set hlt, hv, List.length_set]
    have := liveN_set he hl e' hl'
    have e1 : ((k : Int) == -2) = false := beq_eq_false_iff_ne.2 (by omega)
    rw [e1]
    simp; omega
end Go.Proofs.Ytplpgcbdbmfffaa
