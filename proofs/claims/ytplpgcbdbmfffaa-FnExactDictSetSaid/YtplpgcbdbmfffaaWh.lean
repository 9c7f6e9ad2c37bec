/- Slots and entries that fit each other: plain facts. -/
import Derived.Test.YtplpgcbdbmfffaaFin2
namespace Go.Proofs.Ytplpgcbdbmfffaa
open Go.RowKit
/-- Each slot is empty, dropped or leads to an entry, no two to the same; the entries to which they lead are those alive; the others have a dropped slot each. -/
def Wh (ix : List Int) (es : List Ent) : Prop := slotOk ix es ∧ (∀ (s t : Nat) (n : Int), s < t → ix[s]? = some n → ix[t]? = some n → n < 0) ∧ (∀ (j : Nat) (e : Ent), es[j]? = some e → e.live = decide ((j : Int) ∈ ix)) ∧ ix.count (-2) + liveN es = es.length
noncomputable def whB (ix : List Int) (es : List Ent) : Bool := @decide (Wh ix es) (Classical.propDecidable _)
theorem whB_no {ix : List Int} {es : List Ent} (h : ¬ Wh ix es) : whB ix es = false := @decide_eq_false _ (Classical.propDecidable _) h
theorem whB_yes {ix : List Int} {es : List Ent} (h : Wh ix es) : whB ix es = true := @decide_eq_true _ (Classical.propDecidable _) h
theorem wh_of {ix : List Int} {es : List Ent} (h : whB ix es = true) : Wh ix es := @of_decide_eq_true _ (Classical.propDecidable _) h
/-- The first k slots are so. -/
def PreS (ix : List Int) (E k : Nat) : Prop := (∀ (s : Nat) (n : Int), s < k → ix[s]? = some n → n = -1 ∨ n = -2 ∨ (0 ≤ n ∧ n < E)) ∧ (∀ (s t : Nat) (n : Int), s < t → t < k → ix[s]? = some n → ix[t]? = some n → n < 0)
theorem PreS.zero (ix : List Int) (E : Nat) : PreS ix E 0 := ⟨fun _ _ h => absurd h (by omega), fun _ _ _ _ h => absurd h (by omega)⟩
/-- Which entries the first k slots lead to. -/
def seenL (ix : List Int) (E k : Nat) : List Bool := (List.range E).map fun j : Nat => decide ((j : Int) ∈ ix.take k)
theorem seenL_len (ix : List Int) (E k : Nat) : (seenL ix E k).length = E := by simp [seenL]
theorem seenL_get {ix : List Int} {E k j : Nat} (h : j < E) : (seenL ix E k)[j]? = some (decide ((j : Int) ∈ ix.take k)) := by
  simp [seenL, h]
theorem seenL_zero (ix : List Int) (E : Nat) : seenL ix E 0 = List.replicate E false := by
  apply List.ext_getElem?
  intro j
  rcases Nat.lt_or_ge j E with h | h
  · rw [seenL_get h]; simp [h]
  · rw [List.getElem?_eq_none (by rw [seenL_len]; exact h), List.getElem?_eq_none (by simpa using h)]
theorem take_mem {ix : List Int} {k : Nat} {n m : Int} (h : ix[k]? = some n) : m ∈ ix.take (k + 1) ↔ m ∈ ix.take k ∨ m = n := by
  have hk : k < ix.length := by
    rcases Nat.lt_or_ge k ix.length with h1 | h1
    · exact h1
    · rw [List.getElem?_eq_none h1] at h; cases h
  rw [List.getElem?_eq_getElem hk] at h
  injection h with h
  rw [List.take_succ_eq_append_getElem hk, List.mem_append, h, List.mem_singleton]
theorem seenL_neg {ix : List Int} {E k : Nat} {n : Int} (h : ix[k]? = some n) (hn : n < 0) : seenL ix E (k + 1) = seenL ix E k := by
  unfold seenL
  apply List.map_congr_left
  intro j _
  rw [decide_eq_decide, take_mem h]
  constructor
  · rintro (h1 | h1)
    · exact h1
    · omega
  · exact .inl
theorem seenL_pos {ix : List Int} {E k p : Nat} (h : ix[k]? = some (p : Int)) (hp : p < E) : (seenL ix E k).set p true = seenL ix E (k + 1) := by
  apply List.ext_getElem?
  intro j
  rw [List.getElem?_set]
  rcases Nat.lt_or_ge j E with hj | hj
  · rw [seenL_get hj, seenL_get hj]
    by_cases he : p = j
    · subst he
      rw [if_pos rfl, if_pos (by rw [seenL_len]; exact hp)]
      rw [decide_eq_true ((take_mem h).2 (.inr rfl))]
    · rw [if_neg he]
      congr 1
      rw [decide_eq_decide, take_mem h]
      constructor
      · exact .inl
      · rintro (h1 | h1)
        · exact h1
        · omega
  · rw [if_neg (by omega), List.getElem?_eq_none (by rw [seenL_len]; exact hj), List.getElem?_eq_none (by rw [seenL_len]; exact hj)]
theorem mem_at {ix : List Int} {k : Nat} {m : Int} (h : m ∈ ix.take k) : ∃ s, s < k ∧ ix[s]? = some m := by
  obtain ⟨s, hs⟩ := List.mem_iff_getElem?.1 h
  have hlt : s < k := by
    rcases Nat.lt_or_ge s k with h1 | h1
    · exact h1
    · rw [List.getElem?_eq_none (by rw [List.length_take]; omega)] at hs; cases hs
  rw [List.getElem?_take_of_lt hlt] at hs
  exact ⟨s, hlt, hs⟩
theorem at_mem {ix : List Int} {k s : Nat} {m : Int} (h : s < k) (hs : ix[s]? = some m) : m ∈ ix.take k := by
  rw [List.mem_iff_getElem?]
  exact ⟨s, by rw [List.getElem?_take_of_lt h]; exact hs⟩
theorem PreS.neg {ix : List Int} {E k : Nat} {n : Int} (h : PreS ix E k) (hn : ix[k]? = some n) (h1 : n = -1 ∨ n = -2) : PreS ix E (k + 1) := by
  refine ⟨fun s m hs hm => ?_, fun s t m hst ht h2 h3 => ?_⟩
  · rcases Nat.lt_or_ge s k with h4 | h4
    · exact h.1 s m h4 hm
    · obtain rfl : s = k := by omega
      rw [hn] at hm; injection hm with hm; subst hm
      omega
  · rcases Nat.lt_or_ge t k with h4 | h4
    · exact h.2 s t m hst h4 h2 h3
    · obtain rfl : t = k := by omega
      rw [hn] at h3; injection h3 with h3; subst h3
      omega
theorem PreS.pos {ix : List Int} {E k p : Nat} (h : PreS ix E k) (hn : ix[k]? = some (p : Int)) (hp : p < E) (hs : decide ((p : Int) ∈ ix.take k) = false) : PreS ix E (k + 1) := by
  have hs' := of_decide_eq_false hs
  refine ⟨fun s m hs2 hm => ?_, fun s t m hst ht h2 h3 => ?_⟩
  · rcases Nat.lt_or_ge s k with h4 | h4
    · exact h.1 s m h4 hm
    · obtain rfl : s = k := by omega
      rw [hn] at hm; injection hm with hm; subst hm
      omega
  · rcases Nat.lt_or_ge t k with h4 | h4
    · exact h.2 s t m hst h4 h2 h3
    · obtain rfl : t = k := by omega
      rw [hn] at h3; injection h3 with h3; subst h3
      exact absurd (at_mem hst h2) hs'
theorem count_next {ix : List Int} {k : Nat} {n : Int} (h : ix[k]? = some n) : (ix.take (k + 1)).count (-2) = (ix.take k).count (-2) + if n = -2 then 1 else 0 := by
  have hk : k < ix.length := by
    rcases Nat.lt_or_ge k ix.length with h1 | h1
    · exact h1
    · rw [List.getElem?_eq_none h1] at h; cases h
  rw [List.getElem?_eq_getElem hk] at h
  injection h with h
  rw [List.take_succ_eq_append_getElem hk, List.count_append, h]
  by_cases hn : n = -2
  · rw [if_pos hn, hn]; simp
  · rw [if_neg hn]; simp [List.count_singleton]; omega
theorem count_lt (ix : List Int) (k : Nat) : (ix.take k).count (-2) ≤ k := Nat.le_trans List.count_le_length (by rw [List.length_take]; omega)
/-- The first i entries are alive just if a slot leads to them. -/
def LvS (ix : List Int) (es : List Ent) (i : Nat) : Prop := ∀ (j : Nat) (e : Ent), j < i → es[j]? = some e → e.live = decide ((j : Int) ∈ ix)
theorem LvS.next {ix : List Int} {es : List Ent} {i : Nat} {e : Ent} (h : LvS ix es i) (he : es[i]? = some e) (h1 : e.live = decide ((i : Int) ∈ ix)) : LvS ix es (i + 1) := by
  intro j e2 hj h2
  rcases Nat.lt_or_ge j i with h3 | h3
  · exact h j e2 h3 h2
  · obtain rfl : j = i := by omega
    rw [he] at h2; injection h2 with h2; subst h2; exact h1
theorem whB_slot {ix : List Int} {es : List Ent} {k : Nat} {n : Int} (h : ix[k]? = some n) (h1 : n ≠ -1) (h2 : n ≠ -2) (h3 : n < 0 ∨ (es.length : Int) ≤ n) : whB ix es = false := by
  apply whB_no
  rintro ⟨h4, _⟩
  have := h4 k n h
  omega
theorem whB_twice {ix : List Int} {es : List Ent} {k p : Nat} (h : ix[k]? = some (p : Int)) (hs : decide ((p : Int) ∈ ix.take k) = true) : whB ix es = false := by
  apply whB_no
  rintro ⟨_, h4, _⟩
  obtain ⟨s, hs, h5⟩ := mem_at (of_decide_eq_true hs)
  have := h4 s k p hs h5 h
  omega
theorem whB_live {ix : List Int} {es : List Ent} {i : Nat} {e : Ent} (he : es[i]? = some e) (h1 : (e.live == decide ((i : Int) ∈ ix)) = false) : whB ix es = false := by
  apply whB_no
  rintro ⟨_, _, h4, _⟩
  rw [h4 i e he] at h1
  simp at h1
theorem whB_dead {ix : List Int} {es : List Ent} {k p : Nat} {e : Ent} (h : ix[k]? = some (p : Int)) (he : es[p]? = some e) (hl : e.live = false) : whB ix es = false :=
  whB_live he (by rw [hl, decide_eq_true (List.mem_of_getElem? h)]; rfl)
theorem whB_end {ix : List Int} {es : List Ent} (h : PreS ix es.length ix.length) (hv : LvS ix es es.length) : whB ix es = decide (((ix.take ix.length).count (-2) : Int) = (es.length : Int) - (liveN es : Int)) := by
  rw [List.take_length]
  have hlv : liveN es ≤ es.length := by have := liveN_le es es.length; rwa [List.take_length] at this
  have ht : ∀ {s : Nat} {n : Int}, ix[s]? = some n → s < ix.length := by
    intro s n hs
    rcases Nat.lt_or_ge s ix.length with h1 | h1
    · exact h1
    · rw [List.getElem?_eq_none h1] at hs; cases hs
  have ht2 : ∀ {s : Nat} {e : Ent}, es[s]? = some e → s < es.length := by
    intro s n hs
    rcases Nat.lt_or_ge s es.length with h1 | h1
    · exact h1
    · rw [List.getElem?_eq_none h1] at hs; cases hs
  by_cases h4 : (ix.count (-2) : Int) = (es.length : Int) - (liveN es : Int)
  · rw [decide_eq_true h4]
    exact whB_yes ⟨fun s n hs => h.1 s n (ht hs) hs, fun s t n hst h1 h2 => h.2 s t n hst (ht h2) h1 h2, fun j e he => hv j e (ht2 he) he, by omega⟩
  · rw [decide_eq_false h4]
    apply whB_no
    rintro ⟨_, _, _, h5⟩; omega
end Go.Proofs.Ytplpgcbdbmfffaa
