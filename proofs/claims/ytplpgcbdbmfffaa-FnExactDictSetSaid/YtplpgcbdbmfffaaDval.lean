/- A valid dictionary stays valid where an entry's value is changed; what a looked for key leads to in the changed ones. -/
import Derived.Test.YtplpgcbdbmfffaaDdrop
namespace Go.Proofs.Ytplpgcbdbmfffaa
open Go.RowKit
theorem lt_of_ent {es : List Ent} {k : Nat} {e : Ent} (h : es[k]? = some e) : k < es.length := by
  rcases Nat.lt_or_ge k es.length with h2 | h2
  · exact h2
  · rw [List.getElem?_eq_none h2] at h; cases h
theorem endB_val {ix : List Int} {es : List Ent} {e : Ent} {k : Nat} (he : es[k]? = some e) (v : Int) (key : ByteArray) (s : Nat) : endB ix (es.set k { e with val := v }) key s = endB ix es key s := by
  unfold endB
  cases ix[s]? with
  | none => rfl
  | some n =>
    simp only
    by_cases h1 : k = n.toNat
    · rw [← h1, List.getElem?_set, if_pos rfl, if_pos (lt_of_ent he), he]
    · rw [List.getElem?_set, if_neg h1]
theorem fstT_val {ix : List Int} {es : List Ent} {e : Ent} {k : Nat} (he : es[k]? = some e) (v : Int) (key : ByteArray) (hs : Nat) : fstT ix (es.set k { e with val := v }) key hs = fstT ix es key hs := by
  unfold fstT
  congr 2
  funext t
  exact endB_val he v key _
theorem plc_val {ix : List Int} {es : List Ent} {e : Ent} {k : Nat} (he : es[k]? = some e) (v : Int) (key : ByteArray) (hs : Nat) : plc ix (es.set k { e with val := v }) key hs = plc ix es key hs := by
  unfold plc fstS
  rw [fstT_val he]
theorem liveN_val {es : List Ent} {e : Ent} {k : Nat} (he : es[k]? = some e) (v : Int) : liveN (es.set k { e with val := v }) = liveN es := by
  have hk : k < es.length := lt_of_ent he
  unfold liveN
  rw [← List.countP_eq_length_filter, ← List.countP_eq_length_filter, List.countP_set hk]
  have hv : es[k] = e := by rw [List.getElem?_eq_getElem hk] at he; injection he
  rw [hv]
  cases hl : e.live with
  | false => simp
  | true =>
    have hp : 0 < es.countP (·.live) := List.countP_pos_iff.2 ⟨e, List.mem_of_getElem? he, hl⟩
    simp; omega
theorem DOk.value {ix : List Int} {es : List Ent} {e : Ent} {k : Nat} (h : DOk ix es) (he : es[k]? = some e) (hl : e.live = true) (v : Int) (hv : okV v = true) : DOk ix (es.set k { e with val := v }) := by
  obtain ⟨⟨f1, f2, f3, f4, f5, f6⟩, h2, h3⟩ := h
  have hk : k < es.length := lt_of_ent he
  refine ⟨⟨f1, by rw [List.length_set]; exact f2, ?_, f4, ?_, by rw [liveN_val he, List.length_set]; exact f6⟩, by rw [liveN_val he]; exact h2, ?_⟩
  · intro s n hs; rw [List.length_set]; exact f3 s n hs
  · intro j f hj
    rw [List.getElem?_set] at hj
    by_cases hkj : k = j
    · rw [if_pos hkj, if_pos hk] at hj
      injection hj with hj
      subst hj; subst hkj
      exact f5 k e he
    · rw [if_neg hkj] at hj
      exact f5 j f hj
  · intro j f hj
    unfold RowOk; rw [plc_val he]
    rw [List.getElem?_set] at hj
    by_cases hkj : k = j
    · rw [if_pos hkj, if_pos hk] at hj
      injection hj with hj
      subst hj; subst hkj
      obtain ⟨a, b⟩ := h3 k e he
      refine ⟨?_, b⟩
      unfold entOk at a ⊢
      rw [hl] at a
      simp only [hl, if_true, Bool.and_eq_true] at a ⊢
      exact ⟨a.1, hv⟩
    · rw [if_neg hkj] at hj
      exact h3 j f hj
end Go.Proofs.Ytplpgcbdbmfffaa
