/- The live entries alone, in new slots: as both sides put them one after another. -/
import Derived.Test.YtplpgcbdbmfffaaFput
import Derived.Test.YtplpgcbdbmfffaaDok2
namespace Go.Proofs.Ytplpgcbdbmfffaa
open Go.RowKit
def hk (k : ByteArray) : Nat := hsh k.data.toList
def pkStep (t : List Int × List Ent) (e : Ent) : List Int × List Ent := if e.live then (t.1.set (fstS t.1 t.2 e.key (hk e.key)) (t.2.length : Int), t.2 ++ [e]) else t
def pkd (c : Nat) (es : List Ent) : List Int × List Ent := es.foldl pkStep (List.replicate c (-1), [])
theorem pkd_zero (c : Nat) : pkd c [] = (List.replicate c (-1), []) := rfl
theorem pkd_next {c : Nat} {es : List Ent} {k : Nat} {e : Ent} (h : es[k]? = some e) : pkd c (es.take (k + 1)) = pkStep (pkd c (es.take k)) e := by
  have hk : k < es.length := by
    rcases Nat.lt_or_ge k es.length with h2 | h2
    · exact h2
    · rw [List.getElem?_eq_none h2] at h; cases h
  rw [List.getElem?_eq_getElem hk] at h
  injection h with h
  unfold pkd
  rw [List.take_succ_eq_append_getElem hk, h, List.foldl_append]
  rfl
/-- No key is alive twice. -/
def Once (es : List Ent) : Prop := ∀ (i j : Nat) (e f : Ent), es[i]? = some e → es[j]? = some f → e.live = true → f.live = true → e.key = f.key → i = j
theorem once_of {ix : List Int} {es : List Ent} (h : DOk ix es) : Once es := by
  intro i j e f he hf h1 h2 h3
  have a := (h.2.2 i e he).2 h1
  have b := (h.2.2 j f hf).2 h2
  rw [h3] at a
  have := a.symm.trans b
  omega
theorem filter_next {es : List Ent} {k : Nat} {e : Ent} (h : es[k]? = some e) : (es.take (k + 1)).filter (·.live) = (es.take k).filter (·.live) ++ if e.live then [e] else [] := by
  have hk : k < es.length := by
    rcases Nat.lt_or_ge k es.length with h2 | h2
    · exact h2
    · rw [List.getElem?_eq_none h2] at h; cases h
  rw [List.getElem?_eq_getElem hk] at h
  injection h with h
  rw [List.take_succ_eq_append_getElem hk, h, List.filter_append]
  cases hl : e.live <;> simp [List.filter, hl]
theorem liveN_take (es : List Ent) (k : Nat) : liveN (es.take k) ≤ liveN es := by
  unfold liveN
  exact ((List.take_sublist k es).filter _).length_le
theorem pkd_ok {c : Nat} {es : List Ent} (hc : slotN c = true) (ho : Once es) (hr : liveN es ≤ 2 * c / 3) (k : Nat) (hk : k ≤ es.length) :
    Fit (pkd c (es.take k)).1 (pkd c (es.take k)).2 ∧ (pkd c (es.take k)).1.length = c ∧ (pkd c (es.take k)).2 = (es.take k).filter (·.live) := by
  induction k with
  | zero => rw [List.take_zero, pkd_zero]; exact ⟨Fit.empty hc, by simp, rfl⟩
  | succ k ih =>
    obtain ⟨h1, h2, h3⟩ := ih (by omega)
    have hlt : k < es.length := by omega
    have he : es[k]? = some es[k] := List.getElem?_eq_getElem hlt
    generalize es[k] = e at he
    have hn := liveN_next he
    have ht := liveN_take es (k + 1)
    rw [pkd_next he, filter_next he]
    unfold pkStep
    cases hl : e.live with
    | false => simp only [Bool.false_eq_true, if_false, List.append_nil]; exact ⟨h1, h2, h3⟩
    | true =>
      rw [hl] at hn
      simp only [if_true] at hn ⊢
      have hlen : (pkd c (es.take k)).2.length = liveN (es.take k) := by rw [h3]; rfl
      obtain ⟨_, _, _, h4⟩ := fst_ok (key := e.key) h1 (hsh_lt e.key.data.toList)
      have hp : plc (pkd c (es.take k)).1 (pkd c (es.take k)).2 e.key (hsh e.key.data.toList) = -1 := by
        rcases plc_is (key := e.key) h1 (hsh_lt e.key.data.toList) with h5 | ⟨n, _, hn, h6⟩
        · exact h5
        · exfalso
          have hm : (pkd c (es.take k)).2[n] ∈ (es.take k).filter (·.live) := by rw [← h3]; exact List.getElem_mem hn
          rw [List.mem_filter] at hm
          obtain ⟨j, hj⟩ := List.mem_iff_getElem?.1 hm.1
          have hjk : j < k := by
            rcases Nat.lt_or_ge j k with h9 | h9
            · exact h9
            · rw [List.getElem?_eq_none (by rw [List.length_take]; omega)] at hj; cases hj
          rw [List.getElem?_take_of_lt hjk] at hj
          have := ho j k _ e hj he hm.2 hl h6
          omega
      rw [hp] at h4
      refine ⟨h1.put h4 hl (by rw [h2, hlen]; omega), by rw [List.length_set]; exact h2, by rw [h3]⟩
theorem scN_room {k : Nat} (h : k ≤ 40) : k + 1 ≤ 2 * scN k / 3 := by
  unfold scN
  split
  · omega
  · split
    · omega
    · split
      · omega
      · split <;> omega
end Go.Proofs.Ytplpgcbdbmfffaa
