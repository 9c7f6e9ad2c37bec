/- The packed dictionary is valid, and one of which an entry is dropped. -/
import Derived.Test.YtplpgcbdbmfffaaDput
namespace Go.Proofs.Ytplpgcbdbmfffaa
open Go.RowKit
theorem pkd_place {c : Nat} {es : List Ent} (hc : slotN c = true) (ho : Once es) (hr : liveN es ≤ 2 * c / 3) {k : Nat} {e : Ent} (he : es[k]? = some e) (hl : e.live = true) :
    plc (pkd c (es.take k)).1 (pkd c (es.take k)).2 e.key (hk e.key) = -1 := by
  have hlt : k < es.length := by
    rcases Nat.lt_or_ge k es.length with h2 | h2
    · exact h2
    · rw [List.getElem?_eq_none h2] at he; cases he
  obtain ⟨h1, _, h3⟩ := pkd_ok hc ho hr k (by omega)
  rcases plc_is (key := e.key) h1 (hsh_lt e.key.data.toList) with h5 | ⟨n, _, hn, h6⟩
  · exact h5
  · exfalso
    have hm : (pkd c (es.take k)).2[n] ∈ (es.take k).filter (·.live) := by rw [← h3]; exact List.getElem_mem hn
    rw [List.mem_filter] at hm
    obtain ⟨j, hj⟩ := List.mem_iff_getElem?.1 hm.1
    have hjk : j < k := by
      rcases Nat.lt_or_ge j k with h9 | h9
      · exact h9
      · rw [List.getElem?_eq_none (by rw [List.length_take]; omega)] at hj; cases hj
    rw [List.getElem?_take_of_lt hjk] at hj
    have := ho j k _ e hj he hm.2 hl h6
    omega
theorem pkd_dok {c : Nat} {es : List Ent} (hc : slotN c = true) (ho : Once es) (hr : liveN es ≤ 2 * c / 3) (h40 : liveN es ≤ 40) (hok : ∀ (i : Nat) (e : Ent), es[i]? = some e → entOk e = true) (k : Nat) (hk : k ≤ es.length) : DOk (pkd c (es.take k)).1 (pkd c (es.take k)).2 := by
  induction k with
  | zero => rw [List.take_zero, pkd_zero]; exact ⟨Fit.empty hc, by simp [liveN], fun i e h => by cases h⟩
  | succ k ih =>
    have h1 := ih (by omega)
    have hlt : k < es.length := by omega
    have he : es[k]? = some es[k] := List.getElem?_eq_getElem hlt
    generalize es[k] = e at he
    have hn := liveN_next he
    have ht := liveN_take es (k + 1)
    obtain ⟨_, h2, h3⟩ := pkd_ok hc ho hr k (by omega)
    have hlen : (pkd c (es.take k)).2.length = liveN (es.take k) := by rw [h3]; rfl
    have hll : liveN (pkd c (es.take k)).2 = liveN (es.take k) := by rw [h3]; unfold liveN; rw [List.filter_filter]; simp
    rw [pkd_next he]
    unfold pkStep
    cases hl : e.live with
    | false => simp only [Bool.false_eq_true, if_false]; exact h1
    | true =>
      rw [hl] at hn
      simp only [if_true] at hn ⊢
      exact h1.put (pkd_place hc ho hr he hl) hl (hok k e he) (by rw [h2, hlen]; omega) (by rw [hll]; omega)
theorem DOk.drop {ix : List Int} {es : List Ent} {e e' : Ent} {k : Nat} (h : DOk ix es) (he : es[k]? = some e) (hl : e.live = true) (ho : entOk e' = true) (hl' : e'.live = false) :
    DOk (ix.set (fstS ix es e.key (hk e.key)) (-2)) (es.set k e') := by
  obtain ⟨hf, h2, h3⟩ := h
  have hp := (h3 k e he).2 hl
  have HA := fst_ok (key := e.key) hf (hsh_lt e.key.data.toList)
  rw [hp] at HA
  obtain ⟨_, _, _, ha3⟩ := HA
  unfold hk
  generalize hS : fstS ix es e.key (hsh e.key.data.toList) = S at *
  have hlen : (ix.set S (-2)).length = ix.length := List.length_set
  have same : ∀ (key : ByteArray) (s : Nat), s ≠ S → endB (ix.set S (-2)) (es.set k e') key s = endB ix es key s := by
    intro key s hsS
    refine endB_congr (by rw [List.getElem?_set, if_neg (fun h => hsS h.symm)]) fun n hn h4 h5 => ?_
    rw [List.getElem?_set, if_neg]
    intro h8
    have h9 := hf.2.2.1 s n hn
    obtain rfl : n = (k : Int) := by omega
    rcases Nat.lt_or_ge s S with h7 | h7
    · have := hf.2.2.2.1 s S _ h7 hn ha3; omega
    · have := hf.2.2.2.1 S s _ (by omega) ha3 hn; omega
  have dead : ∀ key : ByteArray, endB (ix.set S (-2)) (es.set k e') key S = false := by
    intro key
    unfold endB
    rw [List.getElem?_set, if_pos rfl, if_pos (lt_of_at ha3)]
    rfl
  have hll := liveN_set he hl e' hl'
  refine ⟨hf.drop ha3 he hl', by omega, fun i f hi => ?_⟩
  rw [List.getElem?_set] at hi
  split at hi
  · split at hi
    · injection hi with hi
      subst hi
      exact ⟨ho, fun h9 => by rw [hl'] at h9; cases h9⟩
    · cases hi
  · rename_i hki
    obtain ⟨h5, h6⟩ := h3 i f hi
    refine ⟨h5, fun hfl => ?_⟩
    have h7 := h6 hfl
    obtain ⟨_, hb1, hb2, hb3⟩ := fst_ok (key := f.key) hf (hsh_lt f.key.data.toList)
    rw [h7] at hb3
    have hne : fstS ix es f.key (hsh f.key.data.toList) ≠ S := by
      intro h8; rw [h8, ha3] at hb3; injection hb3 with hb3; omega
    have hT : fstT (ix.set S (-2)) (es.set k e') f.key (hsh f.key.data.toList) = fstT ix es f.key (hsh f.key.data.toList) := by
      refine fst_eq (fstT_lt _ _ _ _) ?_ fun t ht => ?_
      · rw [hlen]; exact (same f.key _ hne).trans hb1
      · rw [hlen]
        by_cases h8 : (pr ix.length (hsh f.key.data.toList) t).1 = S
        · rw [h8]; exact dead _
        · rw [same _ _ h8]; exact hb2 t ht
    have hSe : fstS (ix.set S (-2)) (es.set k e') f.key (hsh f.key.data.toList) = fstS ix es f.key (hsh f.key.data.toList) := by
      unfold fstS; rw [hT, hlen]
    unfold plc
    rw [hSe, List.getElem?_set, if_neg (fun h => hne h.symm), hb3]; rfl
end Go.Proofs.Ytplpgcbdbmfffaa
