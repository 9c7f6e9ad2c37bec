/- A valid dictionary stays valid where a new entry is put, and the packed one is valid. -/
import Derived.Test.YtplpgcbdbmfffaaPkd
namespace Go.Proofs.Ytplpgcbdbmfffaa
open Go.RowKit
theorem fstT_lt (ix : List Int) (es : List Ent) (key : ByteArray) (hs : Nat) : fstT ix es key hs < 200 := by
  unfold fstT
  cases h : (List.range 200).find? fun t => endB ix es key (pr ix.length hs t).1 with
  | none => simp
  | some T =>
    rw [List.find?_range_eq_some] at h
    have := List.mem_range.1 h.2.1
    simpa using this
theorem fst_eq {ix : List Int} {es : List Ent} {key : ByteArray} {hs T : Nat} (h : T < 200) (he : endB ix es key (pr ix.length hs T).1 = true) (hn : ∀ t, t < T → endB ix es key (pr ix.length hs t).1 = false) : fstT ix es key hs = T := by
  unfold fstT
  have : ((List.range 200).find? fun t => endB ix es key (pr ix.length hs t).1) = some T := by
    rw [List.find?_range_eq_some]
    exact ⟨he, List.mem_range.2 h, fun t ht => by rw [hn t ht]; rfl⟩
  rw [this]; rfl
theorem endB_congr {ix ix' : List Int} {es es' : List Ent} {key : ByteArray} {s : Nat} (h1 : ix'[s]? = ix[s]?) (h2 : ∀ n : Int, ix[s]? = some n → n ≠ -2 → n ≠ -1 → es'[n.toNat]? = es[n.toNat]?) : endB ix' es' key s = endB ix es key s := by
  unfold endB
  rw [h1]
  cases h : ix[s]? with
  | none => rfl
  | some n =>
    by_cases h3 : n = -1
    · subst h3; rfl
    · by_cases h4 : n = -2
      · subst h4; rfl
      · simp only
        rw [h2 n h h4 h3]
theorem endB_neg {ix : List Int} {es : List Ent} {key : ByteArray} {s : Nat} (h : ix[s]? = some (-1)) : endB ix es key s = true := by unfold endB; rw [h]; rfl
theorem DOk.put {ix : List Int} {es : List Ent} {e : Ent} (h : DOk ix es) (hp : plc ix es e.key (hk e.key) = -1) (hl : e.live = true) (ho : entOk e = true) (hr : es.length + 1 ≤ 2 * ix.length / 3) (h40 : liveN es + 1 ≤ 40) :
    DOk (ix.set (fstS ix es e.key (hk e.key)) (es.length : Int)) (es ++ [e]) := by
  obtain ⟨hf, _, h3⟩ := h
  have HA := fst_ok (key := e.key) hf (hsh_lt e.key.data.toList)
  unfold hk at hp
  rw [hp] at HA
  obtain ⟨_, ha1, ha2, ha3⟩ := HA
  unfold hk
  generalize hS : fstS ix es e.key (hsh e.key.data.toList) = S at *
  have hfit := hf.put ha3 hl hr
  have hlen : (ix.set S (es.length : Int)).length = ix.length := List.length_set
  have same : ∀ (key : ByteArray) (s : Nat), s ≠ S → endB (ix.set S (es.length : Int)) (es ++ [e]) key s = endB ix es key s := by
    intro key s hsS
    refine endB_congr (by rw [List.getElem?_set, if_neg (fun h => hsS h.symm)]) fun n hn h4 h5 => ?_
    have := hf.2.2.1 s n hn
    rw [List.getElem?_append_left (by omega)]
  have off : ∀ (key : ByteArray) (s : Nat), endB ix es key s = false → s ≠ S := by
    intro key s h9 h8
    subst h8
    rw [endB_neg ha3] at h9; cases h9
  refine ⟨hfit, by rw [liveN_app, hl]; simpa using h40, fun i f hi => ?_⟩
  rw [List.getElem?_append] at hi
  split at hi
  · rename_i hlt
    obtain ⟨h5, h6⟩ := h3 i f hi
    refine ⟨h5, fun hfl => ?_⟩
    have h7 := h6 hfl
    obtain ⟨_, hb1, hb2, hb3⟩ := fst_ok (key := f.key) hf (hsh_lt f.key.data.toList)
    rw [h7] at hb3
    have hne : fstS ix es f.key (hsh f.key.data.toList) ≠ S := by
      intro h8; rw [h8, ha3] at hb3; injection hb3 with hb3; omega
    have hT : fstT (ix.set S (es.length : Int)) (es ++ [e]) f.key (hsh f.key.data.toList) = fstT ix es f.key (hsh f.key.data.toList) := by
      refine fst_eq (fstT_lt _ _ _ _) ?_ fun t ht => ?_
      · rw [hlen]; exact (same f.key _ hne).trans hb1
      · rw [hlen, same _ _ (off _ _ (hb2 t ht))]; exact hb2 t ht
    unfold plc
    have hSe : fstS (ix.set S (es.length : Int)) (es ++ [e]) f.key (hsh f.key.data.toList) = fstS ix es f.key (hsh f.key.data.toList) := by
      unfold fstS; rw [hT, hlen]
    rw [hSe, List.getElem?_set, if_neg (fun h => hne h.symm), hb3]; rfl
  · rename_i hge
    have hje : i = es.length := by
      rcases Nat.lt_or_ge (i - es.length) 1 with h9 | h9
      · omega
      · rw [List.getElem?_eq_none (by simpa using h9)] at hi; cases hi
    subst hje
    rw [Nat.sub_self] at hi
    injection hi with hi
    subst hi
    refine ⟨ho, fun _ => ?_⟩
    have hSlt := lt_of_at ha3
    have hat : (ix.set S (es.length : Int))[S]? = some (es.length : Int) := by rw [List.getElem?_set, if_pos rfl, if_pos hSlt]
    have hT : fstT (ix.set S (es.length : Int)) (es ++ [e]) e.key (hsh e.key.data.toList) = fstT ix es e.key (hsh e.key.data.toList) := by
      refine fst_eq (fstT_lt _ _ _ _) ?_ fun t ht => ?_
      · rw [hlen]
        have : (pr ix.length (hsh e.key.data.toList) (fstT ix es e.key (hsh e.key.data.toList))).1 = S := hS
        rw [this]
        unfold endB
        rw [hat]
        simp
      · rw [hlen, same _ _ (off _ _ (ha2 t ht))]; exact ha2 t ht
    unfold plc
    have hSe : fstS (ix.set S (es.length : Int)) (es ++ [e]) e.key (hsh e.key.data.toList) = S := by
      refine Eq.trans ?_ hS
      unfold fstS; rw [hT, hlen]
    rw [hSe, hat]; rfl
end Go.Proofs.Ytplpgcbdbmfffaa
