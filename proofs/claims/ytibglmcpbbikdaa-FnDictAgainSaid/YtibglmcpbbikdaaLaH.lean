/- Packed, put, dropped and changed dictionaries are valid; copies. -/
import Derived.Test.YtibglmcpbbikdaaLaC
import Derived.Test.YtibglmcpbbikdaaShelC
import Derived.Lib.SliceRun
import Derived.Test.YtibglmcpbbikdaaLaE
namespace Go.Proofs.Ytibglmcpbbikdaa
open Go.RowKit
def scN (k : Nat) : Nat := if 3 * k < 8 then 8 else if 3 * k < 16 then 16 else if 3 * k < 32 then 32 else if 3 * k < 64 then 64 else 128
def ScR (k : Nat) (n : Nat) : Prop := n = 8 ∨ (n = 16 ∧ 8 ≤ 3 * k) ∨ (n = 32 ∧ 16 ≤ 3 * k) ∨ (n = 64 ∧ 32 ≤ 3 * k) ∨ (n = 128 ∧ 64 ≤ 3 * k)
theorem ScR.le {k n : Nat} (h : ScR k n) : 8 ≤ n ∧ n ≤ 128 := by unfold ScR at h; omega
theorem ScR.next {k n : Nat} (h : ScR k n) (h1 : n ≤ 3 * k) (h2 : n < 128) : ScR k (2 * n) := by unfold ScR at h ⊢; omega
theorem ScR.done {k n : Nat} (h : ScR k n) (h1 : 3 * k < n ∨ 128 ≤ n) : scN k = n := by
  unfold ScR at h; unfold scN
  split
  · omega
  · split
    · omega
    · split
      · omega
      · split <;> omega
theorem scN_le (k : Nat) : 8 ≤ scN k ∧ scN k ≤ 128 := by
  unfold scN
  split
  · omega
  · split
    · omega
    · split
      · omega
      · split <;> omega
theorem slotN_sc (k : Nat) : slotN (scN k) = true := by
  unfold scN
  split
  · decide
  · split
    · decide
    · split
      · decide
      · split <;> decide
set_option maxRecDepth 20000 in
theorem slotCountFor_any (k : Nat) (w : World) (hk : k ≤ 1048576) : Calls Try.prog 93 #[.int .i64 (k : Int)] w fun e w' => e = .returned (.int .i64 (scN k : Int)) ∧ w = w' := by
  go_enter Try.func93, Try.ntmps93
  go_wp2_with fail
  go_loopw [3] (fun v wr => ∃ n : Nat, v = .int .i64 (n : Int) ∧ ScR k n ∧ wr = w) (fun v _ => 128 - (intOf v).toNat)
  case atStart => exact ⟨8, rfl, Or.inl rfl, rfl⟩
  case round =>
    obtain ⟨n, rfl, HR, rfl⟩ := hrel
    have hb := HR.le
    have HR := Lib.hid HR
    by_cases h1 : n ≤ 3 * k
    · have q1 : (n : Int) ≤ 3 * (k : Int) := by omega
      by_cases h2 : n < 128
      · have q2 : (n : Int) < 128 := by omega
        have HN := Lib.hid (HR.out.next h1 h2)
        go_wp2_with fail
        go_roundw
        case rel => exact ⟨2 * n, by go_num, HN.out, trivial⟩
        case measure => simp [intOf]; try omega
      · have q2 : ¬ (n : Int) < 128 := by omega
        have HE := Lib.hid (HR.out.done (Or.inr (by omega)))
        go_wp2_with fail
        go_ret
        rw [HE.out]
        exact ⟨rfl, rfl⟩
    · have q1 : ¬ (n : Int) ≤ 3 * (k : Int) := by omega
      have HE := Lib.hid (HR.out.done (Or.inl (by omega)))
      go_wp2_with fail
      go_ret
      rw [HE.out]
      exact ⟨rfl, rfl⟩
/-- As the model goes: past the greatest. -/
def ScS (k : Nat) (n : Nat) : Prop := n = 8 ∨ (n = 16 ∧ 8 ≤ 3 * k) ∨ (n = 32 ∧ 16 ≤ 3 * k) ∨ (n = 64 ∧ 32 ≤ 3 * k) ∨ (128 ≤ n ∧ 64 ≤ 3 * k ∧ n ≤ 6 * k)
theorem ScS.le {k n : Nat} (h : ScS k n) : 8 ≤ n ∧ n ≤ 6 * k + 128 := by unfold ScS at h; omega
theorem ScS.next {k n : Nat} (h : ScS k n) (h1 : n ≤ 3 * k) : ScS k (2 * n) := by unfold ScS at h ⊢; omega
theorem ScS.done {k n : Nat} (h : ScS k n) (h1 : 3 * k < n) : (scN k : Int) = if (n : Int) ≤ 128 then (n : Int) else 128 := by
  unfold ScS at h; unfold scN
  split
  · split <;> omega
  · split
    · split <;> omega
    · split
      · split <;> omega
      · split
        · split <;> omega
        · split <;> omega
set_option maxRecDepth 20000 in
theorem sizeFor_any (k : Nat) (w : World) (hk : k ≤ 1048576) : Calls Try.prog 68 #[.int .i64 (k : Int)] w fun e w' => e = .returned (.int .i64 (scN k : Int)) ∧ w = w' := by
  go_enter Try.func68, Try.ntmps68
  go_wp2_with fail
  go_loopw [3] (fun v wr => ∃ n : Nat, v = .int .i64 (n : Int) ∧ ScS k n ∧ wr = w) (fun v _ => 6 * k + 128 - (intOf v).toNat)
  case atStart => exact ⟨8, rfl, Or.inl rfl, rfl⟩
  case round =>
    obtain ⟨n, rfl, HR, rfl⟩ := hrel
    have hb := HR.le
    have HR := Lib.hid HR
    by_cases h1 : n ≤ 3 * k
    · have q1 : (n : Int) ≤ 3 * (k : Int) := by omega
      have HN := Lib.hid (HR.out.next h1)
      go_wp2_with fail
      go_roundw
      case rel => exact ⟨2 * n, by go_num, HN.out, trivial⟩
      case measure => simp [intOf]; try omega
    · have q1 : ¬ (n : Int) ≤ 3 * (k : Int) := by omega
      have HE := Lib.hid (HR.out.done (by omega))
      go_wp2_with fail
      all_goals (go_ret; rw [HE.out]; refine ⟨?_, rfl⟩; split)
      all_goals (first | rfl | (show Ending.returned (Value.int IntKind.i64 (min (n : Int) 128)) = _; congr 2; omega) | (congr 2; omega))
theorem Fit.empty {c : Nat} (h : slotN c = true) : Fit (List.replicate c (-1)) [] := by
  refine ⟨by simpa using h, by simp, ?_, ?_, ?_, ?_⟩
  · intro s n hs
    rw [List.getElem?_replicate] at hs
    split at hs
    · injection hs with hs; exact .inl hs.symm
    · cases hs
  · intro s t n _ hs _
    rw [List.getElem?_replicate] at hs
    split at hs
    · injection hs with hs; omega
    · cases hs
  · intro j e he; cases he
  · simp [liveN, List.count_replicate]
theorem set_at {ix : List Int} {s t : Nat} {v n : Int} (h : (ix.set s v)[t]? = some n) : (t = s ∧ n = v) ∨ (t ≠ s ∧ ix[t]? = some n) := by
  rw [List.getElem?_set] at h
  split at h
  · rename_i h1
    split at h
    · injection h with h; exact .inl ⟨h1.symm, h.symm⟩
    · cases h
  · rename_i h1; exact .inr ⟨fun h2 => h1 h2.symm, h⟩
theorem mem_set_ne {ix : List Int} {s : Nat} {v u n : Int} (hs : ix[s]? = some u) (h1 : n ≠ u) (h2 : n ≠ v) : (n ∈ ix.set s v) ↔ n ∈ ix := by
  rw [List.mem_iff_getElem?, List.mem_iff_getElem?]
  constructor
  · rintro ⟨t, ht⟩
    rcases set_at ht with h | h
    · exact absurd h.2 h2
    · exact ⟨t, h.2⟩
  · rintro ⟨t, ht⟩
    refine ⟨t, ?_⟩
    rw [List.getElem?_set]
    split
    · rename_i h3; subst h3; rw [hs] at ht; injection ht with ht; exact absurd ht.symm h1
    · exact ht
theorem lt_of_at {ix : List Int} {s : Nat} {u : Int} (hs : ix[s]? = some u) : s < ix.length := by
  rcases Nat.lt_or_ge s ix.length with h2 | h2
  · exact h2
  · rw [List.getElem?_eq_none h2] at hs; cases hs
theorem mem_set_self {ix : List Int} {s : Nat} {v u : Int} (hs : ix[s]? = some u) : v ∈ ix.set s v := by
  rw [List.mem_iff_getElem?]
  exact ⟨s, by rw [List.getElem?_set, if_pos rfl, if_pos (lt_of_at hs)]⟩
theorem liveN_app (es : List Ent) (e : Ent) : liveN (es ++ [e]) = liveN es + if e.live then 1 else 0 := by
  unfold liveN
  rw [List.filter_append, List.length_append]
  cases h : e.live <;> simp [List.filter, h]
theorem Fit.put {ix : List Int} {es : List Ent} {e : Ent} {s : Nat} (h : Fit ix es) (hs : ix[s]? = some (-1)) (hl : e.live = true) (hr : es.length + 1 ≤ 2 * ix.length / 3) : Fit (ix.set s (es.length : Int)) (es ++ [e]) := by
  obtain ⟨h1, h2, h3, h4, h5, h6⟩ := h
  refine ⟨by rw [List.length_set]; exact h1, by rw [List.length_set, List.length_append]; simpa using hr, ?_, ?_, ?_, ?_⟩
  · intro t n ht
    rw [List.length_append]
    rcases set_at ht with ⟨_, rfl⟩ | ⟨_, ht⟩
    · simp; omega
    · have := h3 t n ht
      simp; omega
  · intro t u n htu ht hu
    rcases set_at ht with ⟨ta, tb⟩ | ⟨ta, tb⟩
    · rcases set_at hu with ⟨ua, ub⟩ | ⟨ua, ub⟩
      · omega
      · have := h3 u _ ub; omega
    · rcases set_at hu with ⟨ua, ub⟩ | ⟨ua, ub⟩
      · have := h3 t _ tb; omega
      · exact h4 t u n htu tb ub
  · intro j e' hj
    rw [List.getElem?_append] at hj
    split at hj
    · rename_i hlt
      rw [h5 j e' hj, decide_eq_decide]
      exact (mem_set_ne hs (by omega) (by omega)).symm
    · rename_i hge
      have hje : j = es.length := by
        rcases Nat.lt_or_ge (j - es.length) 1 with h9 | h9
        · omega
        · rw [List.getElem?_eq_none (by simpa using h9)] at hj; cases hj
      subst hje
      rw [Nat.sub_self] at hj
      injection hj with hj
      subst hj
      rw [hl]
      exact (decide_eq_true (mem_set_self hs)).symm
  · have hlt := lt_of_at hs
    have hv : ix[s] = -1 := by rw [List.getElem?_eq_getElem hlt] at hs; injection hs
    rw [List.count_set hlt, hv, liveN_app, hl, List.length_append]
    have e1 : ((-1 : Int) == -2) = false := by decide
    have e2 : (((es.length : Nat) : Int) == -2) = false := beq_eq_false_iff_ne.2 (by omega)
    rw [e1, e2]
    simp; omega
theorem liveN_set {es : List Ent} {k : Nat} {e : Ent} (h : es[k]? = some e) (hl : e.live = true) (e' : Ent) (hl' : e'.live = false) : liveN (es.set k e') + 1 = liveN es := by
  unfold liveN
  rw [← List.countP_eq_length_filter, ← List.countP_eq_length_filter]
  have hk : k < es.length := by
    rcases Nat.lt_or_ge k es.length with h2 | h2
    · exact h2
    · rw [List.getElem?_eq_none h2] at h; cases h
  have hv : es[k] = e := by rw [List.getElem?_eq_getElem hk] at h; injection h
  have hp : 0 < es.countP (·.live) := List.countP_pos_iff.2 ⟨e, List.mem_of_getElem? h, hl⟩
  rw [List.countP_set hk, hv, hl, hl']
  simp; omega
theorem Fit.drop {ix : List Int} {es : List Ent} {e e' : Ent} {s k : Nat} (h : Fit ix es) (hs : ix[s]? = some (k : Int)) (he : es[k]? = some e) (hl' : e'.live = false) : Fit (ix.set s (-2)) (es.set k e') := by
  obtain ⟨h1, h2, h3, h4, h5, h6⟩ := h
  have hmem : (k : Int) ∈ ix := List.mem_of_getElem? hs
  have hl : e.live = true := by rw [h5 k e he]; exact decide_eq_true hmem
  have hlt := lt_of_at hs
  have hv : ix[s] = (k : Int) := by rw [List.getElem?_eq_getElem hlt] at hs; injection hs
  refine ⟨by rw [List.length_set]; exact h1, by rw [List.length_set, List.length_set]; exact h2, ?_, ?_, ?_, ?_⟩
  · intro t n ht
    rw [List.length_set]
    rcases set_at ht with ⟨_, ub⟩ | ⟨_, ub⟩
    · omega
    · exact h3 t n ub
  · intro t u n htu ht hu
    rcases set_at ht with ⟨ta, tb⟩ | ⟨ta, tb⟩
    · omega
    · rcases set_at hu with ⟨ua, ub⟩ | ⟨ua, ub⟩
      · omega
      · exact h4 t u n htu tb ub
  · intro j f hj
    rw [List.getElem?_set] at hj
    split at hj
    · rename_i hkj
      split at hj
      · injection hj with hj
        subst hj
        subst hkj
        rw [hl']
        refine (decide_eq_false ?_).symm
        intro hm
        rw [List.mem_iff_getElem?] at hm
        obtain ⟨t, ht⟩ := hm
        rcases set_at ht with ⟨_, ub⟩ | ⟨ua, ub⟩
        · omega
        · rcases Nat.lt_or_ge t s with h9 | h9
          · have := h4 t s _ h9 ub hs; omega
          · have := h4 s t _ (by omega) hs ub; omega
      · cases hj
    · rename_i hkj
      rw [h5 j f hj, decide_eq_decide]
      exact (mem_set_ne hs (by omega) (by omega)).symm
  · rw [List.count_set hlt, hv, List.length_set]
    have := liveN_set he hl e' hl'
    have e1 : ((k : Int) == -2) = false := beq_eq_false_iff_ne.2 (by omega)
    rw [e1]
    simp; omega
def hk (k : ByteArray) : Nat := hsh k.data.toList
def pkStep (t : List Int × List Ent) (e : Ent) : List Int × List Ent := if e.live then (t.1.set (fstS t.1 t.2 e.key (hk e.key)) (t.2.length : Int), t.2 ++ [e]) else t
def pkd (c : Nat) (es : List Ent) : List Int × List Ent := es.foldl pkStep (List.replicate c (-1), [])
theorem pkd_zero (c : Nat) : pkd c [] = (List.replicate c (-1), []) := rfl
theorem pkd_next {c : Nat} {es : List Ent} {k : Nat} {e : Ent} (h : es[k]? = some e) : pkd c (es.take (k + 1)) = pkStep (pkd c (es.take k)) e := by
  have hk : k < es.length := by
    rcases Nat.lt_or_ge k es.length with h2 | h2
    · exact h2
    · rw [List.getElem?_eq_none h2] at h; cases h
  rw [List.getElem?_eq_getElem hk] at h
  injection h with h
  unfold pkd
  rw [List.take_succ_eq_append_getElem hk, h, List.foldl_append]
  rfl
/-- No key is alive twice. -/
def Once (es : List Ent) : Prop := ∀ (i j : Nat) (e f : Ent), es[i]? = some e → es[j]? = some f → e.live = true → f.live = true → e.key = f.key → i = j
theorem once_of {ix : List Int} {es : List Ent} (h : DOk ix es) : Once es := by
  intro i j e f he hf h1 h2 h3
  have a := (h.2.2 i e he).2 h1
  have b := (h.2.2 j f hf).2 h2
  rw [h3] at a
  have := a.symm.trans b
  omega
theorem filter_next {es : List Ent} {k : Nat} {e : Ent} (h : es[k]? = some e) : (es.take (k + 1)).filter (·.live) = (es.take k).filter (·.live) ++ if e.live then [e] else [] := by
  have hk : k < es.length := by
    rcases Nat.lt_or_ge k es.length with h2 | h2
    · exact h2
    · rw [List.getElem?_eq_none h2] at h; cases h
  rw [List.getElem?_eq_getElem hk] at h
  injection h with h
  rw [List.take_succ_eq_append_getElem hk, h, List.filter_append]
  cases hl : e.live <;> simp [List.filter, hl]
theorem liveN_take (es : List Ent) (k : Nat) : liveN (es.take k) ≤ liveN es := by
  unfold liveN
  exact ((List.take_sublist k es).filter _).length_le
theorem pkd_ok {c : Nat} {es : List Ent} (hc : slotN c = true) (ho : Once es) (hr : liveN es ≤ 2 * c / 3) (k : Nat) (hk : k ≤ es.length) :
    Fit (pkd c (es.take k)).1 (pkd c (es.take k)).2 ∧ (pkd c (es.take k)).1.length = c ∧ (pkd c (es.take k)).2 = (es.take k).filter (·.live) := by
  induction k with
  | zero => rw [List.take_zero, pkd_zero]; exact ⟨Fit.empty hc, by simp, rfl⟩
  | succ k ih =>
    obtain ⟨h1, h2, h3⟩ := ih (by omega)
    have hlt : k < es.length := by omega
    have he : es[k]? = some es[k] := List.getElem?_eq_getElem hlt
    generalize es[k] = e at he
    have hn := liveN_next he
    have ht := liveN_take es (k + 1)
    rw [pkd_next he, filter_next he]
    unfold pkStep
    cases hl : e.live with
    | false => simp only [Bool.false_eq_true, if_false, List.append_nil]; exact ⟨h1, h2, h3⟩
    | true =>
      rw [hl] at hn
      simp only [if_true] at hn ⊢
      have hlen : (pkd c (es.take k)).2.length = liveN (es.take k) := by rw [h3]; rfl
      obtain ⟨_, _, _, h4⟩ := fst_ok (key := e.key) h1 (hsh_lt e.key.data.toList)
      have hp : plc (pkd c (es.take k)).1 (pkd c (es.take k)).2 e.key (hsh e.key.data.toList) = -1 := by
        rcases plc_is (key := e.key) h1 (hsh_lt e.key.data.toList) with h5 | ⟨n, _, hn, h6⟩
        · exact h5
        · exfalso
          have hm : (pkd c (es.take k)).2[n] ∈ (es.take k).filter (·.live) := by rw [← h3]; exact List.getElem_mem hn
          rw [List.mem_filter] at hm
          obtain ⟨j, hj⟩ := List.mem_iff_getElem?.1 hm.1
          have hjk : j < k := by
            rcases Nat.lt_or_ge j k with h9 | h9
            · exact h9
            · rw [List.getElem?_eq_none (by rw [List.length_take]; omega)] at hj; cases hj
          rw [List.getElem?_take_of_lt hjk] at hj
          have := ho j k _ e hj he hm.2 hl h6
          omega
      rw [hp] at h4
      refine ⟨h1.put h4 hl (by rw [h2, hlen]; omega), by rw [List.length_set]; exact h2, by rw [h3]⟩
theorem scN_room {k : Nat} (h : k ≤ 40) : k + 1 ≤ 2 * scN k / 3 := by
  unfold scN
  split
  · omega
  · split
    · omega
    · split
      · omega
      · split <;> omega
theorem fstT_lt (ix : List Int) (es : List Ent) (key : ByteArray) (hs : Nat) : fstT ix es key hs < 200 := by
  unfold fstT
  cases h : (List.range 200).find? fun t => endB ix es key (pr ix.length hs t).1 with
  | none => simp
  | some T =>
    rw [List.find?_range_eq_some] at h
    have := List.mem_range.1 h.2.1
    simpa using this
theorem fst_eq {ix : List Int} {es : List Ent} {key : ByteArray} {hs T : Nat} (h : T < 200) (he : endB ix es key (pr ix.length hs T).1 = true) (hn : ∀ t, t < T → endB ix es key (pr ix.length hs t).1 = false) : fstT ix es key hs = T := by
  unfold fstT
  have : ((List.range 200).find? fun t => endB ix es key (pr ix.length hs t).1) = some T := by
    rw [List.find?_range_eq_some]
    exact ⟨he, List.mem_range.2 h, fun t ht => by rw [hn t ht]; rfl⟩
  rw [this]; rfl
theorem endB_congr {ix ix' : List Int} {es es' : List Ent} {key : ByteArray} {s : Nat} (h1 : ix'[s]? = ix[s]?) (h2 : ∀ n : Int, ix[s]? = some n → n ≠ -2 → n ≠ -1 → es'[n.toNat]? = es[n.toNat]?) : endB ix' es' key s = endB ix es key s := by
  unfold endB
  rw [h1]
  cases h : ix[s]? with
  | none => rfl
  | some n =>
    by_cases h3 : n = -1
    · subst h3; rfl
    · by_cases h4 : n = -2
      · subst h4; rfl
      · simp only
        rw [h2 n h h4 h3]
theorem endB_neg {ix : List Int} {es : List Ent} {key : ByteArray} {s : Nat} (h : ix[s]? = some (-1)) : endB ix es key s = true := by unfold endB; rw [h]; rfl
theorem DOk.put {ix : List Int} {es : List Ent} {e : Ent} (h : DOk ix es) (hp : plc ix es e.key (hk e.key) = -1) (hl : e.live = true) (ho : entOk e = true) (hr : es.length + 1 ≤ 2 * ix.length / 3) (h40 : liveN es + 1 ≤ 40) :
    DOk (ix.set (fstS ix es e.key (hk e.key)) (es.length : Int)) (es ++ [e]) := by
  obtain ⟨hf, _, h3⟩ := h
  have HA := fst_ok (key := e.key) hf (hsh_lt e.key.data.toList)
  unfold hk at hp
  rw [hp] at HA
  obtain ⟨_, ha1, ha2, ha3⟩ := HA
  unfold hk
  generalize hS : fstS ix es e.key (hsh e.key.data.toList) = S at *
  have hfit := hf.put ha3 hl hr
  have hlen : (ix.set S (es.length : Int)).length = ix.length := List.length_set
  have same : ∀ (key : ByteArray) (s : Nat), s ≠ S → endB (ix.set S (es.length : Int)) (es ++ [e]) key s = endB ix es key s := by
    intro key s hsS
    refine endB_congr (by rw [List.getElem?_set, if_neg (fun h => hsS h.symm)]) fun n hn h4 h5 => ?_
    have := hf.2.2.1 s n hn
    rw [List.getElem?_append_left (by omega)]
  have off : ∀ (key : ByteArray) (s : Nat), endB ix es key s = false → s ≠ S := by
    intro key s h9 h8
    subst h8
    rw [endB_neg ha3] at h9; cases h9
  refine ⟨hfit, by rw [liveN_app, hl]; simpa using h40, fun i f hi => ?_⟩
  rw [List.getElem?_append] at hi
  split at hi
  · rename_i hlt
    obtain ⟨h5, h6⟩ := h3 i f hi
    refine ⟨h5, fun hfl => ?_⟩
    have h7 := h6 hfl
    obtain ⟨_, hb1, hb2, hb3⟩ := fst_ok (key := f.key) hf (hsh_lt f.key.data.toList)
    rw [h7] at hb3
    have hne : fstS ix es f.key (hsh f.key.data.toList) ≠ S := by
      intro h8; rw [h8, ha3] at hb3; injection hb3 with hb3; omega
    have hT : fstT (ix.set S (es.length : Int)) (es ++ [e]) f.key (hsh f.key.data.toList) = fstT ix es f.key (hsh f.key.data.toList) := by
      refine fst_eq (fstT_lt _ _ _ _) ?_ fun t ht => ?_
      · rw [hlen]; exact (same f.key _ hne).trans hb1
      · rw [hlen, same _ _ (off _ _ (hb2 t ht))]; exact hb2 t ht
    unfold plc
    have hSe : fstS (ix.set S (es.length : Int)) (es ++ [e]) f.key (hsh f.key.data.toList) = fstS ix es f.key (hsh f.key.data.toList) := by
      unfold fstS; rw [hT, hlen]
    rw [hSe, List.getElem?_set, if_neg (fun h => hne h.symm), hb3]; rfl
  · rename_i hge
    have hje : i = es.length := by
      rcases Nat.lt_or_ge (i - es.length) 1 with h9 | h9
      · omega
      · rw [List.getElem?_eq_none (by simpa using h9)] at hi; cases hi
    subst hje
    rw [Nat.sub_self] at hi
    injection hi with hi
    subst hi
    refine ⟨ho, fun _ => ?_⟩
    have hSlt := lt_of_at ha3
    have hat : (ix.set S (es.length : Int))[S]? = some (es.length : Int) := by rw [List.getElem?_set, if_pos rfl, if_pos hSlt]
    have hT : fstT (ix.set S (es.length : Int)) (es ++ [e]) e.key (hsh e.key.data.toList) = fstT ix es e.key (hsh e.key.data.toList) := by
      refine fst_eq (fstT_lt _ _ _ _) ?_ fun t ht => ?_
      · rw [hlen]
        have : (pr ix.length (hsh e.key.data.toList) (fstT ix es e.key (hsh e.key.data.toList))).1 = S := hS
        rw [this]
        unfold endB
        rw [hat]
        simp
      · rw [hlen, same _ _ (off _ _ (ha2 t ht))]; exact ha2 t ht
    unfold plc
    have hSe : fstS (ix.set S (es.length : Int)) (es ++ [e]) e.key (hsh e.key.data.toList) = S := by
      refine Eq.trans ?_ hS
      unfold fstS; rw [hT, hlen]
    rw [hSe, hat]; rfl
theorem pkd_place {c : Nat} {es : List Ent} (hc : slotN c = true) (ho : Once es) (hr : liveN es ≤ 2 * c / 3) {k : Nat} {e : Ent} (he : es[k]? = some e) (hl : e.live = true) :
    plc (pkd c (es.take k)).1 (pkd c (es.take k)).2 e.key (hk e.key) = -1 := by
  have hlt : k < es.length := by
    rcases Nat.lt_or_ge k es.length with h2 | h2
    · exact h2
    · rw [List.getElem?_eq_none h2] at he; cases he
  obtain ⟨h1, _, h3⟩ := pkd_ok hc ho hr k (by omega)
  rcases plc_is (key := e.key) h1 (hsh_lt e.key.data.toList) with h5 | ⟨n, _, hn, h6⟩
  · exact h5
  · exfalso
    have hm : (pkd c (es.take k)).2[n] ∈ (es.take k).filter (·.live) := by rw [← h3]; exact List.getElem_mem hn
    rw [List.mem_filter] at hm
    obtain ⟨j, hj⟩ := List.mem_iff_getElem?.1 hm.1
    have hjk : j < k := by
      rcases Nat.lt_or_ge j k with h9 | h9
      · exact h9
      · rw [List.getElem?_eq_none (by rw [List.length_take]; omega)] at hj; cases hj
    rw [List.getElem?_take_of_lt hjk] at hj
    have := ho j k _ e hj he hm.2 hl h6
    omega
theorem pkd_dok {c : Nat} {es : List Ent} (hc : slotN c = true) (ho : Once es) (hr : liveN es ≤ 2 * c / 3) (h40 : liveN es ≤ 40) (hok : ∀ (i : Nat) (e : Ent), es[i]? = some e → entOk e = true) (k : Nat) (hk : k ≤ es.length) : DOk (pkd c (es.take k)).1 (pkd c (es.take k)).2 := by
  induction k with
  | zero => rw [List.take_zero, pkd_zero]; exact ⟨Fit.empty hc, by simp [liveN], fun i e h => by cases h⟩
  | succ k ih =>
    have h1 := ih (by omega)
    have hlt : k < es.length := by omega
    have he : es[k]? = some es[k] := List.getElem?_eq_getElem hlt
    generalize es[k] = e at he
    have hn := liveN_next he
    have ht := liveN_take es (k + 1)
    obtain ⟨_, h2, h3⟩ := pkd_ok hc ho hr k (by omega)
    have hlen : (pkd c (es.take k)).2.length = liveN (es.take k) := by rw [h3]; rfl
    have hll : liveN (pkd c (es.take k)).2 = liveN (es.take k) := by rw [h3]; unfold liveN; rw [List.filter_filter]; simp
    rw [pkd_next he]
    unfold pkStep
    cases hl : e.live with
    | false => simp only [Bool.false_eq_true, if_false]; exact h1
    | true =>
      rw [hl] at hn
      simp only [if_true] at hn ⊢
      exact h1.put (pkd_place hc ho hr he hl) hl (hok k e he) (by rw [h2, hlen]; omega) (by rw [hll]; omega)
theorem DOk.drop {ix : List Int} {es : List Ent} {e e' : Ent} {k : Nat} (h : DOk ix es) (he : es[k]? = some e) (hl : e.live = true) (ho : entOk e' = true) (hl' : e'.live = false) :
    DOk (ix.set (fstS ix es e.key (hk e.key)) (-2)) (es.set k e') := by
  obtain ⟨hf, h2, h3⟩ := h
  have hp := (h3 k e he).2 hl
  have HA := fst_ok (key := e.key) hf (hsh_lt e.key.data.toList)
  rw [hp] at HA
  obtain ⟨_, _, _, ha3⟩ := HA
  unfold hk
  generalize hS : fstS ix es e.key (hsh e.key.data.toList) = S at *
  have hlen : (ix.set S (-2)).length = ix.length := List.length_set
  have same : ∀ (key : ByteArray) (s : Nat), s ≠ S → endB (ix.set S (-2)) (es.set k e') key s = endB ix es key s := by
    intro key s hsS
    refine endB_congr (by rw [List.getElem?_set, if_neg (fun h => hsS h.symm)]) fun n hn h4 h5 => ?_
    rw [List.getElem?_set, if_neg]
    intro h8
    have h9 := hf.2.2.1 s n hn
    obtain rfl : n = (k : Int) := by omega
    rcases Nat.lt_or_ge s S with h7 | h7
    · have := hf.2.2.2.1 s S _ h7 hn ha3; omega
    · have := hf.2.2.2.1 S s _ (by omega) ha3 hn; omega
  have dead : ∀ key : ByteArray, endB (ix.set S (-2)) (es.set k e') key S = false := by
    intro key
    unfold endB
    rw [List.getElem?_set, if_pos rfl, if_pos (lt_of_at ha3)]
    rfl
  have hll := liveN_set he hl e' hl'
  refine ⟨hf.drop ha3 he hl', by omega, fun i f hi => ?_⟩
  rw [List.getElem?_set] at hi
  split at hi
  · split at hi
    · injection hi with hi
      subst hi
      exact ⟨ho, fun h9 => by rw [hl'] at h9; cases h9⟩
    · cases hi
  · rename_i hki
    obtain ⟨h5, h6⟩ := h3 i f hi
    refine ⟨h5, fun hfl => ?_⟩
    have h7 := h6 hfl
    obtain ⟨_, hb1, hb2, hb3⟩ := fst_ok (key := f.key) hf (hsh_lt f.key.data.toList)
    rw [h7] at hb3
    have hne : fstS ix es f.key (hsh f.key.data.toList) ≠ S := by
      intro h8; rw [h8, ha3] at hb3; injection hb3 with hb3; omega
    have hT : fstT (ix.set S (-2)) (es.set k e') f.key (hsh f.key.data.toList) = fstT ix es f.key (hsh f.key.data.toList) := by
      refine fst_eq (fstT_lt _ _ _ _) ?_ fun t ht => ?_
      · rw [hlen]; exact (same f.key _ hne).trans hb1
      · rw [hlen]
        by_cases h8 : (pr ix.length (hsh f.key.data.toList) t).1 = S
        · rw [h8]; exact dead _
        · rw [same _ _ h8]; exact hb2 t ht
    have hSe : fstS (ix.set S (-2)) (es.set k e') f.key (hsh f.key.data.toList) = fstS ix es f.key (hsh f.key.data.toList) := by
      unfold fstS; rw [hT, hlen]
    unfold plc
    rw [hSe, List.getElem?_set, if_neg (fun h => hne h.symm), hb3]; rfl
theorem lt_of_ent {es : List Ent} {k : Nat} {e : Ent} (h : es[k]? = some e) : k < es.length := by
  rcases Nat.lt_or_ge k es.length with h2 | h2
  · exact h2
  · rw [List.getElem?_eq_none h2] at h; cases h
theorem endB_val {ix : List Int} {es : List Ent} {e : Ent} {k : Nat} (he : es[k]? = some e) (v : Int) (key : ByteArray) (s : Nat) : endB ix (es.set k { e with val := v }) key s = endB ix es key s := by
  unfold endB
  cases ix[s]? with
  | none => rfl
  | some n =>
    simp only
    by_cases h1 : k = n.toNat
    · rw [← h1, List.getElem?_set, if_pos rfl, if_pos (lt_of_ent he), he]
    · rw [List.getElem?_set, if_neg h1]
theorem fstT_val {ix : List Int} {es : List Ent} {e : Ent} {k : Nat} (he : es[k]? = some e) (v : Int) (key : ByteArray) (hs : Nat) : fstT ix (es.set k { e with val := v }) key hs = fstT ix es key hs := by
  unfold fstT
  congr 2
  funext t
  exact endB_val he v key _
theorem plc_val {ix : List Int} {es : List Ent} {e : Ent} {k : Nat} (he : es[k]? = some e) (v : Int) (key : ByteArray) (hs : Nat) : plc ix (es.set k { e with val := v }) key hs = plc ix es key hs := by
  unfold plc fstS
  rw [fstT_val he]
theorem liveN_val {es : List Ent} {e : Ent} {k : Nat} (he : es[k]? = some e) (v : Int) : liveN (es.set k { e with val := v }) = liveN es := by
  have hk : k < es.length := lt_of_ent he
  unfold liveN
  rw [← List.countP_eq_length_filter, ← List.countP_eq_length_filter, List.countP_set hk]
  have hv : es[k] = e := by rw [List.getElem?_eq_getElem hk] at he; injection he
  rw [hv]
  cases hl : e.live with
  | false => simp
  | true =>
    have hp : 0 < es.countP (·.live) := List.countP_pos_iff.2 ⟨e, List.mem_of_getElem? he, hl⟩
    simp; omega
theorem DOk.value {ix : List Int} {es : List Ent} {e : Ent} {k : Nat} (h : DOk ix es) (he : es[k]? = some e) (hl : e.live = true) (v : Int) (hv : okV v = true) : DOk ix (es.set k { e with val := v }) := by
  obtain ⟨⟨f1, f2, f3, f4, f5, f6⟩, h2, h3⟩ := h
  have hk : k < es.length := lt_of_ent he
  refine ⟨⟨f1, by rw [List.length_set]; exact f2, ?_, f4, ?_, by rw [liveN_val he, List.length_set]; exact f6⟩, by rw [liveN_val he]; exact h2, ?_⟩
  · intro s n hs; rw [List.length_set]; exact f3 s n hs
  · intro j f hj
    rw [List.getElem?_set] at hj
    by_cases hkj : k = j
    · rw [if_pos hkj, if_pos hk] at hj
      injection hj with hj
      subst hj; subst hkj
      exact f5 k e he
    · rw [if_neg hkj] at hj
      exact f5 j f hj
  · intro j f hj
    unfold RowOk; rw [plc_val he]
    rw [List.getElem?_set] at hj
    by_cases hkj : k = j
    · rw [if_pos hkj, if_pos hk] at hj
      injection hj with hj
      subst hj; subst hkj
      obtain ⟨a, b⟩ := h3 k e he
      refine ⟨?_, b⟩
      unfold entOk at a ⊢
      rw [hl] at a
      simp only [hl, if_true, Bool.and_eq_true] at a ⊢
      exact ⟨a.1, hv⟩
    · rw [if_neg hkj] at hj
      exact h3 j f hj
/-- The cells of a list of entries. -/
def entC (es : List Ent) : List Value := es.flatMap fun e => e.row.toList
theorem entC_len (es : List Ent) : (entC es).length = es.length * 4 := by
  unfold entC
  induction es with
  | nil => rfl
  | cons e es ih => rw [List.flatMap_cons, List.length_append, ih]; simp [Ent.row]; omega
theorem entC_at {es : List Ent} : ∀ {q r : Nat} {u : Value}, r < 4 → (entC es)[q * 4 + r]? = some u → ∃ e, es[q]? = some e ∧ e.row.toList[r]? = some u := by
  induction es with
  | nil => intro q r u _ h; cases h
  | cons e es ih =>
    intro q r u hr h
    unfold entC at h
    rw [List.flatMap_cons, List.getElem?_append] at h
    cases q with
    | zero =>
      rw [if_pos (by simp [Ent.row]; omega)] at h
      exact ⟨e, rfl, by simpa using h⟩
    | succ q =>
      rw [if_neg (by simp [Ent.row]; omega)] at h
      have e1 : (q + 1) * 4 + r - e.row.toList.length = q * 4 + r := by simp [Ent.row]; omega
      rw [e1] at h
      obtain ⟨f, hf1, hf2⟩ := ih hr h
      exact ⟨f, by simpa using hf1, hf2⟩
theorem entC_cell {w : World} {g : Nat} {es : List Ent} (h : En w g es) {j : Nat} {u : Value} (hj : (entC es)[j]? = some u) : w.cell? ⟨g, j, none⟩ = some u := by
  have e : j = j / 4 * 4 + j % 4 := by omega
  have hr : j % 4 < 4 := Nat.mod_lt _ (by omega)
  rw [e] at hj ⊢
  generalize j / 4 = q at *
  generalize j % 4 = r at *
  obtain ⟨f, h1, h2⟩ := entC_at hr hj
  obtain ⟨c0, c1, c2, c3⟩ := h.2 q f h1
  have : r = 0 ∨ r = 1 ∨ r = 2 ∨ r = 3 := by omega
  rcases this with rfl | rfl | rfl | rfl
  · rw [Nat.add_zero, c0]; simpa [Ent.row] using h2
  · rw [c1]; simpa [Ent.row] using h2
  · rw [c2]; simpa [Ent.row] using h2
  · rw [c3]; simpa [Ent.row] using h2
theorem entC_one {es : List Ent} : ∀ u ∈ entC es, u.oneCell' = true := by
  intro u hu
  unfold entC at hu
  rw [List.mem_flatMap] at hu
  obtain ⟨e, _, h⟩ := hu
  simp [Ent.row] at h
  rcases h with rfl | rfl | rfl | rfl <;> rfl
set_option maxHeartbeats 2000000 in
set_option maxRecDepth 100000 in
theorem cloneE_any (es : List Ent) (g c : Nat) (w : World) (h : En w g es) (hl : es.length ≤ 1048576) :
    Calls Try.prog 92 #[.slice (some ⟨g, 0, none⟩) es.length c] w fun e w' => ∃ v', e = .returned v' ∧ w'.ownsRow w.heap.size 57 4 v' es.length (entC es) ∧ v' ≠ .slice none 0 0 ∧ Below w.heap.size w w' := by
  obtain ⟨i0, hi, hz0, hz1, hz2⟩ := info_of (show (Try.prog.info? 57).map (fun i => (i.zero, i.size, i.bytes)) = some (some (.agg #[.string ⟨#[]⟩, .int .i64 0, .int .i64 0, .bool false]), 4, 40) from by kernel_rfl)
  have q25 : ∀ (w : World) (a : Option Addr) (n c n' c' : Nat), (binOp .eql 24 (.slice a n c) (.slice none n' c')).run Try.prog w = .ok (.bool a.isNone) w := fun w a n c n' c' => Lib.run_eql_slice_nil w _ _ a n c n' c' Try.underlying24
  have HC := Lib.hid (fun (j : Nat) (u : Value) (hj : (entC es)[j]? = some u) => entC_cell h hj)
  have HL := Lib.hid (entC_len es)
  have H1 := Lib.hid (entC_one (es := es))
  clear h
  generalize entC es = cs at *
  generalize es.length = n at *
  go_enter Try.func92, Try.ntmps92
  go_wp2_with (at_builtin; refine wpList_append_own _ rfl _ _ 24 rfl w.heap.size 57 i0 (.agg #[.string ⟨#[]⟩, .int .i64 0, .int .i64 0, .bool false]) 4 40 Try.underlying24 hi hz0 hz1 hz2 rfl (by decide) _ _ _ rfl (World.ownsRow_made w #[] 0 (Nat.le_refl _) (Nat.zero_le _) rfl) ⟨g, 0, none⟩ n c cs rfl ?qc1 ?qc2 ?qc3 ?qc4 ?qc5 ?qc6 ?_)
  case qc1 => exact HL.out
  case qc2 =>
    intro j u hj
    rw [addr_add, Nat.zero_add]
    exact Lib.cell?_alloc_some _ (HC.out j u hj)
  case qc3 => exact H1.out
  case qc4 => unfold maxLen; omega
  case qc5 => omega
  case qc6 => simp
  intro v' w1 hown hgrow hnil
  go_wp2
  go_ret
  refine ⟨v', rfl, by simpa using hown, ?_, ?_⟩
  · first | exact hnil | (intro e; exact absurd (hnil.1 e).1 (by simp))
  · exact ((Below.refl _ w).alloc (Nat.le_refl _) _).grown hgrow (by simp) (by intro k hk; simp [Value.ownBlock] at hk; omega)
set_option maxHeartbeats 2000000 in
theorem cloneE_nil (n c : Nat) (w : World) : Calls Try.prog 92 #[.slice none n c] w fun e w' => e = .returned (.slice none 0 0) ∧ w' = w := by
  have q25 : ∀ (w : World) (a : Option Addr) (n c n' c' : Nat), (binOp .eql 24 (.slice a n c) (.slice none n' c')).run Try.prog w = .ok (.bool a.isNone) w := fun w a n c n' c' => Lib.run_eql_slice_nil w _ _ a n c n' c' Try.underlying24
  go_enter Try.func92, Try.ntmps92
  go_wp2
  go_ret
  exact ⟨rfl, rfl⟩
theorem iv_cell {w : World} {g : Nat} {is : List Int} (h : Ci w g is) {j : Nat} {u : Value} (hj : (is.map (Value.int .i64))[j]? = some u) : w.cell? ⟨g, j, none⟩ = some u := by
  rw [List.getElem?_map] at hj
  cases hi : is[j]? with
  | none => rw [hi] at hj; cases hj
  | some i => rw [hi] at hj; injection hj with hj; subst hj; exact h j i hi
set_option maxHeartbeats 2000000 in
set_option maxRecDepth 100000 in
theorem cloneI_any (is : List Int) (g c : Nat) (w : World) (h : Ci w g is) (hl : is.length ≤ 1048576) :
    Calls Try.prog 91 #[.slice (some ⟨g, 0, none⟩) is.length c] w fun e w' => ∃ v', e = .returned v' ∧ w'.ownsRow w.heap.size 3 1 v' is.length (is.map (Value.int .i64)) ∧ v' ≠ .slice none 0 0 ∧ Below w.heap.size w w' := by
  obtain ⟨i0, hi, hz0, hz1, hz2⟩ := info_of (show (Try.prog.info? 3).map (fun i => (i.zero, i.size, i.bytes)) = some (some (.int .i64 0), 1, 8) from by kernel_rfl)
  have q25 : ∀ (w : World) (a : Option Addr) (n c n' c' : Nat), (binOp .eql 23 (.slice a n c) (.slice none n' c')).run Try.prog w = .ok (.bool a.isNone) w := fun w a n c n' c' => Lib.run_eql_slice_nil w _ _ a n c n' c' Try.underlying23
  have HC := Lib.hid (fun (j : Nat) (u : Value) (hj : (is.map (Value.int .i64))[j]? = some u) => iv_cell h hj)
  have HL := Lib.hid (show (is.map (Value.int .i64)).length = is.length by simp)
  have H1 := Lib.hid (show ∀ u ∈ is.map (Value.int .i64), u.oneCell' = true by intro u hu; rw [List.mem_map] at hu; obtain ⟨i, _, rfl⟩ := hu; rfl)
  clear h
  generalize is.map (Value.int .i64) = cs at *
  generalize is.length = n at *
  go_enter Try.func91, Try.ntmps91
  go_wp2_with (at_builtin; refine wpList_append_own _ rfl _ _ 23 rfl w.heap.size 3 i0 (.int .i64 0) 1 8 Try.underlying23 hi hz0 hz1 hz2 rfl (by decide) _ _ _ rfl (World.ownsRow_made w #[] 0 (Nat.le_refl _) (Nat.zero_le _) rfl) ⟨g, 0, none⟩ n c cs rfl ?qc1 ?qc2 ?qc3 ?qc4 ?qc5 ?qc6 ?_)
  case qc1 => rw [Nat.mul_one]; exact HL.out
  case qc2 =>
    intro j u hj
    rw [addr_add, Nat.zero_add]
    exact Lib.cell?_alloc_some _ (HC.out j u hj)
  case qc3 => exact H1.out
  case qc4 => unfold maxLen; omega
  case qc5 => omega
  case qc6 => simp
  intro v' w1 hown hgrow hnil
  go_wp2
  go_ret
  refine ⟨v', rfl, by simpa using hown, ?_, ?_⟩
  · first | exact hnil | (intro e; exact absurd (hnil.1 e).1 (by simp))
  · exact ((Below.refl _ w).alloc (Nat.le_refl _) _).grown hgrow (by simp) (by intro k hk; simp [Value.ownBlock] at hk; omega)
/-- A list of entries that a call made. -/
def OwE (w : World) (b : Nat) (v : Value) (es : List Ent) : Prop := w.ownsRow b 57 4 v es.length (entC es)
theorem entC_nil : entC [] = [] := rfl
theorem entC_app (es fs : List Ent) : entC (es ++ fs) = entC es ++ entC fs := by unfold entC; rw [List.flatMap_append]
theorem entC_cons (e : Ent) (es : List Ent) : entC (e :: es) = e.row.toList ++ entC es := by unfold entC; rw [List.flatMap_cons]
theorem row_len (e : Ent) : e.row.toList.length = 4 := rfl
theorem entC_get {es : List Ent} : ∀ {k : Nat} {e : Ent} {r : Nat}, es[k]? = some e → r < 4 → (entC es)[k * 4 + r]? = e.row.toList[r]? := by
  induction es with
  | nil => intro k e r h; cases h
  | cons f es ih =>
    intro k e r h hr
    rw [entC_cons, List.getElem?_append]
    cases k with
    | zero =>
      have : f = e := by simpa using h
      subst this
      rw [if_pos (by rw [row_len]; omega), Nat.zero_mul, Nat.zero_add]
    | succ k =>
      rw [if_neg (by rw [row_len]; omega)]
      have e1 : (k + 1) * 4 + r - f.row.toList.length = k * 4 + r := by rw [row_len]; omega
      rw [e1]
      exact ih (by simpa using h) hr
theorem entC_set {es : List Ent} : ∀ {k : Nat} {e : Ent}, es[k]? = some e → ∀ (e' : Ent) (r : Nat) (u : Value), r < 4 → e.row.toList.set r u = e'.row.toList → (entC es).set (k * 4 + r) u = entC (es.set k e') := by
  induction es with
  | nil => intro k e h; cases h
  | cons f es ih =>
    intro k e h e' r u hr he
    rw [entC_cons]
    cases k with
    | zero =>
      have : f = e := by simpa using h
      subst this
      rw [Nat.zero_mul, Nat.zero_add, List.set_append_left _ _ (by rw [row_len]; omega), he, List.set_cons_zero, entC_cons]
    | succ k =>
      rw [List.set_append_right _ _ (by rw [row_len]; omega), row_len]
      have e1 : (k + 1) * 4 + r - 4 = k * 4 + r := by omega
      rw [e1, ih (by simpa using h) e' r u hr he, List.set_cons_succ, entC_cons]
theorem OwE.nil (w : World) (b : Nat) : OwE w b (.slice none 0 0) [] := w.ownsRow_nil b _ 4
theorem OwE.form {w : World} {b : Nat} {v : Value} {es : List Ent} (h : OwE w b v es) : (v = .slice none 0 0 ∧ es = []) ∨ ∃ g cap, v = .slice (some ⟨g, 0, none⟩) es.length cap ∧ b ≤ g ∧ g < w.heap.size ∧ es.length ≤ cap ∧ En w g es := by
  have hlt := World.ownsRow.lt h
  rcases h.2 with ⟨h1, h2⟩ | ⟨g, cap, cur, hv, hb, hh, hn, _⟩
  · exact .inl ⟨h1, List.eq_nil_of_length_eq_zero h2⟩
  · subst hv
    refine .inr ⟨g, cap, rfl, hb, (hlt g rfl).2, hn, (hlt g rfl).2, fun j e hj => ?_⟩
    have hj2 := lt_of_ent hj
    refine ⟨?_, ?_, ?_, ?_⟩
    · rw [World.ownsRow.cellAt h _ (by omega)]; exact entC_get (r := 0) hj (by omega)
    · rw [World.ownsRow.cellAt h _ (by omega)]; exact entC_get (r := 1) hj (by omega)
    · rw [World.ownsRow.cellAt h _ (by omega)]; exact entC_get (r := 2) hj (by omega)
    · rw [World.ownsRow.cellAt h _ (by omega)]; exact entC_get (r := 3) hj (by omega)
theorem OwE.re {w : World} {b : Nat} {a : Option Addr} {n c : Nat} {es : List Ent} (h : OwE w b (.slice a n c) es) : n = es.length ∧ Re w a es := by
  rcases h.form with ⟨h1, h2⟩ | ⟨g, cap, h1, _, _, _, h2⟩
  · injection h1 with h1 h3 _
    subst h2
    exact ⟨h3, .inl ⟨h1, rfl⟩⟩
  · injection h1 with h1 h3 _
    exact ⟨h3, .inr ⟨g, h1, h2⟩⟩
theorem OwE.lt {w : World} {b : Nat} {v : Value} {es : List Ent} (h : OwE w b v es) : ∀ k, v.ownBlock = some k → b ≤ k ∧ k < w.heap.size := World.ownsRow.lt h
theorem OwE.below {w w' : World} {b : Nat} {v : Value} {es : List Ent} (h : OwE w b v es) (hb : Below w.heap.size w w') : OwE w' b v es :=
  World.ownsRow.kept (row := none) h (below_grown hb) (by cases hv : v.ownBlock with | none => exact .inl rfl | some q => exact .inr (by simp))
theorem OwE.wide {w : World} {b b' : Nat} {v : Value} {es : List Ent} (h : OwE w b v es) (hb : b' ≤ b) : OwE w b' v es := by
  obtain ⟨h1, h2⟩ := h
  refine ⟨h1, ?_⟩
  rcases h2 with h2 | ⟨g, cap, cur, hv, hg, rest⟩
  · exact .inl h2
  · exact .inr ⟨g, cap, cur, hv, Nat.le_trans hb hg, rest⟩
theorem OwE.setOff {w : World} {b k i : Nat} {v u : Value} {es : List Ent} (h : OwE w b v es) (hne : v.ownBlock ≠ some k) : OwE (w.setCell ⟨k, i, none⟩ u) b v es := by
  obtain ⟨h1, h2⟩ := h
  refine ⟨h1, ?_⟩
  rcases h2 with h2 | ⟨g', cap', cur, hv, hb1, hh, rest⟩
  · exact .inl h2
  · subst hv
    exact .inr ⟨_, _, cur, rfl, hb1, (heap_setCell_other w ⟨k, i, none⟩ _ u (fun e => hne (by rw [e]; rfl))).trans hh, rest⟩
theorem OwE.cellsAt {w : World} {b g n cap k : Nat} {es : List Ent} {e : Ent} (h : OwE w b (.slice (some ⟨g, 0, none⟩) n cap) es) (he : es[k]? = some e) : w.cell? ⟨g, k * 4, none⟩ = some (.string e.key) ∧ w.cell? ⟨g, k * 4 + 1, none⟩ = some (.int .i64 e.hash) ∧ w.cell? ⟨g, k * 4 + 2, none⟩ = some (.int .i64 e.val) ∧ w.cell? ⟨g, k * 4 + 3, none⟩ = some (.bool e.live) := by
  rcases h.form with ⟨h1, _⟩ | ⟨g', cap', h1, _, _, _, h2⟩
  · cases h1
  · injection h1 with h1 _ _
    injection h1 with h1
    injection h1 with h1
    subst h1
    exact h2.2 k e he
theorem OwE.free {w : World} {b g n cap : Nat} {es : List Ent} (h : OwE w b (.slice (some ⟨g, 0, none⟩) n cap) es) (j : Nat) : w.frozen? ⟨g, j, none⟩ = false := by
  have hn := h.re.1
  subst hn
  exact World.ownsRow.frozenAt h j
theorem OwE.stored {w : World} {b g n cap k r : Nat} {es : List Ent} {e e' : Ent} {u : Value} (h : OwE w b (.slice (some ⟨g, 0, none⟩) n cap) es) (he : es[k]? = some e) (hr : r < 4) (hu : e.row.toList.set r u = e'.row.toList) : OwE (w.setCell ⟨g, k * 4 + r, none⟩ u) b (.slice (some ⟨g, 0, none⟩) n cap) (es.set k e') := by
  have hn := h.re.1
  subst hn
  have h1 := (World.ownsRow.stored h (k * 4 + r) u).1
  rw [entC_set he e' r u hr hu] at h1
  unfold OwE
  rw [List.length_set]
  exact h1
end Go.Proofs.Ytibglmcpbbikdaa
