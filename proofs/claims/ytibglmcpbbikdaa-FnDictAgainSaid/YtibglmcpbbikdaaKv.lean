/- Dictionaries as rows of keys and values: plain facts on getting, setting, dropping, packing and comparing. -/
import Derived.Test.YtibglmcpbbikdaaLaO
import Derived.Test.YtibglmcpbbikdaaLaG
import Derived.Test.YtibglmcpbbikdaaKys
namespace Go.Proofs.Ytibglmcpbbikdaa
open Go.RowKit
/-- Keys and values of those alive. -/
def kv (es : List Ent) : List (ByteArray × Int) := (es.filter (·.live)).map fun e => (e.key, e.val)
theorem kv_len (es : List Ent) : (kv es).length = liveN es := by simp [kv, liveN]
theorem ky_len (es : List Ent) : (kyL es).length = liveN es := by simp [kyL, liveN]
theorem kv_ky (es : List Ent) : (kv es).map (·.1) = kyL es := by simp [kv, kyL, Function.comp_def]
theorem kv_mem {es : List Ent} {key : ByteArray} {v : Int} : (key, v) ∈ kv es ↔ ∃ (k : Nat) (e : Ent), es[k]? = some e ∧ e.live = true ∧ e.key = key ∧ e.val = v := by
  unfold kv
  simp only [List.mem_map, List.mem_filter, Prod.mk.injEq]
  constructor
  · rintro ⟨e, ⟨hm, hl⟩, h1, h2⟩
    obtain ⟨k, hk⟩ := List.mem_iff_getElem?.1 hm
    exact ⟨k, e, hk, hl, h1, h2⟩
  · rintro ⟨k, e, he, hl, h1, h2⟩
    exact ⟨e, ⟨List.mem_of_getElem? he, hl⟩, h1, h2⟩
theorem ky_mem {es : List Ent} {key : ByteArray} : key ∈ kyL es ↔ ∃ (k : Nat) (e : Ent), es[k]? = some e ∧ e.live = true ∧ e.key = key := by
  unfold kyL
  simp only [List.mem_map, List.mem_filter]
  constructor
  · rintro ⟨e, ⟨hm, hl⟩, h1⟩
    obtain ⟨k, hk⟩ := List.mem_iff_getElem?.1 hm
    exact ⟨k, e, hk, hl, h1⟩
  · rintro ⟨k, e, he, hl, h1⟩
    exact ⟨e, ⟨List.mem_of_getElem? he, hl⟩, h1⟩
theorem ky_of_kv {es : List Ent} {key : ByteArray} {v : Int} (h : (key, v) ∈ kv es) : key ∈ kyL es := by
  obtain ⟨k, e, he, hl, h1, _⟩ := kv_mem.1 h
  exact ky_mem.2 ⟨k, e, he, hl, h1⟩
theorem kv_of_ky {es : List Ent} {key : ByteArray} (h : key ∈ kyL es) : ∃ v, (key, v) ∈ kv es := by
  obtain ⟨k, e, he, hl, h1⟩ := ky_mem.1 h
  exact ⟨e.val, kv_mem.2 ⟨k, e, he, hl, h1, rfl⟩⟩
theorem once_nodup {es : List Ent} (h : Once es) : (kyL es).Nodup := by
  have hp : es.Pairwise (fun e f => e.live = true → f.live = true → e.key ≠ f.key) := by
    rw [List.pairwise_iff_getElem]
    intro i j hi hj hij h1 h2 h3
    have := h i j es[i] es[j] (List.getElem?_eq_getElem hi) (List.getElem?_eq_getElem hj) h1 h2 h3
    omega
  unfold kyL List.Nodup
  rw [List.pairwise_map]
  refine List.Pairwise.imp_of_mem ?_ (hp.filter (·.live))
  intro a b ha hb hab
  exact hab (List.mem_filter.1 ha).2 (List.mem_filter.1 hb).2
theorem kv_nodup {es : List Ent} (h : Once es) : (kv es).Nodup := by
  have h1 := once_nodup h
  rw [← kv_ky] at h1
  unfold List.Nodup at h1 ⊢
  rw [List.pairwise_map] at h1
  exact h1.imp fun hab he => hab (by rw [he])
theorem sub_back {α : Type} : ∀ {l m : List α}, l.Nodup → (∀ a ∈ l, a ∈ m) → m.length ≤ l.length → ∀ a ∈ m, a ∈ l
  | [], m, _, _, hl, a, ha => by
    have : m = [] := List.length_eq_zero_iff.1 (by simpa using hl)
    rw [this] at ha; cases ha
  | b :: l, m, hn, hs, hl, a, ha => by
    rw [List.nodup_cons] at hn
    obtain ⟨s, t, rfl⟩ := List.append_of_mem (hs b List.mem_cons_self)
    have ih := sub_back (l := l) (m := s ++ t) hn.2 (fun c hc => by
      have h1 := hs c (List.mem_cons_of_mem _ hc)
      have h2 : c ≠ b := by rintro rfl; exact hn.1 hc
      simp only [List.mem_append, List.mem_cons] at h1 ⊢
      rcases h1 with h1 | h1 | h1
      · exact .inl h1
      · exact absurd h1 h2
      · exact .inr h1) (by simp only [List.length_append, List.length_cons] at hl ⊢; omega)
    simp only [List.mem_append, List.mem_cons] at ha
    rcases ha with h1 | h1 | h1
    · exact List.mem_cons_of_mem _ (ih a (List.mem_append.2 (.inl h1)))
    · rw [h1]; exact List.mem_cons_self
    · exact List.mem_cons_of_mem _ (ih a (List.mem_append.2 (.inr h1)))
theorem plc_back {ix : List Int} {es : List Ent} (h : DOk ix es) (key : ByteArray) : plc ix es key (hk key) = -1 ∨ ∃ (k : Nat) (e : Ent), plc ix es key (hk key) = (k : Int) ∧ es[k]? = some e ∧ e.key = key ∧ e.live = true := by
  rcases plc_is (key := key) h.1 (hsh_lt key.data.toList) with h5 | ⟨k, hp, hlt, hkey⟩
  · exact .inl h5
  · refine .inr ⟨k, es[k], hp, List.getElem?_eq_getElem hlt, hkey, ?_⟩
    obtain ⟨_, _, _, h4⟩ := fst_ok (key := key) h.1 (hsh_lt key.data.toList)
    rw [hp] at h4
    rw [h.1.2.2.2.2.1 k es[k] (List.getElem?_eq_getElem hlt)]
    exact decide_eq_true (List.mem_of_getElem? h4)
theorem plc_live {ix : List Int} {es : List Ent} (h : DOk ix es) {k : Nat} {e : Ent} (he : es[k]? = some e) (hl : e.live = true) : plc ix es e.key (hk e.key) = (k : Int) := (h.2.2 k e he).2 hl
theorem plc_none {ix : List Int} {es : List Ent} (h : DOk ix es) (key : ByteArray) : plc ix es key (hk key) = -1 ↔ key ∉ kyL es := by
  constructor
  · intro hp hm
    obtain ⟨k, e, he, hl, rfl⟩ := ky_mem.1 hm
    have := plc_live h he hl
    omega
  · intro hn
    rcases plc_back h key with h5 | ⟨k, e, _, he, hk, hl⟩
    · exact h5
    · exact absurd (ky_mem.2 ⟨k, e, he, hl, hk⟩) hn
theorem key_ok {ix : List Int} {es : List Ent} {key : ByteArray} (h : DOk ix es) (hm : key ∈ kyL es) : keyB key = true := by
  obtain ⟨k, e, he, hl, rfl⟩ := ky_mem.1 hm
  have := (h.2.2 k e he).1
  unfold entOk at this
  rw [if_pos hl] at this
  simp only [Bool.and_eq_true] at this
  exact this.1.1
theorem val_ok {ix : List Int} {es : List Ent} {key : ByteArray} {v : Int} (h : DOk ix es) (hm : (key, v) ∈ kv es) : okV v = true := by
  obtain ⟨k, e, he, hl, rfl, rfl⟩ := kv_mem.1 hm
  have := (h.2.2 k e he).1
  unfold entOk at this
  rw [if_pos hl] at this
  simp only [Bool.and_eq_true] at this
  exact this.2
theorem kv_one {ix : List Int} {es : List Ent} {key : ByteArray} {u v : Int} (h : DOk ix es) (h1 : (key, u) ∈ kv es) (h2 : (key, v) ∈ kv es) : u = v := by
  obtain ⟨k, e, he, hl, rfl, rfl⟩ := kv_mem.1 h1
  obtain ⟨j, f, hf, hl2, h3, rfl⟩ := kv_mem.1 h2
  have := once_of h k j e f he hf hl hl2 h3.symm
  subst this
  rw [he] at hf; injection hf with hf; rw [hf]
theorem get_not {ix : List Int} {es : List Ent} {key : ByteArray} (h : DOk ix es) (hn : key ∉ kyL es) : getV ix es key = (0, false) := by
  cases hkb : keyB key with
  | false => exact getV_no (by rw [hkb]; rfl)
  | true =>
    have hp := (plc_none h key).2 hn
    unfold hk at hp
    rw [getV_yes hkb (dok_yes h), hp, if_pos (by decide)]
theorem get_mem {ix : List Int} {es : List Ent} {key : ByteArray} {v : Int} (h : DOk ix es) (hm : (key, v) ∈ kv es) : getV ix es key = (v, true) := by
  have hkb := key_ok h (ky_of_kv hm)
  obtain ⟨k, e, he, hl, rfl, rfl⟩ := kv_mem.1 hm
  have hp := plc_live h he hl
  unfold hk at hp
  rw [getV_yes hkb (dok_yes h), hp, if_neg (by omega), valAt_is he]
theorem get_yes {ix : List Int} {es : List Ent} {key : ByteArray} {v : Int} (h : getV ix es key = (v, true)) : DOk ix es ∧ keyB key = true ∧ (key, v) ∈ kv es := by
  cases hb : (keyB key && dokB ix es) with
  | false => rw [getV_no hb] at h; cases h
  | true =>
    rw [Bool.and_eq_true] at hb
    have hd := dok_of hb.2
    by_cases hm : key ∈ kyL es
    · obtain ⟨u, hu⟩ := kv_of_ky hm
      rw [get_mem hd hu] at h
      injection h with h _
      subst h
      exact ⟨hd, hb.1, hu⟩
    · rw [get_not hd hm] at h; cases h
theorem get_false {ix : List Int} {es : List Ent} {key : ByteArray} (h : (getV ix es key).2 = false) (hd : DOk ix es) : key ∉ kyL es := fun hm => by
  obtain ⟨u, hu⟩ := kv_of_ky hm
  rw [get_mem hd hu] at h; cases h
theorem same_of {ixA ixB : List Int} {esA esB : List Ent} (hA : DOk ixA esA) (hB : DOk ixB esB) (hn : liveN esA = liveN esB) (hs : ∀ k v, (k, v) ∈ kv esA → (k, v) ∈ kv esB) : sameB ixA esA ixB esB = true := by
  refine same_y (dok_yes hA) (dok_yes hB) hn ?_
  rw [List.all_eq_true]
  intro e he
  unfold smE
  cases hl : e.live with
  | false => rfl
  | true =>
    obtain ⟨j, hj⟩ := List.mem_iff_getElem?.1 he
    obtain ⟨k, f, hf, hl2, h3, h4⟩ := kv_mem.1 (hs e.key e.val (kv_mem.2 ⟨j, e, hj, hl, rfl, rfl⟩))
    have hp := plc_live hB hf hl2
    rw [h3] at hp
    unfold hk at hp
    rw [hp, valAt_is hf, h4]
    simp
theorem same_to {ixA ixB : List Int} {esA esB : List Ent} (h : sameB ixA esA ixB esB = true) : DOk ixA esA ∧ DOk ixB esB ∧ liveN esA = liveN esB ∧ ∀ k v, (k, v) ∈ kv esA → (k, v) ∈ kv esB := by
  unfold sameB at h
  simp only [Bool.and_eq_true] at h
  obtain ⟨h1, h2, h3, h4⟩ := h
  have hB := dok_of h2
  refine ⟨dok_of h1, hB, eq_of_beq h3, fun k v hm => ?_⟩
  obtain ⟨j, e, hj, hl, rfl, rfl⟩ := kv_mem.1 hm
  have h5 := List.all_eq_true.1 h4 e (List.mem_of_getElem? hj)
  unfold smE at h5
  rw [hl] at h5
  simp only [Bool.not_true, Bool.false_or, Bool.and_eq_true, decide_eq_true_eq] at h5
  obtain ⟨h6, h7⟩ := h5
  rcases plc_back hB e.key with h8 | ⟨i, f, h8, hf, h9, hl2⟩
  · unfold hk at h8; omega
  · unfold hk at h8
    rw [h8, valAt_is hf] at h7
    exact kv_mem.2 ⟨i, f, hf, hl2, h9, eq_of_beq h7⟩
theorem same_no {ixA ixB : List Int} {esA esB : List Ent} (h : ¬ DOk ixB esB) : sameB ixA esA ixB esB = false := same_b (dok_no h)
theorem same_turn {ixA ixB : List Int} {esA esB : List Ent} (h : sameB ixA esA ixB esB = true) : sameB ixB esB ixA esA = true := by
  obtain ⟨hA, hB, hn, hs⟩ := same_to h
  refine same_of hB hA hn.symm fun k v hm => ?_
  exact sub_back (kv_nodup (once_of hA)) (fun p hp => hs p.1 p.2 hp) (by rw [kv_len, kv_len]; omega) _ hm
theorem filter_live (es : List Ent) : (es.filter (·.live)).filter (·.live) = es.filter (·.live) := by simp [List.filter_filter]
theorem kyL_live (es : List Ent) : kyL (es.filter (·.live)) = kyL es := by unfold kyL; rw [filter_live]
theorem kv_live (es : List Ent) : kv (es.filter (·.live)) = kv es := by unfold kv; rw [filter_live]
theorem liveN_live (es : List Ent) : liveN (es.filter (·.live)) = liveN es := by unfold liveN; rw [filter_live]
theorem pkd_filt (c : Nat) (es : List Ent) : pkd c (es.filter (·.live)) = pkd c es := by
  unfold pkd
  generalize (List.replicate c (-1 : Int), ([] : List Ent)) = t
  induction es generalizing t with
  | nil => rfl
  | cons e es ih =>
    cases hl : e.live with
    | true => rw [List.filter_cons_of_pos hl]; exact ih _
    | false =>
      rw [List.filter_cons_of_neg (by simp [hl])]
      show _ = es.foldl pkStep (pkStep t e)
      have : pkStep t e = t := by unfold pkStep; rw [hl]; rfl
      rw [this]; exact ih t
theorem pkd_all {c : Nat} {ix : List Int} {es : List Ent} (h : DOk ix es) (hc : slotN c = true) (hr : liveN es ≤ 2 * c / 3) : DOk (pkd c es).1 (pkd c es).2 ∧ (pkd c es).1.length = c ∧ (pkd c es).2 = es.filter (·.live) := by
  have h1 := pkd_dok hc (once_of h) hr h.2.1 (fun i e he => (h.2.2 i e he).1) es.length (Nat.le_refl _)
  have h2 := pkd_ok hc (once_of h) hr es.length (Nat.le_refl _)
  rw [List.take_length] at h1 h2
  exact ⟨h1, h2.2⟩
theorem pack_ok {ix : List Int} {es : List Ent} (h : DOk ix es) : DOk (pkV ix es).1 (pkV ix es).2 ∧ (pkV ix es).2 = es.filter (·.live) := by
  unfold pkV
  rw [if_pos (dok_yes h)]
  obtain ⟨h1, _, h3⟩ := pkd_all h (slotN_sc (liveN es)) (by have := scN_room h.2.1; omega)
  exact ⟨h1, h3⟩
theorem pack_two {ix : List Int} {es : List Ent} (h : DOk ix es) : pkV (pkV ix es).1 (pkV ix es).2 = pkV ix es := by
  obtain ⟨h1, h2⟩ := pack_ok h
  unfold pkV at h1 ⊢
  rw [if_pos (dok_yes h)] at h1 ⊢
  rw [if_pos (dok_yes h1)]
  obtain ⟨_, _, h3⟩ := pkd_all h (slotN_sc (liveN es)) (by have := scN_room h.2.1; omega)
  rw [h3, liveN_live, pkd_filt]
theorem ent_new {key : ByteArray} {val : Int} (hkb : keyB key = true) (hv : okV val = true) : entOk ⟨key, (hk key : Int), val, true⟩ = true := by
  have hs : key.size ≤ 20 := by unfold keyB at hkb; simpa using hkb
  unfold entOk hashV hk
  simp [hkb, hv, hs]
theorem kv_put {es : List Ent} {key : ByteArray} {n val : Int} : kv (es ++ [⟨key, n, val, true⟩]) = kv es ++ [(key, val)] := by simp [kv, List.filter_append]
theorem ky_put {es : List Ent} {key : ByteArray} {n val : Int} : kyL (es ++ [⟨key, n, val, true⟩]) = kyL es ++ [key] := by simp [kyL, List.filter_append]
theorem set_new {ix : List Int} {es : List Ent} {key : ByteArray} {val : Int} (h : DOk ix es) (hkb : keyB key = true) (hv : okV val = true) (hn : key ∉ kyL es) (h40 : liveN es ≠ 40) :
    DOk (stV ix es key val).1.1 (stV ix es key val).1.2 ∧ (stV ix es key val).2 = true ∧ kv (stV ix es key val).1.2 = kv es ++ [(key, val)] ∧ kyL (stV ix es key val).1.2 = kyL es ++ [key] := by
  have hp := (plc_none h key).2 hn
  have hl40 := h.2.1
  have hroom := scN_room (k := liveN es + 1) (by omega)
  rw [stV_yes hkb hv (dok_yes h), hp, if_neg (by decide), if_neg h40]
  by_cases hf : es.length = 2 * ix.length / 3
  · rw [if_pos hf]
    obtain ⟨d1, d2, d3⟩ := pkd_all (c := scN (liveN es + 1)) h (slotN_sc _) (by omega)
    have hl3 : (pkd (scN (liveN es + 1)) es).2.length = liveN es := by rw [d3]; rfl
    have hlv : liveN (pkd (scN (liveN es + 1)) es).2 = liveN es := by rw [d3, liveN_live]
    have hp2 : plc (pkd (scN (liveN es + 1)) es).1 (pkd (scN (liveN es + 1)) es).2 key (hk key) = -1 := (plc_none d1 key).2 (by rw [d3, kyL_live]; exact hn)
    have hD := DOk.put (e := ⟨key, (hk key : Int), val, true⟩) d1 hp2 rfl (ent_new hkb hv) (by rw [hl3, d2]; omega) (by rw [hlv]; omega)
    refine ⟨hD, rfl, ?_, ?_⟩
    · show kv (_ ++ [_]) = _
      rw [kv_put, d3, kv_live]
    · show kyL (_ ++ [_]) = _
      rw [ky_put, d3, kyL_live]
  · rw [if_neg hf]
    have hfit := h.1.2.1
    have hD := DOk.put (e := ⟨key, (hk key : Int), val, true⟩) h hp rfl (ent_new hkb hv) (by omega) (by omega)
    refine ⟨hD, rfl, ?_, ?_⟩
    · show kv (_ ++ [_]) = _
      rw [kv_put]
    · show kyL (_ ++ [_]) = _
      rw [ky_put]
theorem ky_set {es : List Ent} {k : Nat} {e : Ent} (he : es[k]? = some e) (v : Int) : kyL (es.set k { e with val := v }) = kyL es := by
  induction es generalizing k with
  | nil => simp at he
  | cons a es ih =>
    cases k with
    | zero =>
      simp at he; subst he
      unfold kyL
      cases hl : a.live <;> simp [List.filter, hl]
    | succ k =>
      have h2 := ih (k := k) (by simpa using he)
      unfold kyL at h2 ⊢
      cases hl : a.live <;> simp [List.filter, hl, h2]
theorem set_old {ix : List Int} {es : List Ent} {key : ByteArray} {val : Int} (h : DOk ix es) (hv : okV val = true) (hm : key ∈ kyL es) :
    ∃ es', stV ix es key val = ((ix, es'), true) ∧ DOk ix es' ∧ kyL es' = kyL es ∧ es'.length = es.length ∧ ∀ k v, (k, v) ∈ kv es' ↔ (k = key ∧ v = val) ∨ (k ≠ key ∧ (k, v) ∈ kv es) := by
  have hkb := key_ok h hm
  obtain ⟨k, e, he, hl, rfl⟩ := ky_mem.1 hm
  have hp := plc_live h he hl
  have hlt := lt_of_ent he
  refine ⟨es.set k { e with val := val }, ?_, DOk.value h he hl val hv, ky_set he val, List.length_set, fun k' v' => ?_⟩
  · rw [stV_yes hkb hv (dok_yes h), hp, if_pos (by omega), Int.toNat_natCast]
    unfold valP
    rw [he]
  · rw [kv_mem]
    constructor
    · rintro ⟨j, f, hf, hl2, rfl, rfl⟩
      rw [List.getElem?_set] at hf
      by_cases hkj : k = j
      · rw [if_pos hkj, if_pos hlt] at hf
        injection hf with hf
        subst hf
        exact .inl ⟨rfl, rfl⟩
      · rw [if_neg hkj] at hf
        refine .inr ⟨fun h9 => hkj (once_of h k j e f he hf hl hl2 h9.symm), kv_mem.2 ⟨j, f, hf, hl2, rfl, rfl⟩⟩
    · rintro (⟨rfl, rfl⟩ | ⟨hne, hin⟩)
      · exact ⟨k, { e with val := v' }, by rw [List.getElem?_set, if_pos rfl, if_pos hlt], hl, rfl, rfl⟩
      · obtain ⟨j, f, hf, hl2, rfl, rfl⟩ := kv_mem.1 hin
        have hkj : k ≠ j := by
          rintro rfl
          rw [he] at hf; injection hf with hf
          exact hne (by rw [hf])
        exact ⟨j, f, by rw [List.getElem?_set, if_neg hkj]; exact hf, hl2, rfl, rfl⟩
theorem set_full {ix : List Int} {es : List Ent} {key : ByteArray} {val : Int} (h : DOk ix es) (hkb : keyB key = true) (hv : okV val = true) (hn : key ∉ kyL es) (h40 : liveN es = 40) : stV ix es key val = ((ix, es), false) := by
  have hp := (plc_none h key).2 hn
  rw [stV_yes hkb hv (dok_yes h), hp, if_neg (by decide), if_pos h40]
theorem set_ok {ix : List Int} {es : List Ent} {key : ByteArray} {val : Int} (h : DOk ix es) (hkb : keyB key = true) (hv : okV val = true) (hc : key ∈ kyL es ∨ liveN es ≠ 40) :
    DOk (stV ix es key val).1.1 (stV ix es key val).1.2 ∧ (stV ix es key val).2 = true ∧ (∀ k v, (k, v) ∈ kv (stV ix es key val).1.2 ↔ (k = key ∧ v = val) ∨ (k ≠ key ∧ (k, v) ∈ kv es)) ∧ (key ∈ kyL es → kyL (stV ix es key val).1.2 = kyL es ∧ (stV ix es key val).1.2.length = es.length) ∧ (key ∉ kyL es → kyL (stV ix es key val).1.2 = kyL es ++ [key]) := by
  by_cases hm : key ∈ kyL es
  · obtain ⟨es', h1, h2, h3, h4, h5⟩ := set_old h hv hm
    rw [h1]
    exact ⟨h2, rfl, h5, fun _ => ⟨h3, h4⟩, fun h9 => absurd hm h9⟩
  · obtain ⟨h1, h2, h3, h4⟩ := set_new h hkb hv hm (hc.resolve_left hm)
    refine ⟨h1, h2, fun k v => ?_, fun h9 => absurd h9 hm, fun _ => h4⟩
    rw [h3, List.mem_append, List.mem_singleton, Prod.mk.injEq]
    constructor
    · rintro (h9 | h9)
      · exact .inr ⟨fun h8 => hm (h8 ▸ ky_of_kv h9), h9⟩
      · exact .inl h9
    · rintro (h9 | h9)
      · exact .inr h9
      · exact .inl h9.2
theorem set_is {ix : List Int} {es : List Ent} {key : ByteArray} {val : Int} (h : (stV ix es key val).2 = true) : DOk ix es ∧ keyB key = true ∧ okV val = true ∧ (key ∈ kyL es ∨ liveN es ≠ 40) := by
  cases hb : (keyB key && (okV val && dokB ix es)) with
  | false => rw [stV_no hb] at h; cases h
  | true =>
    simp only [Bool.and_eq_true] at hb
    obtain ⟨h1, h2, h3⟩ := hb
    refine ⟨dok_of h3, h1, h2, ?_⟩
    by_cases hm : key ∈ kyL es
    · exact .inl hm
    · refine .inr fun h40 => ?_
      rw [set_full (dok_of h3) h1 h2 hm h40] at h
      cases h
theorem ky_drop {es : List Ent} {k : Nat} {e : Ent} (ho : Once es) (he : es[k]? = some e) (hl : e.live = true) : kyL (es.set k ze) = (kyL es).filter (fun x => !decide (x = e.key)) := by
  have hlt := lt_of_ent he
  have hek : es[k] = e := by rw [List.getElem?_eq_getElem hlt] at he; injection he
  have hes : es = es.take k ++ e :: es.drop (k + 1) := by rw [← hek, ← List.drop_eq_getElem_cons hlt, List.take_append_drop]
  have hset : es.set k ze = es.take k ++ ze :: es.drop (k + 1) := by rw [List.set_eq_take_append_cons_drop, if_pos hlt]
  have hn := once_nodup ho
  rw [hset]
  generalize es.take k = A at *
  generalize es.drop (k + 1) = B at *
  subst hes
  have e1 : kyL (A ++ e :: B) = kyL A ++ e.key :: kyL B := by simp [kyL, List.filter_append, hl]
  have e2 : kyL (A ++ ze :: B) = kyL A ++ kyL B := by simp [kyL, List.filter_append, ze]
  rw [e1] at hn ⊢
  rw [e2, List.filter_append]
  rw [List.nodup_append] at hn
  obtain ⟨_, hn2, hn3⟩ := hn
  rw [List.nodup_cons] at hn2
  have f1 : (kyL A).filter (fun x => !decide (x = e.key)) = kyL A := by
    rw [List.filter_eq_self]
    intro a ha
    have := hn3 a ha e.key List.mem_cons_self
    simp [this]
  have f2 : (e.key :: kyL B).filter (fun x => !decide (x = e.key)) = kyL B := by
    rw [List.filter_cons_of_neg (by simp), List.filter_eq_self]
    intro a ha
    have : a ≠ e.key := by rintro rfl; exact hn2.1 ha
    simp [this]
  rw [f1, f2]
theorem drop_ok {ix : List Int} {es : List Ent} {key : ByteArray} (h : DOk ix es) (hm : key ∈ kyL es) :
    DOk (drV ix es key).1.1 (drV ix es key).1.2 ∧ (drV ix es key).2 = true ∧ liveN (drV ix es key).1.2 + 1 = liveN es ∧ kyL (drV ix es key).1.2 = (kyL es).filter (fun x => !decide (x = key)) ∧ ∀ k v, (k, v) ∈ kv (drV ix es key).1.2 ↔ k ≠ key ∧ (k, v) ∈ kv es := by
  have hkb := key_ok h hm
  obtain ⟨k, e, he, hl, rfl⟩ := ky_mem.1 hm
  have hp := plc_live h he hl
  have hlt := lt_of_ent he
  have hD := DOk.drop (e' := ze) h he hl (by simp [entOk, zeroE, ze, ByteArray.toList_eq]) rfl
  unfold hk at hp hD
  rw [drV_yes hkb (dok_yes h), hp, if_neg (by omega), Int.toNat_natCast]
  refine ⟨hD, rfl, liveN_set he hl ze rfl, ky_drop (once_of h) he hl, fun k' v' => ?_⟩
  show (k', v') ∈ kv (es.set k ze) ↔ _
  rw [kv_mem]
  constructor
  · rintro ⟨j, f, hf, hl2, rfl, rfl⟩
    rw [List.getElem?_set] at hf
    by_cases hkj : k = j
    · rw [if_pos hkj, if_pos hlt] at hf
      injection hf with hf
      subst hf
      cases hl2
    · rw [if_neg hkj] at hf
      refine ⟨fun h9 => hkj (once_of h k j e f he hf hl hl2 h9.symm), kv_mem.2 ⟨j, f, hf, hl2, rfl, rfl⟩⟩
  · rintro ⟨hne, hin⟩
    obtain ⟨j, f, hf, hl2, rfl, rfl⟩ := kv_mem.1 hin
    have hkj : k ≠ j := by
      rintro rfl
      rw [he] at hf; injection hf with hf
      exact hne (by rw [hf])
    exact ⟨j, f, by rw [List.getElem?_set, if_neg hkj]; exact hf, hl2, rfl, rfl⟩
theorem drop_not {ix : List Int} {es : List Ent} {key : ByteArray} (h : DOk ix es) (hkb : keyB key = true) (hn : key ∉ kyL es) : drV ix es key = ((ix, es), false) := by
  have hp := (plc_none h key).2 hn
  unfold hk at hp
  rw [drV_yes hkb (dok_yes h), hp, if_pos (by decide)]
theorem new_ok : DOk (List.replicate 8 (-1)) [] := ⟨Fit.empty (by decide), by decide, fun _ _ h => by simp at h⟩
end Go.Proofs.Ytibglmcpbbikdaa
