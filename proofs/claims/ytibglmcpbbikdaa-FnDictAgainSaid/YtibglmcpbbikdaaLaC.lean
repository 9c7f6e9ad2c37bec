/- Slots and entries that fit each other; valid dictionaries. -/
import Derived.Test.YtibglmcpbbikdaaLaB
namespace Go.Proofs.Ytibglmcpbbikdaa
open Go.RowKit
/-- Each slot is empty, dropped or leads to an entry, no two to the same; the entries to which they lead are those alive; the others have a dropped slot each. -/
def Wh (ix : List Int) (es : List Ent) : Prop := slotOk ix es ∧ (∀ (s t : Nat) (n : Int), s < t → ix[s]? = some n → ix[t]? = some n → n < 0) ∧ (∀ (j : Nat) (e : Ent), es[j]? = some e → e.live = decide ((j : Int) ∈ ix)) ∧ ix.count (-2) + liveN es = es.length
noncomputable def whB (ix : List Int) (es : List Ent) : Bool := @decide (Wh ix es) (Classical.propDecidable _)
theorem whB_no {ix : List Int} {es : List Ent} (h : ¬ Wh ix es) : whB ix es = false := @decide_eq_false _ (Classical.propDecidable _) h
theorem whB_yes {ix : List Int} {es : List Ent} (h : Wh ix es) : whB ix es = true := @decide_eq_true _ (Classical.propDecidable _) h
theorem wh_of {ix : List Int} {es : List Ent} (h : whB ix es = true) : Wh ix es := @of_decide_eq_true _ (Classical.propDecidable _) h
/-- The first k slots are so. -/
def PreS (ix : List Int) (E k : Nat) : Prop := (∀ (s : Nat) (n : Int), s < k → ix[s]? = some n → n = -1 ∨ n = -2 ∨ (0 ≤ n ∧ n < E)) ∧ (∀ (s t : Nat) (n : Int), s < t → t < k → ix[s]? = some n → ix[t]? = some n → n < 0)
theorem PreS.zero (ix : List Int) (E : Nat) : PreS ix E 0 := ⟨fun _ _ h => absurd h (by omega), fun _ _ _ _ h => absurd h (by omega)⟩
/-- Which entries the first k slots lead to. -/
def seenL (ix : List Int) (E k : Nat) : List Bool := (List.range E).map fun j : Nat => decide ((j : Int) ∈ ix.take k)
theorem seenL_len (ix : List Int) (E k : Nat) : (seenL ix E k).length = E := by simp [seenL]
theorem seenL_get {ix : List Int} {E k j : Nat} (h : j < E) : (seenL ix E k)[j]? = some (decide ((j : Int) ∈ ix.take k)) := by
  simp [seenL, h]
theorem seenL_zero (ix : List Int) (E : Nat) : seenL ix E 0 = List.replicate E false := by
  apply List.ext_getElem?
  intro j
  rcases Nat.lt_or_ge j E with h | h
  · rw [seenL_get h]; simp [h]
  · rw [List.getElem?_eq_none (by rw [seenL_len]; exact h), List.getElem?_eq_none (by simpa using h)]
theorem take_mem {ix : List Int} {k : Nat} {n m : Int} (h : ix[k]? = some n) : m ∈ ix.take (k + 1) ↔ m ∈ ix.take k ∨ m = n := by
  have hk : k < ix.length := by
    rcases Nat.lt_or_ge k ix.length with h1 | h1
    · exact h1
    · rw [List.getElem?_eq_none h1] at h; cases h
  rw [List.getElem?_eq_getElem hk] at h
  injection h with h
  rw [List.take_succ_eq_append_getElem hk, List.mem_append, h, List.mem_singleton]
theorem seenL_neg {ix : List Int} {E k : Nat} {n : Int} (h : ix[k]? = some n) (hn : n < 0) : seenL ix E (k + 1) = seenL ix E k := by
  unfold seenL
  apply List.map_congr_left
  intro j _
  rw [decide_eq_decide, take_mem h]
  constructor
  · rintro (h1 | h1)
    · exact h1
    · omega
  · exact .inl
theorem seenL_pos {ix : List Int} {E k p : Nat} (h : ix[k]? = some (p : Int)) (hp : p < E) : (seenL ix E k).set p true = seenL ix E (k + 1) := by
  apply List.ext_getElem?
  intro j
  rw [List.getElem?_set]
  rcases Nat.lt_or_ge j E with hj | hj
  · rw [seenL_get hj, seenL_get hj]
    by_cases he : p = j
    · subst he
      rw [if_pos rfl, if_pos (by rw [seenL_len]; exact hp)]
      rw [decide_eq_true ((take_mem h).2 (.inr rfl))]
    · rw [if_neg he]
      congr 1
      rw [decide_eq_decide, take_mem h]
      constructor
      · exact .inl
      · rintro (h1 | h1)
        · exact h1
        · omega
  · rw [if_neg (by omega), List.getElem?_eq_none (by rw [seenL_len]; exact hj), List.getElem?_eq_none (by rw [seenL_len]; exact hj)]
theorem mem_at {ix : List Int} {k : Nat} {m : Int} (h : m ∈ ix.take k) : ∃ s, s < k ∧ ix[s]? = some m := by
  obtain ⟨s, hs⟩ := List.mem_iff_getElem?.1 h
  have hlt : s < k := by
    rcases Nat.lt_or_ge s k with h1 | h1
    · exact h1
    · rw [List.getElem?_eq_none (by rw [List.length_take]; omega)] at hs; cases hs
  rw [List.getElem?_take_of_lt hlt] at hs
  exact ⟨s, hlt, hs⟩
theorem at_mem {ix : List Int} {k s : Nat} {m : Int} (h : s < k) (hs : ix[s]? = some m) : m ∈ ix.take k := by
  rw [List.mem_iff_getElem?]
  exact ⟨s, by rw [List.getElem?_take_of_lt h]; exact hs⟩
theorem PreS.neg {ix : List Int} {E k : Nat} {n : Int} (h : PreS ix E k) (hn : ix[k]? = some n) (h1 : n = -1 ∨ n = -2) : PreS ix E (k + 1) := by
  refine ⟨fun s m hs hm => ?_, fun s t m hst ht h2 h3 => ?_⟩
  · rcases Nat.lt_or_ge s k with h4 | h4
    · exact h.1 s m h4 hm
    · obtain rfl : s = k := by omega
      rw [hn] at hm; injection hm with hm; subst hm
      omega
  · rcases Nat.lt_or_ge t k with h4 | h4
    · exact h.2 s t m hst h4 h2 h3
    · obtain rfl : t = k := by omega
      rw [hn] at h3; injection h3 with h3; subst h3
      omega
theorem PreS.pos {ix : List Int} {E k p : Nat} (h : PreS ix E k) (hn : ix[k]? = some (p : Int)) (hp : p < E) (hs : decide ((p : Int) ∈ ix.take k) = false) : PreS ix E (k + 1) := by
  have hs' := of_decide_eq_false hs
  refine ⟨fun s m hs2 hm => ?_, fun s t m hst ht h2 h3 => ?_⟩
  · rcases Nat.lt_or_ge s k with h4 | h4
    · exact h.1 s m h4 hm
    · obtain rfl : s = k := by omega
      rw [hn] at hm; injection hm with hm; subst hm
      omega
  · rcases Nat.lt_or_ge t k with h4 | h4
    · exact h.2 s t m hst h4 h2 h3
    · obtain rfl : t = k := by omega
      rw [hn] at h3; injection h3 with h3; subst h3
      exact absurd (at_mem hst h2) hs'
theorem count_next {ix : List Int} {k : Nat} {n : Int} (h : ix[k]? = some n) : (ix.take (k + 1)).count (-2) = (ix.take k).count (-2) + if n = -2 then 1 else 0 := by
  have hk : k < ix.length := by
    rcases Nat.lt_or_ge k ix.length with h1 | h1
    · exact h1
    · rw [List.getElem?_eq_none h1] at h; cases h
  rw [List.getElem?_eq_getElem hk] at h
  injection h with h
  rw [List.take_succ_eq_append_getElem hk, List.count_append, h]
  by_cases hn : n = -2
  · rw [if_pos hn, hn]; simp
  · rw [if_neg hn]; simp [List.count_singleton]; omega
theorem count_lt (ix : List Int) (k : Nat) : (ix.take k).count (-2) ≤ k := Nat.le_trans List.count_le_length (by rw [List.length_take]; omega)
/-- The first i entries are alive just if a slot leads to them. -/
def LvS (ix : List Int) (es : List Ent) (i : Nat) : Prop := ∀ (j : Nat) (e : Ent), j < i → es[j]? = some e → e.live = decide ((j : Int) ∈ ix)
theorem LvS.next {ix : List Int} {es : List Ent} {i : Nat} {e : Ent} (h : LvS ix es i) (he : es[i]? = some e) (h1 : e.live = decide ((i : Int) ∈ ix)) : LvS ix es (i + 1) := by
  intro j e2 hj h2
  rcases Nat.lt_or_ge j i with h3 | h3
  · exact h j e2 h3 h2
  · obtain rfl : j = i := by omega
    rw [he] at h2; injection h2 with h2; subst h2; exact h1
theorem whB_slot {ix : List Int} {es : List Ent} {k : Nat} {n : Int} (h : ix[k]? = some n) (h1 : n ≠ -1) (h2 : n ≠ -2) (h3 : n < 0 ∨ (es.length : Int) ≤ n) : whB ix es = false := by
  apply whB_no
  rintro ⟨h4, _⟩
  have := h4 k n h
  omega
theorem whB_twice {ix : List Int} {es : List Ent} {k p : Nat} (h : ix[k]? = some (p : Int)) (hs : decide ((p : Int) ∈ ix.take k) = true) : whB ix es = false := by
  apply whB_no
  rintro ⟨_, h4, _⟩
  obtain ⟨s, hs, h5⟩ := mem_at (of_decide_eq_true hs)
  have := h4 s k p hs h5 h
  omega
theorem whB_live {ix : List Int} {es : List Ent} {i : Nat} {e : Ent} (he : es[i]? = some e) (h1 : (e.live == decide ((i : Int) ∈ ix)) = false) : whB ix es = false := by
  apply whB_no
  rintro ⟨_, _, h4, _⟩
  rw [h4 i e he] at h1
  simp at h1
theorem whB_dead {ix : List Int} {es : List Ent} {k p : Nat} {e : Ent} (h : ix[k]? = some (p : Int)) (he : es[p]? = some e) (hl : e.live = false) : whB ix es = false :=
  whB_live he (by rw [hl, decide_eq_true (List.mem_of_getElem? h)]; rfl)
theorem whB_end {ix : List Int} {es : List Ent} (h : PreS ix es.length ix.length) (hv : LvS ix es es.length) : whB ix es = decide (((ix.take ix.length).count (-2) : Int) = (es.length : Int) - (liveN es : Int)) := by
  rw [List.take_length]
  have hlv : liveN es ≤ es.length := by have := liveN_le es es.length; rwa [List.take_length] at this
  have ht : ∀ {s : Nat} {n : Int}, ix[s]? = some n → s < ix.length := by
    intro s n hs
    rcases Nat.lt_or_ge s ix.length with h1 | h1
    · exact h1
    · rw [List.getElem?_eq_none h1] at hs; cases hs
  have ht2 : ∀ {s : Nat} {e : Ent}, es[s]? = some e → s < es.length := by
    intro s n hs
    rcases Nat.lt_or_ge s es.length with h1 | h1
    · exact h1
    · rw [List.getElem?_eq_none h1] at hs; cases hs
  by_cases h4 : (ix.count (-2) : Int) = (es.length : Int) - (liveN es : Int)
  · rw [decide_eq_true h4]
    exact whB_yes ⟨fun s n hs => h.1 s n (ht hs) hs, fun s t n hst h1 h2 => h.2 s t n hst (ht h2) h1 h2, fun j e he => hv j e (ht2 he) he, by omega⟩
  · rw [decide_eq_false h4]
    apply whB_no
    rintro ⟨_, _, _, h5⟩; omega
def bo (l : List Bool) : List Value := l.map Value.bool
theorem bo_len (l : List Bool) : (bo l).length = l.length := by simp [bo]
theorem bo_get {l : List Bool} {j : Nat} {i : Bool} (h : l[j]? = some i) : (bo l)[j]? = some (.bool i) := by simp [bo, h]
/-- A list of bools of the call's own. -/
def OwB (w : World) (b : Nat) (v : Value) (l : List Bool) : Prop := Own w b 4 v (bo l)
theorem OwB.row {w : World} {b g n cap : Nat} {l : List Bool} (h : OwB w b (.slice (some ⟨g, 0, none⟩) n cap) l) : l.length = n ∧ w.ownsRow b 4 1 (.slice (some ⟨g, 0, none⟩) n cap) n (bo l) := by
  have hn : (bo l).length = n := by
    rcases Own.form h with ⟨h2, _⟩ | ⟨g', cap', h2, _⟩
    · cases h2
    · injection h2 with _ h2 _
      exact h2.symm
  have h1 : w.ownsRow b 4 1 (.slice (some ⟨g, 0, none⟩) n cap) (bo l).length (bo l) := h
  rw [hn] at h1
  rw [bo_len] at hn
  exact ⟨hn, h1⟩
theorem OwB.cellAt {w : World} {b g n cap k : Nat} {l : List Bool} {i : Bool} (h : OwB w b (.slice (some ⟨g, 0, none⟩) n cap) l) (hi : l[k]? = some i) : w.cell? ⟨g, k, none⟩ = some (.bool i) ∧ w.frozen? ⟨g, k, none⟩ = false := by
  rcases Own.form h with ⟨h2, _⟩ | ⟨g', cap', h2, _, _, _, h5⟩
  · cases h2
  · injection h2 with h2 _ _
    injection h2 with h2
    injection h2 with h2
    subst h2
    exact ⟨h5 k _ (bo_get hi), World.ownsRow.frozenAt h.row.2 k⟩
theorem OwB.stored {w : World} {b g n cap : Nat} {l : List Bool} (h : OwB w b (.slice (some ⟨g, 0, none⟩) n cap) l) (k : Nat) (i : Bool) : OwB (w.setCell ⟨g, k, none⟩ (.bool i)) b (.slice (some ⟨g, 0, none⟩) n cap) (l.set k i) := by
  have h1 := (World.ownsRow.stored h.row.2 k (.bool i)).1
  have e : (bo l).set k (.bool i) = bo (l.set k i) := by unfold bo; rw [List.map_set]
  rw [e] at h1
  unfold OwB Own
  rw [bo_len, List.length_set, h.row.1]
  exact h1
theorem OwB.lt {w : World} {b g n cap : Nat} {l : List Bool} (h : OwB w b (.slice (some ⟨g, 0, none⟩) n cap) l) : b ≤ g ∧ g < w.heap.size := World.ownsRow.lt h g rfl
theorem OwB.keep {w w' : World} {b B g n cap : Nat} {l : List Bool} (h : OwB w b (.slice (some ⟨g, 0, none⟩) n cap) l) (hb : Below B w w') (hg : g < B) : OwB w' b (.slice (some ⟨g, 0, none⟩) n cap) l := by
  obtain ⟨h1, h2⟩ := h
  refine ⟨h1, ?_⟩
  rcases h2 with ⟨h2, _⟩ | ⟨g', cap', cur, hv, hb1, hh, rest⟩
  · cases h2
  · injection hv with hv1 hv2 hv3
    injection hv1 with hv1
    injection hv1 with hv1
    subst hv1 hv2 hv3
    exact .inr ⟨_, _, cur, rfl, hb1, (hb.block _ hg).trans hh, rest⟩
theorem OwB.wide {w : World} {b b' : Nat} {v : Value} {l : List Bool} (h : OwB w b v l) (hb : b' ≤ b) : OwB w b' v l := by
  obtain ⟨h1, h2⟩ := h
  refine ⟨h1, ?_⟩
  rcases h2 with h2 | ⟨g, cap, cur, hv, hg, rest⟩
  · exact .inl h2
  · exact .inr ⟨g, cap, cur, hv, Nat.le_trans hb hg, rest⟩
/-- 'make([]bool, n)'. -/
theorem mkBo {ops : Array Oper} {rest : List Oper} {o : Oper} {a : Act} {w : World} {Q : Exit → Act → World → Prop} (hg : o.guard = none) (l c : Operand) (hop : o.op = Op.makeSlice 82 l c) (n : Nat) (L C : Int) (hl : a.eval l = .int .i64 L) (hc : a.eval c = .int .i64 C) (hL : L = (n : Int)) (hC : C = (n : Int)) (hn : n ≤ 1048576)
    (hK : ∀ w', OwB w' w.heap.size (.slice (some ⟨w.heap.size, 0, none⟩) n n) (List.replicate n false) → Below w.heap.size w w' → wpList Try.prog ops Q rest (a.put o.dst (.slice (some ⟨w.heap.size, 0, none⟩) n n)) w') : wpList Try.prog ops Q (o :: rest) a w := by
  obtain ⟨i, hi1, hi2, hi3, hi4⟩ := info_of (P := Try.prog) (e := 4) (z := .bool false) (s := 1) (b := 1) (by kernel_rfl)
  refine wpList_make_full w hg l c 82 hop w.heap.size 4 i (.bool false) 1 Try.underlying82 hi1 hi2 hi3 .i64 .i64 L C n hl hc hL hC (by rw [hi4]; omega) (by unfold maxLen; omega) (Nat.le_refl _) ?_
  intro w' ho hgr
  refine hK w' ?_ ((Below.refl _ _).grown hgr (Nat.le_refl _) (fun k hk => by cases hk))
  have e : (madeCells (Value.bool false).cells (n * 1)).toList = bo (List.replicate n false) := by
    rw [show (Value.bool false).cells = #[Value.bool false] from rfl, toList_madeCells_one, Nat.mul_one]; simp [bo]
  rw [e] at ho
  unfold OwB Own
  rw [bo_len, List.length_replicate]
  exact ho
/-- While slots are read: what was there, and which entries were seen. -/
def SwI (w1 wr : World) (ix : List Int) (E k : Nat) : Prop := Below w1.heap.size w1 wr ∧ OwB wr w1.heap.size (.slice (some ⟨w1.heap.size, 0, none⟩) E E) (seenL ix E k)
theorem SwI.start {w1 w3 : World} {ix : List Int} {E : Nat} (ho : OwB w3 w1.heap.size (.slice (some ⟨w1.heap.size, 0, none⟩) E E) (List.replicate E false)) (hb : Below w1.heap.size w1 w3) : SwI w1 w3 ix E 0 := ⟨hb, by rw [seenL_zero]; exact ho⟩
theorem SwI.neg {w1 wr : World} {ix : List Int} {E k : Nat} {n : Int} (h : SwI w1 wr ix E k) (hn : ix[k]? = some n) (h0 : n < 0) : SwI w1 wr ix E (k + 1) := ⟨h.1, by rw [seenL_neg hn h0]; exact h.2⟩
theorem SwI.pos {w1 wr : World} {ix : List Int} {E k p : Nat} (h : SwI w1 wr ix E k) (hn : ix[k]? = some (p : Int)) (hp : p < E) : SwI w1 (wr.setCell ⟨w1.heap.size, p, none⟩ (.bool true)) ix E (k + 1) := by
  refine ⟨h.1.setCell (Nat.le_refl _) _, ?_⟩
  have h1 := h.2.stored p true
  rw [seenL_pos hn hp] at h1
  exact h1
def whV (ix : List Int) (es : List Ent) : Bool := slotN ix.length && decide (es.length ≤ 2 * ix.length / 3)
set_option maxHeartbeats 2000000 in
set_option maxRecDepth 20000 in
theorem isWhole_any (ix : List Int) (es : List Ent) (g c1 c2 : Nat) (a : Option Addr) (w : World) (h : Tb w g ix a es) (hl : es.length ≤ 1048576) (hm : ix.length ≤ 1048576) :
    Calls Try.prog 50 #[.agg #[.slice (some ⟨g, 0, none⟩) ix.length c1, .slice a es.length c2]] w fun e w' => e = .returned (.bool (whV ix es && whB ix es)) ∧ Below w.heap.size w w' := by
  obtain ⟨w1, hw1⟩ : ∃ w1, w1 = w.alloc (Obj.cells #[.slice (some ⟨g, 0, none⟩) ix.length c1, .slice a es.length c2] 54) := ⟨_, rfl⟩
  have HT1 := Lib.hid (show Tb w1 g ix a es from by rw [hw1]; exact h.below ((Below.refl _ _).alloc (Nat.le_refl _) _))
  have HBox := Lib.hid (show Blk w1 w.heap.size _ #[.slice (some ⟨g, 0, none⟩) ix.length c1, .slice a es.length c2] from by rw [hw1]; exact Blk.newest w _ _)
  have HS := Lib.hid (fun w => (isSlotCount_any ix.length w (by omega)).mono fun _ _ h => And.intro h.1 h.2.symm)
  have HR := Lib.hid (fun w => (entryRoom_any ix.length w hm).mono fun _ _ h => And.intro h.1 h.2.symm)
  have HB0 := Lib.hid (show Below w.heap.size w w1 from by rw [hw1]; exact (Below.refl _ _).alloc (Nat.le_refl _) _)
  have hsz : w1.heap.size = w.heap.size + 1 := by rw [hw1]; simp
  cases hv : slotN ix.length with
  | false =>
    have HE := Lib.hid (show (whV ix es && whB ix es) = false by unfold whV; rw [hv]; rfl)
    rw [hv] at HS
    clear h hv
    generalize ix.length = m at *
    generalize es.length = ne at *
    have HW1 := Lib.hid hw1
    have b0 := HBox.out.cell 0
    have b1 := HBox.out.cell 1
    go_enter Try.func50, Try.ntmps50
    go_wp2_with fail
    go_quiet (first | (go_at_call 86; exact Calls.quiet_of_same (HS.out _)) | (go_at_call 75; exact Calls.quiet_of_same (HR.out _)))
    go_wp2_with fail
    go_ret
    exact ⟨by rw [HE.out]; rfl, by rw [← HW1.out]; exact below_drewN' HB0.out⟩
  | true =>
    rw [hv] at HS
    by_cases hE : es.length ≤ 2 * ix.length / 3
    · have HX : whV ix es = true := by unfold whV; rw [hv, decide_eq_true hE]; rfl
      have k1 : ¬ ((2 * ix.length / 3 : Nat) : Int) < (es.length : Int) := by omega
      have k2 : decide (((2 * ix.length / 3 : Nat) : Int) < (es.length : Int)) = false := decide_eq_false k1
      have k3 : (es.length : Int) ≤ ((2 * ix.length / 3 : Nat) : Int) := by omega
      have HM := Lib.hid (show ix.length ≤ 128 by have := slotN_mem hv; simp at this; omega)
      rw [HX, Bool.true_and]
      clear h hv hE HX
      generalize hmm : ix.length = m at *
      generalize hne : es.length = ne at *
      have HMM := Lib.hid hmm
      have HNE := Lib.hid hne
      clear hmm hne
      generalize ((2 * m / 3 : Nat) : Int) = rm at *
      have HW1 := Lib.hid hw1
      go_enter Try.func50, Try.ntmps50
      go_wp2_with fail
      clear k1 k3
      go_quiet (first | (go_at_call 86; exact Calls.quiet_of_same (HS.out _)) | (go_at_call 75; exact Calls.quiet_of_same (HR.out _)))
      rw [← HW1.out]
      obtain ⟨wq, hwq⟩ : ∃ wq, wq = w1.drewN nq := ⟨_, rfl⟩
      have HTq := Lib.hid (show Tb wq g ix a es from by rw [hwq]; exact HT1.out.below (below_drewN' (Below.refl _ _)))
      have HBx := Lib.hid (show Blk wq w.heap.size _ #[.slice (some ⟨g, 0, none⟩) m c1, .slice a ne c2] from by rw [hwq]; exact HBox.out.drewN nq)
      have HBq := Lib.hid (show Below w.heap.size w wq from by rw [hwq]; exact below_drewN' HB0.out)
      rw [← hwq]
      have hlt : w.heap.size < wq.heap.size := HBx.out.lt
      clear hwq hw1
      have b0 := HBx.out.cell 0
      have b1 := HBx.out.cell 1
      go_wp2_with (first | (refine mkBo rfl (.tmp 26) (.tmp 26) rfl ne _ _ rfl rfl rfl rfl (by omega) ?_; intro w3 ho hb3; have H0 := Lib.hid (SwI.start (ix := ix) ho hb3); have HY3 := Lib.hid (HBx.out.below hb3 hlt); clear ho hb3; have d0 := HY3.out.cell 0; have d1 := HY3.out.cell 1))
      go_loopw [4, 31] (fun d i wr => ∃ k : Nat, k ≤ m ∧ i = .int .i64 k ∧ d = .int .i64 ((ix.take k).count (-2) : Nat) ∧ Hid (PreS ix ne k) ∧ Hid (SwI wq wr ix ne k)) (fun _ i _ => m - (intOf i).toNat)
      case atStart => exact ⟨0, by omega, rfl, rfl, Lib.hid (PreS.zero _ _), H0⟩
      case round =>
        obtain ⟨k, hk, rfl, rfl, HP, HI⟩ := hrel
        have HBr := Lib.hid (HBx.out.below HI.out.1 hlt)
        have d0 := HBr.out.cell 0
        have d1 := HBr.out.cell 1
        have hc1 : (((ix.take k).count (-2) : Nat) : Int) ≤ 1048576 := by have := count_lt ix k; omega
        have hc0 : 0 ≤ (((ix.take k).count (-2) : Nat) : Int) := by omega
        by_cases hltk : k < m
        · have q1 : (k : Int) < (m : Int) := by omega
          have q0 : 0 ≤ (k : Int) := by omega
          obtain ⟨n, hn⟩ : ∃ n, ix[k]? = some n := ⟨_, List.getElem?_eq_getElem (by rw [HMM.out]; exact hltk)⟩
          have c0 : wr.cell? ⟨g, k, none⟩ = some (.int .i64 n) := (HTq.out.below HI.out.1).2.1 k n hn
          have HC := Lib.hid (count_next hn)
          by_cases e1 : n = -1
          · subst e1
            have HP2 := Lib.hid (HP.out.neg hn (.inl rfl))
            have HI2 := Lib.hid (HI.out.neg hn (by decide))
            clear hn
            go_wp2_with fail
            go_roundw
            case rel => exact ⟨k + 1, by omega, by go_num, by rw [HC.out]; rfl, HP2, HI2⟩
            case measure => simp [intOf]; try omega
          · by_cases e2 : n = -2
            · subst e2
              have HP2 := Lib.hid (HP.out.neg hn (.inr rfl))
              have HI2 := Lib.hid (HI.out.neg hn (by decide))
              clear hn
              go_wp2_with fail
              go_roundw
              case rel => exact ⟨k + 1, by omega, by go_num, by rw [HC.out]; simp, HP2, HI2⟩
              case measure => simp [intOf]; try omega
            · have t1 : (n == -1) = false := beq_eq_false_iff_ne.2 e1
              have t2 : (n == -2) = false := beq_eq_false_iff_ne.2 e2
              by_cases e3 : n < 0
              · have HE := Lib.hid (whB_slot (es := es) hn e1 e2 (.inl e3))
                clear hn e1 e2
                go_wp2_with fail
                go_ret
                exact ⟨by rw [HE.out]; rfl, HBq.out.trans (HI.out.1.mono HBq.out.size)⟩
              · by_cases e4 : (ne : Int) ≤ n
                · have HE := Lib.hid (whB_slot (es := es) hn e1 e2 (.inr (by rw [HNE.out]; exact e4)))
                  have e5 : 0 ≤ n := by omega
                  clear hn e1 e2 e3
                  go_wp2_with fail
                  go_ret
                  exact ⟨by rw [HE.out]; rfl, HBq.out.trans (HI.out.1.mono HBq.out.size)⟩
                · obtain ⟨p, rfl⟩ : ∃ p : Nat, n = (p : Int) := ⟨n.toNat, by omega⟩
                  have hp : p < ne := by omega
                  have p1 : (p : Int) < (ne : Int) := by omega
                  have p0 : 0 ≤ (p : Int) := by omega
                  obtain ⟨c5, f5⟩ := HI.out.2.cellAt (seenL_get (ix := ix) (k := k) hp)
                  cases hs : decide ((p : Int) ∈ ix.take k) with
                  | true =>
                    have HE := Lib.hid (whB_twice (es := es) hn hs)
                    rw [hs] at c5
                    clear hn hs e1 e2 e3 e4
                    go_wp2_with fail
                    go_ret
                    exact ⟨by rw [HE.out]; rfl, HBq.out.trans (HI.out.1.mono HBq.out.size)⟩
                  | false =>
                    have HP2 := Lib.hid (HP.out.pos hn hp hs)
                    have HI2 := Lib.hid (HI.out.pos hn hp)
                    rw [hs] at c5
                    clear hn hs e1 e2 e3 e4
                    go_wp2_with fail
                    go_roundw
                    case rel => exact ⟨k + 1, by omega, by go_num, by rw [HC.out, if_neg (by omega)]; rfl, HP2, HI2⟩
                    case measure => simp [intOf]; try omega
        · obtain rfl : k = m := by omega
          clear hltk
          go_wp2_with fail
          have HI0 := Lib.hid HI.out
          go_loopw [66] (fun i wr => ∃ j : Nat, j ≤ ne ∧ i = .int .i64 j ∧ Hid (LvS ix es j) ∧ Hid (SwI wq wr ix ne k)) (fun i _ => ne - (intOf i).toNat)
          case atStart => exact ⟨0, by omega, rfl, Lib.hid (fun _ _ h => absurd h (by omega)), HI0⟩
          case round =>
            obtain ⟨j, hj, rfl, HV, HJ⟩ := hrel
            have HBj := Lib.hid (HBx.out.below HJ.out.1 hlt)
            have d0 := HBj.out.cell 0
            have d1 := HBj.out.cell 1
            by_cases hltj : j < ne
            · obtain ⟨g2, e, rfl, he, hb, x0, x1, x2, x3⟩ := (HTq.out.below HJ.out.1).2.2.at (show j < es.length by rw [HNE.out]; exact hltj)
              have q1 : (j : Int) < (ne : Int) := by omega
              have q0 : 0 ≤ (j : Int) := by omega
              have hmt := meth_isLive
              have HL := Lib.hid (lies4 x0 x1 x2 x3)
              obtain ⟨c5, f5⟩ := HJ.out.2.cellAt (seenL_get (ix := ix) (k := k) hltj)
              clear x0 x1 x2 x3
              go_wp2_with (first | (refine ldE (o := ⟨some 70, _, _, _, _, _⟩) rfl (.tmp 69) rfl g2 (j * 4) (.string e.key) (.int .i64 e.hash) (.int .i64 e.val) (.bool e.live) rfl HL.out ?_))
              have HD := Lib.hid (show ∀ b l, b = decide ((j : Int) ∈ ix.take k) → l = e.live → (!l == b) = false → LvS ix es (j + 1) from fun b l h1 h2 h3 => HV.out.next he (by rw [← h2, (show l = b by simpa using h3), h1, ← HMM.out, List.take_length]))
              have HN9 := Lib.hid (show ∀ b l, b = decide ((j : Int) ∈ ix.take k) → l = e.live → (!l == b) = true → whB ix es = false from fun b l h1 h2 h3 => whB_live he (by rw [← h2]; rw [← HMM.out, List.take_length] at h1; rw [← h1]; simpa using h3))
              generalize hb9 : decide ((j : Int) ∈ ix.take k) = b at c5
              generalize hl9 : e.live = l
              have HB9 := Lib.hid hb9.symm
              have HL9 := Lib.hid hl9.symm
              have y5 : (wr.alloc (Obj.cells #[.string e.key, .int .i64 e.hash, .int .i64 e.val, .bool l] 57)).cell? ⟨wq.heap.size, j, none⟩ = some (.bool b) := (((Below.refl wr.heap.size wr).alloc (Nat.le_refl _) _).cell HJ.out.2.lt.2).trans c5
              have HC5 := Lib.hid (show ∀ w', Below wr.heap.size wr w' → w'.cell? ⟨wq.heap.size, j, none⟩ = some (.bool b) from fun w' hb => (hb.cell HJ.out.2.lt.2).trans c5)
              have HIL := Lib.hid isLive_any
              clear HL hb9 hl9 he
              go_region_with (first | (refine (HIL.out _ _ _ _ _).mono ?_; rintro r w2 ⟨rfl, hb2⟩; have HB2 := Lib.hid (show Below wr.heap.size wr w2 from ((((Below.refl _ wr).alloc (Nat.le_refl _) _).drew).trans (hb2.mono (by show wr.heap.size ≤ (wr.alloc _).heap.size; simp)))); have z5 := HC5.out _ HB2.out; clear hb2))
              all_goals
                have HT := Lib.hid (show SwI wq w2 ix ne k from ⟨HJ.out.1.trans (HB2.out.mono HJ.out.1.size), HJ.out.2.keep HB2.out HJ.out.2.lt.2⟩)
                cases hlb : (!l == b)
                · have HV2 := Lib.hid (HD.out b l HB9.out HL9.out hlb)
                  go_wp2_with fail
                  go_roundw
                  case rel => exact ⟨j + 1, by omega, by go_num, HV2, HT⟩
                  case measure => simp [intOf]; try omega
                · have HE := Lib.hid (HN9.out b l HB9.out HL9.out hlb)
                  go_wp2_with fail
                  go_ret
                  exact ⟨by rw [HE.out]; rfl, HBq.out.trans (HT.out.1.mono HBq.out.size)⟩
            · obtain rfl : j = ne := by omega
              clear hltj
              have HE := Lib.hid (whB_end (ix := ix) (es := es) (by rw [HNE.out, HMM.out]; exact HP.out) (by rw [HNE.out]; exact HV.out))
              have hLN : (liveN es : Int) ≤ (j : Int) := by have := liveN_le es es.length; rw [List.take_length, HNE.out] at this; omega
              have hLN0 : 0 ≤ (liveN es : Int) := by omega
              rw [HMM.out, HNE.out] at HE
              have HCL := Lib.hid (fun w' (hb : Below wr.heap.size wr w') => countLive_any (.slice (some ⟨g, 0, none⟩) k c1) es a c2 w' ((HTq.out.below (HJ.out.1.trans (hb.mono HJ.out.1.size))).2.2) (by rw [HNE.out]; exact hl) rfl)
              rw [HNE.out] at HCL
              generalize liveN es = L at *
              have HWR := Lib.hid (show IntKind.i64.wrap ((j : Int) - (L : Int)) = (j : Int) - (L : Int) by rw [IntKind.wrap_i64]; omega)
              go_wp2_with fail
              go_region_with (first | (refine (HCL.out _ (by first | exact Below.refl _ _ | exact (Below.refl _ _).drew | exact below_drewN' (Below.refl _ _))).mono ?_; rintro r w2 ⟨rfl, hb2⟩; have HB2 := Lib.hid (show Below wr.heap.size wr w2 from (by first | exact hb2 | exact ((Below.refl _ wr).drew).trans hb2 | exact (below_drewN' (Below.refl _ wr)).trans hb2)); have HBk := Lib.hid (HBj.out.below HB2.out (Nat.lt_of_lt_of_le hlt HJ.out.1.size)); have e0 := HBk.out.cell 0; have e1 := HBk.out.cell 1; clear hb2))
              all_goals (try go_wp2)
              all_goals go_ret
              all_goals
                refine ⟨?_, HBq.out.trans ((HJ.out.1.trans (HB2.out.mono HJ.out.1.size)).mono HBq.out.size)⟩
                rw [HE.out]
                refine congrArg (fun b => Ending.returned (.bool b)) ?_
                first | rfl | (rw [Bool.eq_iff_iff]; simp; done) | (rw [Bool.eq_iff_iff]; simp [HWR.out])
    · have HE := Lib.hid (show (whV ix es && whB ix es) = false by unfold whV; rw [decide_eq_false hE, Bool.and_false]; rfl)
      have k1 : ((2 * ix.length / 3 : Nat) : Int) < (es.length : Int) := by omega
      clear h hv hE
      generalize ix.length = m at *
      generalize es.length = ne at *
      generalize ((2 * m / 3 : Nat) : Int) = rm at *
      have HW1 := Lib.hid hw1
      go_enter Try.func50, Try.ntmps50
      go_wp2_with fail
      go_quiet (first | (go_at_call 86; exact Calls.quiet_of_same (HS.out _)) | (go_at_call 75; exact Calls.quiet_of_same (HR.out _)))
      go_wp2_with fail
      go_ret
      exact ⟨by rw [HE.out]; rfl, by rw [← HW1.out]; exact below_drewN' HB0.out⟩
/-- Slots and entries that fit each other. -/
def Fit (ix : List Int) (es : List Ent) : Prop := slotN ix.length = true ∧ es.length ≤ 2 * ix.length / 3 ∧ Wh ix es
theorem len_sub : ∀ {l m : List Int}, l.Nodup → (∀ a ∈ l, a ∈ m) → l.length ≤ m.length
  | [], _, _, _ => Nat.zero_le _
  | a :: l, m, hn, hs => by
    rw [List.nodup_cons] at hn
    have h1 : l.length ≤ (m.erase a).length := len_sub hn.2 fun b hb => (List.mem_erase_of_ne (by rintro rfl; exact hn.1 hb)).2 (hs b (List.mem_cons_of_mem _ hb))
    have h2 := List.length_erase_of_mem (hs a List.mem_cons_self)
    have h3 : 0 < m.length := List.length_pos_of_mem (hs a List.mem_cons_self)
    rw [List.length_cons]; omega
/-- The places of those alive. -/
def lvI : List Ent → Nat → List Int
  | [], _ => []
  | e :: es, o => if e.live then (o : Int) :: lvI es (o + 1) else lvI es (o + 1)
theorem lvI_len (es : List Ent) (o : Nat) : (lvI es o).length = liveN es := by
  induction es generalizing o with
  | nil => rfl
  | cons e es ih =>
    unfold lvI liveN
    cases he : e.live
    · simp [he, ih, liveN]
    · simp [he, ih, liveN]
theorem lvI_mem {es : List Ent} {o j : Nat} {e : Ent} (h : es[j]? = some e) (hl : e.live = true) : ((o + j : Nat) : Int) ∈ lvI es o := by
  induction es generalizing o j with
  | nil => simp at h
  | cons a es ih =>
    unfold lvI
    cases j with
    | zero =>
      simp at h; subst h
      rw [if_pos hl]; simp
    | succ j =>
      have := ih (o := o + 1) (j := j) (by simpa using h)
      rw [show o + 1 + j = o + (j + 1) by omega] at this
      split
      · exact List.mem_cons_of_mem _ this
      · exact this
theorem len_parts {ix : List Int} (h : ∀ n ∈ ix, n = -2 ∨ 0 ≤ n) : ix.length = ix.count (-2) + (ix.filter (fun n => decide (0 ≤ n))).length := by
  induction ix with
  | nil => rfl
  | cons a l ih =>
    have h1 := ih fun n hn => h n (List.mem_cons_of_mem _ hn)
    rcases h a List.mem_cons_self with rfl | h2
    · simp at h1 ⊢; omega
    · have h3 : a ≠ -2 := by omega
      simp [h2, h3] at h1 ⊢; omega
theorem fit_empty {ix : List Int} {es : List Ent} (h : Fit ix es) : ∃ s, s < ix.length ∧ ix[s]? = some (-1) := by
  obtain ⟨h1, h2, h3, h4, h5, h6⟩ := h
  have hm : 8 ≤ ix.length := by have := slotN_mem h1; simp at this; omega
  by_cases hn : (-1 : Int) ∈ ix
  · obtain ⟨s, hs⟩ := List.mem_iff_getElem?.1 hn
    refine ⟨s, ?_, hs⟩
    rcases Nat.lt_or_ge s ix.length with h7 | h7
    · exact h7
    · rw [List.getElem?_eq_none h7] at hs; cases hs
  · exfalso
    have hall : ∀ n ∈ ix, n = -2 ∨ (0 ≤ n ∧ n < es.length) := fun n hn2 => by
      obtain ⟨s, hs⟩ := List.mem_iff_getElem?.1 hn2
      rcases h3 s n hs with rfl | h8 | h8
      · exact absurd hn2 hn
      · exact .inl h8
      · exact .inr h8
    have hlen := len_parts fun n hn2 => (hall n hn2).imp id And.left
    have hnd : (ix.filter (fun n => decide (0 ≤ n))).Nodup := by
      have hp : ix.Pairwise (fun a b => a = b → a < 0) := by
        rw [List.pairwise_iff_getElem]
        intro i j hi hj hij he
        exact h4 i j ix[i] hij (List.getElem?_eq_getElem hi) (by rw [List.getElem?_eq_getElem hj, he])
      have hp2 := hp.filter (fun n => decide (0 ≤ n))
      refine List.Pairwise.imp_of_mem ?_ hp2
      intro a b ha _ hab he
      have h8 := of_decide_eq_true (List.mem_filter.1 ha).2
      have := hab he
      omega
    have hle := len_sub hnd (m := lvI es 0) fun a ha => by
      obtain ⟨ha1, ha2⟩ := List.mem_filter.1 ha
      have ha3 := of_decide_eq_true ha2
      obtain ⟨p, rfl⟩ : ∃ p : Nat, a = (p : Int) := ⟨a.toNat, by omega⟩
      have hp : p < es.length := by rcases hall _ ha1 with h8 | h8 <;> omega
      have he := h5 p es[p] (List.getElem?_eq_getElem hp)
      have := lvI_mem (o := 0) (List.getElem?_eq_getElem hp) (by rw [he]; exact decide_eq_true ha1)
      simpa using this
    rw [lvI_len] at hle
    omega
/-- The step at which looking for a key ends, and what its slot holds. -/
def fstT (ix : List Int) (es : List Ent) (key : ByteArray) (hs : Nat) : Nat := ((List.range 200).find? fun t => endB ix es key (pr ix.length hs t).1).getD 0
def fstS (ix : List Int) (es : List Ent) (key : ByteArray) (hs : Nat) : Nat := (pr ix.length hs (fstT ix es key hs)).1
def plc (ix : List Int) (es : List Ent) (key : ByteArray) (hs : Nat) : Int := (ix[fstS ix es key hs]?).getD 0
theorem fst_ok {ix : List Int} {es : List Ent} {key : ByteArray} {hs : Nat} (h : Fit ix es) (hh : hs < 65536) : fstT ix es key hs ≤ 1000 ∧ endB ix es key (pr ix.length hs (fstT ix es key hs)).1 = true ∧ (∀ t, t < fstT ix es key hs → endB ix es key (pr ix.length hs t).1 = false) ∧ ix[fstS ix es key hs]? = some (plc ix es key hs) := by
  obtain ⟨s, hs1, hs2⟩ := fit_empty h
  have hm : 8 ≤ ix.length ∧ ix.length ≤ 128 := by have := slotN_mem h.1; simp at this; omega
  obtain ⟨t, ht1, ht2⟩ := pr_come h.1 hh hs1
  have he : endB ix es key (pr ix.length hs t).1 = true := by rw [ht2]; unfold endB; rw [hs2]; rfl
  have hf : ((List.range 200).find? fun t => endB ix es key (pr ix.length hs t).1).isSome := by
    rw [List.find?_isSome]
    exact ⟨t, List.mem_range.2 (by omega), he⟩
  obtain ⟨T, hT⟩ := Option.isSome_iff_exists.1 hf
  have hTe : fstT ix es key hs = T := by unfold fstT; rw [hT]; rfl
  rw [List.find?_range_eq_some] at hT
  obtain ⟨h1, h2, h3⟩ := hT
  have h2' := List.mem_range.1 h2
  have hlt : fstS ix es key hs < ix.length := pr_lt (by omega) _
  rw [hTe]
  refine ⟨by omega, h1, fun t ht => by simpa using h3 t ht, ?_⟩
  unfold plc
  rw [List.getElem?_eq_getElem hlt]; rfl
theorem plc_is {ix : List Int} {es : List Ent} {key : ByteArray} {hs : Nat} (h : Fit ix es) (hh : hs < 65536) : plc ix es key hs = -1 ∨ ∃ k : Nat, plc ix es key hs = (k : Int) ∧ ∃ hk : k < es.length, es[k].key = key := by
  obtain ⟨_, h2, _, h4⟩ := fst_ok (key := key) h hh
  rcases endB_way h4 h.2.2.1 h2 with h5 | h5 | ⟨k, h5, hk, h6⟩
  · exact .inl h5.1
  · exact absurd h5.2 (by decide)
  · refine .inr ⟨k, h5, hk, ?_⟩
    have := eq_of_beq h6
    rw [ByteArray.toList_eq, ByteArray.toList_eq] at this
    apply ByteArray.ext
    exact Array.toList_inj.1 this
theorem find_ok (ix : List Int) (es : List Ent) (key : ByteArray) (g c1 c2 hs : Nat) (a : Option Addr) (w : World) (h : Tb w g ix a es) (hf : Fit ix es) (hh : hs < 65536) :
    Calls Try.prog 53 #[.agg #[.slice (some ⟨g, 0, none⟩) ix.length c1, .slice a es.length c2], .string key, .int .i64 (hs : Int)] w fun e w' => e = .returned (.int .i64 (plc ix es key hs)) ∧ Below w.heap.size w w' := by
  have hm : 8 ≤ ix.length ∧ ix.length ≤ 128 := by have := slotN_mem hf.1; simp at this; omega
  obtain ⟨h1, h2, h3, h4⟩ := fst_ok (key := key) hf hh
  exact find_any ix es key g c1 c2 hs (fstT ix es key hs) a w _ h hf.2.2.1 hf.1 (by have := hf.2.1; omega) hh h1 h2 h3 h4
theorem slotOf_ok (ix : List Int) (es : List Ent) (key : ByteArray) (g c1 c2 : Nat) (a : Option Addr) (w : World) (h : Tb w g ix a es) (hf : Fit ix es) (hkey : key.size ≤ 1048576) :
    Calls Try.prog 64 #[.agg #[.slice (some ⟨g, 0, none⟩) ix.length c1, .slice a es.length c2], .string key] w fun e w' => e = .returned (.int .i64 (fstS ix es key (hsh key.data.toList) : Int)) ∧ Below w.heap.size w w' := by
  have hm : 8 ≤ ix.length ∧ ix.length ≤ 128 := by have := slotN_mem hf.1; simp at this; omega
  obtain ⟨h1, h2, h3, h4⟩ := fst_ok (key := key) hf (hsh_lt key.data.toList)
  exact slotOf_any ix es key g c1 c2 (fstT ix es key (hsh key.data.toList)) a w h hf.2.2.1 hf.1 (by have := hf.2.1; omega) hkey h1 h2 h3
def zeroE (e : Ent) : Bool := e.key.toList == [] && e.hash == 0 && e.val == 0
/-- Whether an entry is valid by itself. -/
def entOk (e : Ent) : Bool := if e.live then keyB e.key && (e.hash == hashV e.key) && okV e.val else zeroE e
set_option maxHeartbeats 2000000 in
set_option maxRecDepth 20000 in
theorem isOk_any (e : Ent) (w : World) (hk : e.key.size ≤ 1048576) : Calls Try.prog 52 #[.agg #[.string e.key, .int .i64 e.hash, .int .i64 e.val, .bool e.live]] w fun r w' => r = .returned (.bool (entOk e)) ∧ Below w.heap.size w w' := by
  have HS := Lib.hid (fun w => (isKey_any e.key w (by omega)).mono fun _ _ h => And.intro h.1 h.2.symm)
  have HH := Lib.hid (fun w => (implHash_any e.key w (by omega)).mono fun _ _ h => And.intro h.1 h.2.symm)
  have HI := Lib.hid (fun w => (isIndex_any e.val w).mono fun _ _ h => And.intro h.1 h.2.symm)
  have HB0 := Lib.hid (show Below w.heap.size w (w.alloc (Obj.cells #[.string e.key, .int .i64 e.hash, .int .i64 e.val, .bool e.live] 57)) from (Below.refl _ _).alloc (Nat.le_refl _) _)
  cases hl : e.live with
  | false =>
    have HE : entOk e = zeroE e := by unfold entOk; rw [hl]; rfl
    rw [HE]
    clear HE HB0 HS HH HI hk
    obtain ⟨k, h, v, l⟩ := e
    subst hl
    go_enter Try.func52, Try.ntmps52
    go_wp2_with fail
    all_goals
      go_ret
      refine ⟨?_, (Below.refl _ _).alloc (Nat.le_refl _) _⟩
      refine congrArg (fun b => Ending.returned (.bool b)) ?_
      simp_all [zeroE]
  | true =>
    have HE : entOk e = (keyB e.key && (e.hash == hashV e.key) && okV e.val) := by unfold entOk; rw [hl]; rfl
    rw [HE]
    clear HE
    rw [hl] at HB0
    cases h1 : keyB e.key with
    | false =>
      rw [h1] at HS
      clear h1
      go_enter Try.func52, Try.ntmps52
      go_wp2_with fail
      go_quiet (first | (go_at_call 56; exact Calls.quiet_of_same (HS.out _)) | (go_at_call 27; exact Calls.quiet_of_same (HH.out _)) | (go_at_call 74; exact Calls.quiet_of_same (HI.out _)))
      go_wp2_with fail
      go_ret
      exact ⟨rfl, below_drewN' HB0.out⟩
    | true =>
      rw [h1] at HS
      clear h1
      generalize hashV e.key = hv at *
      cases h2 : (e.hash == hv) with
      | false =>
        go_enter Try.func52, Try.ntmps52
        go_wp2_with fail
        go_quiet (first | (go_at_call 56; exact Calls.quiet_of_same (HS.out _)) | (go_at_call 27; exact Calls.quiet_of_same (HH.out _)) | (go_at_call 74; exact Calls.quiet_of_same (HI.out _)))
        go_wp2_with fail
        go_ret
        exact ⟨rfl, below_drewN' HB0.out⟩
      | true =>
        generalize okV e.val = ov at *
        go_enter Try.func52, Try.ntmps52
        go_wp2_with fail
        go_quiet (first | (go_at_call 56; exact Calls.quiet_of_same (HS.out _)) | (go_at_call 27; exact Calls.quiet_of_same (HH.out _)) | (go_at_call 74; exact Calls.quiet_of_same (HI.out _)))
        go_wp2_with fail
        go_ret
        exact ⟨by simp, below_drewN' HB0.out⟩
/-- The entry at place i is valid and is found there. -/
def RowOk (ix : List Int) (es : List Ent) (i : Nat) (e : Ent) : Prop := entOk e = true ∧ (e.live = true → plc ix es e.key (hsh e.key.data.toList) = (i : Int))
/-- A valid dictionary. -/
def DOk (ix : List Int) (es : List Ent) : Prop := Fit ix es ∧ liveN es ≤ 40 ∧ ∀ (i : Nat) (e : Ent), es[i]? = some e → RowOk ix es i e
noncomputable def dokB (ix : List Int) (es : List Ent) : Bool := @decide (DOk ix es) (Classical.propDecidable _)
theorem dok_no {ix : List Int} {es : List Ent} (h : ¬ DOk ix es) : dokB ix es = false := @decide_eq_false _ (Classical.propDecidable _) h
theorem dok_yes {ix : List Int} {es : List Ent} (h : DOk ix es) : dokB ix es = true := @decide_eq_true _ (Classical.propDecidable _) h
theorem dok_of {ix : List Int} {es : List Ent} (h : dokB ix es = true) : DOk ix es := @of_decide_eq_true _ (Classical.propDecidable _) h
theorem fit_iff {ix : List Int} {es : List Ent} : (whV ix es && whB ix es) = true ↔ Fit ix es := by
  unfold whV Fit
  simp only [Bool.and_eq_true, decide_eq_true_eq]
  constructor
  · rintro ⟨⟨h1, h2⟩, h3⟩; exact ⟨h1, h2, wh_of h3⟩
  · rintro ⟨h1, h2, h3⟩; exact ⟨⟨h1, h2⟩, whB_yes h3⟩
theorem ent_hash {e : Ent} (h : entOk e = true) (hl : e.live = true) : e.hash = (hsh e.key.data.toList : Int) ∧ e.key.size ≤ 20 := by
  unfold entOk at h
  rw [hl] at h
  simp only [if_true, Bool.and_eq_true] at h
  obtain ⟨⟨h1, h2⟩, _⟩ := h
  have h3 : e.key.size ≤ 20 := by unfold keyB at h1; simpa using h1
  refine ⟨?_, h3⟩
  rw [eq_of_beq h2]
  unfold hashV
  rw [if_pos h3]
/-- The first i entries are so. -/
def RowsS (ix : List Int) (es : List Ent) (i : Nat) : Prop := ∀ (j : Nat) (e : Ent), j < i → es[j]? = some e → RowOk ix es j e
theorem RowsS.next {ix : List Int} {es : List Ent} {i : Nat} {e : Ent} (h : RowsS ix es i) (he : es[i]? = some e) (h1 : RowOk ix es i e) : RowsS ix es (i + 1) := by
  intro j e2 hj h2
  rcases Nat.lt_or_ge j i with h3 | h3
  · exact h j e2 h3 h2
  · obtain rfl : j = i := by omega
    rw [he] at h2; injection h2 with h2; subst h2; exact h1
/-- Texts of keys are not too long for the machine. -/
def KeysS (es : List Ent) : Prop := ∀ e ∈ es, e.key.size ≤ 1048576
set_option maxHeartbeats 4000000 in
set_option maxRecDepth 20000 in
theorem dictOk_any (ix : List Int) (es : List Ent) (g c1 c2 : Nat) (a : Option Addr) (w : World) (h : Tb w g ix a es) (hl : es.length ≤ 1048576) (hm : ix.length ≤ 1048576) (hks : KeysS es) :
    Calls Try.prog 17 #[.agg #[.slice (some ⟨g, 0, none⟩) ix.length c1, .slice a es.length c2]] w fun e w' => e = .returned (.bool (dokB ix es)) ∧ Below w.heap.size w w' := by
  obtain ⟨w1, hw1⟩ : ∃ w1, w1 = (w.alloc (Obj.cells #[.slice (some ⟨g, 0, none⟩) ix.length c1, .slice a es.length c2] 26)).alloc (Obj.cells #[.slice (some ⟨g, 0, none⟩) ix.length c1, .slice a es.length c2] 54) := ⟨_, rfl⟩
  have HB0 := Lib.hid (show Below w.heap.size w w1 from by rw [hw1]; exact ((Below.refl _ _).alloc (Nat.le_refl _) _).alloc (by simp) _)
  have HT1 := Lib.hid (show Tb w1 g ix a es from h.below HB0.out)
  have HX1 := Lib.hid (show Blk w1 w.heap.size _ #[.slice (some ⟨g, 0, none⟩) ix.length c1, .slice a es.length c2] from by rw [hw1]; exact (Blk.newest w _ _).alloc _)
  have HX2 := Lib.hid (show Blk w1 (w.heap.size + 1) _ #[.slice (some ⟨g, 0, none⟩) ix.length c1, .slice a es.length c2] from by rw [hw1]; exact Blk.new _ _ _ (by simp))
  have HKS := Lib.hid hks
  have HWh := Lib.hid (fun w h => isWhole_any ix es g c1 c2 a w h hl hm)
  have HCL := Lib.hid (fun w h => countLive_any (.slice (some ⟨g, 0, none⟩) ix.length c1) es a c2 w h hl rfl)
  have HFi := Lib.hid (fun (key : ByteArray) w h hf => find_ok ix es key g c1 c2 (hsh key.data.toList) a w h hf (hsh_lt key.data.toList))
  have hsz : w1.heap.size = w.heap.size + 2 := by rw [hw1]; simp
  clear h hks
  cases hv : (whV ix es && whB ix es) with
  | false =>
    have HE := Lib.hid (show dokB ix es = false from dok_no fun h => by rw [fit_iff.2 h.1] at hv; cases hv)
    rw [hv] at HWh
    clear hv
    generalize ix.length = m at *
    generalize es.length = ne at *
    have HW1 := Lib.hid hw1
    clear hw1
    go_enter Try.func17, Try.ntmps17
    go_wp2_with fail
    rw [← HW1.out]
    refine (HWh.out _ HT1.out).mono ?_
    rintro e w2 ⟨rfl, hb2⟩
    have HB2 := Lib.hid (HB0.out.trans (hb2.mono HB0.out.size))
    clear hb2
    go_wp2_with fail
    go_ret
    exact ⟨by rw [HE.out]; rfl, HB2.out⟩
  | true =>
    have HF := Lib.hid (fit_iff.1 hv)
    rw [hv] at HWh
    clear hv
    have HFi2 := Lib.hid (fun (key : ByteArray) w h => HFi.out key w h HF.out)
    clear HFi
    generalize hmm : ix.length = m at *
    generalize hne : es.length = ne at *
    have HNE := Lib.hid hne
    have HMM := Lib.hid hmm
    clear hmm hne
    have HW1 := Lib.hid hw1
    clear hw1
    have hln : (liveN es : Int) ≤ 1048576 := by have := liveN_le es es.length; rw [List.take_length, HNE.out] at this; omega
    by_cases h40 : liveN es ≤ 40
    · have H40 := Lib.hid h40
      have k40 : (liveN es : Int) ≤ 40 := by omega
      clear h40
      go_enter Try.func17, Try.ntmps17
      go_wp2_with fail
      rw [← HW1.out]
      refine (HWh.out _ HT1.out).mono ?_
      rintro e w2 ⟨rfl, hb2⟩
      have HY2 := Lib.hid (HX2.out.below hb2 (by rw [hsz]; omega))
      have HY1 := Lib.hid (HX1.out.below hb2 (by rw [hsz]; omega))
      have HT2 := Lib.hid (HT1.out.below hb2)
      have HB2 := Lib.hid (HB0.out.trans (hb2.mono HB0.out.size))
      have HS2 := Lib.hid (show w.heap.size + 2 ≤ w2.heap.size by have := hb2.size; omega)
      clear hb2
      have b0 := HY2.out.cell 0
      have b1 := HY2.out.cell 1
      go_wp2_with fail
      refine (HCL.out _ HT2.out.2.2).mono ?_
      rintro e w3 ⟨rfl, hb3⟩
      have HZ2 := Lib.hid (HY2.out.below hb3 (by have := HS2.out; omega))
      have HZ1 := Lib.hid (HY1.out.below hb3 (by have := HS2.out; omega))
      have HT3 := Lib.hid (HT2.out.below hb3)
      have HB3 := Lib.hid (HB2.out.trans (hb3.mono HB2.out.size))
      have HS3 := Lib.hid (show w.heap.size + 2 ≤ w3.heap.size from Nat.le_trans HS2.out hb3.size)
      clear hb3 b0 b1
      have b0 := HZ1.out.cell 0
      have b1 := HZ1.out.cell 1
      go_wp2_with fail
      go_loopw [18] (fun i wr => ∃ k : Nat, k ≤ ne ∧ i = .int .i64 k ∧ Hid (RowsS ix es k) ∧ Hid (Below w3.heap.size w3 wr)) (fun i _ => ne - (intOf i).toNat)
      case atStart => exact ⟨0, by omega, rfl, Lib.hid (fun _ _ h => absurd h (by omega)), Lib.hid (Below.refl _ _)⟩
      case round =>
        obtain ⟨k, hk, rfl, HR, HI⟩ := hrel
        by_cases hltk : k < ne
        · obtain ⟨g2, e, rfl, he, hb, x0, x1, x2, x3⟩ := (HT3.out.below HI.out).2.2.at (show k < es.length by rw [HNE.out]; exact hltk)
          have q1 : (k : Int) < (ne : Int) := by omega
          have q0 : 0 ≤ (k : Int) := by omega
          have HL := Lib.hid (lies4 x0 x1 x2 x3)
          have HKe := Lib.hid (HKS.out e (List.mem_of_getElem? he))
          have HOk := Lib.hid (fun w => isOk_any e w HKe.out)
          have HTr := Lib.hid (HT3.out.below HI.out)
          have HQ2 := Lib.hid (HZ2.out.below HI.out (by have := HS3.out; omega))
          have HGE := Lib.hid he
          clear x0 x1 x2 x3 he
          go_wp2_with (first | (refine ldE (o := ⟨some 22, _, _, _, _, _⟩) rfl (.tmp 21) rfl g2 (k * 4) (.string e.key) (.int .i64 e.hash) (.int .i64 e.val) (.bool e.live) rfl HL.out ?_))
          refine (HOk.out _).mono ?_
          rintro r w4 ⟨rfl, hb4⟩
          have hb4' : Below wr.heap.size wr w4 := ((Below.refl _ wr).alloc (Nat.le_refl _) _).trans (hb4.mono (by simp))
          have HT4 := Lib.hid (HTr.out.below hb4')
          have HP2 := Lib.hid (HQ2.out.below hb4' (by have := HS3.out; have := HI.out.size; omega))
          have HEn := Lib.hid (Blk.below (Blk.newest wr _ _) hb4 (by simp))
          have HI4 := Lib.hid (HI.out.trans (hb4'.mono HI.out.size))
          have z0 := HEn.out.cell 0
          have z1 := HEn.out.cell 1
          have z3 := HEn.out.cell 3
          have y0 := HP2.out.cell 0
          have y1 := HP2.out.cell 1
          clear hb4 hb4'
          cases hok : entOk e with
          | false =>
            have HE := Lib.hid (show dokB ix es = false from dok_no fun h => by have := (h.2.2 k e HGE.out).1; rw [hok] at this; cases this)
            clear hok
            go_wp2_with fail
            go_ret
            exact ⟨by rw [HE.out]; rfl, HB3.out.trans (HI4.out.mono HB3.out.size)⟩
          | true =>
            cases hlv : e.live with
            | false =>
              have HR2 := Lib.hid (HR.out.next HGE.out ⟨hok, fun h => by rw [hlv] at h; cases h⟩)
              rw [hlv] at z3
              clear hok
              go_wp2_with fail
              go_roundw
              case rel => exact ⟨k + 1, by omega, by go_num, HR2, HI4⟩
              case measure => simp [intOf]; try omega
            | true =>
              obtain ⟨hh1, hh2⟩ := ent_hash hok hlv
              rw [hlv] at z3
              rw [hh1] at z1
              go_wp2_with fail
              refine (HFi2.out e.key _ HT4.out).mono ?_
              rintro r w5 ⟨rfl, hb5⟩
              have HI5 := Lib.hid (HI4.out.trans (hb5.mono HI4.out.size))
              clear hb5
              cases hp : (plc ix es e.key (hsh e.key.data.toList) == (k : Int)) with
              | true =>
                have HR2 := Lib.hid (HR.out.next HGE.out ⟨hok, fun _ => eq_of_beq hp⟩)
                have hp2 : (plc ix es e.key (hsh e.key.data.toList) != (k : Int)) = false := by rw [bne, hp]; rfl
                clear hok hh1
                go_wp2_with fail
                go_roundw
                case rel => exact ⟨k + 1, by omega, by go_num, HR2, HI5⟩
                case measure => simp [intOf]; try omega
              | false =>
                have HE := Lib.hid (show dokB ix es = false from dok_no fun h => by have := (h.2.2 k e HGE.out).2 hlv; rw [this] at hp; simp at hp)
                have hp2 : (plc ix es e.key (hsh e.key.data.toList) != (k : Int)) = true := by rw [bne, hp]; rfl
                clear hok hh1
                go_wp2_with fail
                go_ret
                exact ⟨by rw [HE.out]; rfl, HB3.out.trans (HI5.out.mono HB3.out.size)⟩
        · obtain rfl : k = ne := by omega
          have HE := Lib.hid (show dokB ix es = true from dok_yes ⟨HF.out, H40.out, fun i e he => HR.out i e (by
            rcases Nat.lt_or_ge i es.length with h7 | h7
            · rw [HNE.out] at h7; exact h7
            · rw [List.getElem?_eq_none h7] at he; cases he) he⟩)
          clear hltk
          go_wp2_with fail
          go_ret
          exact ⟨by rw [HE.out]; rfl, HB3.out.trans (HI.out.mono HB3.out.size)⟩
    · have HE := Lib.hid (show dokB ix es = false from dok_no fun h => h40 h.2.1)
      have k40 : (40 : Int) < (liveN es : Int) := by omega
      clear h40
      go_enter Try.func17, Try.ntmps17
      go_wp2_with fail
      rw [← HW1.out]
      refine (HWh.out _ HT1.out).mono ?_
      rintro e w2 ⟨rfl, hb2⟩
      have HY2 := Lib.hid (HX2.out.below hb2 (by rw [hsz]; omega))
      have HT2 := Lib.hid (HT1.out.below hb2)
      have HB2 := Lib.hid (HB0.out.trans (hb2.mono HB0.out.size))
      clear hb2
      have b0 := HY2.out.cell 0
      have b1 := HY2.out.cell 1
      go_wp2_with fail
      refine (HCL.out _ HT2.out.2.2).mono ?_
      rintro e w3 ⟨rfl, hb3⟩
      have HB3 := Lib.hid (HB2.out.trans (hb3.mono HB2.out.size))
      clear hb3
      go_wp2_with fail
      go_ret
      exact ⟨by rw [HE.out]; rfl, HB3.out⟩
end Go.Proofs.Ytibglmcpbbikdaa
