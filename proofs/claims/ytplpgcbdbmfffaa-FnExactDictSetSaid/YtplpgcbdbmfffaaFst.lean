/- Where looking for a key ends, of slots and entries that fit each other: plain facts; find and slotOf by them. -/
import Derived.Test.YtplpgcbdbmfffaaWh
namespace Go.Proofs.Ytplpgcbdbmfffaa
open Go.RowKit
/-- Slots and entries that fit each other. -/
def Fit (ix : List Int) (es : List Ent) : Prop := slotN ix.length = true ∧ es.length ≤ 2 * ix.length / 3 ∧ Wh ix es
theorem len_sub : ∀ {l m : List Int}, l.Nodup → (∀ a ∈ l, a ∈ m) → l.length ≤ m.length
  | [], _, _, _ => Nat.zero_le _
  | a :: l, m, hn, hs => by
    rw [List.nodup_cons] at hn
    have h1 : l.length ≤ (m.erase a).length := len_sub hn.2 fun b hb => (List.mem_erase_of_ne (by rintro rfl; exact hn.1 hb)).2 (hs b (List.mem_cons_of_mem _ hb))
    have h2 := List.length_erase_of_mem (hs a List.mem_cons_self)
    have h3 : 0 < m.length := List.length_pos_of_mem (hs a List.mem_cons_self)
    rw [List.length_cons]; omega
/-- The places of those alive. -/
def lvI : List Ent → Nat → List Int
  | [], _ => []
  | e :: es, o => if e.live then (o : Int) :: lvI es (o + 1) else lvI es (o + 1)
theorem lvI_len (es : List Ent) (o : Nat) : (lvI es o).length = liveN es := by
  induction es generalizing o with
  | nil => rfl
  | cons e es ih =>
    unfold lvI liveN
    cases he : e.live
    · simp [he, ih, liveN]
    · simp [he, ih, liveN]
theorem lvI_mem {es : List Ent} {o j : Nat} {e : Ent} (h : es[j]? = some e) (hl : e.live = true) : ((o + j : Nat) : Int) ∈ lvI es o := by
  induction es generalizing o j with
  | nil => simp at h
  | cons a es ih =>
    unfold lvI
    cases j with
    | zero =>
      simp at h; subst h
      rw [if_pos hl]; simp
    | succ j =>
      have := ih (o := o + 1) (j := j) (by simpa using h)
      rw [show o + 1 + j = o + (j + 1) by omega] at this
      split
      · exact List.mem_cons_of_mem _ this
      · exact this
theorem len_parts {ix : List Int} (h : ∀ n ∈ ix, n = -2 ∨ 0 ≤ n) : ix.length = ix.count (-2) + (ix.filter (fun n => decide (0 ≤ n))).length := by
  induction ix with
  | nil => rfl
  | cons a l ih =>
    have h1 := ih fun n hn => h n (List.mem_cons_of_mem _ hn)
    rcases h a List.mem_cons_self with rfl | h2
    · simp [List.count_cons, List.filter_cons] at h1 ⊢; omega
    · have h3 : a ≠ -2 := by omega
      simp [List.count_cons, List.filter_cons, h2, h3] at h1 ⊢; omega
theorem fit_empty {ix : List Int} {es : List Ent} (h : Fit ix es) : ∃ s, s < ix.length ∧ ix[s]? = some (-1) := by
  obtain ⟨h1, h2, h3, h4, h5, h6⟩ := h
  have hm : 8 ≤ ix.length := by have := slotN_mem h1; simp at this; omega
  by_cases hn : (-1 : Int) ∈ ix
  · obtain ⟨s, hs⟩ := List.mem_iff_getElem?.1 hn
    refine ⟨s, ?_, hs⟩
    rcases Nat.lt_or_ge s ix.length with h7 | h7
    · exact h7
    · rw [List.getElem?_eq_none h7] at hs; cases hs
  · exfalso
    have hall : ∀ n ∈ ix, n = -2 ∨ (0 ≤ n ∧ n < es.length) := fun n hn2 => by
      obtain ⟨s, hs⟩ := List.mem_iff_getElem?.1 hn2
      rcases h3 s n hs with rfl | h8 | h8
      · exact absurd hn2 hn
      · exact .inl h8
      · exact .inr h8
    have hlen := len_parts fun n hn2 => (hall n hn2).imp id And.left
    have hnd : (ix.filter (fun n => decide (0 ≤ n))).Nodup := by
      have hp : ix.Pairwise (fun a b => a = b → a < 0) := by
        rw [List.pairwise_iff_getElem]
        intro i j hi hj hij he
        exact h4 i j ix[i] hij (List.getElem?_eq_getElem hi) (by rw [List.getElem?_eq_getElem hj, he])
      have hp2 := hp.filter (fun n => decide (0 ≤ n))
      refine List.Pairwise.imp_of_mem ?_ hp2
      intro a b ha _ hab he
      have h8 := of_decide_eq_true (List.mem_filter.1 ha).2
      have := hab he
      omega
    have hle := len_sub hnd (m := lvI es 0) fun a ha => by
      obtain ⟨ha1, ha2⟩ := List.mem_filter.1 ha
      have ha3 := of_decide_eq_true ha2
      obtain ⟨p, rfl⟩ : ∃ p : Nat, a = (p : Int) := ⟨a.toNat, by omega⟩
      have hp : p < es.length := by rcases hall _ ha1 with h8 | h8 <;> omega
      have he := h5 p es[p] (List.getElem?_eq_getElem hp)
      have := lvI_mem (o := 0) (List.getElem?_eq_getElem hp) (by rw [he]; exact decide_eq_true ha1)
      simpa using this
    rw [lvI_len] at hle
    omega
/-- The step at which looking for a key ends, and what its slot holds. -/
def fstT (ix : List Int) (es : List Ent) (key : ByteArray) (hs : Nat) : Nat := ((List.range 200).find? fun t => endB ix es key (pr ix.length hs t).1).getD 0
def fstS (ix : List Int) (es : List Ent) (key : ByteArray) (hs : Nat) : Nat := (pr ix.length hs (fstT ix es key hs)).1
def plc (ix : List Int) (es : List Ent) (key : ByteArray) (hs : Nat) : Int := (ix[fstS ix es key hs]?).getD 0
theorem fst_ok {ix : List Int} {es : List Ent} {key : ByteArray} {hs : Nat} (h : Fit ix es) (hh : hs < 65536) : fstT ix es key hs ≤ 1000 ∧ endB ix es key (pr ix.length hs (fstT ix es key hs)).1 = true ∧ (∀ t, t < fstT ix es key hs → endB ix es key (pr ix.length hs t).1 = false) ∧ ix[fstS ix es key hs]? = some (plc ix es key hs) := by
  obtain ⟨s, hs1, hs2⟩ := fit_empty h
  have hm : 8 ≤ ix.length ∧ ix.length ≤ 128 := by have := slotN_mem h.1; simp at this; omega
  obtain ⟨t, ht1, ht2⟩ := pr_come h.1 hh hs1
  have he : endB ix es key (pr ix.length hs t).1 = true := by rw [ht2]; unfold endB; rw [hs2]; rfl
  have hf : ((List.range 200).find? fun t => endB ix es key (pr ix.length hs t).1).isSome := by
    rw [List.find?_isSome]
    exact ⟨t, List.mem_range.2 (by omega), he⟩
  obtain ⟨T, hT⟩ := Option.isSome_iff_exists.1 hf
  have hTe : fstT ix es key hs = T := by unfold fstT; rw [hT]; rfl
  rw [List.find?_range_eq_some] at hT
  obtain ⟨h1, h2, h3⟩ := hT
  have h2' := List.mem_range.1 h2
  have hlt : fstS ix es key hs < ix.length := pr_lt (by omega) _
  rw [hTe]
  refine ⟨by omega, h1, fun t ht => by simpa using h3 t ht, ?_⟩
  unfold plc
  rw [List.getElem?_eq_getElem hlt]; rfl
theorem plc_is {ix : List Int} {es : List Ent} {key : ByteArray} {hs : Nat} (h : Fit ix es) (hh : hs < 65536) : plc ix es key hs = -1 ∨ ∃ k : Nat, plc ix es key hs = (k : Int) ∧ ∃ hk : k < es.length, es[k].key = key := by
  obtain ⟨_, h2, _, h4⟩ := fst_ok (key := key) h hh
  rcases endB_way h4 h.2.2.1 h2 with h5 | h5 | ⟨k, h5, hk, h6⟩
  · exact .inl h5.1
  · exact absurd h5.2 (by decide)
  · refine .inr ⟨k, h5, hk, ?_⟩
    have := eq_of_beq h6
    rw [ByteArray.toList_eq, ByteArray.toList_eq] at this
    apply ByteArray.ext
    exact Array.toList_inj.1 this
theorem find_ok (ix : List Int) (es : List Ent) (key : ByteArray) (g c1 c2 hs : Nat) (a : Option Addr) (w : World) (h : Tb w g ix a es) (hf : Fit ix es) (hh : hs < 65536) :
    Calls Try.prog 65 #[.agg #[.slice (some ⟨g, 0, none⟩) ix.length c1, .slice a es.length c2], .string key, .int .i64 (hs : Int)] w fun e w' => e = .returned (.int .i64 (plc ix es key hs)) ∧ Below w.heap.size w w' := by
  have hm : 8 ≤ ix.length ∧ ix.length ≤ 128 := by have := slotN_mem hf.1; simp at this; omega
  obtain ⟨h1, h2, h3, h4⟩ := fst_ok (key := key) hf hh
  exact find_any ix es key g c1 c2 hs (fstT ix es key hs) a w _ h hf.2.2.1 hf.1 (by have := hf.2.1; omega) hh h1 h2 h3 h4
theorem slotOf_ok (ix : List Int) (es : List Ent) (key : ByteArray) (g c1 c2 : Nat) (a : Option Addr) (w : World) (h : Tb w g ix a es) (hf : Fit ix es) (hkey : key.size ≤ 1048576) :
    Calls Try.prog 68 #[.agg #[.slice (some ⟨g, 0, none⟩) ix.length c1, .slice a es.length c2], .string key] w fun e w' => e = .returned (.int .i64 (fstS ix es key (hsh key.data.toList) : Int)) ∧ Below w.heap.size w w' := by
  have hm : 8 ≤ ix.length ∧ ix.length ≤ 128 := by have := slotN_mem hf.1; simp at this; omega
  obtain ⟨h1, h2, h3, h4⟩ := fst_ok (key := key) hf (hsh_lt key.data.toList)
  exact slotOf_any ix es key g c1 c2 (fstT ix es key (hsh key.data.toList)) a w h hf.2.2.1 hf.1 (by have := hf.2.1; omega) hkey h1 h2 h3
end Go.Proofs.Ytplpgcbdbmfffaa
