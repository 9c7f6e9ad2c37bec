/- Small numbers in decimal; a new dictionary in the model; a dictionary while it is drawn. -/
import Derived.Test.YtibglmcpbbikdaaKv
import Derived.Test.YtibglmcpbbikdaaHash2
namespace Go.Proofs.Ytibglmcpbbikdaa
open Go.RowKit
set_option maxHeartbeats 1000000 in
theorem positive_small (y : Nat) (w : World) (hy : y ≤ 29) : Calls Try.prog 96 #[.int .i64 (y : Int)] w (TxP w 4) := by
  go_enter Try.func96, Try.ntmps96
  go_wp2
  go_loopw [0, 3] (fun z v wr => ∃ (x : Nat) (l : List UInt8), z = .int .i64 (x : Int) ∧ v = .string ⟨l.toArray⟩ ∧ 9 * l.length + x ≤ 29 ∧ Hid (Below w.heap.size w wr)) (fun z _ _ => (intOf z).toNat)
  case atStart => exact ⟨y, [], rfl, rfl, by simpa using hy, Lib.hid (Below.refl _ _)⟩
  case round =>
    obtain ⟨x, l, rfl, rfl, hl, HI⟩ := hrel
    have HD := Lib.hid (show (48 : Int) + (x : Int) % 10 = ((dch (x % 10)).toNat : Int) by rw [dch_toNat (Nat.mod_lt _ (by decide))]; omega)
    have HI2 := Lib.hid (HI.out.alloc HI.out.size (.cells #[.int .u8 (48 + (x : Int) % 10)] 5))
    have HL := Lib.hid (show l.length ≤ 1000 by omega)
    by_cases h0 : x / 10 = 0
    · have hz : ((x : Int) / 10 == 0) = true := beq_iff_eq.2 (by omega)
      clear h0
      go_wp2_with (first | (refine (puts_text 22 9 5 (.tmp 14) rfl Try.underlying22 Try.underlying5 Try.underlying9 wr.heap.size _ [dch (x % 10)] rfl (lit8 wr _ _ HD.out)).gives.plain rfl ?_) | (refine (puts_cons 9 9 (.tmp 15) (.tmp 16) rfl (dch (x % 10)) l rfl rfl HL.out).gives.plain rfl ?_))
      go_ret
      exact ⟨_, rfl, by simp; omega, HI2.out⟩
    · have hz : ((x : Int) / 10 == 0) = false := beq_eq_false_iff_ne.2 (by omega)
      go_wp2_with (first | (refine (puts_text 22 9 5 (.tmp 14) rfl Try.underlying22 Try.underlying5 Try.underlying9 wr.heap.size _ [dch (x % 10)] rfl (lit8 wr _ _ HD.out)).gives.plain rfl ?_) | (refine (puts_cons 9 9 (.tmp 15) (.tmp 16) rfl (dch (x % 10)) l rfl rfl HL.out).gives.plain rfl ?_))
      go_roundw
      case rel => exact ⟨x / 10, dch (x % 10) :: l, by go_num, rfl, by simp; omega, HI2⟩
      case measure => simp [intOf]; try omega
set_option maxHeartbeats 1000000 in
theorem decimal_small (y : Nat) (w : World) (hy : y ≤ 29) : Calls Try.prog 84 #[.int .i64 (y : Int)] w (TxP w 4) := by
  have HP := Lib.hid (fun w => positive_small y w hy)
  go_enter Try.func84, Try.ntmps84
  go_wp2_with fail
  refine (HP.out _).mono ?_
  rintro e w2 ⟨l, rfl, hl, hb⟩
  have HB := Lib.hid hb
  have HL := Lib.hid hl
  clear hb hl
  go_wp2_with fail
  go_ret
  exact ⟨_, rfl, HL.out, HB.out⟩
theorem neg_iv (c : Nat) : neg c = iv (List.replicate c (-1)) := by simp [neg, iv]
/-- A new dictionary of the call's own. -/
def SdO (w : World) (e : Ending) (w' : World) : Prop := ∃ g cap, e = .returned (.agg #[.slice (some ⟨g, 0, none⟩) 8 cap, .slice none 0 0]) ∧ Below w.heap.size w w' ∧ OwI w' w.heap.size (.slice (some ⟨g, 0, none⟩) (List.replicate 8 (-1 : Int)).length cap) (List.replicate 8 (-1))
theorem nx_ownI {w w' : World} {v : Value} {c : Nat} (h : NxI w w' v c) (hc : 1 ≤ c) : ∃ g cap, v = .slice (some ⟨g, 0, none⟩) c cap ∧ Below w.heap.size w w' ∧ w.heap.size ≤ g ∧ OwI w' w.heap.size (.slice (some ⟨g, 0, none⟩) c cap) (List.replicate c (-1)) := by
  rcases Own.form h.2 with ⟨_, h2⟩ | ⟨g, cap, h1, h2, _, _, _⟩
  · have := neg_len c; rw [h2] at this; simp at this; omega
  · rw [neg_len] at h1
    subst h1
    refine ⟨g, cap, rfl, h.1, h2, ?_⟩
    have := h.2
    rw [neg_iv] at this
    exact this
set_option maxHeartbeats 2000000 in
theorem specNew_own (w : World) : Calls Try.prog 46 #[] w (SdO w) := by
  have HR := Lib.hid (fun w => newIndex_any 8 w (by omega))
  go_enter Try.func46, Try.ntmps46
  go_wp2_with fail
  refine (HR.out _).mono ?_
  rintro e w' ⟨v, rfl, h⟩
  have HB := Lib.hid (Blk.below (Blk.newest w _ _) h.1 (by simp))
  obtain ⟨g, cap, rfl, hb, hg, ho⟩ := nx_ownI h (by omega)
  clear h
  have HT := Lib.hid (nw_of ⟨hb, hg, rfl⟩)
  have HO := Lib.hid ho
  have c0 := HB.out.cell 0
  have c1 := HB.out.cell 1
  have f0 := HB.out.free 0
  have f1 := HB.out.free 1
  clear hb hg ho
  go_wp2_with fail
  have HZ := Lib.hid (two_set HB.out (.slice (some ⟨g, 0, none⟩) 8 cap) (.slice none 0 0))
  exact bodyPost_ret (v := .agg #[.slice (some ⟨g, 0, none⟩) 8 cap, .slice none 0 0]) (results_cell_row rfl _ _ w.heap.size 26 _ (0, 0) _ rfl HZ.out Try.underlying26 rfl (by kernel_rfl)) rfl ⟨g, cap, rfl, (HT.out.1.setCell (Nat.le_refl _) _).setCell (Nat.le_refl _) _, by
    have hne : g ≠ w.heap.size := by have := HT.out.2.1; omega
    rw [List.length_replicate]
    exact ((HO.out.setOff hne).setOff hne).wide (by simp)⟩
theorem ri_low {w0 w w' : World} {g n cap k0 k : Nat} {a : Option Addr} (h0 : RI w0 g a n cap k0) (h : RI w g a n cap k) (hb : Below w0.heap.size w w') : RI w' g a n cap k := by
  have hg := h0.1.lt
  refine ⟨h.1.below hb hg, h.2.1, h.2.2.1, ?_⟩
  rcases h.2.2.2 with h4 | ⟨x, hx, hxg, hr⟩
  · exact Or.inl h4
  · refine Or.inr ⟨x, hx, hxg, fun j hj => ?_⟩
    obtain ⟨c, hc, hcell⟩ := hr j hj
    refine ⟨c, hc, ?_⟩
    have hb' : (x.add j).block = x.block := by unfold Addr.add; split <;> rfl
    have hlt : (x.add j).block < w0.heap.size := by
      rcases h0.2.2.2 with h5 | ⟨y, hy, _, hr0⟩
      · omega
      · rw [hx] at hy
        injection hy with hy
        subst hy
        obtain ⟨_, _, hc0⟩ := hr0 j hj
        exact World.block_lt_of_cell? w0 _ hc0
    rw [World.cell?_of_block (hb.block _ hlt)]
    exact hcell
theorem DrP.low {w w1 w2 : World} {g n cap k j : Nat} {a : Option Addr} (h0 : RI w g a n cap k) (h : DrP w g a n cap k j w1) (hb : Below w.heap.size w1 w2) : DrP w g a n cap k j w2 := by
  obtain ⟨hg, k', hk, hr⟩ := h
  exact ⟨⟨hb.os.trans hg.os, hb.tape.trans hg.tape, hb.output.trans hg.output, Nat.le_trans hg.size hb.size, fun i hi hne => (hb.block i hi).trans (hg.block i hi hne)⟩, k', hk, ri_low h0 hr hb⟩
/-- While a dictionary is drawn: the drawer, and the dictionary in its variable. -/
def DvI (w wr : World) (g : Nat) (a : Option Addr) (n cap k j : Nat) (ix : List Int) (es : List Ent) (bt g1 c1 : Nat) (a2 : Option Addr) (c2 : Nat) : Prop := DrP w g a n cap k j wr ∧ TbT 26 wr (w.heap.size + 1) ix es bt g1 c1 a2 c2
theorem DvI.low {w w1 w2 : World} {g n cap k j bt g1 c1 c2 : Nat} {a a2 : Option Addr} {ix : List Int} {es : List Ent} (h0 : RI w g a n cap k) (h : DvI w w1 g a n cap k j ix es bt g1 c1 a2 c2) (hb : Below w1.heap.size w1 w2) : DvI w w2 g a n cap k j ix es bt g1 c1 a2 c2 :=
  ⟨h.1.low h0 (hb.mono h.1.1.size), h.2.below hb⟩
theorem TbT.grown {T : TypeId} {w w' : World} {b bt g g1 c1 c2 : Nat} {ix : List Int} {es : List Ent} {a2 : Option Addr} (h : TbT T w b ix es bt g1 c1 a2 c2) (hg : w.grownBy w' (some g)) (hgb : g < b) : TbT T w' b ix es bt g1 c1 a2 c2 := by
  obtain ⟨h1, h2, h3, h4, h5, h6, h7⟩ := h
  refine ⟨h1, h2, h3, (hg.block bt h4.lt (by simp; omega)).trans h4, h5.grown hg (.inr ?_), h6.grown hg ?_, h7⟩
  · have := (h5.lt g1 rfl).1
    simp [Value.ownBlock]; omega
  · rcases h6.form with ⟨e, _⟩ | ⟨q, c, e, hq, _⟩
    · injection e with e _ _; subst e; exact .inl rfl
    · injection e with e _ _; subst e
      refine .inr ?_
      simp [Value.ownBlock]; omega
theorem DvI.call {w w1 w2 : World} {g n cap k k1 j j2 bt g1 c1 c2 : Nat} {a a2 : Option Addr} {ix : List Int} {es : List Ent} (h0 : RI w g a n cap k) (h : DvI w w1 g a n cap k j ix es bt g1 c1 a2 c2) (hk : k1 ≤ k + j) (hd : DrP w1 g a n cap k1 j2 w2) : DvI w w2 g a n cap k (j + j2) ix es bt g1 c1 a2 c2 :=
  ⟨DrP.then h.1.1 hk hd, h.2.grown hd.1 (by have := h0.1.lt; omega)⟩
theorem DvI.up {w w1 : World} {g n cap k j j2 bt g1 c1 c2 : Nat} {a a2 : Option Addr} {ix : List Int} {es : List Ent} (h : DvI w w1 g a n cap k j ix es bt g1 c1 a2 c2) (hj : j ≤ j2) : DvI w w1 g a n cap k j2 ix es bt g1 c1 a2 c2 := ⟨h.1.more hj, h.2⟩
/-- A store into a block that is neither the variable's nor its slices'. -/
theorem TbT.off {T : TypeId} {w : World} {b bt g1 c1 c2 x i : Nat} {ix : List Int} {es : List Ent} {a2 : Option Addr} {u : Value} (h : TbT T w b ix es bt g1 c1 a2 c2) (hx : x ≠ bt) (h1 : g1 ≠ x) (h2 : ∀ g, a2 = some ⟨g, 0, none⟩ → g ≠ x) : TbT T (w.setCell ⟨x, i, none⟩ u) b ix es bt g1 c1 a2 c2 :=
  ⟨h.1, h.2.1, h.2.2.1, h.2.2.2.1.setOff (Ne.symm hx), h.2.2.2.2.setOff h1 h2⟩
/-- Another dictionary is stored into the variable. -/
theorem DvI.put {w w1 : World} {g n cap k j bt g1 c1 c2 d1 d2 h1 : Nat} {a a2 b2 : Option Addr} {ix ix' : List Int} {es es' : List Ent} (h0 : RI w g a n cap k) (h : DvI w w1 g a n cap k j ix es bt g1 c1 a2 c2) (hd : OwD w1 (w.heap.size + 1) ix' es' h1 d1 b2 d2) (hn : h1 ≠ bt) (hm : ∀ q, b2 = some ⟨q, 0, none⟩ → q ≠ bt) :
    DvI w ((w1.setCell ⟨bt, 0, none⟩ (.slice (some ⟨h1, 0, none⟩) ix'.length d1)).setCell ⟨bt, 1, none⟩ (.slice b2 es'.length d2)) g a n cap k j ix' es' bt h1 d1 b2 d2 := by
  obtain ⟨hr, t1, t2, t3, t4, _⟩ := h
  refine ⟨hr.low h0 (((Below.refl _ w1).setCell (p := ⟨bt, 0, none⟩) (show w.heap.size ≤ bt by omega) _).setCell (p := ⟨bt, 1, none⟩) (show w.heap.size ≤ bt by omega) _), t1, Ne.symm hn, hm, ?_, (hd.setOff hn hm).setOff hn hm⟩
  exact ((t4.set 0 _).set 1 _).same (by simp)
def keysD : List ByteArray := [⟨#[97]⟩, ⟨#[98]⟩, ⟨#[99]⟩, ⟨#[97, 97]⟩, ⟨#[97, 98]⟩, ⟨#[107, 101, 121]⟩, ⟨#[]⟩, ⟨#[122]⟩, ⟨#[113, 49]⟩, ⟨#[113, 50]⟩, ⟨#[113, 51]⟩, ⟨#[113, 52]⟩]
theorem keysD_le : ∀ d ∈ keysD, d.size ≤ 3 := by decide
/-- The keys and the cell of the result lie as they were laid. -/
def KbI (wr : World) (rb kb : Nat) : Prop := Blk wr rb 26 #[.slice none 0 0, .slice none 0 0] ∧ Blk wr kb 9 (keysD.map Value.string).toArray
theorem KbI.below {w w' : World} {rb kb : Nat} (h : KbI w rb kb) (hb : Below w.heap.size w w') : KbI w' rb kb := ⟨h.1.below hb h.1.lt, h.2.below hb h.2.lt⟩
theorem KbI.grown {w w' : World} {rb kb g : Nat} (h : KbI w rb kb) (hg : w.grownBy w' (some g)) (h1 : rb ≠ g) (h2 : kb ≠ g) : KbI w' rb kb := ⟨(hg.block rb h.1.lt (by simp; omega)).trans h.1, (hg.block kb h.2.lt (by simp; omega)).trans h.2⟩
theorem KbI.off {w : World} {rb kb x i : Nat} {u : Value} (h : KbI w rb kb) (h1 : rb ≠ x) (h2 : kb ≠ x) : KbI (w.setCell ⟨x, i, none⟩ u) rb kb := ⟨h.1.setOff h1, h.2.setOff h2⟩
theorem dr_dok {ix : List Int} {es : List Ent} {key : ByteArray} (h : DOk ix es) (hk : keyB key = true) : DOk (drV ix es key).1.1 (drV ix es key).1.2 := by
  by_cases hm : key ∈ kyL es
  · exact (drop_ok h hm).1
  · rw [drop_not h hk hm]; exact h
theorem st_dok {ix : List Int} {es : List Ent} {key : ByteArray} {val : Int} (h : DOk ix es) (hk : keyB key = true) (hv : okV val = true) : DOk (stV ix es key val).1.1 (stV ix es key val).1.2 := by
  by_cases hm : key ∈ kyL es
  · exact (set_ok h hk hv (.inl hm)).1
  · by_cases h40 : liveN es = 40
    · rw [set_full h hk hv hm h40]; exact h
    · exact (set_ok h hk hv (.inr h40)).1
theorem dok_len {ix : List Int} {es : List Ent} (h : DOk ix es) : 8 ≤ ix.length ∧ ix.length ≤ 128 ∧ es.length ≤ 85 := by
  have h1 := slotN_mem h.1.1
  have h2 := h.1.2.1
  simp at h1
  omega
theorem dok_keys {ix : List Int} {es : List Ent} (h : DOk ix es) : KeysS es := by
  intro e he
  obtain ⟨i, hi⟩ := List.mem_iff_getElem?.1 he
  have h1 := (h.2.2 i e hi).1
  unfold entOk at h1
  cases hl : e.live with
  | true =>
    rw [hl] at h1
    simp only [if_true, Bool.and_eq_true] at h1
    have := h1.1.1
    unfold keyB at this
    have : e.key.size ≤ 20 := by simpa using this
    omega
  | false =>
    rw [hl] at h1
    simp only [Bool.false_eq_true, if_false] at h1
    unfold zeroE at h1
    simp only [Bool.and_eq_true] at h1
    have h2 := eq_of_beq h1.1.1
    rw [ByteArray.toList_eq] at h2
    have : e.key.size = 0 := by
      show e.key.data.size = 0
      rw [← Array.length_toList, h2]; rfl
    omega
/-- What a call answers has an address, if it has slots. -/
theorem od_own {w : World} {b c1 c2 : Nat} {R : List Int × List Ent} {a1 a2 : Option Addr} (h : OdD w b R a1 c1 a2 c2) (hn : 0 < R.1.length) : ∃ g1, a1 = some ⟨g1, 0, none⟩ ∧ OwD w b R.1 R.2 g1 c1 a2 c2 := by
  rcases Own.form h.1 with ⟨e, _⟩ | ⟨g, c, e, _⟩
  · injection e with _ e _; omega
  · injection e with e1 _ _
    subst e1
    exact ⟨g, rfl, OwD.made h.1 h.2⟩
end Go.Proofs.Ytibglmcpbbikdaa
