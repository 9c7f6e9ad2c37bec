/- A dictionary is drawn. -/
import Derived.Test.YtibglmcpbbikdaaDds
import Derived.Test.YtibglmcpbbikdaaSmt
import Derived.Deep.DeepCutAuto
import Derived.Deep.RegionHeld3
import Derived.IntWalk
namespace Go.Proofs.Ytibglmcpbbikdaa
open Go.RowKit
/-- The dictionary that is drawn. -/
def DdP (w : World) (g : Nat) (a : Option Addr) (n cap k : Nat) (e : Ending) (w' : World) : Prop := ∃ ix es g1 c1 a2 c2, e = .returned (.agg #[.slice (some ⟨g1, 0, none⟩) ix.length c1, .slice a2 es.length c2]) ∧ (8 ≤ ix.length ∧ ix.length ≤ 128 ∧ es.length ≤ 85 ∧ KeysS es) ∧ OwD w' (w.heap.size + 1) ix es g1 c1 a2 c2 ∧ DrP w g a n cap k 300 w'
def cnt5 : List Nat := [0, 3, 8, 20, 45]
theorem cnt5_le : ∀ d ∈ cnt5, d ≤ 45 := by decide
def slot6 : List Int := [-1, -2, 0, 1, 99, -3]
/-- While a dictionary is drawn, all that lives. -/
def DlI (w wr : World) (g : Nat) (a : Option Addr) (n cap k j kb bt : Nat) : Prop := ∃ ix es g1 c1 a2 c2, DOk ix es ∧ DvI w wr g a n cap k j ix es bt g1 c1 a2 c2 ∧ KbI wr w.heap.size kb
/-- The new dictionary lies in its variable, the old one is still there. -/
def DxI (w wx : World) (g : Nat) (a : Option Addr) (n cap k j : Nat) (ix : List Int) (es : List Ent) (bt g2 c1 : Nat) (a2 : Option Addr) (c2 kb xb : Nat) : Prop := ∃ jx fs g3 d1 p2 d2, DOk jx fs ∧ DvI w wx g a n cap k j ix es bt g2 c1 a2 c2 ∧ OwD wx (w.heap.size + 1) jx fs g3 d1 p2 d2 ∧ g3 ≠ bt ∧ (∀ q, p2 = some ⟨q, 0, none⟩ → q ≠ bt) ∧ Blk wx xb 26 #[.slice (some ⟨g3, 0, none⟩) jx.length d1, .slice p2 fs.length d2] ∧ KbI wx w.heap.size kb
theorem dx_made {w w7 w8 : World} {g n cap k j bt g2 c1 c2 kb xb g3 d1 d2 : Nat} {a a2 p2 : Option Addr} {ix jx : List Int} {es fs : List Ent} {cs : Value × Value} (h0 : RI w g a n cap k) (hV : DvI w w7 g a n cap k j ix es bt g2 c1 a2 c2) (hX : Blk w7 xb 26 #[cs.1, cs.2]) (hK : KbI w7 w.heap.size kb) (hxb : w.heap.size + 1 ≤ xb) (h1 : xb ≠ bt) (h2 : g2 ≠ xb) (h3 : ∀ q, a2 = some ⟨q, 0, none⟩ → q ≠ xb) (h4 : kb ≠ xb) (hd : DOk jx fs) (ho : OwD w8 w7.heap.size jx fs g3 d1 p2 d2) (hb : Below w7.heap.size w7 w8) :
    DxI w ((w8.setCell ⟨xb, 0, none⟩ (.slice (some ⟨g3, 0, none⟩) jx.length d1)).setCell ⟨xb, 1, none⟩ (.slice p2 fs.length d2)) g a n cap k j ix es bt g2 c1 a2 c2 kb xb := by
  have hxl := hX.lt
  have hbl := hV.2.2.2.2.1.lt
  have hg3 := ho.lt1.1
  have hp2 : ∀ q, p2 = some ⟨q, 0, none⟩ → w7.heap.size ≤ q := by rintro q rfl; exact ho.lt2.1
  have hsz := hV.1.1.size
  have hbt := hV.2.1
  refine ⟨jx, fs, g3, d1, p2, d2, hd, ⟨(hV.low h0 hb).1.low h0 (((Below.refl _ w8).setCell (p := ⟨xb, 0, none⟩) (show w.heap.size ≤ xb by omega) _).setCell (p := ⟨xb, 1, none⟩) (show w.heap.size ≤ xb by omega) _), ((hV.2.below hb).off h1 h2 h3).off h1 h2 h3⟩, ((ho.setOff (by omega) (fun q hq => by have := hp2 q hq; omega)).setOff (by omega) (fun q hq => by have := hp2 q hq; omega)).wide ?_, by omega, fun q hq => by have := hp2 q hq; omega, two_set (hX.below hb hxl) _ _, ((hK.below hb).off (by omega) h4).off (by omega) h4⟩
  omega
theorem TbT.hash {T : TypeId} {w : World} {b bt g1 c1 c2 g2 k : Nat} {ix : List Int} {es : List Ent} {e : Ent} (h : TbT T w b ix es bt g1 c1 (some ⟨g2, 0, none⟩) c2) (he : es[k]? = some e) (v : Int) : TbT T (w.setCell ⟨g2, k * 4 + 1, none⟩ (.int .i64 v)) b ix (es.set k { e with hash := v }) bt g1 c1 (some ⟨g2, 0, none⟩) c2 := by
  have hn := Ne.symm (h.2.2.1 g2 rfl)
  have hg := Ne.symm (h.2.2.2.2.2.2 g2 rfl)
  have h9 := h.2.2.2.2.2.1.stored (r := 1) (u := .int .i64 v) (e' := { e with hash := v }) he (by omega) (by simp [Ent.row])
  refine ⟨h.1, h.2.1, h.2.2.1, ?_, h.2.2.2.2.1.setOff hg, ?_, h.2.2.2.2.2.2⟩
  · rw [List.length_set]; exact h.2.2.2.1.setOff hn
  · rw [List.length_set]; exact h9
/-- What is drawn, whether valid or not. -/
def DfI (w wr : World) (g : Nat) (a : Option Addr) (n cap k j kb bt : Nat) : Prop := ∃ ix es g1 c1 a2 c2, (8 ≤ ix.length ∧ ix.length ≤ 128 ∧ es.length ≤ 85 ∧ KeysS es) ∧ DvI w wr g a n cap k j ix es bt g1 c1 a2 c2 ∧ KbI wr w.heap.size kb
theorem keys_hash {es : List Ent} {k : Nat} {e : Ent} (h : KeysS es) (he : es[k]? = some e) (v : Int) : KeysS (es.set k { e with hash := v }) := by
  intro f hf
  rcases List.mem_or_eq_of_mem_set hf with h1 | h1
  · exact h f h1
  · rw [h1]; exact h e (List.mem_of_getElem? he)
theorem df_hash {w w1 : World} {g n cap k j kb bt g1 c1 c2 p i : Nat} {a : Option Addr} {ix : List Int} {es : List Ent} {e : Ent} (h0 : RI w g a n cap k) (hd : 8 ≤ ix.length ∧ ix.length ≤ 128 ∧ es.length ≤ 85 ∧ KeysS es) (hV : DvI w w1 g a n cap k j ix es bt g1 c1 (some ⟨p, 0, none⟩) c2) (hK : KbI w1 w.heap.size kb) (hkb : kb ≠ p) (he : es[i]? = some e) (v : Int) :
    DfI w (w1.setCell ⟨p, i * 4 + 1, none⟩ (.int .i64 v)) g a n cap k j kb bt := by
  have hp := hV.2.2.2.2.2.lt2.1
  refine ⟨ix, _, g1, c1, _, c2, ⟨hd.1, hd.2.1, by rw [List.length_set]; exact hd.2.2.1, keys_hash hd.2.2.2 he v⟩, ⟨hV.1.low h0 ((Below.refl _ w1).setCell (p := ⟨p, i * 4 + 1, none⟩) (show w.heap.size ≤ p by omega) _), hV.2.hash he v⟩, hK.off (by omega) hkb⟩
theorem df_slot {w w1 : World} {g n cap k j kb bt g1 c1 c2 i : Nat} {a a2 : Option Addr} {ix : List Int} {es : List Ent} (h0 : RI w g a n cap k) (hd : 8 ≤ ix.length ∧ ix.length ≤ 128 ∧ es.length ≤ 85 ∧ KeysS es) (hV : DvI w w1 g a n cap k j ix es bt g1 c1 a2 c2) (hK : KbI w1 w.heap.size kb) (hkb : kb ≠ g1) (v : Int) :
    DfI w (w1.setCell ⟨g1, i, none⟩ (.int .i64 v)) g a n cap k j kb bt := by
  have hp := hV.2.2.2.2.2.lt1.1
  refine ⟨ix.set i v, es, g1, c1, a2, c2, ⟨by rw [List.length_set]; exact hd.1, by rw [List.length_set]; exact hd.2.1, hd.2.2.1, hd.2.2.2⟩, ⟨hV.1.low h0 ((Below.refl _ w1).setCell (p := ⟨g1, i, none⟩) (show w.heap.size ≤ g1 by omega) _), hV.2.slot i v⟩, hK.off (by omega) hkb⟩
theorem own_kind {w : World} {b g n c x : Nat} {T : TypeId} {cs : Array Value} {is : List Int} (h : OwI w b (.slice (some ⟨g, 0, none⟩) n c) is) (hb : Blk w x T cs) (hT : T ≠ 3) : g ≠ x := by
  rintro rfl
  rcases h.2 with ⟨e, _⟩ | ⟨g', cap, cur, e, _, hh, _⟩
  · cases e
  · injection e with e _ _
    injection e with e
    injection e with e
    subst e
    unfold Blk at hb
    rw [hb] at hh
    injection hh with hh
    injection hh with _ h3 _
    exact hT h3
theorem dx_cells {w wx : World} {g n cap k j bt g2 c1 c2 kb xb : Nat} {a a2 : Option Addr} {ix : List Int} {es : List Ent} (h : DxI w wx g a n cap k j ix es bt g2 c1 a2 c2 kb xb) : wx.cell? ⟨bt, 0, none⟩ = some (.slice (some ⟨g2, 0, none⟩) ix.length c1) ∧ wx.cell? ⟨bt, 1, none⟩ = some (.slice a2 es.length c2) := by
  obtain ⟨_, _, _, _, _, _, _, h2, _⟩ := h
  exact ⟨h2.2.2.2.2.1.cell 0, h2.2.2.2.2.1.cell 1⟩
set_option maxRecDepth 20000 in
set_option maxHeartbeats 8000000 in
theorem dict_draw (w : World) (g n cap k : Nat) (a : Option Addr) (h : RI w g a n cap k) (hk : k ≤ 50000) :
    Calls Try.prog 49 #[.pointer (some ⟨g, 0, none⟩)] w (DdP w g a n cap k) := by
  have H0 := Lib.hid h
  have hgw : g < w.heap.size := h.1.lt
  have HGW := Lib.hid hgw
  clear h hgw
  go_enter Try.func49, Try.ntmps49
  go_wp2_with fail
  refine (specNew_own _).mono ?_
  rintro e w1 ⟨g1, cp, rfl, hb1, ho1⟩
  have HB1 := Lib.hid (show Below w.heap.size w w1 from ((Below.refl _ w).alloc (Nat.le_refl _) _).trans (hb1.mono (by simp)))
  have HR1 := Lib.hid (show Blk w1 w.heap.size 26 #[.slice none 0 0, .slice none 0 0] from Blk.below (Blk.newest w _ _) hb1 (by simp))
  have HO1 := Lib.hid (show OwI w1 (w.heap.size + 1) (.slice (some ⟨g1, 0, none⟩) (List.replicate 8 (-1 : Int)).length cp) (List.replicate 8 (-1)) by simpa using ho1)
  have HS1 := Lib.hid (show w.heap.size + 1 ≤ w1.heap.size by have := hb1.size; simpa using this)
  clear hb1 ho1
  obtain ⟨w2, hw2⟩ : ∃ x, x = (w1.alloc (Obj.cells #[.slice (some ⟨g1, 0, none⟩) 8 cp, .slice none 0 0] 26)).alloc (.cells #[.string ⟨#[97]⟩, .string ⟨#[98]⟩, .string ⟨#[99]⟩, .string ⟨#[97, 97]⟩, .string ⟨#[97, 98]⟩, .string ⟨#[107, 101, 121]⟩, .string ⟨#[]⟩, .string ⟨#[122]⟩, .string ⟨#[113, 49]⟩, .string ⟨#[113, 50]⟩, .string ⟨#[113, 51]⟩, .string ⟨#[113, 52]⟩] 9) := ⟨_, rfl⟩
  have HW2 := Lib.hid hw2
  have HB2 := Lib.hid (show Below w1.heap.size w1 w2 from by rw [hw2]; exact ((Below.refl _ _).alloc (Nat.le_refl _) _).alloc (by simp) _)
  have HX2 := Lib.hid (show Blk w2 w1.heap.size 26 #[.slice (some ⟨g1, 0, none⟩) 8 cp, .slice none 0 0] from by rw [hw2]; exact (Blk.newest w1 _ _).alloc _)
  have HK2 := Lib.hid (show Blk w2 (w1.heap.size + 1) 9 (keysD.map Value.string).toArray from by rw [hw2]; exact Blk.new _ _ _ (by simp))
  clear hw2
  go_upto_region 3 with (fail)
  rw [← HW2.out]
  clear HW2
  have HBw2 := Lib.hid (HB1.out.trans (HB2.out.mono HB1.out.size))
  have hgl := (HO1.out.lt g1 rfl).2
  have HV2 := Lib.hid (show DvI w w2 g a n cap k 0 (List.replicate 8 (-1)) [] w1.heap.size g1 cp none 0 from
    ⟨(DrP.zero H0.out).low H0.out HBw2.out, HS1.out, by omega, (fun q hq => by cases hq), HX2.out.same (by simp), OwD.made (HO1.out.below HB2.out) (OwE.nil _ _)⟩)
  have HKb2 := Lib.hid (show KbI w2 w.heap.size (w1.heap.size + 1) from ⟨HR1.out.below HB2.out (by have := HS1.out; omega), HK2.out⟩)
  have HRI := Lib.hid (ri_below H0.out HBw2.out)
  clear hgl HO1 HX2 HK2 HR1 HB2
  obtain ⟨bt, hbt⟩ : ∃ bt, bt = w1.heap.size := ⟨_, rfl⟩
  obtain ⟨kb, hkb⟩ : ∃ kb, kb = w1.heap.size + 1 := ⟨_, rfl⟩
  rw [← hkb] at HKb2
  rw [← hbt] at HV2
  have HBT := Lib.hid (show w.heap.size + 1 ≤ bt ∧ kb = bt + 1 by have := HS1.out; omega)
  rw [← hbt] at hkb
  have HKB := Lib.hid hkb
  rw [← hbt]
  rw [← hkb]
  clear hbt hkb HS1
  go_wp2_with fail
  refine (one_lit cnt5 HRI.out (by omega) (by decide) (by decide)).mono ?_
  rintro e w3 ⟨⟨d, hd, rfl⟩, hdr⟩
  have hd45 := cnt5_le d hd
  have HL3 := Lib.hid (show DlI w w3 g a n cap k 1 kb bt from ⟨_, _, _, _, _, _, new_ok, HV2.out.call H0.out (by omega) hdr, HKb2.out.grown hdr.1 (by have := HGW.out; omega) (by have := HGW.out; have := HBT.out; omega)⟩)
  clear hd hdr HV2 HKb2 HRI
  go_wp2_with fail
  go_loopw [5] (fun i wr => ∃ c : Nat, c ≤ 45 ∧ i = .int .i64 (c : Int) ∧ Hid (DlI w wr g a n cap k (1 + 6 * (45 - c)) kb bt)) (fun i _ => (intOf i).toNat)
  case atStart =>
    obtain ⟨ix, es, g1, c1, a2, c2, h1, h2, h3⟩ := HL3.out
    exact ⟨d, hd45, rfl, Lib.hid ⟨ix, es, g1, c1, a2, c2, h1, h2.up (by omega), h3⟩⟩
  case round =>
    obtain ⟨c, hc, rfl, HI⟩ := hrel
    by_cases hlt : 0 < c
    · obtain ⟨c', rfl⟩ : ∃ c', c = c' + 1 := ⟨c - 1, by omega⟩
      obtain ⟨ix, es, g2, c1, a2, c2, h1, h2, h3⟩ := HI.out
      have HOK := Lib.hid h1
      have HV := Lib.hid h2
      have HK := Lib.hid h3
      have hj : 1 + 6 * (45 - (c' + 1)) + 6 = 1 + 6 * (45 - c') := by omega
      have HJ := Lib.hid hj
      have HJ2 := Lib.hid (show 1 + 6 * (45 - (c' + 1)) ≤ 280 by omega)
      clear hj
      generalize 1 + 6 * (45 - (c' + 1)) = j0 at *
      clear h1 h2 h3 HI
      obtain ⟨k2, hk2, hr2⟩ := HV.out.1.2
      have HP := Lib.hid (of_any wr g a n cap k2 keysD kb 12 hr2 (by have := HJ2.out; omega) (by decide) (by decide) (by have := HGW.out; have := HBT.out; omega) (fun j s hs => by rw [HK.out.2.cell]; simp [hs]))
      have HK2 := Lib.hid hk2
      clear hk2 hr2
      go_wp2_with fail
      refine HP.out.mono ?_
      rintro e w4 ⟨⟨s, hs, rfl⟩, hdr⟩
      have hs3 := keysD_le s hs
      have HV4 := Lib.hid (HV.out.call H0.out HK2.out hdr)
      have HK4 := Lib.hid (HK.out.grown hdr.1 (by have := HGW.out; omega) (by have := HGW.out; have := HBT.out; omega))
      clear hs hdr HP HK2 HV HK
      obtain ⟨k4, hk4, hr4⟩ := HV4.out.1.2
      have HP := Lib.hid (pick_any w4 g a n cap k4 3 hr4 (by have := HJ2.out; omega) (by decide))
      have HK2 := Lib.hid hk4
      clear hk4 hr4
      go_wp2_with fail
      refine HP.out.mono ?_
      rintro e w5 ⟨r, rfl, hrl, hdr⟩
      have HV5 := Lib.hid (HV4.out.call H0.out HK2.out hdr)
      have HK5 := Lib.hid (HK4.out.grown hdr.1 (by have := HGW.out; omega) (by have := HGW.out; have := HBT.out; omega))
      clear hrl hdr HP HK2 HV4 HK4
      go_upto_if 22 with (fail)
      go_cut [6] (fun s6 wx => ∃ s' : ByteArray, s6 = .string s' ∧ s'.size ≤ 7 ∧ Hid (DvI w wx g a n cap k (j0 + 1 + 1 + 1) ix es bt g2 c1 a2 c2 ∧ KbI wx w.heap.size kb))
      case first =>
        obtain ⟨m, rfl⟩ : ∃ m : List UInt8, s = ⟨m.toArray⟩ := ⟨s.data.toList, by simp⟩
        rw [arr_size] at hs3
        by_cases hr0 : r = 0
        · subst hr0
          obtain ⟨k5, hk5, hr5⟩ := HV5.out.1.2
          have HP := Lib.hid (pick_any w5 g a n cap k5 30 hr5 (by have := HJ2.out; omega) (by decide))
          have HK2 := Lib.hid hk5
          clear hk5 hr5
          go_wp2_with fail
          refine HP.out.mono ?_
          rintro e w6 ⟨q, rfl, hql, hdr⟩
          have hq29 : q ≤ 29 := by omega
          have HV6 := Lib.hid (HV5.out.call H0.out HK2.out hdr)
          have HK6 := Lib.hid (HK5.out.grown hdr.1 (by have := HGW.out; omega) (by have := HGW.out; have := HBT.out; omega))
          clear hql hdr HP HK2
          go_wp2_with fail
          refine (decimal_small q _ hq29).mono ?_
          rintro e w7 ⟨l, rfl, hl, hb⟩
          have HV7 := Lib.hid (HV6.out.low H0.out hb)
          have HK7 := Lib.hid (HK6.out.below hb)
          clear hb
          go_wp2_with (first | (refine (puts_cat2 9 9 (.tmp 23) (.tmp 26) rfl m l rfl rfl (by omega) (by omega)).gives.plain rfl ?_))
          go_meet
          exact ⟨_, rfl, by rw [arr_size, List.length_append]; omega, Lib.hid ⟨HV7.out, HK7.out⟩⟩
        · have hz : ((r : Int) == 0) = false := beq_eq_false_iff_ne.2 (by omega)
          clear hr0
          go_wp2_with fail
          go_meet
          exact ⟨_, rfl, by rw [arr_size]; omega, Lib.hid ⟨HV5.out.up (by omega), HK5.out⟩⟩
      case rest =>
        obtain ⟨key, rfl, hs7, HVc⟩ := hcut
        have HKY := Lib.hid (show keyB key = true by unfold keyB; simp; omega)
        have HK5 := Lib.hid HVc.out.2
        have HV5 := Lib.hid HVc.out.1
        clear HVc hs3
        obtain ⟨xb, hxb⟩ : ∃ x, x = wc.heap.size := ⟨_, rfl⟩
        obtain ⟨w6, hw6⟩ : ∃ x, x = wc.alloc (Obj.cells #[.slice (some ⟨g2, 0, none⟩) ix.length c1, .slice a2 es.length c2] 26) := ⟨_, rfl⟩
        have HW6 := Lib.hid hw6
        have hb6 : Below wc.heap.size wc w6 := by rw [hw6]; exact (Below.refl _ _).alloc (Nat.le_refl _) _
        have HX6 := Lib.hid (show Blk w6 xb 26 #[.slice (some ⟨g2, 0, none⟩) ix.length c1, .slice a2 es.length c2] from by rw [hw6, hxb]; exact Blk.newest wc _ _)
        have HV6 := Lib.hid (HV5.out.low H0.out hb6)
        have HK6 := Lib.hid (HK5.out.below hb6)
        have HQ := Lib.hid (show w.heap.size + 1 ≤ xb ∧ xb ≠ bt ∧ g2 ≠ xb ∧ (∀ q, a2 = some ⟨q, 0, none⟩ → q ≠ xb) ∧ kb ≠ xb from by
          have q1 := HV5.out.2.2.2.2.1.lt
          have q2 := HV5.out.2.2.2.2.2.lt1
          have q3 := HV5.out.2.1
          have q4 := HK5.out.2.lt
          refine ⟨by omega, by omega, by omega, ?_, by omega⟩
          rintro q rfl
          have := HV5.out.2.2.2.2.2.lt2
          omega)
        have b0 := HV5.out.2.2.2.2.1.cell 0
        have b1 := HV5.out.2.2.2.2.1.cell 1
        clear hw6 hb6
        go_upto_region 10 with (fail)
        rw [← HW6.out, ← hxb]
        clear HW6 b0 b1 HV5 HK5 hxb
        obtain ⟨k6, hk6, hr6⟩ := HV6.out.1.2
        have HP := Lib.hid (pick_any w6 g a n cap k6 4 hr6 (by have := HJ2.out; omega) (by decide))
        have HK2 := Lib.hid hk6
        clear hk6 hr6
        go_wp2_with fail
        refine HP.out.mono ?_
        rintro e w7 ⟨r2, rfl, hrl, hdr⟩
        have HV7 := Lib.hid (HV6.out.call H0.out HK2.out hdr)
        have HK7 := Lib.hid (HK6.out.grown hdr.1 (by have := HGW.out; omega) (by have := HGW.out; have := HBT.out; omega))
        have HX7 := Lib.hid (show Blk w7 xb 26 #[.slice (some ⟨g2, 0, none⟩) ix.length c1, .slice a2 es.length c2] from (hdr.1.block xb HX6.out.lt (by have := HGW.out; have := HQ.out.1; simp; omega)).trans HX6.out)
        clear hrl hdr HP HK2 HV6 HK6 HX6
        go_upto_if 31 with (fail)
        go_cut [7] (fun s7 wx => s7 = .pointer (some ⟨xb, 0, none⟩) ∧ Hid (DxI w wx g a n cap k (j0 + 1 + 1 + 1 + 1 + 1) ix es bt g2 c1 a2 c2 kb xb))
        case first =>
          by_cases hr0 : r2 = 0
          · subst hr0
            have b0 := HV7.out.2.2.2.2.1.cell 0
            have b1 := HV7.out.2.2.2.2.1.cell 1
            go_wp2_with fail
            refine (specDrop_any ix es key g2 c1 c2 a2 w7 HV7.out.2.2.2.2.2.tb (by have := dok_len HOK.out; omega) (by have := dok_len HOK.out; omega) (dok_keys HOK.out) (by omega) (by rintro rfl; exact HV7.out.2.2.2.2.2.2.1.cap.2)).mono ?_
            rintro e w8 ⟨p1, d1, p2, d2, rfl, ho, hb⟩
            have HJ3 := Lib.hid (dr_dok (key := key) HOK.out HKY.out)
            obtain ⟨g3, rfl, ho2⟩ := od_own ho (by have := (dok_len HJ3.out).1; omega)
            have HX8 := Lib.hid (HX7.out.below hb HX7.out.lt)
            have HM := Lib.hid (dx_made H0.out (HV7.out.up (show _ ≤ j0 + 1 + 1 + 1 + 1 + 1 by omega)) (cs := (_, _)) HX7.out HK7.out HQ.out.1 HQ.out.2.1 HQ.out.2.2.1 HQ.out.2.2.2.1 HQ.out.2.2.2.2 HJ3.out ho2 hb)
            have x0 := HX8.out.cell 0
            have x1 := HX8.out.cell 1
            have f0 := HX8.out.free 0
            have f1 := HX8.out.free 1
            clear b0 b1 ho ho2 hb
            go_wp2_with fail
            go_meet
            exact ⟨rfl, HM⟩
          · have hz : ((r2 : Int) == 0) = false := beq_eq_false_iff_ne.2 (by omega)
            clear hr0
            have HC7 := Lib.hid HV7.out.2.2.2.2.1
            have HS := Lib.hid (fun w' (hb : w7.grownBy w' (some g)) => show w'.cell? ⟨bt, 0, none⟩ = some (.slice (some ⟨g2, 0, none⟩) ix.length c1) ∧ w'.cell? ⟨bt, 1, none⟩ = some (.slice a2 es.length c2) from by
              have hC := (hb.block bt HC7.out.lt (by have := HGW.out; have := HBT.out.1; simp; omega)).trans HC7.out
              exact ⟨Blk.cell (g := bt) (t := 26) (cs := #[.slice (some ⟨g2, 0, none⟩) ix.length c1, .slice a2 es.length c2]) hC 0, Blk.cell (g := bt) (t := 26) (cs := #[.slice (some ⟨g2, 0, none⟩) ix.length c1, .slice a2 es.length c2]) hC 1⟩)
            have HV7d := Lib.hid (HV7.out.low H0.out ((Below.refl _ w7).drew))
            have HK7d := Lib.hid (HK7.out.below ((Below.refl _ w7).drew))
            have HX7d := Lib.hid (HX7.out.drew)
            obtain ⟨k7, hk7, hr7⟩ := HV7d.out.1.2
            have HP := Lib.hid (pick_any w7.drew g a n cap k7 100 hr7 (by have := HJ2.out; omega) (by decide))
            have HK2 := Lib.hid hk7
            clear hk7 hr7
            go_wp2_with fail
            go_region_held3 (fun w' => w'.cell? ⟨bt, 0, none⟩ = some (.slice (some ⟨g2, 0, none⟩) ix.length c1) ∧ w'.cell? ⟨bt, 1, none⟩ = some (.slice a2 es.length c2))
              (first | exact HS.out _ (grown_below ((Below.refl _ _).drew)) | exact HZ9.out | exact HS.out _ HG9.out | exact HS.out _ HG8.out)
              (first | (go_at_call 73; refine HP.out.mono ?_; rintro e w8 ⟨z, rfl, hzl, hdr⟩; have HG8 := Lib.hid (grown_trans (grown_below ((Below.refl _ w7).drew)) hdr.1); have HV8 := Lib.hid (HV7d.out.call H0.out HK2.out hdr); have HK8 := Lib.hid (HK7d.out.grown hdr.1 (by have := HGW.out; omega) (by have := HGW.out; have := HBT.out; omega)); have HX8 := Lib.hid (show Blk w8 xb 26 #[.slice (some ⟨g2, 0, none⟩) ix.length c1, .slice a2 es.length c2] from (hdr.1.block xb HX7d.out.lt (by have := HGW.out; have := HQ.out.1; simp; omega)).trans HX7d.out); have HOV := Lib.hid (show okV ((z : Int) - 50) = true from by unfold okV; simp; omega); have hw50 : IntKind.i64.wrap ((z : Int) - 50) = (z : Int) - 50 := IntWalk.i64_in _ (by omega); clear hzl hdr) | (go_at_call 38; refine (specSet_any ix es key ((z : Int) - 50) g2 c1 c2 a2 w8 HV8.out.2.2.2.2.2.tb (by have := dok_len HOK.out; omega) (by have := dok_len HOK.out; omega) (dok_keys HOK.out) (by omega) (by rintro rfl; exact HV8.out.2.2.2.2.2.2.1.cap.2)).mono ?_; rintro e w9 ⟨p1, d1, p2, d2, rfl, ho, hb⟩; have HJ3 := Lib.hid (st_dok (key := key) HOK.out HKY.out HOV.out); obtain ⟨g3, rfl, ho2⟩ := od_own ho (by have := (dok_len HJ3.out).1; omega); have HX9 := Lib.hid (HX8.out.below hb HX8.out.lt); have HG9 := Lib.hid (grown_trans HG8.out (grown_below hb)); have HM := Lib.hid (dx_made H0.out (HV8.out.up (show _ ≤ j0 + 1 + 1 + 1 + 1 + 1 by omega)) (cs := (_, _)) HX8.out HK8.out HQ.out.1 HQ.out.2.1 HQ.out.2.2.1 HQ.out.2.2.2.1 HQ.out.2.2.2.2 HJ3.out ho2 hb); have x0 := HX9.out.cell 0; have x1 := HX9.out.cell 1; have f0 := HX9.out.free 0; have f1 := HX9.out.free 1; have HZ9 := Lib.hid (dx_cells HM.out); clear ho ho2 hb))
            all_goals (try go_wp2)
            all_goals go_meet
            all_goals exact ⟨rfl, HM⟩
        case rest =>
          obtain ⟨rfl, HD⟩ := hcut
          obtain ⟨jx, fs, g3, d1, p2, d2, m1, m2, m3, m4, m5, m6, m7⟩ := HD.out
          have HN := Lib.hid (m2.put H0.out m3 m4 m5)
          have HK8 := Lib.hid ((m7.off (x := bt) (i := 0) (u := .slice (some ⟨g3, 0, none⟩) jx.length d1) (by have := HBT.out; omega) (by have := HBT.out; omega)).off (x := bt) (i := 1) (u := .slice p2 fs.length d2) (by have := HBT.out; omega) (by have := HBT.out; omega))
          have HJK := Lib.hid m1
          have b0 := m2.2.2.2.2.1.cell 0
          have b1 := m2.2.2.2.2.1.cell 1
          have f0 := m2.2.2.2.2.1.free 0
          have f1 := m2.2.2.2.2.1.free 1
          have x0 := m6.cell 0
          have x1 := m6.cell 1
          clear m1 m2 m3 m4 m5 m6 m7 HD HV7 HK7 HX7
          go_wp2_with fail
          go_roundw
          case rel => exact ⟨c', by omega, by go_num, Lib.hid ⟨jx, fs, g3, d1, p2, d2, HJK.out, HN.out.up (by have := HJ.out; omega), HK8.out⟩⟩
          case measure => simp [intOf]; try omega
    · obtain rfl : c = 0 := by omega
      clear hlt
      go_upto_region 14 with (fail)
      obtain ⟨ix, es, g2, c1, a2, c2, h1, h2, h3⟩ := HI.out
      have HM := Lib.hid (show 8 ≤ ix.length ∧ ix.length ≤ 128 ∧ es.length ≤ 85 ∧ KeysS es from ⟨(dok_len h1).1, (dok_len h1).2.1, (dok_len h1).2.2, dok_keys h1⟩)
      have HV := Lib.hid (h2.up (show 1 + 6 * (45 - 0) ≤ 280 by omega))
      have HK := Lib.hid h3
      clear h1 h2 h3 HI hc
      obtain ⟨k2, hk2, hr2⟩ := HV.out.1.2
      have HP := Lib.hid (pick_any wr g a n cap k2 12 hr2 (by omega) (by decide))
      have HK2 := Lib.hid hk2
      clear hk2 hr2
      go_cut [56] (fun s wx => ∃ b : Bool, s = .bool b ∧ (b = true → es ≠ []) ∧ Hid (DvI w wx g a n cap k 281 ix es bt g2 c1 a2 c2 ∧ KbI wx w.heap.size kb))
      case first =>
        go_wp2_with fail
        refine HP.out.mono ?_
        rintro e w4 ⟨r, rfl, hrl, hdr⟩
        have HV4 := Lib.hid (HV.out.call H0.out HK2.out hdr)
        have HK4 := Lib.hid (HK.out.grown hdr.1 (by have := HGW.out; omega) (by have := HGW.out; have := HBT.out; omega))
        have b1 := HV4.out.2.2.2.2.1.cell 1
        clear hrl hdr HP HK2
        by_cases hr0 : r = 0
        · subst hr0
          go_wp2_with fail
          go_meet
          exact ⟨_, rfl, (fun h => by have h9 := of_decide_eq_true h; rintro rfl; simp at h9), Lib.hid ⟨HV4.out, HK4.out⟩⟩
        · have hz : ((r : Int) == 0) = false := beq_eq_false_iff_ne.2 (by omega)
          clear hr0
          go_wp2_with fail
          go_meet
          exact ⟨false, rfl, (fun h => by cases h), Lib.hid ⟨HV4.out, HK4.out⟩⟩
      case rest =>
        obtain ⟨b, rfl, hb, HVK⟩ := hcut
        have HV5 := Lib.hid HVK.out.1
        have HK5 := Lib.hid HVK.out.2
        have HBE := Lib.hid hb
        clear hb HVK HV HK HP HK2
        go_upto_if 56 with (fail)
        go_cut [50] (fun s wx => Hid (DfI w wx g a n cap k 284 kb bt))
        case first =>
          cases b with
          | false =>
            go_wp2_with fail
            go_meet
            exact Lib.hid ⟨ix, es, g2, c1, a2, c2, HM.out, HV5.out.up (by omega), HK5.out⟩
          | true =>
            have hne := HBE.out rfl
            obtain ⟨p, rfl⟩ : ∃ p, a2 = some ⟨p, 0, none⟩ := by
              rcases HV5.out.2.2.2.2.2.2.1.form with ⟨_, e⟩ | ⟨p, _, e, _⟩
              · exact absurd e hne
              · injection e with e _ _; exact ⟨p, e⟩
            have hpos := List.length_pos_iff.2 hne
            have HNE := Lib.hid hpos
            clear hne hpos HBE
            have HC7 := Lib.hid HV5.out.2.2.2.2.1
            have HS := Lib.hid (fun w' (hb : wc.grownBy w' (some g)) => show w'.cell? ⟨bt, 1, none⟩ = some (.slice (some ⟨p, 0, none⟩) es.length c2) from by
              have hC := (hb.block bt HC7.out.lt (by have := HGW.out; have := HBT.out.1; simp; omega)).trans HC7.out
              exact Blk.cell (g := bt) (t := 26) (cs := #[.slice (some ⟨g2, 0, none⟩) ix.length c1, .slice (some ⟨p, 0, none⟩) es.length c2]) hC 1)
            have HV5d := Lib.hid (HV5.out.low H0.out ((Below.refl _ wc).drew))
            have HK5d := Lib.hid (HK5.out.below ((Below.refl _ wc).drew))
            have HKP := Lib.hid (show kb ≠ p from Ne.symm (HV5.out.2.2.2.2.2.2.1.kind HK5.out.2 (by decide)))
            have HPB := Lib.hid (show p ≠ bt from HV5.out.2.2.2.1 p rfl)
            obtain ⟨k7, hk7, hr7⟩ := HV5d.out.1.2
            have HP := Lib.hid (pick_any wc.drew g a n cap k7 (es.length : Int) hr7 (by omega) (by have := HM.out.2.2.1; omega))
            have HK2 := Lib.hid hk7
            clear hk7 hr7
            go_wp2_with fail
            go_region_held3 (fun w' => w'.cell? ⟨bt, 1, none⟩ = some (.slice (some ⟨p, 0, none⟩) es.length c2))
              (first | exact HS.out _ (grown_below ((Below.refl _ _).drew)) | exact HZ9.out | exact HS.out _ HG9.out | exact HS.out _ HG8.out)
              (first | (go_at_call 73; refine HP.out.mono ?_; rintro e w8 ⟨z, rfl, hzl, hdr⟩; have HG8 := Lib.hid (grown_trans (grown_below ((Below.refl _ wc).drew)) hdr.1); have HV8 := Lib.hid (HV5d.out.call H0.out HK2.out hdr); have HK8 := Lib.hid (HK5d.out.grown hdr.1 (by have := HGW.out; omega) (by have := HGW.out; have := HBT.out; omega)); have hzn : z < es.length := (by have := HNE.out; omega); have HZN := Lib.hid hzn; have HR8 := Lib.hid HV8.out.1.2; clear hzl hdr) | (go_at_call 85; obtain ⟨k8, hk8, hr8⟩ := HR8.out; refine (odd_draw w8 g n cap k8 a hr8 (by omega)).mono ?_; rintro e w9 ⟨⟨y, rfl, _⟩, hdr⟩; have HG9 := Lib.hid (grown_trans HG8.out hdr.1); have HV9 := Lib.hid (HV8.out.call H0.out hk8 hdr); have HK9 := Lib.hid (HK8.out.grown hdr.1 (by have := HGW.out; omega) (by have := HGW.out; have := HBT.out; omega)); obtain ⟨en, hen⟩ : ∃ en, es[z]? = some en := ⟨es[z]'HZN.out, List.getElem?_eq_getElem _⟩; have c1' := (HV9.out.2.2.2.2.2.2.1.cellsAt hen).2.1; have f1' := HV9.out.2.2.2.2.2.2.1.free (z * 4 + 1); have HF := Lib.hid (df_hash (v := y) H0.out HM.out (HV9.out.up (show _ ≤ 284 by omega)) HK9.out HKP.out hen); have HZ9 := Lib.hid (show (w9.setCell ⟨p, z * 4 + 1, none⟩ (.int .i64 y)).cell? ⟨bt, 1, none⟩ = some (.slice (some ⟨p, 0, none⟩) es.length c2) from by rw [World.cell?_of_block (w := w9) (Below.heap_setCell _ _ _ _ (Ne.symm HPB.out))]; exact HS.out _ HG9.out); clear hk8 hr8 hen hdr))
            all_goals (try go_wp2)
            all_goals go_meet
            all_goals exact HF
        case rest =>
          obtain ⟨jx, fs, g3, d1, p2, d2, m1, m2, m3⟩ := hcut.out
          have HMJ := Lib.hid m1
          have HV := Lib.hid m2
          have HK := Lib.hid m3
          clear m1 m2 m3 HM HV5 HK5 HBE hcut
          obtain ⟨k2, hk2, hr2⟩ := HV.out.1.2
          have HP := Lib.hid (pick_any wc g a n cap k2 12 hr2 (by omega) (by decide))
          have HK2 := Lib.hid hk2
          clear hk2 hr2
          go_wp2_with fail
          refine HP.out.mono ?_
          rintro e w4 ⟨r, rfl, hrl, hdr⟩
          have HV4 := Lib.hid (HV.out.call H0.out HK2.out hdr)
          have HK4 := Lib.hid (HK.out.grown hdr.1 (by have := HGW.out; omega) (by have := HGW.out; have := HBT.out; omega))
          clear hrl hdr HP HK2 HV HK
          go_upto_if 70 with (fail)
          go_cut [68] (fun s wx => Hid (DfI w wx g a n cap k 290 kb bt))
          case first =>
            by_cases hr0 : r = 0
            · subst hr0
              have HC7 := Lib.hid HV4.out.2.2.2.2.1
              have HS := Lib.hid (fun w' (hb : w4.grownBy w' (some g)) => show w'.cell? ⟨bt, 0, none⟩ = some (.slice (some ⟨g3, 0, none⟩) jx.length d1) from by
                have hC := (hb.block bt HC7.out.lt (by have := HGW.out; have := HBT.out.1; simp; omega)).trans HC7.out
                exact Blk.cell (g := bt) (t := 26) (cs := #[.slice (some ⟨g3, 0, none⟩) jx.length d1, .slice p2 fs.length d2]) hC 0)
              have HKP := Lib.hid (show kb ≠ g3 from Ne.symm (own_kind HV4.out.2.2.2.2.2.1 HK4.out.2 (by decide)))
              have HPB := Lib.hid (show bt ≠ g3 from HV4.out.2.2.1)
              have HPg := Lib.hid (show ∀ W, Below w4.heap.size w4 W → Calls Try.prog 73 #[.pointer (some ⟨g, 0, none⟩), .int .i64 (jx.length : Int)] W (fun e w8 => ∃ z : Nat, e = .returned (.int .i64 (z : Int)) ∧ z < jx.length ∧ w4.grownBy w8 (some g) ∧ DvI w w8 g a n cap k 286 jx fs bt g3 d1 p2 d2 ∧ KbI w8 w.heap.size kb ∧ ∀ (b : Nat) (T : TypeId) (cs : Array Value), Blk W b T cs → b ≠ g → Blk w8 b T cs) from by
                intro W hW
                have hVW := HV4.out.low H0.out hW
                have hKW := HK4.out.below hW
                obtain ⟨k7, hk7, hr7⟩ := hVW.1.2
                refine (pick_any W g a n cap k7 (jx.length : Int) hr7 (by omega) (by have := HMJ.out.2.1; omega)).mono ?_
                rintro e w8 ⟨z, rfl, hzl, hdr⟩
                exact ⟨z, rfl, by have := HMJ.out.1; omega, grown_trans (grown_below hW) hdr.1, hVW.call H0.out hk7 hdr, hKW.grown hdr.1 (by have := HGW.out; omega) (by have := HGW.out; have := HBT.out; omega), fun b T cs hB hne => (hdr.1.block b hB.lt (by simp; omega)).trans hB⟩)
              have HGL := Lib.hid (show g < w4.heap.size from by have := HV4.out.1.1.size; have := HGW.out; omega)
              have HSD := Lib.hid (fun o => HS.out _ (grown_below (((Below.refl w4.heap.size w4).drew).alloc (Nat.le_refl _) o)))
              have HBD0 := Lib.hid ((Below.refl w4.heap.size w4).drew)
              have HBD := Lib.hid (fun o => ((Below.refl w4.heap.size w4).drew).alloc (Nat.le_refl _) o)
              go_wp2_with fail
              go_region_held3 (fun w' => w'.cell? ⟨bt, 0, none⟩ = some (.slice (some ⟨g3, 0, none⟩) jx.length d1))
                (first | exact HS.out _ (grown_below ((Below.refl _ _).drew)) | exact HZ9.out | exact HS.out _ HG9.out | exact HSA.out _ | exact HS.out _ HG8.out | exact HSD.out _)
                (first | (go_at_call 73; refine (HPg.out _ ?hw).mono ?_; (case hw => first | exact HBD0.out | exact HBD.out _); rintro e w8 ⟨z, rfl, hzn, hg8, hv8, hk8, hbk⟩; have HG8 := Lib.hid hg8; have HSA := Lib.hid (fun o => HS.out _ (grown_trans HG8.out (grown_below ((Below.refl _ w8).alloc (Nat.le_refl _) o)))); have HV8 := Lib.hid hv8; have HK8 := Lib.hid hk8; have HZN := Lib.hid hzn; have HR8 := Lib.hid HV8.out.1.2; have HBK := Lib.hid hbk; clear hg8 hv8 hk8 hbk) | (go_at_call_of 82 (Value.slice (some ⟨w8.heap.size, 0, none⟩) 6 6); obtain ⟨k8, hk8, hr8⟩ := HR8.out; refine (one_litZ slot6 hr8 (by omega) (by decide) (by decide)).mono ?_; rintro e w9 ⟨⟨y, _, rfl⟩, hdr⟩; have HG9 := Lib.hid (grown_trans HG8.out hdr.1); have HV9 := Lib.hid (HV8.out.call H0.out hk8 hdr); have HK9 := Lib.hid (HK8.out.grown hdr.1 (by have := HGW.out; omega) (by have := HGW.out; have := HBT.out; omega)); obtain ⟨en, hen⟩ : ∃ en, jx[z]? = some en := ⟨jx[z]'HZN.out, List.getElem?_eq_getElem _⟩; have c1' := (HV9.out.2.2.2.2.2.1.cellAt hen).1; have f1' := (HV9.out.2.2.2.2.2.1.cellAt hen).2; have HF := Lib.hid (df_slot (i := z) (v := y) H0.out HMJ.out (HV9.out.up (show _ ≤ 290 by omega)) HK9.out HKP.out); have HZ9 := Lib.hid (show (w9.setCell ⟨g3, z, none⟩ (.int .i64 y)).cell? ⟨bt, 0, none⟩ = some (.slice (some ⟨g3, 0, none⟩) jx.length d1) from by rw [World.cell?_of_block (w := w9) (Below.heap_setCell _ _ _ _ HPB.out)]; exact HS.out _ HG9.out); clear hk8 hr8 hen hdr) | (go_at_call_of 82 (Value.slice (some ⟨w4.heap.size, 0, none⟩) 6 6); obtain ⟨k8, hk8, hr8⟩ := HR8.out; refine (one_anyZ w8 g a n cap k8 slot6 w4.heap.size 6 hr8 (by omega) (by decide) (by decide) (by have := HGL.out; omega) (fun j d hj => by rw [(show Blk w8 w4.heap.size 3 (zi slot6).toArray from HBK.out _ _ _ (Blk.newest w4.drew _ _) (by have := HGL.out; simp; omega)).cell]; simp [zi, hj])).mono ?_; rintro e w9 ⟨⟨y, _, rfl⟩, hdr⟩; have HG9 := Lib.hid (grown_trans HG8.out hdr.1); have HV9 := Lib.hid (HV8.out.call H0.out hk8 hdr); have HK9 := Lib.hid (HK8.out.grown hdr.1 (by have := HGW.out; omega) (by have := HGW.out; have := HBT.out; omega)); obtain ⟨en, hen⟩ : ∃ en, jx[z]? = some en := ⟨jx[z]'HZN.out, List.getElem?_eq_getElem _⟩; have c1' := (HV9.out.2.2.2.2.2.1.cellAt hen).1; have f1' := (HV9.out.2.2.2.2.2.1.cellAt hen).2; have HF := Lib.hid (df_slot (i := z) (v := y) H0.out HMJ.out (HV9.out.up (show _ ≤ 290 by omega)) HK9.out HKP.out); have HZ9 := Lib.hid (show (w9.setCell ⟨g3, z, none⟩ (.int .i64 y)).cell? ⟨bt, 0, none⟩ = some (.slice (some ⟨g3, 0, none⟩) jx.length d1) from by rw [World.cell?_of_block (w := w9) (Below.heap_setCell _ _ _ _ HPB.out)]; exact HS.out _ HG9.out); clear hk8 hr8 hen hdr))
              all_goals (try go_wp2)
              all_goals go_meet
              all_goals exact HF
            · have hz : ((r : Int) == 0) = false := beq_eq_false_iff_ne.2 (by omega)
              clear hr0
              go_wp2_with fail
              go_meet
              exact Lib.hid ⟨jx, fs, g3, d1, p2, d2, HMJ.out, HV4.out.up (by omega), HK4.out⟩
          case rest =>
            obtain ⟨kx, gs, g4, e1, q2, e2, m1, m2, m3⟩ := hcut.out
            have HMK := Lib.hid m1
            have HV := Lib.hid m2
            have HR := Lib.hid m3.1
            clear m1 m2 m3 hcut HV4 HK4 HMJ
            have b0 := HV.out.2.2.2.2.1.cell 0
            have b1 := HV.out.2.2.2.2.1.cell 1
            have c0 := HR.out.cell 0
            have c1 := HR.out.cell 1
            have f0 := HR.out.free 0
            have f1 := HR.out.free 1
            go_wp2_with fail
            have HZ := Lib.hid (two_set HR.out (.slice (some ⟨g4, 0, none⟩) kx.length e1) (.slice q2 gs.length e2))
            exact bodyPost_ret (v := .agg #[.slice (some ⟨g4, 0, none⟩) kx.length e1, .slice q2 gs.length e2]) (results_cell_row rfl _ _ w.heap.size 26 _ (0, 0) _ rfl HZ.out Try.underlying26 rfl (by kernel_rfl)) rfl ⟨kx, gs, g4, e1, q2, e2, rfl, HMK.out, by
              have h9 := HV.out.2.2.2.2.2
              have k1 := h9.lt1.1
              have k2 : ∀ q, q2 = some ⟨q, 0, none⟩ → q ≠ w.heap.size := by rintro q rfl; have := h9.lt2.1; omega
              exact (h9.setOff (by omega) k2).setOff (by omega) k2, (HV.out.1.low H0.out (((Below.refl _ _).setCell (p := ⟨w.heap.size, 0, none⟩) (Nat.le_refl _) _).setCell (p := ⟨w.heap.size, 1, none⟩) (Nat.le_refl _) _)).more (by omega)⟩
end Go.Proofs.Ytibglmcpbbikdaa
