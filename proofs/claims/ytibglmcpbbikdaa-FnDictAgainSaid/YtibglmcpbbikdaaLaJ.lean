/- DictDrop. -/
import Derived.Test.YtibglmcpbbikdaaLaI
namespace Go.Proofs.Ytibglmcpbbikdaa
open Go.RowKit
set_option maxRecDepth 20000 in
set_option maxHeartbeats 4000000 in
theorem specDrop_any (ix : List Int) (es : List Ent) (key : ByteArray) (g c1 c2 : Nat) (a : Option Addr) (w : World) (h : Tb w g ix a es) (hl : es.length ≤ 1048576) (hm : ix.length ≤ 1048576) (hks : KeysS es) (hky : key.size ≤ 1048576) (hcap : a = none → c2 = 0) :
    Calls Try.prog 40 #[.agg #[.slice (some ⟨g, 0, none⟩) ix.length c1, .slice a es.length c2], .string key] w (OdP (drV ix es key) w) := by
  obtain ⟨w1, hw1⟩ : ∃ w1, w1 = (w.alloc (Obj.cells #[.slice (some ⟨g, 0, none⟩) ix.length c1, .slice a es.length c2] 26)).alloc (Obj.cells #[.slice none 0 0, .slice none 0 0] 26) := ⟨_, rfl⟩
  have HB1 := Lib.hid (show Below w.heap.size w w1 from by rw [hw1]; exact ((Below.refl _ _).alloc (Nat.le_refl _) _).alloc (by simp) _)
  have HX1 := Lib.hid (show Blk w1 w.heap.size _ #[.slice (some ⟨g, 0, none⟩) ix.length c1, .slice a es.length c2] from by rw [hw1]; exact (Blk.newest w _ _).alloc _)
  have HY1 := Lib.hid (show Blk w1 (w.heap.size + 1) 26 #[.slice none 0 0, .slice none 0 0] from by rw [hw1]; exact Blk.new _ _ _ (by simp))
  have HT1 := Lib.hid (h.below HB1.out)
  have HK := Lib.hid (fun w => validKey_any key w (by omega))
  have HD := Lib.hid (validDict_any ix es g c1 c2 a w1 HT1.out hl hm hks)
  have HW1 := Lib.hid hw1
  have HSZ := Lib.hid (show w1.heap.size = w.heap.size + 2 by rw [hw1]; simp)
  by_cases hno : (keyB key && dokB ix es) = false
  · rw [drV_no hno]
    generalize hmm : ix.length = m at *
    generalize hne : es.length = ne at *
    cases hdo : dokB ix es with
    | false =>
      rw [hdo] at HD
      clear hdo h hw1 hno hmm hne hcap
      go_enter Try.func40, Try.ntmps40
      go_wp2_with fail
      rw [← HW1.out]
      refine HD.out.mono ?_
      rintro e w2 ⟨rfl, hb2⟩
      have HB2 := Lib.hid (HB1.out.trans (hb2.mono HB1.out.size))
      have HR := Lib.hid (HY1.out.below hb2 HY1.out.lt)
      have z0 := HR.out.cell 0
      have z1 := HR.out.cell 1
      have z2 := HR.out.free 0
      have z3 := HR.out.free 1
      clear hb2
      go_wp2_with fail
      exact bodyPost_ret (v := .tuple #[.agg #[.slice none 0 0, .slice none 0 0], .bool false]) (by exact res_ct (p := 4) (u := 5) (ty := 26) rfl _ _ (w.heap.size + 1) #[.slice none 0 0, .slice none 0 0] rfl (ld_dict (two_set HR.out (.slice none 0 0) (.slice none 0 0)))) rfl
        ⟨none, 0, none, 0, rfl, OdD.none _ _, (HB2.out.setCell (by show w.heap.size ≤ w.heap.size + 1; omega) _).setCell (by show w.heap.size ≤ w.heap.size + 1; omega) _⟩
    | true =>
      have hkb : keyB key = false := by rw [hdo, Bool.and_true] at hno; exact hno
      rw [hdo] at HD
      rw [hkb] at HK
      clear hdo h hw1 hno hkb hmm hne hcap
      go_enter Try.func40, Try.ntmps40
      go_wp2_with fail
      rw [← HW1.out]
      refine HD.out.mono ?_
      rintro e w2 ⟨rfl, hb2⟩
      have HB2 := Lib.hid (HB1.out.trans (hb2.mono HB1.out.size))
      have HR := Lib.hid (HY1.out.below hb2 HY1.out.lt)
      have z0 := HR.out.cell 0
      have z1 := HR.out.cell 1
      have z2 := HR.out.free 0
      have z3 := HR.out.free 1
      clear hb2
      go_wp2_with fail
      refine (HK.out _).mono ?_
      rintro e w3 ⟨rfl, rfl⟩
      go_wp2_with fail
      exact bodyPost_ret (v := .tuple #[.agg #[.slice none 0 0, .slice none 0 0], .bool false]) (by exact res_ct (p := 4) (u := 5) (ty := 26) rfl _ _ (w.heap.size + 1) #[.slice none 0 0, .slice none 0 0] rfl (ld_dict (two_set HR.out (.slice none 0 0) (.slice none 0 0)))) rfl
        ⟨none, 0, none, 0, rfl, OdD.none _ _, (HB2.out.setCell (by show w.heap.size ≤ w.heap.size + 1; omega) _).setCell (by show w.heap.size ≤ w.heap.size + 1; omega) _⟩
  · have hyes : keyB key = true ∧ dokB ix es = true := by simpa using hno
    obtain ⟨hkb, hdo⟩ := hyes
    rw [hkb] at HK
    rw [hdo] at HD
    rw [drV_yes hkb hdo]
    have hd := dok_of hdo
    have hpl := plc_in2 (key := key) hd.1 (hsh_lt key.data.toList)
    have h4 := (fst_ok (key := key) hd.1 (hsh_lt key.data.toList)).2.2.2
    have hsl := fstS_lt (key := key) hd.1 (hsh_lt key.data.toList)
    have h8 : 1 ≤ ix.length := by omega
    have HSl := Lib.hid (fun g c1 c2 a w h => slotOf_ok ix es key g c1 c2 a w h hd.1 hky)
    have HCp := Lib.hid (fun w h => copyDict_any ix es g c1 c2 a w h hl hm hcap h8)
    clear hkb hdo h hw1 hd hno hcap
    generalize fstS ix es key (hsh key.data.toList) = s at *
    generalize plc ix es key (hsh key.data.toList) = n at *
    have HP4 := Lib.hid h4
    have s1 : (s : Int) < (ix.length : Int) := by omega
    have s0 : 0 ≤ (s : Int) := by omega
    unfold OtP at HCp
    clear h4 hsl h8
    generalize hmm : ix.length = m at *
    generalize hne : es.length = ne at *
    have HNE := Lib.hid hne
    have HMM := Lib.hid hmm
    clear hmm hne
    rcases hpl with rfl | ⟨k, rfl, hk⟩
    · rw [if_pos (by decide)]
      go_enter Try.func40, Try.ntmps40
      go_wp2_with fail
      rw [← HW1.out]
      refine HD.out.mono ?_
      rintro e w2 ⟨rfl, hb2⟩
      have HB2 := Lib.hid (HB1.out.trans (hb2.mono HB1.out.size))
      have HR2 := Lib.hid (HY1.out.below hb2 HY1.out.lt)
      have HX2 := Lib.hid (HX1.out.below hb2 HX1.out.lt)
      have HT2 := Lib.hid (HT1.out.below hb2)
      have HW2 := Lib.hid (show w.heap.size + 2 ≤ w2.heap.size by have := hb2.size; have := HSZ.out; omega)
      clear hb2
      go_wp2_with fail
      refine (HK.out _).mono ?_
      rintro e w3 ⟨rfl, rfl⟩
      have b0 := HX2.out.cell 0
      have b1 := HX2.out.cell 1
      go_wp2_with fail
      refine (HCp.out _ HT2.out).mono ?_
      rintro e w3 ⟨g1, d1, a2, d2, rfl, ho3, hb3⟩
      have HO3 := Lib.hid ho3
      have HB3 := Lib.hid (HB2.out.trans (hb3.mono HB2.out.size))
      have HQ3 := Lib.hid hb3.size
      have HR3 := Lib.hid (HR2.out.below hb3 HR2.out.lt)
      clear ho3 hb3 b0 b1
      go_wp2_with fail
      refine (HSl.out g1 d1 d2 a2 _ (HO3.out.below ((Below.refl _ _).alloc (Nat.le_refl _) _)).tb).mono ?_
      rintro e w5 ⟨rfl, hb5⟩
      have HO5 := Lib.hid ((HO3.out.below ((Below.refl _ _).alloc (Nat.le_refl _) _)).below hb5)
      have HC5 := Lib.hid (Blk.below (Blk.newest w3 _ _) hb5 (by simp))
      have hb5' : Below w3.heap.size w3 w5 := ((Below.refl _ w3).alloc (Nat.le_refl _) _).trans (hb5.mono (by simp))
      have HR5 := Lib.hid (HR3.out.below hb5' HR3.out.lt)
      have HB5 := Lib.hid (HB3.out.trans (hb5'.mono HB3.out.size))
      have HS3 := Lib.hid (show w2.heap.size ≤ w3.heap.size ∧ w3.heap.size < w5.heap.size from ⟨HQ3.out, HC5.out.lt⟩)
      clear hb5 hb5'
      have t0 := HC5.out.cell 0
      have t1 := HC5.out.cell 1
      have i0 := (HO5.out.fact HP4.out).1
      have i1 := (HO5.out.fact HP4.out).2
      have z0 := HR5.out.cell 0
      have z1 := HR5.out.cell 1
      have z2 := HR5.out.free 0
      have z3 := HR5.out.free 1
      go_wp2_with fail
      exact bodyPost_ret (v := .tuple #[.agg #[.slice (some ⟨g1, 0, none⟩) m d1, .slice a2 ne d2], .bool false]) (by exact res_ct (p := 4) (u := 5) (ty := 26) rfl _ _ (w.heap.size + 1) #[.slice (some ⟨g1, 0, none⟩) m d1, .slice a2 ne d2] rfl (ld_dict (two_set HR5.out (.slice (some ⟨g1, 0, none⟩) m d1) (.slice a2 ne d2)))) rfl
        ⟨some ⟨g1, 0, none⟩, d1, a2, d2, by rw [HMM.out, HNE.out], (((HO5.out.setOff (by have := HO5.out.lt1; have := HW2.out; omega) (by rintro g rfl; have := HO5.out.lt2; have := HW2.out; omega)).setOff (by have := HO5.out.lt1; have := HW2.out; omega) (by rintro g rfl; have := HO5.out.lt2; have := HW2.out; omega)).wide (by have := HW2.out; omega)).od, (HB5.out.setCell (by show w.heap.size ≤ w.heap.size + 1; omega) _).setCell (by show w.heap.size ≤ w.heap.size + 1; omega) _⟩
    · rw [if_neg (by omega)]
      obtain ⟨e9, he9⟩ : ∃ e, es[k]? = some e := ⟨_, List.getElem?_eq_getElem (by have := HNE.out; omega)⟩
      have HGE := Lib.hid he9
      have k1 : (k : Int) < (ne : Int) := by omega
      have k0 : 0 ≤ (k : Int) := by omega
      have HKN := Lib.hid hk
      rw [Int.toNat_natCast]
      clear he9 hk
      go_enter Try.func40, Try.ntmps40
      go_wp2_with fail
      rw [← HW1.out]
      refine HD.out.mono ?_
      rintro e w2 ⟨rfl, hb2⟩
      have HB2 := Lib.hid (HB1.out.trans (hb2.mono HB1.out.size))
      have HR2 := Lib.hid (HY1.out.below hb2 HY1.out.lt)
      have HX2 := Lib.hid (HX1.out.below hb2 HX1.out.lt)
      have HT2 := Lib.hid (HT1.out.below hb2)
      have HW2 := Lib.hid (show w.heap.size + 2 ≤ w2.heap.size by have := hb2.size; have := HSZ.out; omega)
      clear hb2
      go_wp2_with fail
      refine (HK.out _).mono ?_
      rintro e w3 ⟨rfl, rfl⟩
      have b0 := HX2.out.cell 0
      have b1 := HX2.out.cell 1
      go_wp2_with fail
      refine (HCp.out _ HT2.out).mono ?_
      rintro e w3 ⟨g1, d1, a2, d2, rfl, ho3, hb3⟩
      have HO3 := Lib.hid ho3
      have HB3 := Lib.hid (HB2.out.trans (hb3.mono HB2.out.size))
      have HQ3 := Lib.hid hb3.size
      have HR3 := Lib.hid (HR2.out.below hb3 HR2.out.lt)
      clear ho3 hb3 b0 b1
      go_wp2_with fail
      refine (HSl.out g1 d1 d2 a2 _ (HO3.out.below ((Below.refl _ _).alloc (Nat.le_refl _) _)).tb).mono ?_
      rintro e w5 ⟨rfl, hb5⟩
      have HO5 := Lib.hid ((HO3.out.below ((Below.refl _ _).alloc (Nat.le_refl _) _)).below hb5)
      have HC5 := Lib.hid (Blk.below (Blk.newest w3 _ _) hb5 (by simp))
      have hb5' : Below w3.heap.size w3 w5 := ((Below.refl _ w3).alloc (Nat.le_refl _) _).trans (hb5.mono (by simp))
      have HR5 := Lib.hid (HR3.out.below hb5' HR3.out.lt)
      have HB5 := Lib.hid (HB3.out.trans (hb5'.mono HB3.out.size))
      have HS3 := Lib.hid (show w2.heap.size ≤ w3.heap.size ∧ w3.heap.size < w5.heap.size from ⟨HQ3.out, HC5.out.lt⟩)
      clear hb5 hb5'
      have t0 := HC5.out.cell 0
      have t1 := HC5.out.cell 1
      have i0 := (HO5.out.fact HP4.out).1
      have i1 := (HO5.out.fact HP4.out).2
      have z0 := HR5.out.cell 0
      have z1 := HR5.out.cell 1
      have z2 := HR5.out.free 0
      have z3 := HR5.out.free 1
      obtain ⟨g2, hg2⟩ : ∃ g2, a2 = some ⟨g2, 0, none⟩ := by
        obtain ⟨g2, _, h9, _⟩ := (HO5.out.tb.2.2).at (show k < es.length by have := HNE.out; have := HKN.out; omega)
        exact ⟨g2, h9⟩
      subst hg2
      have l1 := HO5.out.lt1
      have l2 := HO5.out.lt2
      have l3 := HS3.out
      have l4 := HW2.out
      have n12 : g2 ≠ g1 := HO5.out.2.2 g2 rfl
      have n1 : w3.heap.size ≠ g1 := by have := HO3.out.lt1; omega
      have n2 : w3.heap.size ≠ g2 := by have := HO3.out.lt2; omega
      have r1 : w.heap.size + 1 ≠ g1 := by omega
      have r2 : w.heap.size + 1 ≠ g2 := by omega
      have HO6 := Lib.hid (HO5.out.slot s (-2))
      have HC6 := Lib.hid (HC5.out.setOff (g' := g1) (i := s) (v := .int .i64 (-2)) n1)
      have HR6 := Lib.hid (HR5.out.setOff (g' := g1) (i := s) (v := .int .i64 (-2)) r1)
      have HB6 := Lib.hid (HB5.out.setCell (p := ⟨g1, s, none⟩) (show w.heap.size ≤ g1 by omega) (.int .i64 (-2)))
      generalize hw6 : w5.setCell ⟨g1, s, none⟩ (.int .i64 (-2)) = w6 at *
      have HO7 := Lib.hid (HO6.out.ent HGE.out ze)
      have HC7 := Lib.hid ((((HC6.out.setOff (g' := g2) (i := k * 4) (v := .string ⟨#[]⟩) n2).setOff (g' := g2) (i := k * 4 + 1) (v := .int .i64 0) n2).setOff (g' := g2) (i := k * 4 + 2) (v := .int .i64 0) n2).setOff (g' := g2) (i := k * 4 + 3) (v := .bool false) n2)
      have HR7 := Lib.hid ((((HR6.out.setOff (g' := g2) (i := k * 4) (v := .string ⟨#[]⟩) r2).setOff (g' := g2) (i := k * 4 + 1) (v := .int .i64 0) r2).setOff (g' := g2) (i := k * 4 + 2) (v := .int .i64 0) r2).setOff (g' := g2) (i := k * 4 + 3) (v := .bool false) r2)
      have HB7 := Lib.hid ((((HB6.out.setCell (p := ⟨g2, k * 4, none⟩) (show w.heap.size ≤ g2 by omega) (.string ⟨#[]⟩)).setCell (p := ⟨g2, k * 4 + 1, none⟩) (show w.heap.size ≤ g2 by omega) (.int .i64 0)).setCell (p := ⟨g2, k * 4 + 2, none⟩) (show w.heap.size ≤ g2 by omega) (.int .i64 0)).setCell (p := ⟨g2, k * 4 + 3, none⟩) (show w.heap.size ≤ g2 by omega) (.bool false))
      obtain ⟨x0, x1, x2, x3⟩ := HO6.out.2.1.cellsAt HGE.out
      have f0 := HO6.out.2.1.free (k * 4)
      have f1 := HO6.out.2.1.free (k * 4 + 1)
      have f2 := HO6.out.2.1.free (k * 4 + 2)
      have f3 := HO6.out.2.1.free (k * 4 + 3)
      have v1 := HC6.out.cell 1
      have u0 := HC7.out.cell 0
      have u1 := HC7.out.cell 1
      have q0 := HR7.out.cell 0
      have q1 := HR7.out.cell 1
      have q2 := HR7.out.free 0
      have q3 := HR7.out.free 1
      have HLS := Lib.hid (And.intro l1 (And.intro l2 (And.intro l3 l4)))
      clear l1 l2 l3 l4 n12 n1 n2 r1 r2 z0 z1 z2 z3
      go_wp2_with fail
      have hq := HLS.out
      exact bodyPost_ret (v := .tuple #[.agg #[.slice (some ⟨g1, 0, none⟩) m d1, .slice (some ⟨g2, 0, none⟩) ne d2], .bool true]) (by exact res_ct (p := 4) (u := 5) (ty := 26) rfl _ _ (w.heap.size + 1) #[.slice (some ⟨g1, 0, none⟩) m d1, .slice (some ⟨g2, 0, none⟩) ne d2] rfl (ld_dict (two_set HR7.out (.slice (some ⟨g1, 0, none⟩) m d1) (.slice (some ⟨g2, 0, none⟩) ne d2)))) rfl
        ⟨some ⟨g1, 0, none⟩, d1, some ⟨g2, 0, none⟩, d2, by rw [List.length_set, List.length_set, HMM.out, HNE.out], (((HO7.out.setOff (by omega) (by intro g9 h9; injection h9 with h9; injection h9 with h9; omega)).setOff (by omega) (by intro g9 h9; injection h9 with h9; injection h9 with h9; omega)).wide (by omega)).od, (HB7.out.setCell (by show w.heap.size ≤ w.heap.size + 1; omega) _).setCell (by show w.heap.size ≤ w.heap.size + 1; omega) _⟩
theorem lastProbe_ok (ix : List Int) (es : List Ent) (key : ByteArray) (g c1 c2 hs : Nat) (a : Option Addr) (w : World) (h : Tb w g ix a es) (hf : Fit ix es) (hh : hs < 65536) :
    Calls Try.prog 87 #[.agg #[.slice (some ⟨g, 0, none⟩) ix.length c1, .slice a es.length c2], .string key, .int .i64 (hs : Int)] w fun e w' => e = .returned (.int .i64 (fstS ix es key hs : Int)) ∧ Below w.heap.size w w' := by
  have hm : 8 ≤ ix.length ∧ ix.length ≤ 128 := by have := slotN_mem hf.1; simp at this; omega
  obtain ⟨h1, h2, h3, _⟩ := fst_ok (key := key) hf hh
  exact lastProbe_any ix es key g c1 c2 hs (fstT ix es key hs) a w h hf.2.2.1 hf.1 (by have := hf.2.1; omega) hh h1 h2 h3
/-- A table lies in a block of its own, with slices of the call's own. -/
def TbO (w : World) (b : Nat) (ix : List Int) (es : List Ent) (bt g1 c1 : Nat) (a2 : Option Addr) (c2 : Nat) : Prop :=
  b ≤ bt ∧ bt ≠ g1 ∧ (∀ g, a2 = some ⟨g, 0, none⟩ → g ≠ bt) ∧ Blk w bt 54 #[.slice (some ⟨g1, 0, none⟩) ix.length c1, .slice a2 es.length c2] ∧ OwD w b ix es g1 c1 a2 c2
theorem TbO.below {w w' : World} {b bt g1 c1 c2 : Nat} {ix : List Int} {es : List Ent} {a2 : Option Addr} (h : TbO w b ix es bt g1 c1 a2 c2) (hb : Below w.heap.size w w') : TbO w' b ix es bt g1 c1 a2 c2 := ⟨h.1, h.2.1, h.2.2.1, h.2.2.2.1.below hb h.2.2.2.1.lt, h.2.2.2.2.below hb⟩
theorem TbO.slot {w : World} {b bt g1 c1 c2 : Nat} {ix : List Int} {es : List Ent} {a2 : Option Addr} (h : TbO w b ix es bt g1 c1 a2 c2) (s : Nat) (i : Int) : TbO (w.setCell ⟨g1, s, none⟩ (.int .i64 i)) b (ix.set s i) es bt g1 c1 a2 c2 := by
  refine ⟨h.1, h.2.1, h.2.2.1, ?_, h.2.2.2.2.slot s i⟩
  rw [List.length_set]
  exact h.2.2.2.1.setOff h.2.1
theorem TbO.ent {w : World} {b bt g1 c1 c2 g2 k : Nat} {ix : List Int} {es : List Ent} {e : Ent} (h : TbO w b ix es bt g1 c1 (some ⟨g2, 0, none⟩) c2) (he : es[k]? = some e) (e' : Ent) : TbO ((((w.setCell ⟨g2, k * 4, none⟩ (.string e'.key)).setCell ⟨g2, k * 4 + 1, none⟩ (.int .i64 e'.hash)).setCell ⟨g2, k * 4 + 2, none⟩ (.int .i64 e'.val)).setCell ⟨g2, k * 4 + 3, none⟩ (.bool e'.live)) b ix (es.set k e') bt g1 c1 (some ⟨g2, 0, none⟩) c2 := by
  have hn := Ne.symm (h.2.2.1 g2 rfl)
  refine ⟨h.1, h.2.1, h.2.2.1, ?_, h.2.2.2.2.ent he e'⟩
  rw [List.length_set]
  exact (((h.2.2.2.1.setOff hn).setOff hn).setOff hn).setOff hn
set_option maxRecDepth 20000 in
set_option maxHeartbeats 4000000 in
theorem drop_no (ix : List Int) (es : List Ent) (key : ByteArray) (hs b bt g1 c1 c2 : Nat) (a2 : Option Addr) (w : World) (h : TbO w b ix es bt g1 c1 a2 c2) (hf : Fit ix es) (hh : hs < 65536) (hp : plc ix es key hs = -1) (_ : b ≤ w.heap.size) :
    Calls Try.prog 65 #[.pointer (some ⟨bt, 0, none⟩), .string key, .int .i64 (hs : Int)] w fun e w' => e = .returned (.bool false) ∧ TbO w' b ix es bt g1 c1 a2 c2 ∧ Below w.heap.size w w' := by
  have HL := Lib.hid (fun w h => lastProbe_ok ix es key g1 c1 c2 hs a2 w h hf hh)
  have h4 := (fst_ok (key := key) hf hh).2.2.2
  have hsl := fstS_lt (key := key) hf hh
  rw [hp] at h4
  have hmx : ix.length ≤ 128 := by have := slotN_mem hf.1; simp at this; omega
  have hex : es.length ≤ 128 := by have := hf.2.1; omega
  have HT := Lib.hid h
  have HP4 := Lib.hid h4
  have HC := Lib.hid h.2.2.2.1
  clear hf hp h4 h
  generalize fstS ix es key hs = s at *
  have s1 : (s : Int) < (ix.length : Int) := by omega
  have s0 : 0 ≤ (s : Int) := by omega
  generalize ix.length = m at *
  generalize es.length = ne at *
  have t0 := HC.out.cell 0
  have t1 := HC.out.cell 1
  go_enter Try.func65, Try.ntmps65
  go_wp2_with fail
  refine (HL.out _ HT.out.2.2.2.2.tb).mono ?_
  rintro e w2 ⟨rfl, hb2⟩
  have HT2 := Lib.hid (HT.out.below hb2)
  have HC2 := Lib.hid (HC.out.below hb2 HC.out.lt)
  have HB2 := Lib.hid hb2
  clear hb2 t0 t1
  have t0 := HC2.out.cell 0
  have t1 := HC2.out.cell 1
  have i0 := (HT2.out.2.2.2.2.fact HP4.out).1
  go_wp2_with fail
  go_ret
  exact ⟨rfl, HT2.out, HB2.out⟩
set_option maxRecDepth 20000 in
set_option maxHeartbeats 4000000 in
theorem drop_yes (ix : List Int) (es : List Ent) (key : ByteArray) (hs b bt g1 c1 c2 k : Nat) (a2 : Option Addr) (w : World) (h : TbO w b ix es bt g1 c1 a2 c2) (hf : Fit ix es) (hh : hs < 65536) (hp : plc ix es key hs = (k : Int)) (hk : k < es.length) (hbw : b ≤ w.heap.size) :
    Calls Try.prog 65 #[.pointer (some ⟨bt, 0, none⟩), .string key, .int .i64 (hs : Int)] w fun e w' => e = .returned (.bool true) ∧ TbO w' b (ix.set (fstS ix es key hs) (-2)) (es.set k ze) bt g1 c1 a2 c2 ∧ Below b w w' := by
  have HL := Lib.hid (fun w h => lastProbe_ok ix es key g1 c1 c2 hs a2 w h hf hh)
  have h4 := (fst_ok (key := key) hf hh).2.2.2
  have hsl := fstS_lt (key := key) hf hh
  rw [hp] at h4
  obtain ⟨e9, he9⟩ : ∃ e, es[k]? = some e := ⟨_, List.getElem?_eq_getElem hk⟩
  have hmx : ix.length ≤ 128 := by have := slotN_mem hf.1; simp at this; omega
  have hex : es.length ≤ 128 := by have := hf.2.1; omega
  obtain ⟨g2, hg2⟩ : ∃ g2, a2 = some ⟨g2, 0, none⟩ := by
    obtain ⟨g2, _, h9, _⟩ := (h.2.2.2.2.tb.2.2).at hk
    exact ⟨g2, h9⟩
  subst hg2
  have HGE := Lib.hid he9
  have HT := Lib.hid h
  have HP4 := Lib.hid h4
  have HC := Lib.hid h.2.2.2.1
  have HBW := Lib.hid hbw
  clear hf hp h4 h he9 hbw
  generalize fstS ix es key hs = s at *
  have s1 : (s : Int) < (ix.length : Int) := by omega
  have s0 : 0 ≤ (s : Int) := by omega
  have k1 : (k : Int) < (es.length : Int) := by omega
  have k0 : 0 ≤ (k : Int) := by omega
  have k2 : ((k : Int) == -1) = false := beq_eq_false_iff_ne.2 (by omega)
  generalize hmm : ix.length = m at *
  generalize hne : es.length = ne at *
  have HMM := Lib.hid hmm
  have HNE := Lib.hid hne
  clear hmm hne
  have t0 := HC.out.cell 0
  have t1 := HC.out.cell 1
  go_enter Try.func65, Try.ntmps65
  go_wp2_with fail
  refine (HL.out _ HT.out.2.2.2.2.tb).mono ?_
  rintro e w2 ⟨rfl, hb2⟩
  have HT2 := Lib.hid (HT.out.below hb2)
  have HC2 := Lib.hid (HC.out.below hb2 HC.out.lt)
  have HB2 := Lib.hid hb2
  clear hb2 t0 t1
  have t0 := HC2.out.cell 0
  have t1 := HC2.out.cell 1
  have i0 := (HT2.out.2.2.2.2.fact HP4.out).1
  have i1 := (HT2.out.2.2.2.2.fact HP4.out).2
  have hbt : bt < w2.heap.size := HC2.out.lt
  have hg1 : g1 < w2.heap.size := HT2.out.2.2.2.2.lt1.2
  have hg2 : g2 < w2.heap.size := HT2.out.2.2.2.2.lt2.2
  have hz5 : w2.heap.size = (w2.setCell ⟨g1, s, none⟩ (.int .i64 (-2))).heap.size := by simp
  have HT6 := Lib.hid ((HT2.out.slot s (-2)).below ((Below.refl _ _).alloc (Nat.le_refl _) (Obj.cells #[.string ⟨#[]⟩, .int .i64 0, .int .i64 0, .bool false] 57)))
  have HZ6 := Lib.hid (Blk.new (w2.setCell ⟨g1, s, none⟩ (.int .i64 (-2))) 57 #[.string ⟨#[]⟩, .int .i64 0, .int .i64 0, .bool false] hz5)
  have HB6 := Lib.hid (((HB2.out.mono HBW.out).setCell (p := ⟨g1, s, none⟩) (show b ≤ g1 from HT2.out.2.2.2.2.lt1.1) (.int .i64 (-2))).alloc (by rw [← hz5]; have := HB2.out.size; have := HBW.out; omega) (Obj.cells #[.string ⟨#[]⟩, .int .i64 0, .int .i64 0, .bool false] 57))
  clear hz5
  go_upto_region 7 with fail
  generalize hw6 : (w2.setCell ⟨g1, s, none⟩ (.int .i64 (-2))).alloc (Obj.cells #[.string ⟨#[]⟩, .int .i64 0, .int .i64 0, .bool false] 57) = w6 at *
  have HC6 := Lib.hid HT6.out.2.2.2.1
  have HBt := Lib.hid HT6.out.1
  rw [List.length_set, HMM.out, HNE.out] at HC6
  obtain ⟨x0, x1, x2, x3⟩ := HT6.out.2.2.2.2.2.1.cellsAt HGE.out
  have f0 := HT6.out.2.2.2.2.2.1.free (k * 4)
  have f1 := HT6.out.2.2.2.2.2.1.free (k * 4 + 1)
  have f2 := HT6.out.2.2.2.2.2.1.free (k * 4 + 2)
  have f3 := HT6.out.2.2.2.2.2.1.free (k * 4 + 3)
  have HX7 := Lib.hid (HT6.out.ent HGE.out ze)
  have HB7 := Lib.hid ((((HB6.out.setCell (p := ⟨g2, k * 4, none⟩) (show b ≤ g2 from HT6.out.2.2.2.2.lt2.1) (.string ⟨#[]⟩)).setCell (p := ⟨g2, k * 4 + 1, none⟩) (show b ≤ g2 from HT6.out.2.2.2.2.lt2.1) (.int .i64 0)).setCell (p := ⟨g2, k * 4 + 2, none⟩) (show b ≤ g2 from HT6.out.2.2.2.2.lt2.1) (.int .i64 0)).setCell (p := ⟨g2, k * 4 + 3, none⟩) (show b ≤ g2 from HT6.out.2.2.2.2.lt2.1) (.bool false))
  have t1' := HC6.out.cell 1
  have z0 := HZ6.out.cell 0
  have z1 := HZ6.out.cell 1
  have z2 := HZ6.out.cell 2
  have z3 := HZ6.out.cell 3
  have hq1 := HT6.out.2.2.1 g2 rfl
  have hq2 : g2 ≠ w2.heap.size := by omega
  have HZ7 := Lib.hid ((((HZ6.out.setOff (g' := g2) (i := k * 4) (v := .string ⟨#[]⟩) (Ne.symm hq2)).setOff (g' := g2) (i := k * 4 + 1) (v := .int .i64 0) (Ne.symm hq2)).setOff (g' := g2) (i := k * 4 + 2) (v := .int .i64 0) (Ne.symm hq2)).setOff (g' := g2) (i := k * 4 + 3) (v := .bool false) (Ne.symm hq2))
  have HC7 := Lib.hid HX7.out.2.2.2.1
  rw [List.length_set, List.length_set, HMM.out, HNE.out] at HC7
  clear t0 t1 i0 i1 hg1 hg2 hq1 hq2 hbt
  go_region_held3 (fun w' => w'.cell? ⟨bt, 1, none⟩ = some (.slice (some ⟨g2, 0, none⟩) ne c2) ∧ w'.cell? ⟨w2.heap.size, 0, none⟩ = some (.string ⟨#[]⟩) ∧ w'.cell? ⟨w2.heap.size, 1, none⟩ = some (.int .i64 0) ∧ w'.cell? ⟨w2.heap.size, 2, none⟩ = some (.int .i64 0) ∧ w'.cell? ⟨w2.heap.size, 3, none⟩ = some (.bool false))
    (first | exact ⟨t1', z0, z1, z2, z3⟩ | exact ⟨HC7.out.cell 1, HZ7.out.cell 0, HZ7.out.cell 1, HZ7.out.cell 2, HZ7.out.cell 3⟩)
    (first | fail)
  all_goals
    go_wp2_with fail
    go_ret
    exact ⟨rfl, HX7.out, HB7.out.drew⟩
set_option maxRecDepth 20000 in
set_option maxHeartbeats 4000000 in
theorem implDrop_any (ix : List Int) (es : List Ent) (key : ByteArray) (g c1 c2 : Nat) (a : Option Addr) (w : World) (h : Tb w g ix a es) (hl : es.length ≤ 1048576) (hm : ix.length ≤ 1048576) (hks : KeysS es) (hky : key.size ≤ 1048576) :
    Calls Try.prog 30 #[.agg #[.slice (some ⟨g, 0, none⟩) ix.length c1, .slice a es.length c2], .string key] w (OdP (drV ix es key) w) := by
  obtain ⟨w1, hw1⟩ : ∃ w1, w1 = (w.alloc (Obj.cells #[.slice (some ⟨g, 0, none⟩) ix.length c1, .slice a es.length c2] 26)).alloc (Obj.cells #[.slice none 0 0, .slice none 0 0] 26) := ⟨_, rfl⟩
  have HB1 := Lib.hid (show Below w.heap.size w w1 from by rw [hw1]; exact ((Below.refl _ _).alloc (Nat.le_refl _) _).alloc (by simp) _)
  have HX1 := Lib.hid (show Blk w1 w.heap.size _ #[.slice (some ⟨g, 0, none⟩) ix.length c1, .slice a es.length c2] from by rw [hw1]; exact (Blk.newest w _ _).alloc _)
  have HY1 := Lib.hid (show Blk w1 (w.heap.size + 1) 26 #[.slice none 0 0, .slice none 0 0] from by rw [hw1]; exact Blk.new _ _ _ (by simp))
  have HT1 := Lib.hid (h.below HB1.out)
  have HK := Lib.hid (fun w => isKey_any key w (by omega))
  have HD := Lib.hid (dictOk_any ix es g c1 c2 a w1 HT1.out hl hm hks)
  have HW1 := Lib.hid hw1
  have HSZ := Lib.hid (show w1.heap.size = w.heap.size + 2 by rw [hw1]; simp)
  by_cases hno : (keyB key && dokB ix es) = false
  · rw [drV_no hno]
    generalize hmm : ix.length = m at *
    generalize hne : es.length = ne at *
    cases hkb : keyB key with
    | false =>
      rw [hkb] at HK
      have HB2 := Lib.hid HB1.out
      have HR := Lib.hid HY1.out
      have z0 := HR.out.cell 0
      have z1 := HR.out.cell 1
      have z2 := HR.out.free 0
      have z3 := HR.out.free 1
      clear hkb h hw1 hno hmm hne HD
      go_enter Try.func30, Try.ntmps30
      go_wp2_with fail
      rw [← HW1.out]
      refine (HK.out _).mono ?_
      rintro e w2 ⟨rfl, rfl⟩
      go_wp2_with fail
      exact bodyPost_ret (v := .tuple #[.agg #[.slice none 0 0, .slice none 0 0], .bool false]) (by exact res_ct (p := 4) (u := 5) (ty := 26) rfl _ _ (w.heap.size + 1) #[.slice none 0 0, .slice none 0 0] rfl (ld_dict (two_set HR.out (.slice none 0 0) (.slice none 0 0)))) rfl
        ⟨none, 0, none, 0, rfl, OdD.none _ _, (HB2.out.setCell (by show w.heap.size ≤ w.heap.size + 1; omega) _).setCell (by show w.heap.size ≤ w.heap.size + 1; omega) _⟩
    | true =>
      have hdo : dokB ix es = false := by rw [hkb, Bool.true_and] at hno; exact hno
      rw [hkb] at HK
      rw [hdo] at HD
      have b0 := HX1.out.cell 0
      have b1 := HX1.out.cell 1
      clear hdo h hw1 hno hkb hmm hne
      go_enter Try.func30, Try.ntmps30
      go_wp2_with fail
      rw [← HW1.out]
      refine (HK.out _).mono ?_
      rintro e w2 ⟨rfl, rfl⟩
      go_wp2_with fail
      refine HD.out.mono ?_
      rintro e w2 ⟨rfl, hb2⟩
      have HB2 := Lib.hid (HB1.out.trans (hb2.mono HB1.out.size))
      have HR := Lib.hid (HY1.out.below hb2 HY1.out.lt)
      have z0 := HR.out.cell 0
      have z1 := HR.out.cell 1
      have z2 := HR.out.free 0
      have z3 := HR.out.free 1
      clear hb2
      go_wp2_with fail
      exact bodyPost_ret (v := .tuple #[.agg #[.slice none 0 0, .slice none 0 0], .bool false]) (by exact res_ct (p := 4) (u := 5) (ty := 26) rfl _ _ (w.heap.size + 1) #[.slice none 0 0, .slice none 0 0] rfl (ld_dict (two_set HR.out (.slice none 0 0) (.slice none 0 0)))) rfl
        ⟨none, 0, none, 0, rfl, OdD.none _ _, (HB2.out.setCell (by show w.heap.size ≤ w.heap.size + 1; omega) _).setCell (by show w.heap.size ≤ w.heap.size + 1; omega) _⟩
  · have hyes : keyB key = true ∧ dokB ix es = true := by simpa using hno
    obtain ⟨hkb, hdo⟩ := hyes
    rw [hkb] at HK
    rw [hdo] at HD
    rw [drV_yes hkb hdo]
    have hd := dok_of hdo
    have hpl := plc_in2 (key := key) hd.1 (hsh_lt key.data.toList)
    have hv2 : hashV key = (hsh key.data.toList : Int) := by unfold hashV; rw [if_pos (by unfold keyB at hkb; simpa using hkb)]
    have HH := Lib.hid (fun w => implHash_any key w (by omega))
    rw [hv2] at HH
    have HOw := Lib.hid (fun w h => ownTable_any ix es g c1 c2 a w h hl hm hks)
    have hh := hsh_lt key.data.toList
    have HNo := Lib.hid (fun hp bt g1 c1 a2 c2 (b : Nat) w h hb => drop_no ix es key (hsh key.data.toList) b bt g1 c1 c2 a2 w h hd.1 hh hp hb)
    have HYe := Lib.hid (fun k hp hk bt g1 c1 a2 c2 (b : Nat) w h hb => drop_yes ix es key (hsh key.data.toList) b bt g1 c1 c2 k a2 w h hd.1 hh hp hk hb)
    have b0 := HX1.out.cell 0
    have b1 := HX1.out.cell 1
    clear hkb hdo h hw1 hd hno hv2 hh
    generalize fstS ix es key (hsh key.data.toList) = s at *
    generalize plc ix es key (hsh key.data.toList) = n at *
    generalize hsh key.data.toList = hh at *
    unfold OtP at HOw
    generalize hmm : ix.length = m at *
    generalize hne : es.length = ne at *
    have HNE := Lib.hid hne
    have HMM := Lib.hid hmm
    clear hmm hne
    rcases hpl with rfl | ⟨k, rfl, hk⟩
    · rw [if_pos (by decide)]
      go_enter Try.func30, Try.ntmps30
      go_wp2_with fail
      rw [← HW1.out]
      refine (HK.out _).mono ?_
      rintro e w2 ⟨rfl, rfl⟩
      go_wp2_with fail
      refine HD.out.mono ?_
      rintro e w2 ⟨rfl, hb2⟩
      have HB2 := Lib.hid (HB1.out.trans (hb2.mono HB1.out.size))
      have HR2 := Lib.hid (HY1.out.below hb2 HY1.out.lt)
      have HX2 := Lib.hid (HX1.out.below hb2 HX1.out.lt)
      have HT2 := Lib.hid (HT1.out.below hb2)
      have HW2 := Lib.hid (show w.heap.size + 2 ≤ w2.heap.size by have := hb2.size; have := HSZ.out; omega)
      clear hb2 b0 b1
      have b0 := HX2.out.cell 0
      have b1 := HX2.out.cell 1
      go_wp2_with fail
      refine (HOw.out _ HT2.out).mono ?_
      rintro e w3 ⟨g1, d1, a2, d2, rfl, ho3, hb3⟩
      have HTb := Lib.hid (show TbO (w3.alloc (Obj.cells #[.slice (some ⟨g1, 0, none⟩) ix.length d1, .slice a2 es.length d2] 54)) w2.heap.size ix es w3.heap.size g1 d1 a2 d2 from ⟨hb3.size, by have := ho3.lt1; omega, by rintro g9 rfl; have := ho3.lt2; omega, Blk.newest _ _ _, ho3.below ((Below.refl _ _).alloc (Nat.le_refl _) _)⟩)
      rw [HMM.out, HNE.out] at HTb
      have hb3' : Below w2.heap.size w2 (w3.alloc (Obj.cells #[.slice (some ⟨g1, 0, none⟩) m d1, .slice a2 ne d2] 54)) := hb3.alloc hb3.size _
      have HB3 := Lib.hid (HB2.out.trans (hb3'.mono HB2.out.size))
      have HR3 := Lib.hid (HR2.out.below hb3' HR2.out.lt)
      have HQ3 := Lib.hid (show w2.heap.size ≤ (w3.alloc (Obj.cells #[.slice (some ⟨g1, 0, none⟩) m d1, .slice a2 ne d2] 54)).heap.size from hb3'.size)
      clear ho3 hb3 hb3' b0 b1
      go_upto_region 4 with fail
      generalize hw4 : w3.alloc (Obj.cells #[.slice (some ⟨g1, 0, none⟩) m d1, .slice a2 ne d2] 54) = w4 at *
      go_wp2_with fail
      refine (HH.out _).mono ?_
      rintro e w9 ⟨rfl, rfl⟩
      go_wp2_with fail
      refine (HNo.out (by first | rfl | trivial) _ _ _ _ _ w2.heap.size _ HTb.out HQ3.out).mono ?_
      rintro e w5 ⟨rfl, ht5, hb5⟩
      have HB5 := Lib.hid (HB3.out.trans ((hb5.mono HQ3.out).mono HB2.out.size))
      have HR5 := Lib.hid (HR3.out.below (hb5.mono HQ3.out) HR2.out.lt)
      have HT5 := Lib.hid ht5
      have HC5 := Lib.hid ht5.2.2.2.1
      rw [HMM.out, HNE.out] at HC5
      clear ht5 hb5
      have t0 := HC5.out.cell 0
      have t1 := HC5.out.cell 1
      have z0 := HR5.out.cell 0
      have z1 := HR5.out.cell 1
      have z2 := HR5.out.free 0
      have z3 := HR5.out.free 1
      go_wp2_with fail
      have hq1 := HT5.out.2.2.2.2.lt1.1
      have hq2 : ∀ g9, a2 = some ⟨g9, 0, none⟩ → w2.heap.size ≤ g9 := by rintro g9 rfl; exact HT5.out.2.2.2.2.lt2.1
      have hw := HW2.out
      exact bodyPost_ret (v := .tuple #[.agg #[.slice (some ⟨g1, 0, none⟩) m d1, .slice a2 ne d2], .bool false]) (by exact res_ct (p := 4) (u := 5) (ty := 26) rfl _ _ (w.heap.size + 1) #[.slice (some ⟨g1, 0, none⟩) m d1, .slice a2 ne d2] rfl (ld_dict (two_set HR5.out (.slice (some ⟨g1, 0, none⟩) m d1) (.slice a2 ne d2)))) rfl
        ⟨some ⟨g1, 0, none⟩, d1, a2, d2, by rw [HMM.out, HNE.out], (((HT5.out.2.2.2.2.setOff (by omega) (by intro g9 h9; have := hq2 g9 h9; omega)).setOff (by omega) (by intro g9 h9; have := hq2 g9 h9; omega)).wide (by omega)).od, (HB5.out.setCell (by show w.heap.size ≤ w.heap.size + 1; omega) _).setCell (by show w.heap.size ≤ w.heap.size + 1; omega) _⟩
    · rw [if_neg (by omega)]
      have HKN := Lib.hid hk
      rw [Int.toNat_natCast]
      clear hk
      go_enter Try.func30, Try.ntmps30
      go_wp2_with fail
      rw [← HW1.out]
      refine (HK.out _).mono ?_
      rintro e w2 ⟨rfl, rfl⟩
      go_wp2_with fail
      refine HD.out.mono ?_
      rintro e w2 ⟨rfl, hb2⟩
      have HB2 := Lib.hid (HB1.out.trans (hb2.mono HB1.out.size))
      have HR2 := Lib.hid (HY1.out.below hb2 HY1.out.lt)
      have HX2 := Lib.hid (HX1.out.below hb2 HX1.out.lt)
      have HT2 := Lib.hid (HT1.out.below hb2)
      have HW2 := Lib.hid (show w.heap.size + 2 ≤ w2.heap.size by have := hb2.size; have := HSZ.out; omega)
      clear hb2 b0 b1
      have b0 := HX2.out.cell 0
      have b1 := HX2.out.cell 1
      go_wp2_with fail
      refine (HOw.out _ HT2.out).mono ?_
      rintro e w3 ⟨g1, d1, a2, d2, rfl, ho3, hb3⟩
      have HTb := Lib.hid (show TbO (w3.alloc (Obj.cells #[.slice (some ⟨g1, 0, none⟩) ix.length d1, .slice a2 es.length d2] 54)) w2.heap.size ix es w3.heap.size g1 d1 a2 d2 from ⟨hb3.size, by have := ho3.lt1; omega, by rintro g9 rfl; have := ho3.lt2; omega, Blk.newest _ _ _, ho3.below ((Below.refl _ _).alloc (Nat.le_refl _) _)⟩)
      rw [HMM.out, HNE.out] at HTb
      have hb3' : Below w2.heap.size w2 (w3.alloc (Obj.cells #[.slice (some ⟨g1, 0, none⟩) m d1, .slice a2 ne d2] 54)) := hb3.alloc hb3.size _
      have HB3 := Lib.hid (HB2.out.trans (hb3'.mono HB2.out.size))
      have HR3 := Lib.hid (HR2.out.below hb3' HR2.out.lt)
      have HQ3 := Lib.hid (show w2.heap.size ≤ (w3.alloc (Obj.cells #[.slice (some ⟨g1, 0, none⟩) m d1, .slice a2 ne d2] 54)).heap.size from hb3'.size)
      clear ho3 hb3 hb3' b0 b1
      go_upto_region 4 with fail
      generalize hw4 : w3.alloc (Obj.cells #[.slice (some ⟨g1, 0, none⟩) m d1, .slice a2 ne d2] 54) = w4 at *
      go_wp2_with fail
      refine (HH.out _).mono ?_
      rintro e w9 ⟨rfl, rfl⟩
      go_wp2_with fail
      refine (HYe.out k (by first | rfl | trivial) (by have := HNE.out; have := HKN.out; omega) _ _ _ _ _ w2.heap.size _ HTb.out HQ3.out).mono ?_
      rintro e w5 ⟨rfl, ht5, hb5⟩
      have HB5 := Lib.hid (HB3.out.trans (hb5.mono HB2.out.size))
      have HR5 := Lib.hid (HR3.out.below hb5 HR2.out.lt)
      have HT5 := Lib.hid ht5
      have HC5 := Lib.hid ht5.2.2.2.1
      rw [List.length_set, List.length_set, HMM.out, HNE.out] at HC5
      clear ht5 hb5
      have t0 := HC5.out.cell 0
      have t1 := HC5.out.cell 1
      have z0 := HR5.out.cell 0
      have z1 := HR5.out.cell 1
      have z2 := HR5.out.free 0
      have z3 := HR5.out.free 1
      go_wp2_with fail
      have hq1 := HT5.out.2.2.2.2.lt1.1
      have hq2 : ∀ g9, a2 = some ⟨g9, 0, none⟩ → w2.heap.size ≤ g9 := by rintro g9 rfl; exact HT5.out.2.2.2.2.lt2.1
      have hw := HW2.out
      exact bodyPost_ret (v := .tuple #[.agg #[.slice (some ⟨g1, 0, none⟩) m d1, .slice a2 ne d2], .bool true]) (by exact res_ct (p := 4) (u := 5) (ty := 26) rfl _ _ (w.heap.size + 1) #[.slice (some ⟨g1, 0, none⟩) m d1, .slice a2 ne d2] rfl (ld_dict (two_set HR5.out (.slice (some ⟨g1, 0, none⟩) m d1) (.slice a2 ne d2)))) rfl
        ⟨some ⟨g1, 0, none⟩, d1, a2, d2, by rw [List.length_set, List.length_set, HMM.out, HNE.out], (((HT5.out.2.2.2.2.setOff (by omega) (by intro g9 h9; have := hq2 g9 h9; omega)).setOff (by omega) (by intro g9 h9; have := hq2 g9 h9; omega)).wide (by omega)).od, (HB5.out.setCell (by show w.heap.size ≤ w.heap.size + 1; omega) _).setCell (by show w.heap.size ≤ w.heap.size + 1; omega) _⟩
end Go.Proofs.Ytibglmcpbbikdaa
