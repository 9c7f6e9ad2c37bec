/- DictSame of a dictionary that is not valid and of any other; two dictionaries are drawn. -/
import Derived.Test.YtibglmcpbbikdaaDdl
import Derived.Test.YtibglmcpbbikdaaKz
import Derived.Deep.RegionHeld3
import Derived.Deep.RegionWith
namespace Go.Proofs.Ytibglmcpbbikdaa
open Go.RowKit
set_option maxRecDepth 20000 in
set_option maxHeartbeats 8000000 in
theorem iSameN (ix : List Int) (es : List Ent) (g c : Nat) (a : Option Addr) (c2 : Nat) (p1 p2 : Option Addr) (n1 e1 n2 e2 : Nat) (b : Nat) (w : World) (h : OwD w b ix es g c a c2) (hd : Dm ix es) (hda : dokB ix es = false) :
    Calls Try.prog 21 #[.agg #[.slice (some ⟨g, 0, none⟩) ix.length c, .slice a es.length c2], .agg #[.slice p1 n1 e1, .slice p2 n2 e2]] w fun e w' => e = .returned (.bool false) ∧ Below w.heap.size w w' := by
  obtain ⟨w1, hw1⟩ : ∃ w1, w1 = (w.alloc (Obj.cells #[.slice (some ⟨g, 0, none⟩) ix.length c, .slice a es.length c2] 26)).alloc (Obj.cells #[.slice p1 n1 e1, .slice p2 n2 e2] 26) := ⟨_, rfl⟩
  have HB1 := Lib.hid (show Below w.heap.size w w1 from by rw [hw1]; exact ((Below.refl _ _).alloc (Nat.le_refl _) _).alloc (by simp) _)
  have HO1 := Lib.hid (h.below HB1.out)
  have HD := Lib.hid hd
  have HDA := Lib.hid hda
  have HW1 := Lib.hid hw1
  clear h hd hda hw1
  go_enter Try.func21, Try.ntmps21
  go_wp2_with fail
  rw [← HW1.out]
  refine (iOk ix es g c a c2 _ _ HO1.out HD.out HDA.out).mono ?_
  rintro e w2 ⟨rfl, hb2⟩
  have HB2 := Lib.hid (HB1.out.trans (hb2.mono HB1.out.size))
  clear hb2
  go_wp2_with fail
  go_ret
  exact ⟨rfl, HB2.out⟩
set_option maxRecDepth 20000 in
set_option maxHeartbeats 8000000 in
theorem sSameN (ix : List Int) (es : List Ent) (g c : Nat) (a : Option Addr) (c2 : Nat) (p1 p2 : Option Addr) (n1 e1 n2 e2 : Nat) (b : Nat) (w : World) (h : OwD w b ix es g c a c2) (hd : Dm ix es) (hda : dokB ix es = false) :
    Calls Try.prog 44 #[.agg #[.slice (some ⟨g, 0, none⟩) ix.length c, .slice a es.length c2], .agg #[.slice p1 n1 e1, .slice p2 n2 e2]] w fun e w' => e = .returned (.bool false) ∧ Below w.heap.size w w' := by
  obtain ⟨w1, hw1⟩ : ∃ w1, w1 = (w.alloc (Obj.cells #[.slice (some ⟨g, 0, none⟩) ix.length c, .slice a es.length c2] 26)).alloc (Obj.cells #[.slice p1 n1 e1, .slice p2 n2 e2] 26) := ⟨_, rfl⟩
  have HB1 := Lib.hid (show Below w.heap.size w w1 from by rw [hw1]; exact ((Below.refl _ _).alloc (Nat.le_refl _) _).alloc (by simp) _)
  have HX1 := Lib.hid (show Blk w1 w.heap.size 26 #[.slice (some ⟨g, 0, none⟩) ix.length c, .slice a es.length c2] from by rw [hw1]; exact (Blk.newest w _ _).alloc _)
  have HY1 := Lib.hid (show Blk w1 (w.heap.size + 1) 26 #[.slice p1 n1 e1, .slice p2 n2 e2] from by rw [hw1]; exact Blk.new _ _ _ (by simp))
  have HV := Lib.hid (by
    have h9 := validDict_any ix es g c c2 a w1.drew ((h.below HB1.out).below (Below.refl _ w1).drew).tb (by have := hd.2.2.1; omega) (by have := hd.2.1; omega) hd.2.2.2
    rw [hda] at h9
    exact h9)
  have HW1 := Lib.hid hw1
  clear h hd hda hw1
  go_enter Try.func44, Try.ntmps44
  go_upto_region 1 with fail
  rw [← HW1.out]
  clear HW1
  have b0 := HX1.out.cell 0
  have b1 := HX1.out.cell 1
  have d0 := HY1.out.cell 0
  have d1 := HY1.out.cell 1
  go_region_with ((go_at_call 54; refine HV.out.mono ?_; rintro e w2 ⟨rfl, hb⟩; have HX2 := Lib.hid (HX1.out.drew.below hb HX1.out.drew.lt); have HY2 := Lib.hid (HY1.out.drew.below hb HY1.out.drew.lt); have q0 := HX2.out.cell 0; have q1 := HX2.out.cell 1; have r0 := HY2.out.cell 0; have r1 := HY2.out.cell 1; have HB2 := Lib.hid (HB1.out.trans ((((Below.refl _ w1).drew).trans hb).mono HB1.out.size)); clear hb))
  all_goals (try go_wp2_with fail)
  all_goals go_ret
  all_goals exact ⟨rfl, HB2.out⟩
theorem od_set1 {w : World} {b c1 c2 k i : Nat} {R : List Int × List Ent} {a1 a2 : Option Addr} {u : Value} (h : OdD w b R a1 c1 a2 c2) (hk : k < b) : OdD (w.setCell ⟨k, i, none⟩ u) b R a1 c1 a2 c2 :=
  ⟨h.1.setOffV (fun e => by have := (h.1.lt k e).1; omega), h.2.setOff (fun e => by have := (h.2.lt k e).1; omega)⟩
theorem od_offs {w : World} {b c1 c2 k : Nat} {R : List Int × List Ent} {a1 a2 : Option Addr} {u v x y : Value} (h : OdD w b R a1 c1 a2 c2) (h1 : k < b) (h2 : k + 1 < b) : OdD ((((w.setCell ⟨k, 0, none⟩ u).setCell ⟨k, 1, none⟩ v).setCell ⟨k + 1, 0, none⟩ x).setCell ⟨k + 1, 1, none⟩ y) b R a1 c1 a2 c2 := od_set1 (od_set1 (od_set1 (od_set1 h h1) h1) h2) h2
theorem od_wide {w : World} {b b' c1 c2 : Nat} {R : List Int × List Ent} {a1 a2 : Option Addr} (h : OdD w b R a1 c1 a2 c2) (hb : b' ≤ b) : OdD w b' R a1 c1 a2 c2 := ⟨h.1.wide hb, h.2.wide hb⟩
theorem grown_at {w1 w2 : World} {b g : Nat} {T : TypeId} {cs : Array Value} (hX : Blk w1 b T cs) (hg : w1.grownBy w2 (some g)) (hne : g ≠ b) : Blk w2 b T cs := (hg.block _ hX.lt (by simp; omega)).trans hX
theorem off_pair (w : World) {b x : Nat} {p q : Value} (h : b ≠ x) (hc : w.cell? ⟨b, 0, none⟩ = some p ∧ w.cell? ⟨b, 1, none⟩ = some q) (u v : Value) : ((w.setCell ⟨x, 0, none⟩ u).setCell ⟨x, 1, none⟩ v).cell? ⟨b, 0, none⟩ = some p ∧ ((w.setCell ⟨x, 0, none⟩ u).setCell ⟨x, 1, none⟩ v).cell? ⟨b, 1, none⟩ = some q := ⟨(off_two w h).trans hc.1, (off_two w h).trans hc.2⟩
/-- Two dictionaries; the second is of use only where the first is valid. -/
def DwP (w : World) (e : Ending) (w' : World) : Prop := ∃ ix es g1 c1 a2 c2 jx fs p1 d1 p2 d2, e = .returned (.tuple #[.agg #[.slice (some ⟨g1, 0, none⟩) ix.length c1, .slice a2 es.length c2], .agg #[.slice p1 jx.length d1, .slice p2 fs.length d2]]) ∧ Dm ix es ∧ OwD w' w.heap.size ix es g1 c1 a2 c2 ∧ OdD w' w.heap.size (jx, fs) p1 d1 p2 d2 ∧ (dokB ix es = true → Dm jx fs) ∧ Below w.heap.size w w'
set_option maxRecDepth 20000 in
set_option maxHeartbeats 8000000 in
theorem dDictSame (w : World) (a : Option Addr) (n cap : Nat) (h : Cr w a n cap) : Calls Try.prog 43 #[.slice a n cap] w (DwP w) := by
  obtain ⟨w0, hw0⟩ : ∃ x, x = (w.alloc (Obj.cells #[.slice none 0 0, .slice none 0 0] 26)).alloc (Obj.cells #[.slice none 0 0, .slice none 0 0] 26) := ⟨_, rfl⟩
  have HB0 := Lib.hid (show Below w.heap.size w w0 from by rw [hw0]; exact ((Below.refl _ _).alloc (Nat.le_refl _) _).alloc (by simp) _)
  have HX0 := Lib.hid (show Blk w0 w.heap.size 26 #[.slice none 0 0, .slice none 0 0] from by rw [hw0]; exact (Blk.newest w _ _).alloc _)
  have HY0 := Lib.hid (show Blk w0 (w.heap.size + 1) 26 #[.slice none 0 0, .slice none 0 0] from by rw [hw0]; exact Blk.new _ _ _ (by simp))
  have HN := Lib.hid (newRnd_any w0 a n cap (cr_below h HB0.out))
  have HS0 := Lib.hid (show w0.heap.size = w.heap.size + 2 by rw [hw0]; simp)
  have HW0 := Lib.hid hw0
  clear h hw0
  go_enter Try.func43, Try.ntmps43
  go_upto_region 1 with (fail)
  rw [← HW0.out]
  clear HW0
  go_wp2_with fail
  refine HN.out.mono ?_
  rintro e w1 ⟨rfl, hb1, m, hr1⟩
  have HX1 := Lib.hid (HX0.out.below hb1 HX0.out.lt)
  have HY1 := Lib.hid (HY0.out.below hb1 HY0.out.lt)
  have HB1 := Lib.hid (HB0.out.trans (hb1.mono HB0.out.size))
  have HR1 := Lib.hid hr1
  have HS1 := Lib.hid (show w0.heap.size < w1.heap.size from hr1.1.lt)
  clear hb1 hr1
  go_wp2_with fail
  refine (dict_draw w1 w0.heap.size m cap 0 a HR1.out (by omega)).mono ?_
  rintro e w2 ⟨ix, es, g1, c1, a2, c2, rfl, hd, ho, hdr⟩
  have HX2 := Lib.hid (grown_at HX1.out hdr.1 (by have := HS0.out; omega))
  have HY2 := Lib.hid (grown_at HY1.out hdr.1 (by have := HS0.out; omega))
  have HD := Lib.hid (show Dm ix es from hd)
  have HB2 := Lib.hid (below_row HB1.out hdr.1 (by have := HS0.out; omega))
  obtain ⟨k2, hk2, hr2⟩ := hdr.2
  have HS2 := Lib.hid (show w1.heap.size ≤ w2.heap.size from hdr.1.size)
  obtain ⟨w3, hw3⟩ : ∃ x, x = w2.alloc (Obj.cells #[.slice (some ⟨g1, 0, none⟩) ix.length c1, .slice a2 es.length c2] 26) := ⟨_, rfl⟩
  have HW3 := Lib.hid hw3
  have hb3 : Below w2.heap.size w2 w3 := by rw [hw3]; exact (Below.refl _ _).alloc (Nat.le_refl _) _
  have HV3 := Lib.hid (show Blk w3 w2.heap.size 26 #[.slice (some ⟨g1, 0, none⟩) ix.length c1, .slice a2 es.length c2] from by rw [hw3]; exact Blk.newest w2 _ _)
  have HX3 := Lib.hid (HX2.out.below hb3 HX2.out.lt)
  have HY3 := Lib.hid (HY2.out.below hb3 HY2.out.lt)
  have HO3 := Lib.hid (ho.below hb3)
  have HB3 := Lib.hid (HB2.out.trans (hb3.mono HB2.out.size))
  have HP := Lib.hid (pick_any w3 w0.heap.size a m cap k2 2 (ri_below hr2 hb3) (by omega) (by decide))
  have HK2 := Lib.hid hk2
  clear hd ho hdr hw3 hb3 hk2 hr2
  go_upto_region 3 with (fail)
  rw [← HW3.out]
  clear HW3
  go_wp2_with fail
  refine HP.out.mono ?_
  rintro e w4 ⟨r, rfl, hrl, hdr⟩
  have HX4 := Lib.hid (grown_at HX3.out hdr.1 (by have := HS0.out; omega))
  have HY4 := Lib.hid (grown_at HY3.out hdr.1 (by have := HS0.out; omega))
  have HV4 := Lib.hid (grown_at HV3.out hdr.1 (by have := HS1.out; have := HS2.out; omega))
  have HO4 := Lib.hid (OwD.grownG HO3.out hdr.1 (by have := HS1.out; omega))
  have HB4 := Lib.hid (below_row HB3.out hdr.1 (by have := HS0.out; omega))
  have HR4 := Lib.hid hdr.2
  have HNE := Lib.hid (show w2.heap.size ≠ w.heap.size ∧ w2.heap.size ≠ w.heap.size + 1 by have := HS0.out; have := HS1.out; have := HS2.out; omega)
  have HS := Lib.hid (fun w' (hb : w4.grownBy w' (some w0.heap.size)) => show w'.cell? ⟨w2.heap.size, 0, none⟩ = some (.slice (some ⟨g1, 0, none⟩) ix.length c1) ∧ w'.cell? ⟨w2.heap.size, 1, none⟩ = some (.slice a2 es.length c2) from by
    have hC := grown_at HV4.out hb (by have := HS1.out; have := HS2.out; omega)
    exact ⟨hC.cell 0, hC.cell 1⟩)
  clear hrl hdr HP
  by_cases hr0 : r = 0
  · subst hr0
    obtain ⟨⟨jx, fs⟩, hst⟩ : ∃ R, pkV ix es = R := ⟨_, rfl⟩
    have HST := Lib.hid hst
    clear hst
    have HPK := Lib.hid (sPackX ix es g1 c1 a2 c2 _ w4.drew (HO4.out.below (Below.refl _ w4).drew) HD.out HST.out)
    go_wp2_with fail
    go_region_held3 (fun w' => w'.cell? ⟨w2.heap.size, 0, none⟩ = some (.slice (some ⟨g1, 0, none⟩) ix.length c1) ∧ w'.cell? ⟨w2.heap.size, 1, none⟩ = some (.slice a2 es.length c2))
      (first | exact HS.out _ (grown_below ((Below.refl _ _).drew)) | exact HZ5.out | exact HZ6.out | exact HZ7.out | exact HS.out _ HG5.out)
      ((go_at_call 33; refine HPK.out.mono ?_; rintro e w5 ⟨q1, e1, q2, e2, rfl, ho5, hb5⟩; have HG5 := Lib.hid (grown_below (row := some w0.heap.size) (((Below.refl _ w4).drew).trans hb5)); have HO5 := Lib.hid ho5; have HB5 := Lib.hid (((Below.refl _ w4).drew).trans hb5); have HX5 := Lib.hid (HX4.out.below HB5.out HX4.out.lt); have HY5 := Lib.hid (HY4.out.below HB5.out HY4.out.lt); have c0 := HX5.out.cell 0; have c1' := HX5.out.cell 1; have f0 := HX5.out.free 0; have f1 := HX5.out.free 1; have d0 := HY5.out.cell 0; have d1 := HY5.out.cell 1; have h0 := HY5.out.free 0; have h1 := HY5.out.free 1; have HZ5 := Lib.hid (off_pair w5 HNE.out.1 (HS.out _ HG5.out) (.slice (some ⟨g1, 0, none⟩) ix.length c1) (.slice a2 es.length c2)); have HZ6 := Lib.hid (off_pair _ HNE.out.2 HZ5.out (.slice q1 jx.length e1) (.slice q2 fs.length e2)); clear hb5 ho5))
    all_goals
      have HR2 := Lib.hid (Blk.setOff (g' := w.heap.size + 1) (i := 1) (v := .slice q2 fs.length e2) (Blk.setOff (g' := w.heap.size + 1) (i := 0) (v := .slice q1 jx.length e1) (two_set HX5.out (.slice (some ⟨g1, 0, none⟩) ix.length c1) (.slice a2 es.length c2)) (by omega)) (by omega))
      have HR3 := Lib.hid (two_set (Blk.setOff (g' := w.heap.size) (i := 1) (v := .slice a2 es.length c2) (Blk.setOff (g' := w.heap.size) (i := 0) (v := .slice (some ⟨g1, 0, none⟩) ix.length c1) HY5.out (by omega)) (by omega)) (.slice q1 jx.length e1) (.slice q2 fs.length e2))
      (try go_wp2_with fail)
      exact bodyPost_ret (v := .tuple #[.agg #[.slice (some ⟨g1, 0, none⟩) ix.length c1, .slice a2 es.length c2], .agg #[.slice q1 jx.length e1, .slice q2 fs.length e2]]) (by exact res_cc (p := 2) (u := 3) (ty := 26) rfl _ _ w.heap.size (w.heap.size + 1) #[.slice (some ⟨g1, 0, none⟩) ix.length c1, .slice a2 es.length c2] #[.slice q1 jx.length e1, .slice q2 fs.length e2] rfl (ld_dict HR2.out) rfl (ld_dict HR3.out)) rfl ⟨ix, es, g1, c1, a2, c2, jx, fs, q1, e1, q2, e2, rfl, HD.out, by
        have h9 := HO4.out.below HB5.out
        have k1 := h9.lt1.1
        have k0 := HS1.out
        have k5 := HS0.out
        have k2 : ∀ q, a2 = some ⟨q, 0, none⟩ → q ≠ w.heap.size ∧ q ≠ w.heap.size + 1 := by rintro q rfl; have := h9.lt2.1; omega
        exact ((((h9.setOff (by omega) (fun q hq => (k2 q hq).1)).setOff (by omega) (fun q hq => (k2 q hq).1)).setOff (by omega) (fun q hq => (k2 q hq).2)).setOff (by omega) (fun q hq => (k2 q hq).2)).wide (by omega), by
        have k3 : w.heap.size + 2 ≤ w4.drew.heap.size := by show _ ≤ w4.heap.size; have := HV4.out.lt; have := HS1.out; have := HS2.out; have := HS0.out; omega
        exact od_wide (od_offs HO5.out (k := w.heap.size) (by omega) (by omega)) (by omega), fun h9 => by
        have h8 := pack_ok (dok_of h9)
        rw [HST.out] at h8
        exact dm_of h8.1, (((((HB4.out.trans (HB5.out.mono HB4.out.size)).setCell (p := ⟨w.heap.size, 0, none⟩) (Nat.le_refl _) _).setCell (p := ⟨w.heap.size, 1, none⟩) (Nat.le_refl _) _).setCell (p := ⟨w.heap.size + 1, 0, none⟩) (by simp) _).setCell (p := ⟨w.heap.size + 1, 1, none⟩) (by simp) _)⟩
  · have hz : ((r : Int) == 0) = false := beq_eq_false_iff_ne.2 (by omega)
    clear hr0
    obtain ⟨k4, hk4, hr4⟩ := HR4.out
    have HDD := Lib.hid (dict_draw w4.drew w0.heap.size m cap k4 a (ri_below hr4 ((Below.refl _ w4).drew)) (by have := HK2.out; omega))
    clear hk4 hr4
    go_wp2_with fail
    go_region_held3 (fun w' => w'.cell? ⟨w2.heap.size, 0, none⟩ = some (.slice (some ⟨g1, 0, none⟩) ix.length c1) ∧ w'.cell? ⟨w2.heap.size, 1, none⟩ = some (.slice a2 es.length c2))
      (first | exact HS.out _ (grown_below ((Below.refl _ _).drew)) | exact HZ5.out | exact HZ6.out | exact HZ7.out | exact HS.out _ HG5.out)
      ((go_at_call 49; refine HDD.out.mono ?_; rintro e w5 ⟨jx, fs, q1, e1, q2, e2, rfl, hdj, ho5, hdr⟩; have HG5 := Lib.hid (grown_trans (grown_below ((Below.refl _ w4).drew)) hdr.1); have HO5 := Lib.hid ho5; have HDJ := Lib.hid (show Dm jx fs from hdj); have HX5 := Lib.hid (grown_at HX4.out HG5.out (by have := HS0.out; omega)); have HY5 := Lib.hid (grown_at HY4.out HG5.out (by have := HS0.out; omega)); have HB5 := Lib.hid (below_row HB4.out HG5.out (by have := HS0.out; omega)); have c0 := HX5.out.cell 0; have c1' := HX5.out.cell 1; have f0 := HX5.out.free 0; have f1 := HX5.out.free 1; have d0 := HY5.out.cell 0; have d1 := HY5.out.cell 1; have h0 := HY5.out.free 0; have h1 := HY5.out.free 1; have HZ5 := Lib.hid (off_pair w5 HNE.out.1 (HS.out _ HG5.out) (.slice (some ⟨g1, 0, none⟩) ix.length c1) (.slice a2 es.length c2)); have HZ6 := Lib.hid (off_pair _ HNE.out.2 HZ5.out (.slice (some ⟨q1, 0, none⟩) jx.length e1) (.slice q2 fs.length e2)); clear hdj ho5 hdr))
    all_goals
      have HR2 := Lib.hid (Blk.setOff (g' := w.heap.size + 1) (i := 1) (v := .slice q2 fs.length e2) (Blk.setOff (g' := w.heap.size + 1) (i := 0) (v := .slice (some ⟨q1, 0, none⟩) jx.length e1) (two_set HX5.out (.slice (some ⟨g1, 0, none⟩) ix.length c1) (.slice a2 es.length c2)) (by omega)) (by omega))
      have HR3 := Lib.hid (two_set (Blk.setOff (g' := w.heap.size) (i := 1) (v := .slice a2 es.length c2) (Blk.setOff (g' := w.heap.size) (i := 0) (v := .slice (some ⟨g1, 0, none⟩) ix.length c1) HY5.out (by omega)) (by omega)) (.slice (some ⟨q1, 0, none⟩) jx.length e1) (.slice q2 fs.length e2))
      (try go_wp2_with fail)
      exact bodyPost_ret (v := .tuple #[.agg #[.slice (some ⟨g1, 0, none⟩) ix.length c1, .slice a2 es.length c2], .agg #[.slice (some ⟨q1, 0, none⟩) jx.length e1, .slice q2 fs.length e2]]) (by exact res_cc (p := 2) (u := 3) (ty := 26) rfl _ _ w.heap.size (w.heap.size + 1) #[.slice (some ⟨g1, 0, none⟩) ix.length c1, .slice a2 es.length c2] #[.slice (some ⟨q1, 0, none⟩) jx.length e1, .slice q2 fs.length e2] rfl (ld_dict HR2.out) rfl (ld_dict HR3.out)) rfl ⟨ix, es, g1, c1, a2, c2, jx, fs, _, e1, q2, e2, rfl, HD.out, by
        have h9 := OwD.grownG HO4.out HG5.out (by have := HS1.out; omega)
        have k1 := h9.lt1.1
        have k0 := HS1.out
        have k5 := HS0.out
        have k2 : ∀ q, a2 = some ⟨q, 0, none⟩ → q ≠ w.heap.size ∧ q ≠ w.heap.size + 1 := by rintro q rfl; have := h9.lt2.1; omega
        exact ((((h9.setOff (by omega) (fun q hq => (k2 q hq).1)).setOff (by omega) (fun q hq => (k2 q hq).1)).setOff (by omega) (fun q hq => (k2 q hq).2)).setOff (by omega) (fun q hq => (k2 q hq).2)).wide (by omega), by
        have k3 : w.heap.size + 2 ≤ w4.drew.heap.size := by show _ ≤ w4.heap.size; have := HV4.out.lt; have := HS1.out; have := HS2.out; have := HS0.out; omega
        exact od_wide (od_offs HO5.out.od (k := w.heap.size) (by omega) (by omega)) (by omega), fun _ => HDJ.out, ((((HB5.out.setCell (p := ⟨w.heap.size, 0, none⟩) (Nat.le_refl _) _).setCell (p := ⟨w.heap.size, 1, none⟩) (Nat.le_refl _) _).setCell (p := ⟨w.heap.size + 1, 0, none⟩) (by simp) _).setCell (p := ⟨w.heap.size + 1, 1, none⟩) (by simp) _)⟩
end Go.Proofs.Ytibglmcpbbikdaa
