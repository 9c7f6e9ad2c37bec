/- A key set: put, packed and put. -/
import Derived.Test.YtibglmcpbbikdaaLaL
namespace Go.Proofs.Ytibglmcpbbikdaa
open Go.RowKit
set_option maxRecDepth 20000 in
set_option maxHeartbeats 8000000 in
theorem implSet_put (ix : List Int) (es : List Ent) (key : ByteArray) (val : Int) (g c1 c2 : Nat) (a : Option Addr) (w : World) (h : Tb w g ix a es) (hl : es.length ≤ 1048576) (hm : ix.length ≤ 1048576) (hks : KeysS es) (hky : key.size ≤ 1048576) (hkb : keyB key = true) (hvb : okV val = true) (hdo : dokB ix es = true) (hp : plc ix es key (hk key) = -1) (h40 : liveN es ≠ 40) (hro : es.length ≠ 2 * ix.length / 3) (_ : liveN es ≤ 40) :
    Calls Try.prog 37 #[.agg #[.slice (some ⟨g, 0, none⟩) ix.length c1, .slice a es.length c2], .string key, .int .i64 val] w (OdP ((ix.set (fstS ix es key (hk key)) (es.length : Int), es ++ [⟨key, (hk key : Int), val, true⟩]), true) w) := by
  obtain ⟨w1, hw1⟩ : ∃ w1, w1 = (w.alloc (Obj.cells #[.slice (some ⟨g, 0, none⟩) ix.length c1, .slice a es.length c2] 26)).alloc (Obj.cells #[.slice none 0 0, .slice none 0 0] 26) := ⟨_, rfl⟩
  have HB1 := Lib.hid (show Below w.heap.size w w1 from by rw [hw1]; exact ((Below.refl _ _).alloc (Nat.le_refl _) _).alloc (by simp) _)
  have HX1 := Lib.hid (show Blk w1 w.heap.size 26 #[.slice (some ⟨g, 0, none⟩) ix.length c1, .slice a es.length c2] from by rw [hw1]; exact (Blk.newest w _ _).alloc _)
  have HY1 := Lib.hid (show Blk w1 (w.heap.size + 1) 26 #[.slice none 0 0, .slice none 0 0] from by rw [hw1]; exact Blk.new _ _ _ (by simp))
  have HT1 := Lib.hid (h.below HB1.out)
  have HK := Lib.hid (fun w => isKey_any key w (by omega))
  have HV := Lib.hid (fun w => isIndex_any val w)
  have HD := Lib.hid (dictOk_any ix es g c1 c2 a w1 HT1.out hl hm hks)
  have HSZ := Lib.hid (show w1.heap.size = w.heap.size + 2 by rw [hw1]; simp)
  have HW1 := Lib.hid hw1
  have hv2 : hashV key = (hk key : Int) := by unfold hashV hk; rw [if_pos (by unfold keyB at hkb; simpa using hkb)]
  have HH := Lib.hid (fun w => implHash_any key w (by omega))
  rw [hv2] at HH
  rw [hkb] at HK
  rw [hvb] at HV
  rw [hdo] at HD
  have hd := dok_of hdo
  have hh := hsh_lt key.data.toList
  have HFi := Lib.hid (fun g c1 c2 a w h => find_ok ix es key g c1 c2 (hk key) a w h hd.1 hh)
  have HOw := Lib.hid (fun w h => ownTable_any ix es g c1 c2 a w h hl hm hks)
  have hmx : ix.length ≤ 128 := by have := slotN_mem hd.1.1; simp at this; omega
  have hex : es.length ≤ 128 := by have := hd.1.2.1; omega
  unfold OtP at HOw
  have HCL := Lib.hid (fun g1 c1 a2 c2 w h => countLive_any (.slice (some ⟨g1, 0, none⟩) ix.length c1) es a2 c2 w h hl rfl)
  have HER := Lib.hid (fun w => entryRoom_any ix.length w hm)
  have HCt := Lib.hid (fun w => clone_txt key w hky)
  rw [hp] at HFi
  have HPt := Lib.hid (fun bt g1 c1 a2 c2 b w h hb => put_any ix es key (hk key) b bt g1 c1 c2 val true a2 w h hd.1 hh hb)
  have l40 : ((liveN es : Int) == 40) = false := beq_eq_false_iff_ne.2 (by omega)
  have lro : ((es.length : Int) == ((2 * ix.length / 3 : Nat) : Int)) = false := beq_eq_false_iff_ne.2 (by omega)
  generalize 2 * ix.length / 3 = rm at *
  generalize liveN es = lv at *
  generalize hmm : ix.length = m at *
  generalize hne : es.length = ne at *
  have HNE := Lib.hid hne
  have HMM := Lib.hid hmm
  clear hmm hne h hw1 hkb hvb hdo hd hv2 hh hp h40 hro
  generalize hk key = hh at *
  generalize fstS ix es key hh = s at *
  have b0 := HX1.out.cell 0
  have b1 := HX1.out.cell 1
  go_enter Try.func37, Try.ntmps37
  go_wp2_with fail
  rw [← HW1.out]
  refine (HK.out _).mono ?_
  rintro e w2 ⟨rfl, rfl⟩
  go_wp2_with fail
  refine (HV.out _).mono ?_
  rintro e w2 ⟨rfl, rfl⟩
  go_wp2_with fail
  refine HD.out.mono ?_
  rintro e w2 ⟨rfl, hb2⟩
  have HB2 := Lib.hid (HB1.out.trans (hb2.mono HB1.out.size))
  have HR2 := Lib.hid (HY1.out.below hb2 HY1.out.lt)
  have HX2 := Lib.hid (HX1.out.below hb2 HX1.out.lt)
  have HT2 := Lib.hid (HT1.out.below hb2)
  have HW2 := Lib.hid (show w.heap.size + 2 ≤ w2.heap.size by have := hb2.size; have := HSZ.out; omega)
  clear hb2 b0 b1
  have b0 := HX2.out.cell 0
  have b1 := HX2.out.cell 1
  go_wp2_with fail
  refine (HOw.out _ HT2.out).mono ?_
  rintro e w3 ⟨g1, d1, a2, d2, rfl, ho3, hb3⟩
  have HTb := Lib.hid (show TbO (w3.alloc (Obj.cells #[.slice (some ⟨g1, 0, none⟩) ix.length d1, .slice a2 es.length d2] 54)) w2.heap.size ix es w3.heap.size g1 d1 a2 d2 from ⟨hb3.size, by have := ho3.lt1; omega, by rintro g9 rfl; have := ho3.lt2; omega, Blk.newest _ _ _, ho3.below ((Below.refl _ _).alloc (Nat.le_refl _) _)⟩)
  rw [HMM.out, HNE.out] at HTb
  have hb3' : Below w2.heap.size w2 (w3.alloc (Obj.cells #[.slice (some ⟨g1, 0, none⟩) m d1, .slice a2 ne d2] 54)) := hb3.alloc hb3.size _
  have HB3 := Lib.hid (HB2.out.trans (hb3'.mono HB2.out.size))
  have HR3 := Lib.hid (HR2.out.below hb3' HR2.out.lt)
  have HQ3 := Lib.hid (show w2.heap.size ≤ (w3.alloc (Obj.cells #[.slice (some ⟨g1, 0, none⟩) m d1, .slice a2 ne d2] 54)).heap.size from hb3'.size)
  have HC3 := Lib.hid HTb.out.2.2.2.1
  rw [HMM.out, HNE.out] at HC3
  clear ho3 hb3 hb3' b0 b1
  go_upto_region 4 with fail
  generalize hw4 : w3.alloc (Obj.cells #[.slice (some ⟨g1, 0, none⟩) m d1, .slice a2 ne d2] 54) = w4 at *
  generalize w3.heap.size = bt at *
  clear hw4
  have HS := Lib.hid (fun w' (hb : Below w4.heap.size w4 w') => show w'.cell? ⟨bt, 0, none⟩ = some (.slice (some ⟨g1, 0, none⟩) m d1) ∧ w'.cell? ⟨bt, 1, none⟩ = some (.slice a2 ne d2) from
    have hC := HC3.out.below hb HC3.out.lt
    ⟨hC.cell 0, hC.cell 1⟩)
  go_region_held3 (fun w' => w'.cell? ⟨bt, 0, none⟩ = some (.slice (some ⟨g1, 0, none⟩) m d1) ∧ w'.cell? ⟨bt, 1, none⟩ = some (.slice a2 ne d2))
    (first | exact HS.out _ (Below.refl _ _).drew | exact HS.out _ HB45.out)
    (first | (go_at_call 27; refine (HH.out _).mono ?_; rintro r w9 ⟨rfl, rfl⟩) | (go_at_call 53; refine (HFi.out _ _ _ _ _ (HTb.out.below (Below.refl _ _).drew).2.2.2.2.tb).mono ?_; rintro r w5 ⟨rfl, hb5⟩; have HB45 := Lib.hid (show Below w4.heap.size w4 w5 from ((Below.refl _ w4).drew).trans hb5); clear hb5))
  have HT5 := Lib.hid (HTb.out.below HB45.out)
  have HB5 := Lib.hid (HB3.out.trans ((HB45.out.mono HQ3.out).mono HB2.out.size))
  have HR5 := Lib.hid (HR3.out.below (HB45.out.mono HQ3.out) HR2.out.lt)
  have HQ5 := Lib.hid (show w2.heap.size ≤ w5.heap.size from Nat.le_trans HQ3.out HB45.out.size)
  have HC5 := Lib.hid HT5.out.2.2.2.1
  rw [HMM.out, HNE.out] at HC5
  have t0 := HC5.out.cell 0
  have t1 := HC5.out.cell 1
  go_wp2_with fail
  refine (HCL.out _ _ _ _ _ HT5.out.2.2.2.2.tb.2.2).mono ?_
  rintro e w6 ⟨rfl, hb6⟩
  have HT6 := Lib.hid (HT5.out.below hb6)
  have HC6 := Lib.hid (HC5.out.below hb6 HC5.out.lt)
  have HR6 := Lib.hid (HR5.out.below hb6 HR5.out.lt)
  have HB6 := Lib.hid (HB5.out.trans (hb6.mono HB5.out.size))
  have HQ6 := Lib.hid (show w2.heap.size ≤ w6.heap.size from Nat.le_trans HQ5.out hb6.size)
  clear hb6 t0 t1
  have t0 := HC6.out.cell 0
  have t1 := HC6.out.cell 1
  go_wp2_with fail
  go_region_held3 (fun w' => w'.cell? ⟨bt, 0, none⟩ = some (.slice (some ⟨g1, 0, none⟩) m d1) ∧ w'.cell? ⟨bt, 1, none⟩ = some (.slice a2 ne d2))
    (first | exact ⟨t0, t1⟩ | assumption)
    (first | (go_at_call 75; refine (HER.out _).mono ?_; rintro r w9 ⟨rfl, rfl⟩))
  have HR6d := Lib.hid HR6.out.drew
  have HT6d := Lib.hid HT6.out.drew
  have HB6d := Lib.hid HB6.out.drew
  go_wp2_with fail
  refine (HCt.out _).mono ?_
  rintro e wk ⟨rfl, hbk⟩
  have HTk := Lib.hid (HT6d.out.below hbk)
  have HRk := Lib.hid (HR6d.out.below hbk HR6d.out.lt)
  have HBk := Lib.hid (HB6d.out.trans (hbk.mono HB6d.out.size))
  have HQk := Lib.hid (show w2.heap.size ≤ wk.heap.size from Nat.le_trans HQ6.out hbk.size)
  clear hbk
  go_wp2_with fail
  refine (HH.out _).mono ?_
  rintro e w9 ⟨rfl, rfl⟩
  go_wp2_with fail
  refine (HPt.out _ _ _ _ _ w2.heap.size _ HTk.out HQk.out).mono ?_
  rintro e wp ⟨a9, c9, rfl, htp, hbp⟩
  have HTp := Lib.hid htp
  have HRp := Lib.hid (HRk.out.below hbp (by have := HW2.out; omega))
  have HBp := Lib.hid (HBk.out.trans (hbp.mono (by have := HW2.out; omega)))
  have HCp := Lib.hid htp.2.2.2.1
  rw [List.length_set, List.length_append, HMM.out, HNE.out] at HCp
  clear htp hbp t0 t1
  have t0 := HCp.out.cell 0
  have t1 := HCp.out.cell 1
  have z0 := HRp.out.cell 0
  have z1 := HRp.out.cell 1
  have z2 := HRp.out.free 0
  have z3 := HRp.out.free 1
  go_wp2_with fail
  have hq1 := HTp.out.2.2.2.2.lt1.1
  have hq2 : ∀ g9 : Nat, (a9 : Option Addr) = some ⟨g9, 0, none⟩ → w2.heap.size ≤ g9 := by intro g9 h9; have h8 := HTp.out; rw [h9] at h8; exact h8.2.2.2.2.lt2.1
  have hw := HW2.out
  exact bodyPost_ret (v := .tuple #[.agg #[.slice (some ⟨g1, 0, none⟩) m d1, .slice a9 (ne + 1) c9], .bool true]) (by exact res_ct (p := 6) (u := 7) (ty := 26) rfl _ _ (w.heap.size + 1) #[.slice (some ⟨g1, 0, none⟩) m d1, .slice a9 (ne + 1) c9] rfl (ld_dict (two_set HRp.out (.slice (some ⟨g1, 0, none⟩) m d1) (.slice a9 (ne + 1) c9)))) rfl
    ⟨some ⟨g1, 0, none⟩, d1, a9, c9, by rw [List.length_set, List.length_append, HMM.out, HNE.out]; rfl, (((HTp.out.2.2.2.2.setOff (by omega) (by intro g9 h9; have := hq2 g9 h9; omega)).setOff (by omega) (by intro g9 h9; have := hq2 g9 h9; omega)).wide (by omega)).od, (HBp.out.setCell (by show w.heap.size ≤ w.heap.size + 1; omega) _).setCell (by show w.heap.size ≤ w.heap.size + 1; omega) _⟩
set_option maxRecDepth 20000 in
set_option maxHeartbeats 8000000 in
theorem implSet_pack (ix : List Int) (es : List Ent) (key : ByteArray) (val : Int) (g c1 c2 : Nat) (a : Option Addr) (w : World) (h : Tb w g ix a es) (hl : es.length ≤ 1048576) (hm : ix.length ≤ 1048576) (hks : KeysS es) (hky : key.size ≤ 1048576) (hkb : keyB key = true) (hvb : okV val = true) (hdo : dokB ix es = true) (hp : plc ix es key (hk key) = -1) (h40 : liveN es + 1 ≤ 40) (hro : es.length = 2 * ix.length / 3) :
    Calls Try.prog 37 #[.agg #[.slice (some ⟨g, 0, none⟩) ix.length c1, .slice a es.length c2], .string key, .int .i64 val] w (OdP (((pkd (scN (liveN es + 1)) es).1.set (fstS (pkd (scN (liveN es + 1)) es).1 (pkd (scN (liveN es + 1)) es).2 key (hk key)) ((pkd (scN (liveN es + 1)) es).2.length : Int), (pkd (scN (liveN es + 1)) es).2 ++ [⟨key, (hk key : Int), val, true⟩]), true) w) := by
  obtain ⟨w1, hw1⟩ : ∃ w1, w1 = (w.alloc (Obj.cells #[.slice (some ⟨g, 0, none⟩) ix.length c1, .slice a es.length c2] 26)).alloc (Obj.cells #[.slice none 0 0, .slice none 0 0] 26) := ⟨_, rfl⟩
  have HB1 := Lib.hid (show Below w.heap.size w w1 from by rw [hw1]; exact ((Below.refl _ _).alloc (Nat.le_refl _) _).alloc (by simp) _)
  have HX1 := Lib.hid (show Blk w1 w.heap.size 26 #[.slice (some ⟨g, 0, none⟩) ix.length c1, .slice a es.length c2] from by rw [hw1]; exact (Blk.newest w _ _).alloc _)
  have HY1 := Lib.hid (show Blk w1 (w.heap.size + 1) 26 #[.slice none 0 0, .slice none 0 0] from by rw [hw1]; exact Blk.new _ _ _ (by simp))
  have HT1 := Lib.hid (h.below HB1.out)
  have HK := Lib.hid (fun w => isKey_any key w (by omega))
  have HV := Lib.hid (fun w => isIndex_any val w)
  have HD := Lib.hid (dictOk_any ix es g c1 c2 a w1 HT1.out hl hm hks)
  have HSZ := Lib.hid (show w1.heap.size = w.heap.size + 2 by rw [hw1]; simp)
  have HW1 := Lib.hid hw1
  have hv2 : hashV key = (hk key : Int) := by unfold hashV hk; rw [if_pos (by unfold keyB at hkb; simpa using hkb)]
  have HH := Lib.hid (fun w => implHash_any key w (by omega))
  rw [hv2] at HH
  rw [hkb] at HK
  rw [hvb] at HV
  rw [hdo] at HD
  have hd := dok_of hdo
  have hh := hsh_lt key.data.toList
  have HFi := Lib.hid (fun g c1 c2 a w h => find_ok ix es key g c1 c2 (hk key) a w h hd.1 hh)
  have HOw := Lib.hid (fun w h => ownTable_any ix es g c1 c2 a w h hl hm hks)
  have hmx : ix.length ≤ 128 := by have := slotN_mem hd.1.1; simp at this; omega
  have hex : es.length ≤ 128 := by have := hd.1.2.1; omega
  unfold OtP at HOw
  have HCL := Lib.hid (fun g1 c1 a2 c2 w h => countLive_any (.slice (some ⟨g1, 0, none⟩) ix.length c1) es a2 c2 w h hl rfl)
  have HER := Lib.hid (fun w => entryRoom_any ix.length w hm)
  have HCt := Lib.hid (fun w => clone_txt key w hky)
  rw [hp] at HFi
  have hpo := pkd_ok (c := scN (liveN es + 1)) (es := es) (slotN_sc _) (once_of hd) (by have := scN_room h40; omega) es.length (Nat.le_refl _)
  rw [List.take_length] at hpo
  have hplen : (pkd (scN (liveN es + 1)) es).1.length ≤ 128 ∧ (pkd (scN (liveN es + 1)) es).2.length ≤ 128 := by have h7 := hpo.1.2.1; have h8 := scN_le (liveN es + 1); have h9 := hpo.2.1; omega
  have HPk := Lib.hid (fun g c1 c2 a w h => packed_any ix es g c1 c2 1 a w h hl hm h40 (once_of hd) (ent_hk hd))
  unfold OtP at HPk
  have HPt := Lib.hid (fun bt g1 c1 a2 c2 b w h hb => put_any (pkd (scN (liveN es + 1)) es).1 (pkd (scN (liveN es + 1)) es).2 key (hk key) b bt g1 c1 c2 val true a2 w h hpo.1 hh hb)
  have l40 : ((liveN es : Int) == 40) = false := beq_eq_false_iff_ne.2 (by omega)
  have lro : ((es.length : Int) == ((2 * ix.length / 3 : Nat) : Int)) = true := by rw [hro]; simp
  generalize pkd (scN (liveN es + 1)) es = PR at *
  obtain ⟨P1, P2⟩ := PR
  dsimp only at HPk HPt hplen ⊢
  generalize 2 * ix.length / 3 = rm at *
  generalize liveN es = lv at *
  generalize hmm : ix.length = m at *
  generalize hne : es.length = ne at *
  have HNE := Lib.hid hne
  have HMM := Lib.hid hmm
  generalize hp1 : P1.length = n1 at *
  generalize hp2 : P2.length = n2 at *
  have HP1 := Lib.hid hp1
  have HP2 := Lib.hid hp2
  clear hp1 hp2 hpo
  clear hmm hne h hw1 hkb hvb hdo hd hv2 hh hp hro
  generalize hk key = hh at *
  generalize fstS P1 P2 key hh = s at *
  have b0 := HX1.out.cell 0
  have b1 := HX1.out.cell 1
  go_enter Try.func37, Try.ntmps37
  go_wp2_with fail
  rw [← HW1.out]
  refine (HK.out _).mono ?_
  rintro e w2 ⟨rfl, rfl⟩
  go_wp2_with fail
  refine (HV.out _).mono ?_
  rintro e w2 ⟨rfl, rfl⟩
  go_wp2_with fail
  refine HD.out.mono ?_
  rintro e w2 ⟨rfl, hb2⟩
  have HB2 := Lib.hid (HB1.out.trans (hb2.mono HB1.out.size))
  have HR2 := Lib.hid (HY1.out.below hb2 HY1.out.lt)
  have HX2 := Lib.hid (HX1.out.below hb2 HX1.out.lt)
  have HT2 := Lib.hid (HT1.out.below hb2)
  have HW2 := Lib.hid (show w.heap.size + 2 ≤ w2.heap.size by have := hb2.size; have := HSZ.out; omega)
  clear hb2 b0 b1
  have b0 := HX2.out.cell 0
  have b1 := HX2.out.cell 1
  go_wp2_with fail
  refine (HOw.out _ HT2.out).mono ?_
  rintro e w3 ⟨g1, d1, a2, d2, rfl, ho3, hb3⟩
  have HTb := Lib.hid (show TbO (w3.alloc (Obj.cells #[.slice (some ⟨g1, 0, none⟩) ix.length d1, .slice a2 es.length d2] 54)) w2.heap.size ix es w3.heap.size g1 d1 a2 d2 from ⟨hb3.size, by have := ho3.lt1; omega, by rintro g9 rfl; have := ho3.lt2; omega, Blk.newest _ _ _, ho3.below ((Below.refl _ _).alloc (Nat.le_refl _) _)⟩)
  rw [HMM.out, HNE.out] at HTb
  have hb3' : Below w2.heap.size w2 (w3.alloc (Obj.cells #[.slice (some ⟨g1, 0, none⟩) m d1, .slice a2 ne d2] 54)) := hb3.alloc hb3.size _
  have HB3 := Lib.hid (HB2.out.trans (hb3'.mono HB2.out.size))
  have HR3 := Lib.hid (HR2.out.below hb3' HR2.out.lt)
  have HQ3 := Lib.hid (show w2.heap.size ≤ (w3.alloc (Obj.cells #[.slice (some ⟨g1, 0, none⟩) m d1, .slice a2 ne d2] 54)).heap.size from hb3'.size)
  have HC3 := Lib.hid HTb.out.2.2.2.1
  rw [HMM.out, HNE.out] at HC3
  clear ho3 hb3 hb3' b0 b1
  go_upto_region 4 with fail
  generalize hw4 : w3.alloc (Obj.cells #[.slice (some ⟨g1, 0, none⟩) m d1, .slice a2 ne d2] 54) = w4 at *
  generalize w3.heap.size = bt at *
  clear hw4
  have HS := Lib.hid (fun w' (hb : Below w4.heap.size w4 w') => show w'.cell? ⟨bt, 0, none⟩ = some (.slice (some ⟨g1, 0, none⟩) m d1) ∧ w'.cell? ⟨bt, 1, none⟩ = some (.slice a2 ne d2) from
    have hC := HC3.out.below hb HC3.out.lt
    ⟨hC.cell 0, hC.cell 1⟩)
  go_region_held3 (fun w' => w'.cell? ⟨bt, 0, none⟩ = some (.slice (some ⟨g1, 0, none⟩) m d1) ∧ w'.cell? ⟨bt, 1, none⟩ = some (.slice a2 ne d2))
    (first | exact HS.out _ (Below.refl _ _).drew | exact HS.out _ HB45.out)
    (first | (go_at_call 27; refine (HH.out _).mono ?_; rintro r w9 ⟨rfl, rfl⟩) | (go_at_call 53; refine (HFi.out _ _ _ _ _ (HTb.out.below (Below.refl _ _).drew).2.2.2.2.tb).mono ?_; rintro r w5 ⟨rfl, hb5⟩; have HB45 := Lib.hid (show Below w4.heap.size w4 w5 from ((Below.refl _ w4).drew).trans hb5); clear hb5))
  have HT5 := Lib.hid (HTb.out.below HB45.out)
  have HB5 := Lib.hid (HB3.out.trans ((HB45.out.mono HQ3.out).mono HB2.out.size))
  have HR5 := Lib.hid (HR3.out.below (HB45.out.mono HQ3.out) HR2.out.lt)
  have HQ5 := Lib.hid (show w2.heap.size ≤ w5.heap.size from Nat.le_trans HQ3.out HB45.out.size)
  have HC5 := Lib.hid HT5.out.2.2.2.1
  rw [HMM.out, HNE.out] at HC5
  have t0 := HC5.out.cell 0
  have t1 := HC5.out.cell 1
  go_wp2_with fail
  refine (HCL.out _ _ _ _ _ HT5.out.2.2.2.2.tb.2.2).mono ?_
  rintro e w6 ⟨rfl, hb6⟩
  have HT6 := Lib.hid (HT5.out.below hb6)
  have HC6 := Lib.hid (HC5.out.below hb6 HC5.out.lt)
  have HR6 := Lib.hid (HR5.out.below hb6 HR5.out.lt)
  have HB6 := Lib.hid (HB5.out.trans (hb6.mono HB5.out.size))
  have HQ6 := Lib.hid (show w2.heap.size ≤ w6.heap.size from Nat.le_trans HQ5.out hb6.size)
  clear hb6 t0 t1
  have t0 := HC6.out.cell 0
  have t1 := HC6.out.cell 1
  go_wp2_with fail
  go_region_held3 (fun w' => w'.cell? ⟨bt, 0, none⟩ = some (.slice (some ⟨g1, 0, none⟩) m d1) ∧ w'.cell? ⟨bt, 1, none⟩ = some (.slice a2 ne d2))
    (first | exact ⟨t0, t1⟩ | assumption)
    (first | (go_at_call 75; refine (HER.out _).mono ?_; rintro r w9 ⟨rfl, rfl⟩))
  have HR6d := Lib.hid HR6.out.drew
  have HT6d := Lib.hid HT6.out.drew
  have HB6d := Lib.hid HB6.out.drew
  have HC6d := Lib.hid HC6.out.drew
  go_wp2_with fail
  refine (HPk.out _ _ _ _ _ HT6d.out.2.2.2.2.tb).mono ?_
  rintro e w7 ⟨g3, d3, a4, d4, rfl, ho7, hb7⟩
  have hb67 : Below w6.heap.size w6 w7 := ((Below.refl _ w6).drew).trans hb7
  have HC7 := Lib.hid (HC6.out.below hb67 HC6.out.lt)
  have HR7 := Lib.hid (HR6.out.below hb67 HR6.out.lt)
  have HB7 := Lib.hid (HB6.out.trans (hb67.mono HB6.out.size))
  have HO7 := Lib.hid (show OwD w7 w6.heap.size P1 P2 g3 d3 a4 d4 from ho7)
  have hlb : bt < w6.heap.size := HC6.out.lt
  have hlw : w2.heap.size ≤ bt := HT6.out.1
  have HQ7 := Lib.hid (show w2.heap.size ≤ w7.heap.size from Nat.le_trans HQ6.out hb67.size)
  have HT8 := Lib.hid (show TbO ((w7.setCell ⟨bt, 0, none⟩ (.slice (some ⟨g3, 0, none⟩) P1.length d3)).setCell ⟨bt, 1, none⟩ (.slice a4 P2.length d4)) w2.heap.size P1 P2 bt g3 d3 a4 d4 from
    have q1 := HO7.out.lt1.1
    have q2 : ∀ g9, a4 = some ⟨g9, 0, none⟩ → g9 ≠ bt := by rintro g9 rfl; have := HO7.out.lt2.1; omega
    ⟨hlw, by omega, q2, two_set HC7.out _ _, ((HO7.out.setOff (by omega) q2).setOff (by omega) q2).wide (by have := HQ6.out; omega)⟩)
  rw [HP1.out, HP2.out] at HT8
  have HR8 := Lib.hid ((HR7.out.setOff (g' := bt) (i := 0) (v := .slice (some ⟨g3, 0, none⟩) n1 d3) (by have := HW2.out; omega)).setOff (g' := bt) (i := 1) (v := .slice a4 n2 d4) (by have := HW2.out; omega))
  have HB8 := Lib.hid ((HB7.out.setCell (p := ⟨bt, 0, none⟩) (show w.heap.size ≤ bt by have := HW2.out; omega) (.slice (some ⟨g3, 0, none⟩) n1 d3)).setCell (p := ⟨bt, 1, none⟩) (show w.heap.size ≤ bt by have := HW2.out; omega) (.slice a4 n2 d4))
  have HQ8 := Lib.hid (show w2.heap.size ≤ ((w7.setCell ⟨bt, 0, none⟩ (.slice (some ⟨g3, 0, none⟩) n1 d3)).setCell ⟨bt, 1, none⟩ (.slice a4 n2 d4)).heap.size by have := HQ7.out; simpa using this)
  clear ho7 hb7 hb67 hlb hlw t0 t1
  have t0 := HC7.out.cell 0
  have t1 := HC7.out.cell 1
  have y0 := HC7.out.free 0
  have y1 := HC7.out.free 1
  go_wp2_with fail
  refine (HCt.out _).mono ?_
  rintro e wk ⟨rfl, hbk⟩
  have HTk := Lib.hid (HT8.out.below hbk)
  have HRk := Lib.hid (HR8.out.below hbk HR8.out.lt)
  have HBk := Lib.hid (HB8.out.trans (hbk.mono HB8.out.size))
  have HQk := Lib.hid (show w2.heap.size ≤ wk.heap.size from Nat.le_trans HQ8.out hbk.size)
  clear hbk
  go_wp2_with fail
  refine (HH.out _).mono ?_
  rintro e w9 ⟨rfl, rfl⟩
  go_wp2_with fail
  refine (HPt.out _ _ _ _ _ w2.heap.size _ HTk.out HQk.out).mono ?_
  rintro e wp ⟨a9, c9, rfl, htp, hbp⟩
  have HTp := Lib.hid htp
  have HRp := Lib.hid (HRk.out.below hbp (by have := HW2.out; omega))
  have HBp := Lib.hid (HBk.out.trans (hbp.mono (by have := HW2.out; omega)))
  have HCp := Lib.hid htp.2.2.2.1
  rw [List.length_set, List.length_append, HP1.out, HP2.out] at HCp
  clear htp hbp t0 t1 y0 y1
  have t0 := HCp.out.cell 0
  have t1 := HCp.out.cell 1
  have z0 := HRp.out.cell 0
  have z1 := HRp.out.cell 1
  have z2 := HRp.out.free 0
  have z3 := HRp.out.free 1
  go_wp2_with fail
  have hq1 := HTp.out.2.2.2.2.lt1.1
  have hq2 : ∀ g9 : Nat, (a9 : Option Addr) = some ⟨g9, 0, none⟩ → w2.heap.size ≤ g9 := by intro g9 h9; have h8 := HTp.out; rw [h9] at h8; exact h8.2.2.2.2.lt2.1
  have hw := HW2.out
  exact bodyPost_ret (v := .tuple #[.agg #[.slice (some ⟨g3, 0, none⟩) n1 d3, .slice a9 (n2 + 1) c9], .bool true]) (by exact res_ct (p := 6) (u := 7) (ty := 26) rfl _ _ (w.heap.size + 1) #[.slice (some ⟨g3, 0, none⟩) n1 d3, .slice a9 (n2 + 1) c9] rfl (ld_dict (two_set HRp.out (.slice (some ⟨g3, 0, none⟩) n1 d3) (.slice a9 (n2 + 1) c9)))) rfl
    ⟨some ⟨g3, 0, none⟩, d3, a9, c9, by rw [List.length_set, List.length_append, HP1.out, HP2.out]; rfl, (((HTp.out.2.2.2.2.setOff (by omega) (by intro g9 h9; have := hq2 g9 h9; omega)).setOff (by omega) (by intro g9 h9; have := hq2 g9 h9; omega)).wide (by omega)).od, (HBp.out.setCell (by show w.heap.size ≤ w.heap.size + 1; omega) _).setCell (by show w.heap.size ≤ w.heap.size + 1; omega) _⟩
set_option maxRecDepth 20000 in
theorem implSet_any (ix : List Int) (es : List Ent) (key : ByteArray) (val : Int) (g c1 c2 : Nat) (a : Option Addr) (w : World) (h : Tb w g ix a es) (hl : es.length ≤ 1048576) (hm : ix.length ≤ 1048576) (hks : KeysS es) (hky : key.size ≤ 1048576) :
    Calls Try.prog 37 #[.agg #[.slice (some ⟨g, 0, none⟩) ix.length c1, .slice a es.length c2], .string key, .int .i64 val] w (OdP (stV ix es key val) w) := by
  by_cases hno : (keyB key && (okV val && dokB ix es)) = false
  · rw [stV_no hno]
    exact implSet_no ix es key val g c1 c2 a w h hl hm hks hky hno
  · have hyes : keyB key = true ∧ okV val = true ∧ dokB ix es = true := by simpa using hno
    obtain ⟨h1, h2, h3⟩ := hyes
    rw [stV_yes h1 h2 h3]
    have hd := dok_of h3
    rcases plc_in2 (key := key) hd.1 (hsh_lt key.data.toList) with hp | ⟨k, hp, hkn⟩
    · have hp2 : plc ix es key (hk key) = -1 := hp
      rw [hp2, if_neg (by decide)]
      by_cases h40 : liveN es = 40
      · rw [if_pos h40]
        exact implSet_full ix es key val g c1 c2 a w h hl hm hks hky h1 h2 h3 hp2 h40
      · rw [if_neg h40]
        have hle := hd.2.1
        by_cases hro : es.length = 2 * ix.length / 3
        · rw [if_pos hro]
          exact implSet_pack ix es key val g c1 c2 a w h hl hm hks hky h1 h2 h3 hp2 (by omega) hro
        · rw [if_neg hro]
          exact implSet_put ix es key val g c1 c2 a w h hl hm hks hky h1 h2 h3 hp2 h40 hro hle
    · have hp2 : plc ix es key (hk key) = (k : Int) := hp
      rw [hp2, if_pos (by omega), Int.toNat_natCast]
      exact implSet_val ix es key val g c1 c2 a w h hl hm hks hky h1 h2 h3 k hp2 hkn
end Go.Proofs.Ytibglmcpbbikdaa
