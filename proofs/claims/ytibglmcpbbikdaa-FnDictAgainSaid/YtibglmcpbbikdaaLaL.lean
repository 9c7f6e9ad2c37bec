/- A key set: a value, a full dictionary. -/
import Derived.Test.YtibglmcpbbikdaaLaK
namespace Go.Proofs.Ytibglmcpbbikdaa
open Go.RowKit
/-- An entry put behind the others. -/
def putP (t : List Int × List Ent) (key : ByteArray) (val : Int) : List Int × List Ent := (t.1.set (fstS t.1 t.2 key (hk key)) (t.2.length : Int), t.2 ++ [⟨key, (hk key : Int), val, true⟩])
/-- An entry with another value. -/
def valP (es : List Ent) (k : Nat) (val : Int) : List Ent := match es[k]? with | some e => es.set k { e with val := val } | none => es
noncomputable def stV (ix : List Int) (es : List Ent) (key : ByteArray) (val : Int) : (List Int × List Ent) × Bool :=
  if keyB key && (okV val && dokB ix es) then
    (if 0 ≤ plc ix es key (hk key) then ((ix, valP es (plc ix es key (hk key)).toNat val), true)
     else if liveN es = 40 then ((ix, es), false)
     else if es.length = 2 * ix.length / 3 then (putP (pkd (scN (liveN es + 1)) es) key val, true)
     else (putP (ix, es) key val, true))
  else (([], []), false)
theorem stV_no {ix : List Int} {es : List Ent} {key : ByteArray} {val : Int} (h : (keyB key && (okV val && dokB ix es)) = false) : stV ix es key val = (([], []), false) := by unfold stV; rw [if_neg (by rw [h]; decide)]
theorem stV_yes {ix : List Int} {es : List Ent} {key : ByteArray} {val : Int} (h : keyB key = true) (h2 : okV val = true) (h3 : dokB ix es = true) : stV ix es key val = (if 0 ≤ plc ix es key (hk key) then ((ix, valP es (plc ix es key (hk key)).toNat val), true)
     else if liveN es = 40 then ((ix, es), false)
     else if es.length = 2 * ix.length / 3 then (putP (pkd (scN (liveN es + 1)) es) key val, true)
     else (putP (ix, es) key val, true)) := by unfold stV; rw [if_pos (by rw [h, h2, h3]; rfl)]
theorem TbO.val {w : World} {b bt g1 c1 c2 g2 k : Nat} {ix : List Int} {es : List Ent} {e : Ent} (h : TbO w b ix es bt g1 c1 (some ⟨g2, 0, none⟩) c2) (he : es[k]? = some e) (v : Int) : TbO (w.setCell ⟨g2, k * 4 + 2, none⟩ (.int .i64 v)) b ix (valP es k v) bt g1 c1 (some ⟨g2, 0, none⟩) c2 := by
  have hn := Ne.symm (h.2.2.1 g2 rfl)
  have hg := Ne.symm (h.2.2.2.2.2.2 g2 rfl)
  have e1 : valP es k v = es.set k { e with val := v } := by unfold valP; rw [he]
  have h9 := h.2.2.2.2.2.1.stored (r := 2) (u := .int .i64 v) (e' := { e with val := v }) he (by omega) (by simp [Ent.row])
  rw [e1]
  refine ⟨h.1, h.2.1, h.2.2.1, ?_, h.2.2.2.2.1.setOff hg, ?_, h.2.2.2.2.2.2⟩
  · rw [List.length_set]; exact h.2.2.2.1.setOff hn
  · rw [List.length_set]; exact h9
theorem okV_b {n : Int} (h : okV n = true) : -1000000 ≤ n ∧ n ≤ 1000000 := by unfold okV at h; simpa using h
set_option maxRecDepth 20000 in
set_option maxHeartbeats 8000000 in
theorem implSet_no (ix : List Int) (es : List Ent) (key : ByteArray) (val : Int) (g c1 c2 : Nat) (a : Option Addr) (w : World) (h : Tb w g ix a es) (hl : es.length ≤ 1048576) (hm : ix.length ≤ 1048576) (hks : KeysS es) (hky : key.size ≤ 1048576) (hno : (keyB key && (okV val && dokB ix es)) = false) :
    Calls Try.prog 37 #[.agg #[.slice (some ⟨g, 0, none⟩) ix.length c1, .slice a es.length c2], .string key, .int .i64 val] w (OdP (([], []), false) w) := by
  obtain ⟨w1, hw1⟩ : ∃ w1, w1 = (w.alloc (Obj.cells #[.slice (some ⟨g, 0, none⟩) ix.length c1, .slice a es.length c2] 26)).alloc (Obj.cells #[.slice none 0 0, .slice none 0 0] 26) := ⟨_, rfl⟩
  have HB1 := Lib.hid (show Below w.heap.size w w1 from by rw [hw1]; exact ((Below.refl _ _).alloc (Nat.le_refl _) _).alloc (by simp) _)
  have HX1 := Lib.hid (show Blk w1 w.heap.size 26 #[.slice (some ⟨g, 0, none⟩) ix.length c1, .slice a es.length c2] from by rw [hw1]; exact (Blk.newest w _ _).alloc _)
  have HY1 := Lib.hid (show Blk w1 (w.heap.size + 1) 26 #[.slice none 0 0, .slice none 0 0] from by rw [hw1]; exact Blk.new _ _ _ (by simp))
  have HT1 := Lib.hid (h.below HB1.out)
  have HK := Lib.hid (fun w => isKey_any key w (by omega))
  have HV := Lib.hid (fun w => isIndex_any val w)
  have HD := Lib.hid (dictOk_any ix es g c1 c2 a w1 HT1.out hl hm hks)
  have HW1 := Lib.hid hw1
  clear h hw1
  generalize keyB key = kb at *
  generalize okV val = vb at *
  generalize dokB ix es = db at *
  generalize ix.length = m at *
  generalize es.length = ne at *
  have b0 := HX1.out.cell 0
  have b1 := HX1.out.cell 1
  cases kb with
  | false =>
    have HR := Lib.hid HY1.out
    have z0 := HR.out.cell 0
    have z1 := HR.out.cell 1
    have z2 := HR.out.free 0
    have z3 := HR.out.free 1
    go_enter Try.func37, Try.ntmps37
    go_wp2_with fail
    rw [← HW1.out]
    refine (HK.out _).mono ?_
    rintro e w2 ⟨rfl, rfl⟩
    go_wp2_with fail
    exact bodyPost_ret (v := .tuple #[.agg #[.slice none 0 0, .slice none 0 0], .bool false]) (by exact res_ct (p := 6) (u := 7) (ty := 26) rfl _ _ (w.heap.size + 1) #[.slice none 0 0, .slice none 0 0] rfl (ld_dict (two_set HR.out (.slice none 0 0) (.slice none 0 0)))) rfl
      ⟨none, 0, none, 0, rfl, OdD.none _ _, (HB1.out.setCell (by show w.heap.size ≤ w.heap.size + 1; omega) _).setCell (by show w.heap.size ≤ w.heap.size + 1; omega) _⟩
  | true =>
    cases vb with
    | false =>
      have HR := Lib.hid HY1.out
      have z0 := HR.out.cell 0
      have z1 := HR.out.cell 1
      have z2 := HR.out.free 0
      have z3 := HR.out.free 1
      go_enter Try.func37, Try.ntmps37
      go_wp2_with fail
      rw [← HW1.out]
      refine (HK.out _).mono ?_
      rintro e w2 ⟨rfl, rfl⟩
      go_wp2_with fail
      refine (HV.out _).mono ?_
      rintro e w2 ⟨rfl, rfl⟩
      go_wp2_with fail
      exact bodyPost_ret (v := .tuple #[.agg #[.slice none 0 0, .slice none 0 0], .bool false]) (by exact res_ct (p := 6) (u := 7) (ty := 26) rfl _ _ (w.heap.size + 1) #[.slice none 0 0, .slice none 0 0] rfl (ld_dict (two_set HR.out (.slice none 0 0) (.slice none 0 0)))) rfl
        ⟨none, 0, none, 0, rfl, OdD.none _ _, (HB1.out.setCell (by show w.heap.size ≤ w.heap.size + 1; omega) _).setCell (by show w.heap.size ≤ w.heap.size + 1; omega) _⟩
    | true =>
      obtain rfl : db = false := by simpa using hno
      go_enter Try.func37, Try.ntmps37
      go_wp2_with fail
      rw [← HW1.out]
      refine (HK.out _).mono ?_
      rintro e w2 ⟨rfl, rfl⟩
      go_wp2_with fail
      refine (HV.out _).mono ?_
      rintro e w2 ⟨rfl, rfl⟩
      go_wp2_with fail
      refine HD.out.mono ?_
      rintro e w2 ⟨rfl, hb2⟩
      have HB2 := Lib.hid (HB1.out.trans (hb2.mono HB1.out.size))
      have HR := Lib.hid (HY1.out.below hb2 HY1.out.lt)
      have z0 := HR.out.cell 0
      have z1 := HR.out.cell 1
      have z2 := HR.out.free 0
      have z3 := HR.out.free 1
      clear hb2 b0 b1
      go_wp2_with fail
      exact bodyPost_ret (v := .tuple #[.agg #[.slice none 0 0, .slice none 0 0], .bool false]) (by exact res_ct (p := 6) (u := 7) (ty := 26) rfl _ _ (w.heap.size + 1) #[.slice none 0 0, .slice none 0 0] rfl (ld_dict (two_set HR.out (.slice none 0 0) (.slice none 0 0)))) rfl
        ⟨none, 0, none, 0, rfl, OdD.none _ _, (HB2.out.setCell (by show w.heap.size ≤ w.heap.size + 1; omega) _).setCell (by show w.heap.size ≤ w.heap.size + 1; omega) _⟩
theorem valP_len (es : List Ent) (k : Nat) (v : Int) : (valP es k v).length = es.length := by
  unfold valP
  split
  · rw [List.length_set]
  · rfl
set_option maxRecDepth 20000 in
set_option maxHeartbeats 8000000 in
theorem implSet_full (ix : List Int) (es : List Ent) (key : ByteArray) (val : Int) (g c1 c2 : Nat) (a : Option Addr) (w : World) (h : Tb w g ix a es) (hl : es.length ≤ 1048576) (hm : ix.length ≤ 1048576) (hks : KeysS es) (hky : key.size ≤ 1048576) (hkb : keyB key = true) (hvb : okV val = true) (hdo : dokB ix es = true) (hp : plc ix es key (hk key) = -1) (h40 : liveN es = 40) :
    Calls Try.prog 37 #[.agg #[.slice (some ⟨g, 0, none⟩) ix.length c1, .slice a es.length c2], .string key, .int .i64 val] w (OdP ((ix, es), false) w) := by
  obtain ⟨w1, hw1⟩ : ∃ w1, w1 = (w.alloc (Obj.cells #[.slice (some ⟨g, 0, none⟩) ix.length c1, .slice a es.length c2] 26)).alloc (Obj.cells #[.slice none 0 0, .slice none 0 0] 26) := ⟨_, rfl⟩
  have HB1 := Lib.hid (show Below w.heap.size w w1 from by rw [hw1]; exact ((Below.refl _ _).alloc (Nat.le_refl _) _).alloc (by simp) _)
  have HX1 := Lib.hid (show Blk w1 w.heap.size 26 #[.slice (some ⟨g, 0, none⟩) ix.length c1, .slice a es.length c2] from by rw [hw1]; exact (Blk.newest w _ _).alloc _)
  have HY1 := Lib.hid (show Blk w1 (w.heap.size + 1) 26 #[.slice none 0 0, .slice none 0 0] from by rw [hw1]; exact Blk.new _ _ _ (by simp))
  have HT1 := Lib.hid (h.below HB1.out)
  have HK := Lib.hid (fun w => isKey_any key w (by omega))
  have HV := Lib.hid (fun w => isIndex_any val w)
  have HD := Lib.hid (dictOk_any ix es g c1 c2 a w1 HT1.out hl hm hks)
  have HSZ := Lib.hid (show w1.heap.size = w.heap.size + 2 by rw [hw1]; simp)
  have HW1 := Lib.hid hw1
  have hv2 : hashV key = (hk key : Int) := by unfold hashV hk; rw [if_pos (by unfold keyB at hkb; simpa using hkb)]
  have HH := Lib.hid (fun w => implHash_any key w (by omega))
  rw [hv2] at HH
  rw [hkb] at HK
  rw [hvb] at HV
  rw [hdo] at HD
  have hd := dok_of hdo
  have hh := hsh_lt key.data.toList
  have HFi := Lib.hid (fun g c1 c2 a w h => find_ok ix es key g c1 c2 (hk key) a w h hd.1 hh)
  have HOw := Lib.hid (fun w h => ownTable_any ix es g c1 c2 a w h hl hm hks)
  have hmx : ix.length ≤ 128 := by have := slotN_mem hd.1.1; simp at this; omega
  have hex : es.length ≤ 128 := by have := hd.1.2.1; omega
  unfold OtP at HOw
  have HCL := Lib.hid (fun g1 c1 a2 c2 w h => countLive_any (.slice (some ⟨g1, 0, none⟩) ix.length c1) es a2 c2 w h hl rfl)
  rw [h40] at HCL
  rw [hp] at HFi
  generalize hmm : ix.length = m at *
  generalize hne : es.length = ne at *
  have HNE := Lib.hid hne
  have HMM := Lib.hid hmm
  clear hmm hne h hw1 hkb hvb hdo hd hv2 hh hp h40
  generalize hk key = hh at *
  have b0 := HX1.out.cell 0
  have b1 := HX1.out.cell 1
  go_enter Try.func37, Try.ntmps37
  go_wp2_with fail
  rw [← HW1.out]
  refine (HK.out _).mono ?_
  rintro e w2 ⟨rfl, rfl⟩
  go_wp2_with fail
  refine (HV.out _).mono ?_
  rintro e w2 ⟨rfl, rfl⟩
  go_wp2_with fail
  refine HD.out.mono ?_
  rintro e w2 ⟨rfl, hb2⟩
  have HB2 := Lib.hid (HB1.out.trans (hb2.mono HB1.out.size))
  have HR2 := Lib.hid (HY1.out.below hb2 HY1.out.lt)
  have HX2 := Lib.hid (HX1.out.below hb2 HX1.out.lt)
  have HT2 := Lib.hid (HT1.out.below hb2)
  have HW2 := Lib.hid (show w.heap.size + 2 ≤ w2.heap.size by have := hb2.size; have := HSZ.out; omega)
  clear hb2 b0 b1
  have b0 := HX2.out.cell 0
  have b1 := HX2.out.cell 1
  go_wp2_with fail
  refine (HOw.out _ HT2.out).mono ?_
  rintro e w3 ⟨g1, d1, a2, d2, rfl, ho3, hb3⟩
  have HTb := Lib.hid (show TbO (w3.alloc (Obj.cells #[.slice (some ⟨g1, 0, none⟩) ix.length d1, .slice a2 es.length d2] 54)) w2.heap.size ix es w3.heap.size g1 d1 a2 d2 from ⟨hb3.size, by have := ho3.lt1; omega, by rintro g9 rfl; have := ho3.lt2; omega, Blk.newest _ _ _, ho3.below ((Below.refl _ _).alloc (Nat.le_refl _) _)⟩)
  rw [HMM.out, HNE.out] at HTb
  have hb3' : Below w2.heap.size w2 (w3.alloc (Obj.cells #[.slice (some ⟨g1, 0, none⟩) m d1, .slice a2 ne d2] 54)) := hb3.alloc hb3.size _
  have HB3 := Lib.hid (HB2.out.trans (hb3'.mono HB2.out.size))
  have HR3 := Lib.hid (HR2.out.below hb3' HR2.out.lt)
  have HQ3 := Lib.hid (show w2.heap.size ≤ (w3.alloc (Obj.cells #[.slice (some ⟨g1, 0, none⟩) m d1, .slice a2 ne d2] 54)).heap.size from hb3'.size)
  have HC3 := Lib.hid HTb.out.2.2.2.1
  rw [HMM.out, HNE.out] at HC3
  clear ho3 hb3 hb3' b0 b1
  go_upto_region 4 with fail
  generalize hw4 : w3.alloc (Obj.cells #[.slice (some ⟨g1, 0, none⟩) m d1, .slice a2 ne d2] 54) = w4 at *
  generalize w3.heap.size = bt at *
  clear hw4
  have HS := Lib.hid (fun w' (hb : Below w4.heap.size w4 w') => show w'.cell? ⟨bt, 0, none⟩ = some (.slice (some ⟨g1, 0, none⟩) m d1) ∧ w'.cell? ⟨bt, 1, none⟩ = some (.slice a2 ne d2) from
    have hC := HC3.out.below hb HC3.out.lt
    ⟨hC.cell 0, hC.cell 1⟩)
  go_region_held3 (fun w' => w'.cell? ⟨bt, 0, none⟩ = some (.slice (some ⟨g1, 0, none⟩) m d1) ∧ w'.cell? ⟨bt, 1, none⟩ = some (.slice a2 ne d2))
    (first | exact HS.out _ (Below.refl _ _).drew | exact HS.out _ HB45.out)
    (first | (go_at_call 27; refine (HH.out _).mono ?_; rintro r w9 ⟨rfl, rfl⟩) | (go_at_call 53; refine (HFi.out _ _ _ _ _ (HTb.out.below (Below.refl _ _).drew).2.2.2.2.tb).mono ?_; rintro r w5 ⟨rfl, hb5⟩; have HB45 := Lib.hid (show Below w4.heap.size w4 w5 from ((Below.refl _ w4).drew).trans hb5); clear hb5))
  have HT5 := Lib.hid (HTb.out.below HB45.out)
  have HB5 := Lib.hid (HB3.out.trans ((HB45.out.mono HQ3.out).mono HB2.out.size))
  have HR5 := Lib.hid (HR3.out.below (HB45.out.mono HQ3.out) HR2.out.lt)
  have HQ5 := Lib.hid (show w2.heap.size ≤ w5.heap.size from Nat.le_trans HQ3.out HB45.out.size)
  have HC5 := Lib.hid HT5.out.2.2.2.1
  rw [HMM.out, HNE.out] at HC5
  have t0 := HC5.out.cell 0
  have t1 := HC5.out.cell 1
  go_wp2_with fail
  refine (HCL.out _ _ _ _ _ HT5.out.2.2.2.2.tb.2.2).mono ?_
  rintro e w6 ⟨rfl, hb6⟩
  have HT6 := Lib.hid (HT5.out.below hb6)
  have HC6 := Lib.hid (HC5.out.below hb6 HC5.out.lt)
  have HR6 := Lib.hid (HR5.out.below hb6 HR5.out.lt)
  have HB6 := Lib.hid (HB5.out.trans (hb6.mono HB5.out.size))
  clear hb6 t0 t1
  have t0 := HC6.out.cell 0
  have t1 := HC6.out.cell 1
  have z0 := HR6.out.cell 0
  have z1 := HR6.out.cell 1
  have z2 := HR6.out.free 0
  have z3 := HR6.out.free 1
  go_wp2_with fail
  have hq1 := HT6.out.2.2.2.2.lt1.1
  have hq2 : ∀ g9 : Nat, (a2 : Option Addr) = some ⟨g9, 0, none⟩ → w2.heap.size ≤ g9 := by intro g9 h9; have h8 := HT6.out; rw [h9] at h8; exact h8.2.2.2.2.lt2.1
  have hw := HW2.out
  exact bodyPost_ret (v := .tuple #[.agg #[.slice (some ⟨g1, 0, none⟩) m d1, .slice a2 ne d2], .bool false]) (by exact res_ct (p := 6) (u := 7) (ty := 26) rfl _ _ (w.heap.size + 1) #[.slice (some ⟨g1, 0, none⟩) m d1, .slice a2 ne d2] rfl (ld_dict (two_set HR6.out (.slice (some ⟨g1, 0, none⟩) m d1) (.slice a2 ne d2)))) rfl
    ⟨some ⟨g1, 0, none⟩, d1, a2, d2, by rw [HMM.out, HNE.out], (((HT6.out.2.2.2.2.setOff (by omega) (by intro g9 h9; have := hq2 g9 h9; omega)).setOff (by omega) (by intro g9 h9; have := hq2 g9 h9; omega)).wide (by omega)).od, (HB6.out.setCell (by show w.heap.size ≤ w.heap.size + 1; omega) _).setCell (by show w.heap.size ≤ w.heap.size + 1; omega) _⟩
set_option maxRecDepth 20000 in
set_option maxHeartbeats 8000000 in
theorem implSet_val (ix : List Int) (es : List Ent) (key : ByteArray) (val : Int) (g c1 c2 : Nat) (a : Option Addr) (w : World) (h : Tb w g ix a es) (hl : es.length ≤ 1048576) (hm : ix.length ≤ 1048576) (hks : KeysS es) (hky : key.size ≤ 1048576) (hkb : keyB key = true) (hvb : okV val = true) (hdo : dokB ix es = true) (k : Nat) (hp : plc ix es key (hk key) = (k : Int)) (hkn : k < es.length) :
    Calls Try.prog 37 #[.agg #[.slice (some ⟨g, 0, none⟩) ix.length c1, .slice a es.length c2], .string key, .int .i64 val] w (OdP ((ix, valP es k val), true) w) := by
  obtain ⟨w1, hw1⟩ : ∃ w1, w1 = (w.alloc (Obj.cells #[.slice (some ⟨g, 0, none⟩) ix.length c1, .slice a es.length c2] 26)).alloc (Obj.cells #[.slice none 0 0, .slice none 0 0] 26) := ⟨_, rfl⟩
  have HB1 := Lib.hid (show Below w.heap.size w w1 from by rw [hw1]; exact ((Below.refl _ _).alloc (Nat.le_refl _) _).alloc (by simp) _)
  have HX1 := Lib.hid (show Blk w1 w.heap.size 26 #[.slice (some ⟨g, 0, none⟩) ix.length c1, .slice a es.length c2] from by rw [hw1]; exact (Blk.newest w _ _).alloc _)
  have HY1 := Lib.hid (show Blk w1 (w.heap.size + 1) 26 #[.slice none 0 0, .slice none 0 0] from by rw [hw1]; exact Blk.new _ _ _ (by simp))
  have HT1 := Lib.hid (h.below HB1.out)
  have HK := Lib.hid (fun w => isKey_any key w (by omega))
  have HV := Lib.hid (fun w => isIndex_any val w)
  have HD := Lib.hid (dictOk_any ix es g c1 c2 a w1 HT1.out hl hm hks)
  have HSZ := Lib.hid (show w1.heap.size = w.heap.size + 2 by rw [hw1]; simp)
  have HW1 := Lib.hid hw1
  have hv2 : hashV key = (hk key : Int) := by unfold hashV hk; rw [if_pos (by unfold keyB at hkb; simpa using hkb)]
  have HH := Lib.hid (fun w => implHash_any key w (by omega))
  rw [hv2] at HH
  rw [hkb] at HK
  rw [hvb] at HV
  rw [hdo] at HD
  have hd := dok_of hdo
  have hh := hsh_lt key.data.toList
  have HFi := Lib.hid (fun g c1 c2 a w h => find_ok ix es key g c1 c2 (hk key) a w h hd.1 hh)
  have HOw := Lib.hid (fun w h => ownTable_any ix es g c1 c2 a w h hl hm hks)
  have hmx : ix.length ≤ 128 := by have := slotN_mem hd.1.1; simp at this; omega
  have hex : es.length ≤ 128 := by have := hd.1.2.1; omega
  unfold OtP at HOw
  rw [hp] at HFi
  obtain ⟨e9, he9⟩ : ∃ e, es[k]? = some e := ⟨_, List.getElem?_eq_getElem hkn⟩
  have HGE := Lib.hid he9
  generalize hmm : ix.length = m at *
  generalize hne : es.length = ne at *
  have HNE := Lib.hid hne
  have HMM := Lib.hid hmm
  clear hmm hne h hw1 hkb hvb hdo hd hv2 hh hp he9
  generalize hk key = hh at *
  have k1 : (k : Int) < (ne : Int) := by omega
  have k0 : 0 ≤ (k : Int) := by omega
  have k2 : ((k : Int) != -1) = true := by rw [bne_iff_ne]; omega
  have b0 := HX1.out.cell 0
  have b1 := HX1.out.cell 1
  go_enter Try.func37, Try.ntmps37
  go_wp2_with fail
  rw [← HW1.out]
  refine (HK.out _).mono ?_
  rintro e w2 ⟨rfl, rfl⟩
  go_wp2_with fail
  refine (HV.out _).mono ?_
  rintro e w2 ⟨rfl, rfl⟩
  go_wp2_with fail
  refine HD.out.mono ?_
  rintro e w2 ⟨rfl, hb2⟩
  have HB2 := Lib.hid (HB1.out.trans (hb2.mono HB1.out.size))
  have HR2 := Lib.hid (HY1.out.below hb2 HY1.out.lt)
  have HX2 := Lib.hid (HX1.out.below hb2 HX1.out.lt)
  have HT2 := Lib.hid (HT1.out.below hb2)
  have HW2 := Lib.hid (show w.heap.size + 2 ≤ w2.heap.size by have := hb2.size; have := HSZ.out; omega)
  clear hb2 b0 b1
  have b0 := HX2.out.cell 0
  have b1 := HX2.out.cell 1
  go_wp2_with fail
  refine (HOw.out _ HT2.out).mono ?_
  rintro e w3 ⟨g1, d1, a2, d2, rfl, ho3, hb3⟩
  have HTb := Lib.hid (show TbO (w3.alloc (Obj.cells #[.slice (some ⟨g1, 0, none⟩) ix.length d1, .slice a2 es.length d2] 54)) w2.heap.size ix es w3.heap.size g1 d1 a2 d2 from ⟨hb3.size, by have := ho3.lt1; omega, by rintro g9 rfl; have := ho3.lt2; omega, Blk.newest _ _ _, ho3.below ((Below.refl _ _).alloc (Nat.le_refl _) _)⟩)
  rw [HMM.out, HNE.out] at HTb
  have hb3' : Below w2.heap.size w2 (w3.alloc (Obj.cells #[.slice (some ⟨g1, 0, none⟩) m d1, .slice a2 ne d2] 54)) := hb3.alloc hb3.size _
  have HB3 := Lib.hid (HB2.out.trans (hb3'.mono HB2.out.size))
  have HR3 := Lib.hid (HR2.out.below hb3' HR2.out.lt)
  have HQ3 := Lib.hid (show w2.heap.size ≤ (w3.alloc (Obj.cells #[.slice (some ⟨g1, 0, none⟩) m d1, .slice a2 ne d2] 54)).heap.size from hb3'.size)
  have HC3 := Lib.hid HTb.out.2.2.2.1
  rw [HMM.out, HNE.out] at HC3
  clear ho3 hb3 hb3' b0 b1
  go_upto_region 4 with fail
  generalize hw4 : w3.alloc (Obj.cells #[.slice (some ⟨g1, 0, none⟩) m d1, .slice a2 ne d2] 54) = w4 at *
  generalize w3.heap.size = bt at *
  clear hw4
  have HS := Lib.hid (fun w' (hb : Below w4.heap.size w4 w') => show w'.cell? ⟨bt, 0, none⟩ = some (.slice (some ⟨g1, 0, none⟩) m d1) ∧ w'.cell? ⟨bt, 1, none⟩ = some (.slice a2 ne d2) from
    have hC := HC3.out.below hb HC3.out.lt
    ⟨hC.cell 0, hC.cell 1⟩)
  go_region_held3 (fun w' => w'.cell? ⟨bt, 0, none⟩ = some (.slice (some ⟨g1, 0, none⟩) m d1) ∧ w'.cell? ⟨bt, 1, none⟩ = some (.slice a2 ne d2))
    (first | exact HS.out _ (Below.refl _ _).drew | exact HS.out _ HB45.out)
    (first | (go_at_call 27; refine (HH.out _).mono ?_; rintro r w9 ⟨rfl, rfl⟩) | (go_at_call 53; refine (HFi.out _ _ _ _ _ (HTb.out.below (Below.refl _ _).drew).2.2.2.2.tb).mono ?_; rintro r w5 ⟨rfl, hb5⟩; have HB45 := Lib.hid (show Below w4.heap.size w4 w5 from ((Below.refl _ w4).drew).trans hb5); clear hb5))
  have HT5 := Lib.hid (HTb.out.below HB45.out)
  have HB5 := Lib.hid (HB3.out.trans ((HB45.out.mono HQ3.out).mono HB2.out.size))
  have HR5 := Lib.hid (HR3.out.below (HB45.out.mono HQ3.out) HR2.out.lt)
  have HQ5 := Lib.hid (show w2.heap.size ≤ w5.heap.size from Nat.le_trans HQ3.out HB45.out.size)
  have HC5 := Lib.hid HT5.out.2.2.2.1
  rw [HMM.out, HNE.out] at HC5
  have t0 := HC5.out.cell 0
  have t1 := HC5.out.cell 1
  obtain ⟨g2, hg2⟩ : ∃ g2, a2 = some ⟨g2, 0, none⟩ := by
    obtain ⟨g2, _, h9, _⟩ := (HT5.out.2.2.2.2.tb.2.2).at (show k < es.length by rw [HNE.out]; exact hkn)
    exact ⟨g2, h9⟩
  subst hg2
  obtain ⟨_, _, x2, _⟩ := HT5.out.2.2.2.2.2.1.cellsAt HGE.out
  have f2 := HT5.out.2.2.2.2.2.1.free (k * 4 + 2)
  have HT6 := Lib.hid (HT5.out.val HGE.out val)
  have HC6 := Lib.hid HT6.out.2.2.2.1
  rw [valP_len, HMM.out, HNE.out] at HC6
  have HR6 := Lib.hid (HR5.out.setOff (g' := g2) (i := k * 4 + 2) (v := .int .i64 val) (by have := HT5.out.2.2.2.2.lt2.1; have := HW2.out; omega))
  have HB6 := Lib.hid (HB5.out.setCell (p := ⟨g2, k * 4 + 2, none⟩) (show w.heap.size ≤ g2 by have := HT5.out.2.2.2.2.lt2.1; have := HW2.out; omega) (.int .i64 val))
  have u0 := HC6.out.cell 0
  have u1 := HC6.out.cell 1
  have z0 := HR6.out.cell 0
  have z1 := HR6.out.cell 1
  have z2 := HR6.out.free 0
  have z3 := HR6.out.free 1
  go_wp2_with fail
  have hq1 := HT6.out.2.2.2.2.lt1.1
  have hq2 : ∀ g9 : Nat, ((some ⟨g2, 0, none⟩) : Option Addr) = some ⟨g9, 0, none⟩ → w2.heap.size ≤ g9 := by intro g9 h9; have h8 := HT6.out; rw [h9] at h8; exact h8.2.2.2.2.lt2.1
  have hw := HW2.out
  exact bodyPost_ret (v := .tuple #[.agg #[.slice (some ⟨g1, 0, none⟩) m d1, .slice (some ⟨g2, 0, none⟩) ne d2], .bool true]) (by exact res_ct (p := 6) (u := 7) (ty := 26) rfl _ _ (w.heap.size + 1) #[.slice (some ⟨g1, 0, none⟩) m d1, .slice (some ⟨g2, 0, none⟩) ne d2] rfl (ld_dict (two_set HR6.out (.slice (some ⟨g1, 0, none⟩) m d1) (.slice (some ⟨g2, 0, none⟩) ne d2)))) rfl
    ⟨some ⟨g1, 0, none⟩, d1, (some ⟨g2, 0, none⟩), d2, by rw [valP_len, HMM.out, HNE.out], (((HT6.out.2.2.2.2.setOff (by omega) (by intro g9 h9; have := hq2 g9 h9; omega)).setOff (by omega) (by intro g9 h9; have := hq2 g9 h9; omega)).wide (by omega)).od, (HB6.out.setCell (by show w.heap.size ≤ w.heap.size + 1; omega) _).setCell (by show w.heap.size ≤ w.heap.size + 1; omega) _⟩
end Go.Proofs.Ytibglmcpbbikdaa
