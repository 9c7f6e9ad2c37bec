/- A key set: the program's DictSet and the model's. -/
import Derived.Test.YtplpgcbdbmfffaaDcB
import Derived.Deep.RegionWith
import Derived.Deep.RegionLaw
namespace Go.Proofs.Ytplpgcbdbmfffaa
open Go.RowKit
/-- An entry put behind the others. -/
def putP (t : List Int × List Ent) (key : ByteArray) (val : Int) : List Int × List Ent := (t.1.set (fstS t.1 t.2 key (hk key)) (t.2.length : Int), t.2 ++ [⟨key, (hk key : Int), val, true⟩])
/-- An entry with another value. -/
def valP (es : List Ent) (k : Nat) (val : Int) : List Ent := match es[k]? with | some e => es.set k { e with val := val } | none => es
noncomputable def stV (ix : List Int) (es : List Ent) (key : ByteArray) (val : Int) : (List Int × List Ent) × Bool :=
  if keyB key && (okV val && dokB ix es) then
    (if 0 ≤ plc ix es key (hk key) then ((ix, valP es (plc ix es key (hk key)).toNat val), true)
     else if liveN es = 40 then ((ix, es), false)
     else if es.length = 2 * ix.length / 3 then (putP (pkd (scN (liveN es + 1)) es) key val, true)
     else (putP (ix, es) key val, true))
  else (([], []), false)
theorem stV_no {ix : List Int} {es : List Ent} {key : ByteArray} {val : Int} (h : (keyB key && (okV val && dokB ix es)) = false) : stV ix es key val = (([], []), false) := by unfold stV; rw [if_neg (by rw [h]; decide)]
theorem stV_yes {ix : List Int} {es : List Ent} {key : ByteArray} {val : Int} (h : keyB key = true) (h2 : okV val = true) (h3 : dokB ix es = true) : stV ix es key val = (if 0 ≤ plc ix es key (hk key) then ((ix, valP es (plc ix es key (hk key)).toNat val), true)
     else if liveN es = 40 then ((ix, es), false)
     else if es.length = 2 * ix.length / 3 then (putP (pkd (scN (liveN es + 1)) es) key val, true)
     else (putP (ix, es) key val, true)) := by unfold stV; rw [if_pos (by rw [h, h2, h3]; rfl)]
theorem TbO.val {w : World} {b bt g1 c1 c2 g2 k : Nat} {ix : List Int} {es : List Ent} {e : Ent} (h : TbO w b ix es bt g1 c1 (some ⟨g2, 0, none⟩) c2) (he : es[k]? = some e) (v : Int) : TbO (w.setCell ⟨g2, k * 4 + 2, none⟩ (.int .i64 v)) b ix (valP es k v) bt g1 c1 (some ⟨g2, 0, none⟩) c2 := by
  have hn := Ne.symm (h.2.2.1 g2 rfl)
  have hg := Ne.symm (h.2.2.2.2.2.2 g2 rfl)
  have e1 : valP es k v = es.set k { e with val := v } := by unfold valP; rw [he]
  have h9 := h.2.2.2.2.2.1.stored (r := 2) (u := .int .i64 v) (e' := { e with val := v }) he (by omega) (by simp [Ent.row])
  rw [e1]
  refine ⟨h.1, h.2.1, h.2.2.1, ?_, h.2.2.2.2.1.setOff hg, ?_, h.2.2.2.2.2.2⟩
  · rw [List.length_set]; exact h.2.2.2.1.setOff hn
  · rw [List.length_set]; exact h9
theorem okV_b {n : Int} (h : okV n = true) : -1000000 ≤ n ∧ n ≤ 1000000 := by unfold okV at h; simpa using h
set_option maxRecDepth 20000 in
set_option maxHeartbeats 8000000 in
theorem implSet_no (ix : List Int) (es : List Ent) (key : ByteArray) (val : Int) (g c1 c2 : Nat) (a : Option Addr) (w : World) (h : Tb w g ix a es) (hl : es.length ≤ 1048576) (hm : ix.length ≤ 1048576) (hks : KeysS es) (hky : key.size ≤ 1048576) (hno : (keyB key && (okV val && dokB ix es)) = false) :
    Calls Try.prog 36 #[.agg #[.slice (some ⟨g, 0, none⟩) ix.length c1, .slice a es.length c2], .string key, .int .i64 val] w (OdP (([], []), false) w) := by
  obtain ⟨w1, hw1⟩ : ∃ w1, w1 = (w.alloc (Obj.cells #[.slice (some ⟨g, 0, none⟩) ix.length c1, .slice a es.length c2] 27)).alloc (Obj.cells #[.slice none 0 0, .slice none 0 0] 27) := ⟨_, rfl⟩
  have HB1 := Lib.hid (show Below w.heap.size w w1 from by rw [hw1]; exact ((Below.refl _ _).alloc (Nat.le_refl _) _).alloc (by simp) _)
  have HX1 := Lib.hid (show Blk w1 w.heap.size 27 #[.slice (some ⟨g, 0, none⟩) ix.length c1, .slice a es.length c2] from by rw [hw1]; exact (Blk.newest w _ _).alloc _)
  have HY1 := Lib.hid (show Blk w1 (w.heap.size + 1) 27 #[.slice none 0 0, .slice none 0 0] from by rw [hw1]; exact Blk.new _ _ _ (by simp))
  have HT1 := Lib.hid (h.below HB1.out)
  have HK := Lib.hid (fun w => isKey_any key w (by omega))
  have HV := Lib.hid (fun w => isIndex_any val w)
  have HD := Lib.hid (dictOk_any ix es g c1 c2 a w1 HT1.out hl hm hks)
  have HW1 := Lib.hid hw1
  clear h hw1
  generalize keyB key = kb at *
  generalize okV val = vb at *
  generalize dokB ix es = db at *
  generalize ix.length = m at *
  generalize es.length = ne at *
  have b0 := HX1.out.cell 0
  have b1 := HX1.out.cell 1
  cases kb with
  | false =>
    have HR := Lib.hid HY1.out
    have z0 := HR.out.cell 0
    have z1 := HR.out.cell 1
    have z2 := HR.out.free 0
    have z3 := HR.out.free 1
    go_enter Try.func36, Try.ntmps36
    go_wp2_with fail
    rw [← HW1.out]
    refine (HK.out _).mono ?_
    rintro e w2 ⟨rfl, rfl⟩
    go_wp2_with fail
    exact bodyPost_ret (v := .tuple #[.agg #[.slice none 0 0, .slice none 0 0], .bool false]) (by exact res_ct (p := 6) (u := 7) (ty := 27) rfl _ _ (w.heap.size + 1) #[.slice none 0 0, .slice none 0 0] rfl (ld_dict (two_set HR.out (.slice none 0 0) (.slice none 0 0)))) rfl
      ⟨none, 0, none, 0, rfl, OdD.none _ _, (HB1.out.setCell (by show w.heap.size ≤ w.heap.size + 1; omega) _).setCell (by show w.heap.size ≤ w.heap.size + 1; omega) _⟩
  | true =>
    cases vb with
    | false =>
      have HR := Lib.hid HY1.out
      have z0 := HR.out.cell 0
      have z1 := HR.out.cell 1
      have z2 := HR.out.free 0
      have z3 := HR.out.free 1
      go_enter Try.func36, Try.ntmps36
      go_wp2_with fail
      rw [← HW1.out]
      refine (HK.out _).mono ?_
      rintro e w2 ⟨rfl, rfl⟩
      go_wp2_with fail
      refine (HV.out _).mono ?_
      rintro e w2 ⟨rfl, rfl⟩
      go_wp2_with fail
      exact bodyPost_ret (v := .tuple #[.agg #[.slice none 0 0, .slice none 0 0], .bool false]) (by exact res_ct (p := 6) (u := 7) (ty := 27) rfl _ _ (w.heap.size + 1) #[.slice none 0 0, .slice none 0 0] rfl (ld_dict (two_set HR.out (.slice none 0 0) (.slice none 0 0)))) rfl
        ⟨none, 0, none, 0, rfl, OdD.none _ _, (HB1.out.setCell (by show w.heap.size ≤ w.heap.size + 1; omega) _).setCell (by show w.heap.size ≤ w.heap.size + 1; omega) _⟩
    | true =>
      obtain rfl : db = false := by simpa using hno
      go_enter Try.func36, Try.ntmps36
      go_wp2_with fail
      rw [← HW1.out]
      refine (HK.out _).mono ?_
      rintro e w2 ⟨rfl, rfl⟩
      go_wp2_with fail
      refine (HV.out _).mono ?_
      rintro e w2 ⟨rfl, rfl⟩
      go_wp2_with fail
      refine HD.out.mono ?_
      rintro e w2 ⟨rfl, hb2⟩
      have HB2 := Lib.hid (HB1.out.trans (hb2.mono HB1.out.size))
      have HR := Lib.hid (HY1.out.below hb2 HY1.out.lt)
      have z0 := HR.out.cell 0
      have z1 := HR.out.cell 1
      have z2 := HR.out.free 0
      have z3 := HR.out.free 1
      clear hb2 b0 b1
      go_wp2_with fail
      exact bodyPost_ret (v := .tuple #[.agg #[.slice none 0 0, .slice none 0 0], .bool false]) (by exact res_ct (p := 6) (u := 7) (ty := 27) rfl _ _ (w.heap.size + 1) #[.slice none 0 0, .slice none 0 0] rfl (ld_dict (two_set HR.out (.slice none 0 0) (.slice none 0 0)))) rfl
        ⟨none, 0, none, 0, rfl, OdD.none _ _, (HB2.out.setCell (by show w.heap.size ≤ w.heap.size + 1; omega) _).setCell (by show w.heap.size ≤ w.heap.size + 1; omega) _⟩
theorem valP_len (es : List Ent) (k : Nat) (v : Int) : (valP es k v).length = es.length := by
  unfold valP
  split
  · rw [List.length_set]
  · rfl
set_option maxRecDepth 20000 in
set_option maxHeartbeats 8000000 in
theorem implSet_full (ix : List Int) (es : List Ent) (key : ByteArray) (val : Int) (g c1 c2 : Nat) (a : Option Addr) (w : World) (h : Tb w g ix a es) (hl : es.length ≤ 1048576) (hm : ix.length ≤ 1048576) (hks : KeysS es) (hky : key.size ≤ 1048576) (hkb : keyB key = true) (hvb : okV val = true) (hdo : dokB ix es = true) (hp : plc ix es key (hk key) = -1) (h40 : liveN es = 40) :
    Calls Try.prog 36 #[.agg #[.slice (some ⟨g, 0, none⟩) ix.length c1, .slice a es.length c2], .string key, .int .i64 val] w (OdP ((ix, es), false) w) := by
  obtain ⟨w1, hw1⟩ : ∃ w1, w1 = (w.alloc (Obj.cells #[.slice (some ⟨g, 0, none⟩) ix.length c1, .slice a es.length c2] 27)).alloc (Obj.cells #[.slice none 0 0, .slice none 0 0] 27) := ⟨_, rfl⟩
  have HB1 := Lib.hid (show Below w.heap.size w w1 from by rw [hw1]; exact ((Below.refl _ _).alloc (Nat.le_refl _) _).alloc (by simp) _)
  have HX1 := Lib.hid (show Blk w1 w.heap.size 27 #[.slice (some ⟨g, 0, none⟩) ix.length c1, .slice a es.length c2] from by rw [hw1]; exact (Blk.newest w _ _).alloc _)
  have HY1 := Lib.hid (show Blk w1 (w.heap.size + 1) 27 #[.slice none 0 0, .slice none 0 0] from by rw [hw1]; exact Blk.new _ _ _ (by simp))
  have HT1 := Lib.hid (h.below HB1.out)
  have HK := Lib.hid (fun w => isKey_any key w (by omega))
  have HV := Lib.hid (fun w => isIndex_any val w)
  have HD := Lib.hid (dictOk_any ix es g c1 c2 a w1 HT1.out hl hm hks)
  have HSZ := Lib.hid (show w1.heap.size = w.heap.size + 2 by rw [hw1]; simp)
  have HW1 := Lib.hid hw1
  have hv2 : hashV key = (hk key : Int) := by unfold hashV hk; rw [if_pos (by unfold keyB at hkb; simpa using hkb)]
  have HH := Lib.hid (fun w => implHash_any key w (by omega))
  rw [hv2] at HH
  rw [hkb] at HK
  rw [hvb] at HV
  rw [hdo] at HD
  have hd := dok_of hdo
  have hh := hsh_lt key.data.toList
  have HFi := Lib.hid (fun g c1 c2 a w h => find_ok ix es key g c1 c2 (hk key) a w h hd.1 hh)
  have HOw := Lib.hid (fun w h => ownTable_any ix es g c1 c2 a w h hl hm hks)
  have hmx : ix.length ≤ 128 := by have := slotN_mem hd.1.1; simp at this; omega
  have hex : es.length ≤ 128 := by have := hd.1.2.1; omega
  unfold OtP at HOw
  have HCL := Lib.hid (fun g1 c1 a2 c2 w h => countLive_any (.slice (some ⟨g1, 0, none⟩) ix.length c1) es a2 c2 w h hl rfl)
  rw [h40] at HCL
  rw [hp] at HFi
  generalize hmm : ix.length = m at *
  generalize hne : es.length = ne at *
  have HNE := Lib.hid hne
  have HMM := Lib.hid hmm
  clear hmm hne h hw1 hkb hvb hdo hd hv2 hh hp h40
  generalize hk key = hh at *
  have b0 := HX1.out.cell 0
  have b1 := HX1.out.cell 1
  go_enter Try.func36, Try.ntmps36
  go_wp2_with fail
  rw [← HW1.out]
  refine (HK.out _).mono ?_
  rintro e w2 ⟨rfl, rfl⟩
  go_wp2_with fail
  refine (HV.out _).mono ?_
  rintro e w2 ⟨rfl, rfl⟩
  go_wp2_with fail
  refine HD.out.mono ?_
  rintro e w2 ⟨rfl, hb2⟩
  have HB2 := Lib.hid (HB1.out.trans (hb2.mono HB1.out.size))
  have HR2 := Lib.hid (HY1.out.below hb2 HY1.out.lt)
  have HX2 := Lib.hid (HX1.out.below hb2 HX1.out.lt)
  have HT2 := Lib.hid (HT1.out.below hb2)
  have HW2 := Lib.hid (show w.heap.size + 2 ≤ w2.heap.size by have := hb2.size; have := HSZ.out; omega)
  clear hb2 b0 b1
  have b0 := HX2.out.cell 0
  have b1 := HX2.out.cell 1
  go_wp2_with fail
  refine (HOw.out _ HT2.out).mono ?_
  rintro e w3 ⟨g1, d1, a2, d2, rfl, ho3, hb3⟩
  have HTb := Lib.hid (show TbO (w3.alloc (Obj.cells #[.slice (some ⟨g1, 0, none⟩) ix.length d1, .slice a2 es.length d2] 61)) w2.heap.size ix es w3.heap.size g1 d1 a2 d2 from ⟨hb3.size, by have := ho3.lt1; omega, by rintro g9 rfl; have := ho3.lt2; omega, Blk.newest _ _ _, ho3.below ((Below.refl _ _).alloc (Nat.le_refl _) _)⟩)
  rw [HMM.out, HNE.out] at HTb
  have hb3' : Below w2.heap.size w2 (w3.alloc (Obj.cells #[.slice (some ⟨g1, 0, none⟩) m d1, .slice a2 ne d2] 61)) := hb3.alloc hb3.size _
  have HB3 := Lib.hid (HB2.out.trans (hb3'.mono HB2.out.size))
  have HR3 := Lib.hid (HR2.out.below hb3' HR2.out.lt)
  have HQ3 := Lib.hid (show w2.heap.size ≤ (w3.alloc (Obj.cells #[.slice (some ⟨g1, 0, none⟩) m d1, .slice a2 ne d2] 61)).heap.size from hb3'.size)
  have HC3 := Lib.hid HTb.out.2.2.2.1
  rw [HMM.out, HNE.out] at HC3
  clear ho3 hb3 hb3' b0 b1
  go_upto_region 4 with fail
  generalize hw4 : w3.alloc (Obj.cells #[.slice (some ⟨g1, 0, none⟩) m d1, .slice a2 ne d2] 61) = w4 at *
  generalize w3.heap.size = bt at *
  clear hw4
  have HS := Lib.hid (fun w' (hb : Below w4.heap.size w4 w') => show w'.cell? ⟨bt, 0, none⟩ = some (.slice (some ⟨g1, 0, none⟩) m d1) ∧ w'.cell? ⟨bt, 1, none⟩ = some (.slice a2 ne d2) from
    have hC := HC3.out.below hb HC3.out.lt
    ⟨hC.cell 0, hC.cell 1⟩)
  go_region_held3 (fun w' => w'.cell? ⟨bt, 0, none⟩ = some (.slice (some ⟨g1, 0, none⟩) m d1) ∧ w'.cell? ⟨bt, 1, none⟩ = some (.slice a2 ne d2))
    (first | exact HS.out _ (Below.refl _ _).drew | exact HS.out _ HB45.out)
    (first | (go_at_call 16; refine (HH.out _).mono ?_; rintro r w9 ⟨rfl, rfl⟩) | (go_at_call 65; refine (HFi.out _ _ _ _ _ (HTb.out.below (Below.refl _ _).drew).2.2.2.2.tb).mono ?_; rintro r w5 ⟨rfl, hb5⟩; have HB45 := Lib.hid (show Below w4.heap.size w4 w5 from ((Below.refl _ w4).drew).trans hb5); clear hb5))
  have HT5 := Lib.hid (HTb.out.below HB45.out)
  have HB5 := Lib.hid (HB3.out.trans ((HB45.out.mono HQ3.out).mono HB2.out.size))
  have HR5 := Lib.hid (HR3.out.below (HB45.out.mono HQ3.out) HR2.out.lt)
  have HQ5 := Lib.hid (show w2.heap.size ≤ w5.heap.size from Nat.le_trans HQ3.out HB45.out.size)
  have HC5 := Lib.hid HT5.out.2.2.2.1
  rw [HMM.out, HNE.out] at HC5
  have t0 := HC5.out.cell 0
  have t1 := HC5.out.cell 1
  go_wp2_with fail
  refine (HCL.out _ _ _ _ _ HT5.out.2.2.2.2.tb.2.2).mono ?_
  rintro e w6 ⟨rfl, hb6⟩
  have HT6 := Lib.hid (HT5.out.below hb6)
  have HC6 := Lib.hid (HC5.out.below hb6 HC5.out.lt)
  have HR6 := Lib.hid (HR5.out.below hb6 HR5.out.lt)
  have HB6 := Lib.hid (HB5.out.trans (hb6.mono HB5.out.size))
  clear hb6 t0 t1
  have t0 := HC6.out.cell 0
  have t1 := HC6.out.cell 1
  have z0 := HR6.out.cell 0
  have z1 := HR6.out.cell 1
  have z2 := HR6.out.free 0
  have z3 := HR6.out.free 1
  go_wp2_with fail
  have hq1 := HT6.out.2.2.2.2.lt1.1
  have hq2 : ∀ g9 : Nat, (a2 : Option Addr) = some ⟨g9, 0, none⟩ → w2.heap.size ≤ g9 := by intro g9 h9; have h8 := HT6.out; rw [h9] at h8; exact h8.2.2.2.2.lt2.1
  have hw := HW2.out
  exact bodyPost_ret (v := .tuple #[.agg #[.slice (some ⟨g1, 0, none⟩) m d1, .slice a2 ne d2], .bool false]) (by exact res_ct (p := 6) (u := 7) (ty := 27) rfl _ _ (w.heap.size + 1) #[.slice (some ⟨g1, 0, none⟩) m d1, .slice a2 ne d2] rfl (ld_dict (two_set HR6.out (.slice (some ⟨g1, 0, none⟩) m d1) (.slice a2 ne d2)))) rfl
    ⟨some ⟨g1, 0, none⟩, d1, a2, d2, by rw [HMM.out, HNE.out], (((HT6.out.2.2.2.2.setOff (by omega) (by intro g9 h9; have := hq2 g9 h9; omega)).setOff (by omega) (by intro g9 h9; have := hq2 g9 h9; omega)).wide (by omega)).od, (HB6.out.setCell (by show w.heap.size ≤ w.heap.size + 1; omega) _).setCell (by show w.heap.size ≤ w.heap.size + 1; omega) _⟩
set_option maxRecDepth 20000 in
set_option maxHeartbeats 8000000 in
theorem implSet_val (ix : List Int) (es : List Ent) (key : ByteArray) (val : Int) (g c1 c2 : Nat) (a : Option Addr) (w : World) (h : Tb w g ix a es) (hl : es.length ≤ 1048576) (hm : ix.length ≤ 1048576) (hks : KeysS es) (hky : key.size ≤ 1048576) (hkb : keyB key = true) (hvb : okV val = true) (hdo : dokB ix es = true) (k : Nat) (hp : plc ix es key (hk key) = (k : Int)) (hkn : k < es.length) :
    Calls Try.prog 36 #[.agg #[.slice (some ⟨g, 0, none⟩) ix.length c1, .slice a es.length c2], .string key, .int .i64 val] w (OdP ((ix, valP es k val), true) w) := by
  obtain ⟨w1, hw1⟩ : ∃ w1, w1 = (w.alloc (Obj.cells #[.slice (some ⟨g, 0, none⟩) ix.length c1, .slice a es.length c2] 27)).alloc (Obj.cells #[.slice none 0 0, .slice none 0 0] 27) := ⟨_, rfl⟩
  have HB1 := Lib.hid (show Below w.heap.size w w1 from by rw [hw1]; exact ((Below.refl _ _).alloc (Nat.le_refl _) _).alloc (by simp) _)
  have HX1 := Lib.hid (show Blk w1 w.heap.size 27 #[.slice (some ⟨g, 0, none⟩) ix.length c1, .slice a es.length c2] from by rw [hw1]; exact (Blk.newest w _ _).alloc _)
  have HY1 := Lib.hid (show Blk w1 (w.heap.size + 1) 27 #[.slice none 0 0, .slice none 0 0] from by rw [hw1]; exact Blk.new _ _ _ (by simp))
  have HT1 := Lib.hid (h.below HB1.out)
  have HK := Lib.hid (fun w => isKey_any key w (by omega))
  have HV := Lib.hid (fun w => isIndex_any val w)
  have HD := Lib.hid (dictOk_any ix es g c1 c2 a w1 HT1.out hl hm hks)
  have HSZ := Lib.hid (show w1.heap.size = w.heap.size + 2 by rw [hw1]; simp)
  have HW1 := Lib.hid hw1
  have hv2 : hashV key = (hk key : Int) := by unfold hashV hk; rw [if_pos (by unfold keyB at hkb; simpa using hkb)]
  have HH := Lib.hid (fun w => implHash_any key w (by omega))
  rw [hv2] at HH
  rw [hkb] at HK
  rw [hvb] at HV
  rw [hdo] at HD
  have hd := dok_of hdo
  have hh := hsh_lt key.data.toList
  have HFi := Lib.hid (fun g c1 c2 a w h => find_ok ix es key g c1 c2 (hk key) a w h hd.1 hh)
  have HOw := Lib.hid (fun w h => ownTable_any ix es g c1 c2 a w h hl hm hks)
  have hmx : ix.length ≤ 128 := by have := slotN_mem hd.1.1; simp at this; omega
  have hex : es.length ≤ 128 := by have := hd.1.2.1; omega
  unfold OtP at HOw
  rw [hp] at HFi
  obtain ⟨e9, he9⟩ : ∃ e, es[k]? = some e := ⟨_, List.getElem?_eq_getElem hkn⟩
  have HGE := Lib.hid he9
  generalize hmm : ix.length = m at *
  generalize hne : es.length = ne at *
  have HNE := Lib.hid hne
  have HMM := Lib.hid hmm
  clear hmm hne h hw1 hkb hvb hdo hd hv2 hh hp he9
  generalize hk key = hh at *
  have k1 : (k : Int) < (ne : Int) := by omega
  have k0 : 0 ≤ (k : Int) := by omega
  have k2 : ((k : Int) != -1) = true := by rw [bne_iff_ne]; omega
  have b0 := HX1.out.cell 0
  have b1 := HX1.out.cell 1
  go_enter Try.func36, Try.ntmps36
  go_wp2_with fail
  rw [← HW1.out]
  refine (HK.out _).mono ?_
  rintro e w2 ⟨rfl, rfl⟩
  go_wp2_with fail
  refine (HV.out _).mono ?_
  rintro e w2 ⟨rfl, rfl⟩
  go_wp2_with fail
  refine HD.out.mono ?_
  rintro e w2 ⟨rfl, hb2⟩
  have HB2 := Lib.hid (HB1.out.trans (hb2.mono HB1.out.size))
  have HR2 := Lib.hid (HY1.out.below hb2 HY1.out.lt)
  have HX2 := Lib.hid (HX1.out.below hb2 HX1.out.lt)
  have HT2 := Lib.hid (HT1.out.below hb2)
  have HW2 := Lib.hid (show w.heap.size + 2 ≤ w2.heap.size by have := hb2.size; have := HSZ.out; omega)
  clear hb2 b0 b1
  have b0 := HX2.out.cell 0
  have b1 := HX2.out.cell 1
  go_wp2_with fail
  refine (HOw.out _ HT2.out).mono ?_
  rintro e w3 ⟨g1, d1, a2, d2, rfl, ho3, hb3⟩
  have HTb := Lib.hid (show TbO (w3.alloc (Obj.cells #[.slice (some ⟨g1, 0, none⟩) ix.length d1, .slice a2 es.length d2] 61)) w2.heap.size ix es w3.heap.size g1 d1 a2 d2 from ⟨hb3.size, by have := ho3.lt1; omega, by rintro g9 rfl; have := ho3.lt2; omega, Blk.newest _ _ _, ho3.below ((Below.refl _ _).alloc (Nat.le_refl _) _)⟩)
  rw [HMM.out, HNE.out] at HTb
  have hb3' : Below w2.heap.size w2 (w3.alloc (Obj.cells #[.slice (some ⟨g1, 0, none⟩) m d1, .slice a2 ne d2] 61)) := hb3.alloc hb3.size _
  have HB3 := Lib.hid (HB2.out.trans (hb3'.mono HB2.out.size))
  have HR3 := Lib.hid (HR2.out.below hb3' HR2.out.lt)
  have HQ3 := Lib.hid (show w2.heap.size ≤ (w3.alloc (Obj.cells #[.slice (some ⟨g1, 0, none⟩) m d1, .slice a2 ne d2] 61)).heap.size from hb3'.size)
  have HC3 := Lib.hid HTb.out.2.2.2.1
  rw [HMM.out, HNE.out] at HC3
  clear ho3 hb3 hb3' b0 b1
  go_upto_region 4 with fail
  generalize hw4 : w3.alloc (Obj.cells #[.slice (some ⟨g1, 0, none⟩) m d1, .slice a2 ne d2] 61) = w4 at *
  generalize w3.heap.size = bt at *
  clear hw4
  have HS := Lib.hid (fun w' (hb : Below w4.heap.size w4 w') => show w'.cell? ⟨bt, 0, none⟩ = some (.slice (some ⟨g1, 0, none⟩) m d1) ∧ w'.cell? ⟨bt, 1, none⟩ = some (.slice a2 ne d2) from
    have hC := HC3.out.below hb HC3.out.lt
    ⟨hC.cell 0, hC.cell 1⟩)
  go_region_held3 (fun w' => w'.cell? ⟨bt, 0, none⟩ = some (.slice (some ⟨g1, 0, none⟩) m d1) ∧ w'.cell? ⟨bt, 1, none⟩ = some (.slice a2 ne d2))
    (first | exact HS.out _ (Below.refl _ _).drew | exact HS.out _ HB45.out)
    (first | (go_at_call 16; refine (HH.out _).mono ?_; rintro r w9 ⟨rfl, rfl⟩) | (go_at_call 65; refine (HFi.out _ _ _ _ _ (HTb.out.below (Below.refl _ _).drew).2.2.2.2.tb).mono ?_; rintro r w5 ⟨rfl, hb5⟩; have HB45 := Lib.hid (show Below w4.heap.size w4 w5 from ((Below.refl _ w4).drew).trans hb5); clear hb5))
  have HT5 := Lib.hid (HTb.out.below HB45.out)
  have HB5 := Lib.hid (HB3.out.trans ((HB45.out.mono HQ3.out).mono HB2.out.size))
  have HR5 := Lib.hid (HR3.out.below (HB45.out.mono HQ3.out) HR2.out.lt)
  have HQ5 := Lib.hid (show w2.heap.size ≤ w5.heap.size from Nat.le_trans HQ3.out HB45.out.size)
  have HC5 := Lib.hid HT5.out.2.2.2.1
  rw [HMM.out, HNE.out] at HC5
  have t0 := HC5.out.cell 0
  have t1 := HC5.out.cell 1
  obtain ⟨g2, hg2⟩ : ∃ g2, a2 = some ⟨g2, 0, none⟩ := by
    obtain ⟨g2, _, h9, _⟩ := (HT5.out.2.2.2.2.tb.2.2).at (show k < es.length by rw [HNE.out]; exact hkn)
    exact ⟨g2, h9⟩
  subst hg2
  obtain ⟨_, _, x2, _⟩ := HT5.out.2.2.2.2.2.1.cellsAt HGE.out
  have f2 := HT5.out.2.2.2.2.2.1.free (k * 4 + 2)
  have HT6 := Lib.hid (HT5.out.val HGE.out val)
  have HC6 := Lib.hid HT6.out.2.2.2.1
  rw [valP_len, HMM.out, HNE.out] at HC6
  have HR6 := Lib.hid (HR5.out.setOff (g' := g2) (i := k * 4 + 2) (v := .int .i64 val) (by have := HT5.out.2.2.2.2.lt2.1; have := HW2.out; omega))
  have HB6 := Lib.hid (HB5.out.setCell (p := ⟨g2, k * 4 + 2, none⟩) (show w.heap.size ≤ g2 by have := HT5.out.2.2.2.2.lt2.1; have := HW2.out; omega) (.int .i64 val))
  have u0 := HC6.out.cell 0
  have u1 := HC6.out.cell 1
  have z0 := HR6.out.cell 0
  have z1 := HR6.out.cell 1
  have z2 := HR6.out.free 0
  have z3 := HR6.out.free 1
  go_wp2_with fail
  have hq1 := HT6.out.2.2.2.2.lt1.1
  have hq2 : ∀ g9 : Nat, ((some ⟨g2, 0, none⟩) : Option Addr) = some ⟨g9, 0, none⟩ → w2.heap.size ≤ g9 := by intro g9 h9; have h8 := HT6.out; rw [h9] at h8; exact h8.2.2.2.2.lt2.1
  have hw := HW2.out
  exact bodyPost_ret (v := .tuple #[.agg #[.slice (some ⟨g1, 0, none⟩) m d1, .slice (some ⟨g2, 0, none⟩) ne d2], .bool true]) (by exact res_ct (p := 6) (u := 7) (ty := 27) rfl _ _ (w.heap.size + 1) #[.slice (some ⟨g1, 0, none⟩) m d1, .slice (some ⟨g2, 0, none⟩) ne d2] rfl (ld_dict (two_set HR6.out (.slice (some ⟨g1, 0, none⟩) m d1) (.slice (some ⟨g2, 0, none⟩) ne d2)))) rfl
    ⟨some ⟨g1, 0, none⟩, d1, (some ⟨g2, 0, none⟩), d2, by rw [valP_len, HMM.out, HNE.out], (((HT6.out.2.2.2.2.setOff (by omega) (by intro g9 h9; have := hq2 g9 h9; omega)).setOff (by omega) (by intro g9 h9; have := hq2 g9 h9; omega)).wide (by omega)).od, (HB6.out.setCell (by show w.heap.size ≤ w.heap.size + 1; omega) _).setCell (by show w.heap.size ≤ w.heap.size + 1; omega) _⟩
set_option maxRecDepth 20000 in
set_option maxHeartbeats 8000000 in
theorem implSet_put (ix : List Int) (es : List Ent) (key : ByteArray) (val : Int) (g c1 c2 : Nat) (a : Option Addr) (w : World) (h : Tb w g ix a es) (hl : es.length ≤ 1048576) (hm : ix.length ≤ 1048576) (hks : KeysS es) (hky : key.size ≤ 1048576) (hkb : keyB key = true) (hvb : okV val = true) (hdo : dokB ix es = true) (hp : plc ix es key (hk key) = -1) (h40 : liveN es ≠ 40) (hro : es.length ≠ 2 * ix.length / 3) (_ : liveN es ≤ 40) :
    Calls Try.prog 36 #[.agg #[.slice (some ⟨g, 0, none⟩) ix.length c1, .slice a es.length c2], .string key, .int .i64 val] w (OdP ((ix.set (fstS ix es key (hk key)) (es.length : Int), es ++ [⟨key, (hk key : Int), val, true⟩]), true) w) := by
  obtain ⟨w1, hw1⟩ : ∃ w1, w1 = (w.alloc (Obj.cells #[.slice (some ⟨g, 0, none⟩) ix.length c1, .slice a es.length c2] 27)).alloc (Obj.cells #[.slice none 0 0, .slice none 0 0] 27) := ⟨_, rfl⟩
  have HB1 := Lib.hid (show Below w.heap.size w w1 from by rw [hw1]; exact ((Below.refl _ _).alloc (Nat.le_refl _) _).alloc (by simp) _)
  have HX1 := Lib.hid (show Blk w1 w.heap.size 27 #[.slice (some ⟨g, 0, none⟩) ix.length c1, .slice a es.length c2] from by rw [hw1]; exact (Blk.newest w _ _).alloc _)
  have HY1 := Lib.hid (show Blk w1 (w.heap.size + 1) 27 #[.slice none 0 0, .slice none 0 0] from by rw [hw1]; exact Blk.new _ _ _ (by simp))
  have HT1 := Lib.hid (h.below HB1.out)
  have HK := Lib.hid (fun w => isKey_any key w (by omega))
  have HV := Lib.hid (fun w => isIndex_any val w)
  have HD := Lib.hid (dictOk_any ix es g c1 c2 a w1 HT1.out hl hm hks)
  have HSZ := Lib.hid (show w1.heap.size = w.heap.size + 2 by rw [hw1]; simp)
  have HW1 := Lib.hid hw1
  have hv2 : hashV key = (hk key : Int) := by unfold hashV hk; rw [if_pos (by unfold keyB at hkb; simpa using hkb)]
  have HH := Lib.hid (fun w => implHash_any key w (by omega))
  rw [hv2] at HH
  rw [hkb] at HK
  rw [hvb] at HV
  rw [hdo] at HD
  have hd := dok_of hdo
  have hh := hsh_lt key.data.toList
  have HFi := Lib.hid (fun g c1 c2 a w h => find_ok ix es key g c1 c2 (hk key) a w h hd.1 hh)
  have HOw := Lib.hid (fun w h => ownTable_any ix es g c1 c2 a w h hl hm hks)
  have hmx : ix.length ≤ 128 := by have := slotN_mem hd.1.1; simp at this; omega
  have hex : es.length ≤ 128 := by have := hd.1.2.1; omega
  unfold OtP at HOw
  have HCL := Lib.hid (fun g1 c1 a2 c2 w h => countLive_any (.slice (some ⟨g1, 0, none⟩) ix.length c1) es a2 c2 w h hl rfl)
  have HER := Lib.hid (fun w => entryRoom_any ix.length w hm)
  have HCt := Lib.hid (fun w => clone_txt key w hky)
  rw [hp] at HFi
  have HPt := Lib.hid (fun bt g1 c1 a2 c2 b w h hb => put_any ix es key (hk key) b bt g1 c1 c2 val true a2 w h hd.1 hh hb)
  have l40 : ((liveN es : Int) == 40) = false := beq_eq_false_iff_ne.2 (by omega)
  have lro : ((es.length : Int) == ((2 * ix.length / 3 : Nat) : Int)) = false := beq_eq_false_iff_ne.2 (by omega)
  generalize 2 * ix.length / 3 = rm at *
  generalize liveN es = lv at *
  generalize hmm : ix.length = m at *
  generalize hne : es.length = ne at *
  have HNE := Lib.hid hne
  have HMM := Lib.hid hmm
  clear hmm hne h hw1 hkb hvb hdo hd hv2 hh hp h40 hro
  generalize hk key = hh at *
  generalize fstS ix es key hh = s at *
  have b0 := HX1.out.cell 0
  have b1 := HX1.out.cell 1
  go_enter Try.func36, Try.ntmps36
  go_wp2_with fail
  rw [← HW1.out]
  refine (HK.out _).mono ?_
  rintro e w2 ⟨rfl, rfl⟩
  go_wp2_with fail
  refine (HV.out _).mono ?_
  rintro e w2 ⟨rfl, rfl⟩
  go_wp2_with fail
  refine HD.out.mono ?_
  rintro e w2 ⟨rfl, hb2⟩
  have HB2 := Lib.hid (HB1.out.trans (hb2.mono HB1.out.size))
  have HR2 := Lib.hid (HY1.out.below hb2 HY1.out.lt)
  have HX2 := Lib.hid (HX1.out.below hb2 HX1.out.lt)
  have HT2 := Lib.hid (HT1.out.below hb2)
  have HW2 := Lib.hid (show w.heap.size + 2 ≤ w2.heap.size by have := hb2.size; have := HSZ.out; omega)
  clear hb2 b0 b1
  have b0 := HX2.out.cell 0
  have b1 := HX2.out.cell 1
  go_wp2_with fail
  refine (HOw.out _ HT2.out).mono ?_
  rintro e w3 ⟨g1, d1, a2, d2, rfl, ho3, hb3⟩
  have HTb := Lib.hid (show TbO (w3.alloc (Obj.cells #[.slice (some ⟨g1, 0, none⟩) ix.length d1, .slice a2 es.length d2] 61)) w2.heap.size ix es w3.heap.size g1 d1 a2 d2 from ⟨hb3.size, by have := ho3.lt1; omega, by rintro g9 rfl; have := ho3.lt2; omega, Blk.newest _ _ _, ho3.below ((Below.refl _ _).alloc (Nat.le_refl _) _)⟩)
  rw [HMM.out, HNE.out] at HTb
  have hb3' : Below w2.heap.size w2 (w3.alloc (Obj.cells #[.slice (some ⟨g1, 0, none⟩) m d1, .slice a2 ne d2] 61)) := hb3.alloc hb3.size _
  have HB3 := Lib.hid (HB2.out.trans (hb3'.mono HB2.out.size))
  have HR3 := Lib.hid (HR2.out.below hb3' HR2.out.lt)
  have HQ3 := Lib.hid (show w2.heap.size ≤ (w3.alloc (Obj.cells #[.slice (some ⟨g1, 0, none⟩) m d1, .slice a2 ne d2] 61)).heap.size from hb3'.size)
  have HC3 := Lib.hid HTb.out.2.2.2.1
  rw [HMM.out, HNE.out] at HC3
  clear ho3 hb3 hb3' b0 b1
  go_upto_region 4 with fail
  generalize hw4 : w3.alloc (Obj.cells #[.slice (some ⟨g1, 0, none⟩) m d1, .slice a2 ne d2] 61) = w4 at *
  generalize w3.heap.size = bt at *
  clear hw4
  have HS := Lib.hid (fun w' (hb : Below w4.heap.size w4 w') => show w'.cell? ⟨bt, 0, none⟩ = some (.slice (some ⟨g1, 0, none⟩) m d1) ∧ w'.cell? ⟨bt, 1, none⟩ = some (.slice a2 ne d2) from
    have hC := HC3.out.below hb HC3.out.lt
    ⟨hC.cell 0, hC.cell 1⟩)
  go_region_held3 (fun w' => w'.cell? ⟨bt, 0, none⟩ = some (.slice (some ⟨g1, 0, none⟩) m d1) ∧ w'.cell? ⟨bt, 1, none⟩ = some (.slice a2 ne d2))
    (first | exact HS.out _ (Below.refl _ _).drew | exact HS.out _ HB45.out)
    (first | (go_at_call 16; refine (HH.out _).mono ?_; rintro r w9 ⟨rfl, rfl⟩) | (go_at_call 65; refine (HFi.out _ _ _ _ _ (HTb.out.below (Below.refl _ _).drew).2.2.2.2.tb).mono ?_; rintro r w5 ⟨rfl, hb5⟩; have HB45 := Lib.hid (show Below w4.heap.size w4 w5 from ((Below.refl _ w4).drew).trans hb5); clear hb5))
  have HT5 := Lib.hid (HTb.out.below HB45.out)
  have HB5 := Lib.hid (HB3.out.trans ((HB45.out.mono HQ3.out).mono HB2.out.size))
  have HR5 := Lib.hid (HR3.out.below (HB45.out.mono HQ3.out) HR2.out.lt)
  have HQ5 := Lib.hid (show w2.heap.size ≤ w5.heap.size from Nat.le_trans HQ3.out HB45.out.size)
  have HC5 := Lib.hid HT5.out.2.2.2.1
  rw [HMM.out, HNE.out] at HC5
  have t0 := HC5.out.cell 0
  have t1 := HC5.out.cell 1
  go_wp2_with fail
  refine (HCL.out _ _ _ _ _ HT5.out.2.2.2.2.tb.2.2).mono ?_
  rintro e w6 ⟨rfl, hb6⟩
  have HT6 := Lib.hid (HT5.out.below hb6)
  have HC6 := Lib.hid (HC5.out.below hb6 HC5.out.lt)
  have HR6 := Lib.hid (HR5.out.below hb6 HR5.out.lt)
  have HB6 := Lib.hid (HB5.out.trans (hb6.mono HB5.out.size))
  have HQ6 := Lib.hid (show w2.heap.size ≤ w6.heap.size from Nat.le_trans HQ5.out hb6.size)
  clear hb6 t0 t1
  have t0 := HC6.out.cell 0
  have t1 := HC6.out.cell 1
  go_wp2_with fail
  go_region_held3 (fun w' => w'.cell? ⟨bt, 0, none⟩ = some (.slice (some ⟨g1, 0, none⟩) m d1) ∧ w'.cell? ⟨bt, 1, none⟩ = some (.slice a2 ne d2))
    (first | exact ⟨t0, t1⟩ | assumption)
    (first | (go_at_call 78; refine (HER.out _).mono ?_; rintro r w9 ⟨rfl, rfl⟩))
  have HR6d := Lib.hid HR6.out.drew
  have HT6d := Lib.hid HT6.out.drew
  have HB6d := Lib.hid HB6.out.drew
  go_wp2_with fail
  refine (HCt.out _).mono ?_
  rintro e wk ⟨rfl, hbk⟩
  have HTk := Lib.hid (HT6d.out.below hbk)
  have HRk := Lib.hid (HR6d.out.below hbk HR6d.out.lt)
  have HBk := Lib.hid (HB6d.out.trans (hbk.mono HB6d.out.size))
  have HQk := Lib.hid (show w2.heap.size ≤ wk.heap.size from Nat.le_trans HQ6.out hbk.size)
  clear hbk
  go_wp2_with fail
  refine (HH.out _).mono ?_
  rintro e w9 ⟨rfl, rfl⟩
  go_wp2_with fail
  refine (HPt.out _ _ _ _ _ w2.heap.size _ HTk.out HQk.out).mono ?_
  rintro e wp ⟨a9, c9, rfl, htp, hbp⟩
  have HTp := Lib.hid htp
  have HRp := Lib.hid (HRk.out.below hbp (by have := HW2.out; omega))
  have HBp := Lib.hid (HBk.out.trans (hbp.mono (by have := HW2.out; omega)))
  have HCp := Lib.hid htp.2.2.2.1
  rw [List.length_set, List.length_append, HMM.out, HNE.out] at HCp
  clear htp hbp t0 t1
  have t0 := HCp.out.cell 0
  have t1 := HCp.out.cell 1
  have z0 := HRp.out.cell 0
  have z1 := HRp.out.cell 1
  have z2 := HRp.out.free 0
  have z3 := HRp.out.free 1
  go_wp2_with fail
  have hq1 := HTp.out.2.2.2.2.lt1.1
  have hq2 : ∀ g9 : Nat, (a9 : Option Addr) = some ⟨g9, 0, none⟩ → w2.heap.size ≤ g9 := by intro g9 h9; have h8 := HTp.out; rw [h9] at h8; exact h8.2.2.2.2.lt2.1
  have hw := HW2.out
  exact bodyPost_ret (v := .tuple #[.agg #[.slice (some ⟨g1, 0, none⟩) m d1, .slice a9 (ne + 1) c9], .bool true]) (by exact res_ct (p := 6) (u := 7) (ty := 27) rfl _ _ (w.heap.size + 1) #[.slice (some ⟨g1, 0, none⟩) m d1, .slice a9 (ne + 1) c9] rfl (ld_dict (two_set HRp.out (.slice (some ⟨g1, 0, none⟩) m d1) (.slice a9 (ne + 1) c9)))) rfl
    ⟨some ⟨g1, 0, none⟩, d1, a9, c9, by rw [List.length_set, List.length_append, HMM.out, HNE.out]; rfl, (((HTp.out.2.2.2.2.setOff (by omega) (by intro g9 h9; have := hq2 g9 h9; omega)).setOff (by omega) (by intro g9 h9; have := hq2 g9 h9; omega)).wide (by omega)).od, (HBp.out.setCell (by show w.heap.size ≤ w.heap.size + 1; omega) _).setCell (by show w.heap.size ≤ w.heap.size + 1; omega) _⟩
set_option maxRecDepth 20000 in
set_option maxHeartbeats 8000000 in
theorem implSet_pack (ix : List Int) (es : List Ent) (key : ByteArray) (val : Int) (g c1 c2 : Nat) (a : Option Addr) (w : World) (h : Tb w g ix a es) (hl : es.length ≤ 1048576) (hm : ix.length ≤ 1048576) (hks : KeysS es) (hky : key.size ≤ 1048576) (hkb : keyB key = true) (hvb : okV val = true) (hdo : dokB ix es = true) (hp : plc ix es key (hk key) = -1) (h40 : liveN es + 1 ≤ 40) (hro : es.length = 2 * ix.length / 3) :
    Calls Try.prog 36 #[.agg #[.slice (some ⟨g, 0, none⟩) ix.length c1, .slice a es.length c2], .string key, .int .i64 val] w (OdP (((pkd (scN (liveN es + 1)) es).1.set (fstS (pkd (scN (liveN es + 1)) es).1 (pkd (scN (liveN es + 1)) es).2 key (hk key)) ((pkd (scN (liveN es + 1)) es).2.length : Int), (pkd (scN (liveN es + 1)) es).2 ++ [⟨key, (hk key : Int), val, true⟩]), true) w) := by
  obtain ⟨w1, hw1⟩ : ∃ w1, w1 = (w.alloc (Obj.cells #[.slice (some ⟨g, 0, none⟩) ix.length c1, .slice a es.length c2] 27)).alloc (Obj.cells #[.slice none 0 0, .slice none 0 0] 27) := ⟨_, rfl⟩
  have HB1 := Lib.hid (show Below w.heap.size w w1 from by rw [hw1]; exact ((Below.refl _ _).alloc (Nat.le_refl _) _).alloc (by simp) _)
  have HX1 := Lib.hid (show Blk w1 w.heap.size 27 #[.slice (some ⟨g, 0, none⟩) ix.length c1, .slice a es.length c2] from by rw [hw1]; exact (Blk.newest w _ _).alloc _)
  have HY1 := Lib.hid (show Blk w1 (w.heap.size + 1) 27 #[.slice none 0 0, .slice none 0 0] from by rw [hw1]; exact Blk.new _ _ _ (by simp))
  have HT1 := Lib.hid (h.below HB1.out)
  have HK := Lib.hid (fun w => isKey_any key w (by omega))
  have HV := Lib.hid (fun w => isIndex_any val w)
  have HD := Lib.hid (dictOk_any ix es g c1 c2 a w1 HT1.out hl hm hks)
  have HSZ := Lib.hid (show w1.heap.size = w.heap.size + 2 by rw [hw1]; simp)
  have HW1 := Lib.hid hw1
  have hv2 : hashV key = (hk key : Int) := by unfold hashV hk; rw [if_pos (by unfold keyB at hkb; simpa using hkb)]
  have HH := Lib.hid (fun w => implHash_any key w (by omega))
  rw [hv2] at HH
  rw [hkb] at HK
  rw [hvb] at HV
  rw [hdo] at HD
  have hd := dok_of hdo
  have hh := hsh_lt key.data.toList
  have HFi := Lib.hid (fun g c1 c2 a w h => find_ok ix es key g c1 c2 (hk key) a w h hd.1 hh)
  have HOw := Lib.hid (fun w h => ownTable_any ix es g c1 c2 a w h hl hm hks)
  have hmx : ix.length ≤ 128 := by have := slotN_mem hd.1.1; simp at this; omega
  have hex : es.length ≤ 128 := by have := hd.1.2.1; omega
  unfold OtP at HOw
  have HCL := Lib.hid (fun g1 c1 a2 c2 w h => countLive_any (.slice (some ⟨g1, 0, none⟩) ix.length c1) es a2 c2 w h hl rfl)
  have HER := Lib.hid (fun w => entryRoom_any ix.length w hm)
  have HCt := Lib.hid (fun w => clone_txt key w hky)
  rw [hp] at HFi
  have hpo := pkd_ok (c := scN (liveN es + 1)) (es := es) (slotN_sc _) (once_of hd) (by have := scN_room h40; omega) es.length (Nat.le_refl _)
  rw [List.take_length] at hpo
  have hplen : (pkd (scN (liveN es + 1)) es).1.length ≤ 128 ∧ (pkd (scN (liveN es + 1)) es).2.length ≤ 128 := by have h7 := hpo.1.2.1; have h8 := scN_le (liveN es + 1); have h9 := hpo.2.1; omega
  have HPk := Lib.hid (fun g c1 c2 a w h => packed_any ix es g c1 c2 1 a w h hl hm h40 (once_of hd) (ent_hk hd))
  unfold OtP at HPk
  have HPt := Lib.hid (fun bt g1 c1 a2 c2 b w h hb => put_any (pkd (scN (liveN es + 1)) es).1 (pkd (scN (liveN es + 1)) es).2 key (hk key) b bt g1 c1 c2 val true a2 w h hpo.1 hh hb)
  have l40 : ((liveN es : Int) == 40) = false := beq_eq_false_iff_ne.2 (by omega)
  have lro : ((es.length : Int) == ((2 * ix.length / 3 : Nat) : Int)) = true := by rw [hro]; simp
  generalize pkd (scN (liveN es + 1)) es = PR at *
  obtain ⟨P1, P2⟩ := PR
  dsimp only at HPk HPt hplen ⊢
  generalize 2 * ix.length / 3 = rm at *
  generalize liveN es = lv at *
  generalize hmm : ix.length = m at *
  generalize hne : es.length = ne at *
  have HNE := Lib.hid hne
  have HMM := Lib.hid hmm
  generalize hp1 : P1.length = n1 at *
  generalize hp2 : P2.length = n2 at *
  have HP1 := Lib.hid hp1
  have HP2 := Lib.hid hp2
  clear hp1 hp2 hpo
  clear hmm hne h hw1 hkb hvb hdo hd hv2 hh hp hro
  generalize hk key = hh at *
  generalize fstS P1 P2 key hh = s at *
  have b0 := HX1.out.cell 0
  have b1 := HX1.out.cell 1
  go_enter Try.func36, Try.ntmps36
  go_wp2_with fail
  rw [← HW1.out]
  refine (HK.out _).mono ?_
  rintro e w2 ⟨rfl, rfl⟩
  go_wp2_with fail
  refine (HV.out _).mono ?_
  rintro e w2 ⟨rfl, rfl⟩
  go_wp2_with fail
  refine HD.out.mono ?_
  rintro e w2 ⟨rfl, hb2⟩
  have HB2 := Lib.hid (HB1.out.trans (hb2.mono HB1.out.size))
  have HR2 := Lib.hid (HY1.out.below hb2 HY1.out.lt)
  have HX2 := Lib.hid (HX1.out.below hb2 HX1.out.lt)
  have HT2 := Lib.hid (HT1.out.below hb2)
  have HW2 := Lib.hid (show w.heap.size + 2 ≤ w2.heap.size by have := hb2.size; have := HSZ.out; omega)
  clear hb2 b0 b1
  have b0 := HX2.out.cell 0
  have b1 := HX2.out.cell 1
  go_wp2_with fail
  refine (HOw.out _ HT2.out).mono ?_
  rintro e w3 ⟨g1, d1, a2, d2, rfl, ho3, hb3⟩
  have HTb := Lib.hid (show TbO (w3.alloc (Obj.cells #[.slice (some ⟨g1, 0, none⟩) ix.length d1, .slice a2 es.length d2] 61)) w2.heap.size ix es w3.heap.size g1 d1 a2 d2 from ⟨hb3.size, by have := ho3.lt1; omega, by rintro g9 rfl; have := ho3.lt2; omega, Blk.newest _ _ _, ho3.below ((Below.refl _ _).alloc (Nat.le_refl _) _)⟩)
  rw [HMM.out, HNE.out] at HTb
  have hb3' : Below w2.heap.size w2 (w3.alloc (Obj.cells #[.slice (some ⟨g1, 0, none⟩) m d1, .slice a2 ne d2] 61)) := hb3.alloc hb3.size _
  have HB3 := Lib.hid (HB2.out.trans (hb3'.mono HB2.out.size))
  have HR3 := Lib.hid (HR2.out.below hb3' HR2.out.lt)
  have HQ3 := Lib.hid (show w2.heap.size ≤ (w3.alloc (Obj.cells #[.slice (some ⟨g1, 0, none⟩) m d1, .slice a2 ne d2] 61)).heap.size from hb3'.size)
  have HC3 := Lib.hid HTb.out.2.2.2.1
  rw [HMM.out, HNE.out] at HC3
  clear ho3 hb3 hb3' b0 b1
  go_upto_region 4 with fail
  generalize hw4 : w3.alloc (Obj.cells #[.slice (some ⟨g1, 0, none⟩) m d1, .slice a2 ne d2] 61) = w4 at *
  generalize w3.heap.size = bt at *
  clear hw4
  have HS := Lib.hid (fun w' (hb : Below w4.heap.size w4 w') => show w'.cell? ⟨bt, 0, none⟩ = some (.slice (some ⟨g1, 0, none⟩) m d1) ∧ w'.cell? ⟨bt, 1, none⟩ = some (.slice a2 ne d2) from
    have hC := HC3.out.below hb HC3.out.lt
    ⟨hC.cell 0, hC.cell 1⟩)
  go_region_held3 (fun w' => w'.cell? ⟨bt, 0, none⟩ = some (.slice (some ⟨g1, 0, none⟩) m d1) ∧ w'.cell? ⟨bt, 1, none⟩ = some (.slice a2 ne d2))
    (first | exact HS.out _ (Below.refl _ _).drew | exact HS.out _ HB45.out)
    (first | (go_at_call 16; refine (HH.out _).mono ?_; rintro r w9 ⟨rfl, rfl⟩) | (go_at_call 65; refine (HFi.out _ _ _ _ _ (HTb.out.below (Below.refl _ _).drew).2.2.2.2.tb).mono ?_; rintro r w5 ⟨rfl, hb5⟩; have HB45 := Lib.hid (show Below w4.heap.size w4 w5 from ((Below.refl _ w4).drew).trans hb5); clear hb5))
  have HT5 := Lib.hid (HTb.out.below HB45.out)
  have HB5 := Lib.hid (HB3.out.trans ((HB45.out.mono HQ3.out).mono HB2.out.size))
  have HR5 := Lib.hid (HR3.out.below (HB45.out.mono HQ3.out) HR2.out.lt)
  have HQ5 := Lib.hid (show w2.heap.size ≤ w5.heap.size from Nat.le_trans HQ3.out HB45.out.size)
  have HC5 := Lib.hid HT5.out.2.2.2.1
  rw [HMM.out, HNE.out] at HC5
  have t0 := HC5.out.cell 0
  have t1 := HC5.out.cell 1
  go_wp2_with fail
  refine (HCL.out _ _ _ _ _ HT5.out.2.2.2.2.tb.2.2).mono ?_
  rintro e w6 ⟨rfl, hb6⟩
  have HT6 := Lib.hid (HT5.out.below hb6)
  have HC6 := Lib.hid (HC5.out.below hb6 HC5.out.lt)
  have HR6 := Lib.hid (HR5.out.below hb6 HR5.out.lt)
  have HB6 := Lib.hid (HB5.out.trans (hb6.mono HB5.out.size))
  have HQ6 := Lib.hid (show w2.heap.size ≤ w6.heap.size from Nat.le_trans HQ5.out hb6.size)
  clear hb6 t0 t1
  have t0 := HC6.out.cell 0
  have t1 := HC6.out.cell 1
  go_wp2_with fail
  go_region_held3 (fun w' => w'.cell? ⟨bt, 0, none⟩ = some (.slice (some ⟨g1, 0, none⟩) m d1) ∧ w'.cell? ⟨bt, 1, none⟩ = some (.slice a2 ne d2))
    (first | exact ⟨t0, t1⟩ | assumption)
    (first | (go_at_call 78; refine (HER.out _).mono ?_; rintro r w9 ⟨rfl, rfl⟩))
  have HR6d := Lib.hid HR6.out.drew
  have HT6d := Lib.hid HT6.out.drew
  have HB6d := Lib.hid HB6.out.drew
  have HC6d := Lib.hid HC6.out.drew
  go_wp2_with fail
  refine (HPk.out _ _ _ _ _ HT6d.out.2.2.2.2.tb).mono ?_
  rintro e w7 ⟨g3, d3, a4, d4, rfl, ho7, hb7⟩
  have hb67 : Below w6.heap.size w6 w7 := ((Below.refl _ w6).drew).trans hb7
  have HC7 := Lib.hid (HC6.out.below hb67 HC6.out.lt)
  have HR7 := Lib.hid (HR6.out.below hb67 HR6.out.lt)
  have HB7 := Lib.hid (HB6.out.trans (hb67.mono HB6.out.size))
  have HO7 := Lib.hid (show OwD w7 w6.heap.size P1 P2 g3 d3 a4 d4 from ho7)
  have hlb : bt < w6.heap.size := HC6.out.lt
  have hlw : w2.heap.size ≤ bt := HT6.out.1
  have HQ7 := Lib.hid (show w2.heap.size ≤ w7.heap.size from Nat.le_trans HQ6.out hb67.size)
  have HT8 := Lib.hid (show TbO ((w7.setCell ⟨bt, 0, none⟩ (.slice (some ⟨g3, 0, none⟩) P1.length d3)).setCell ⟨bt, 1, none⟩ (.slice a4 P2.length d4)) w2.heap.size P1 P2 bt g3 d3 a4 d4 from
    have q1 := HO7.out.lt1.1
    have q2 : ∀ g9, a4 = some ⟨g9, 0, none⟩ → g9 ≠ bt := by rintro g9 rfl; have := HO7.out.lt2.1; omega
    ⟨hlw, by omega, q2, two_set HC7.out _ _, ((HO7.out.setOff (by omega) q2).setOff (by omega) q2).wide (by have := HQ6.out; omega)⟩)
  rw [HP1.out, HP2.out] at HT8
  have HR8 := Lib.hid ((HR7.out.setOff (g' := bt) (i := 0) (v := .slice (some ⟨g3, 0, none⟩) n1 d3) (by have := HW2.out; omega)).setOff (g' := bt) (i := 1) (v := .slice a4 n2 d4) (by have := HW2.out; omega))
  have HB8 := Lib.hid ((HB7.out.setCell (p := ⟨bt, 0, none⟩) (show w.heap.size ≤ bt by have := HW2.out; omega) (.slice (some ⟨g3, 0, none⟩) n1 d3)).setCell (p := ⟨bt, 1, none⟩) (show w.heap.size ≤ bt by have := HW2.out; omega) (.slice a4 n2 d4))
  have HQ8 := Lib.hid (show w2.heap.size ≤ ((w7.setCell ⟨bt, 0, none⟩ (.slice (some ⟨g3, 0, none⟩) n1 d3)).setCell ⟨bt, 1, none⟩ (.slice a4 n2 d4)).heap.size by have := HQ7.out; simpa using this)
  clear ho7 hb7 hb67 hlb hlw t0 t1
  have t0 := HC7.out.cell 0
  have t1 := HC7.out.cell 1
  have y0 := HC7.out.free 0
  have y1 := HC7.out.free 1
  go_wp2_with fail
  refine (HCt.out _).mono ?_
  rintro e wk ⟨rfl, hbk⟩
  have HTk := Lib.hid (HT8.out.below hbk)
  have HRk := Lib.hid (HR8.out.below hbk HR8.out.lt)
  have HBk := Lib.hid (HB8.out.trans (hbk.mono HB8.out.size))
  have HQk := Lib.hid (show w2.heap.size ≤ wk.heap.size from Nat.le_trans HQ8.out hbk.size)
  clear hbk
  go_wp2_with fail
  refine (HH.out _).mono ?_
  rintro e w9 ⟨rfl, rfl⟩
  go_wp2_with fail
  refine (HPt.out _ _ _ _ _ w2.heap.size _ HTk.out HQk.out).mono ?_
  rintro e wp ⟨a9, c9, rfl, htp, hbp⟩
  have HTp := Lib.hid htp
  have HRp := Lib.hid (HRk.out.below hbp (by have := HW2.out; omega))
  have HBp := Lib.hid (HBk.out.trans (hbp.mono (by have := HW2.out; omega)))
  have HCp := Lib.hid htp.2.2.2.1
  rw [List.length_set, List.length_append, HP1.out, HP2.out] at HCp
  clear htp hbp t0 t1 y0 y1
  have t0 := HCp.out.cell 0
  have t1 := HCp.out.cell 1
  have z0 := HRp.out.cell 0
  have z1 := HRp.out.cell 1
  have z2 := HRp.out.free 0
  have z3 := HRp.out.free 1
  go_wp2_with fail
  have hq1 := HTp.out.2.2.2.2.lt1.1
  have hq2 : ∀ g9 : Nat, (a9 : Option Addr) = some ⟨g9, 0, none⟩ → w2.heap.size ≤ g9 := by intro g9 h9; have h8 := HTp.out; rw [h9] at h8; exact h8.2.2.2.2.lt2.1
  have hw := HW2.out
  exact bodyPost_ret (v := .tuple #[.agg #[.slice (some ⟨g3, 0, none⟩) n1 d3, .slice a9 (n2 + 1) c9], .bool true]) (by exact res_ct (p := 6) (u := 7) (ty := 27) rfl _ _ (w.heap.size + 1) #[.slice (some ⟨g3, 0, none⟩) n1 d3, .slice a9 (n2 + 1) c9] rfl (ld_dict (two_set HRp.out (.slice (some ⟨g3, 0, none⟩) n1 d3) (.slice a9 (n2 + 1) c9)))) rfl
    ⟨some ⟨g3, 0, none⟩, d3, a9, c9, by rw [List.length_set, List.length_append, HP1.out, HP2.out]; rfl, (((HTp.out.2.2.2.2.setOff (by omega) (by intro g9 h9; have := hq2 g9 h9; omega)).setOff (by omega) (by intro g9 h9; have := hq2 g9 h9; omega)).wide (by omega)).od, (HBp.out.setCell (by show w.heap.size ≤ w.heap.size + 1; omega) _).setCell (by show w.heap.size ≤ w.heap.size + 1; omega) _⟩
set_option maxRecDepth 20000 in
theorem implSet_any (ix : List Int) (es : List Ent) (key : ByteArray) (val : Int) (g c1 c2 : Nat) (a : Option Addr) (w : World) (h : Tb w g ix a es) (hl : es.length ≤ 1048576) (hm : ix.length ≤ 1048576) (hks : KeysS es) (hky : key.size ≤ 1048576) :
    Calls Try.prog 36 #[.agg #[.slice (some ⟨g, 0, none⟩) ix.length c1, .slice a es.length c2], .string key, .int .i64 val] w (OdP (stV ix es key val) w) := by
  by_cases hno : (keyB key && (okV val && dokB ix es)) = false
  · rw [stV_no hno]
    exact implSet_no ix es key val g c1 c2 a w h hl hm hks hky hno
  · have hyes : keyB key = true ∧ okV val = true ∧ dokB ix es = true := by simpa using hno
    obtain ⟨h1, h2, h3⟩ := hyes
    rw [stV_yes h1 h2 h3]
    have hd := dok_of h3
    rcases plc_in2 (key := key) hd.1 (hsh_lt key.data.toList) with hp | ⟨k, hp, hkn⟩
    · have hp2 : plc ix es key (hk key) = -1 := hp
      rw [hp2, if_neg (by decide)]
      by_cases h40 : liveN es = 40
      · rw [if_pos h40]
        exact implSet_full ix es key val g c1 c2 a w h hl hm hks hky h1 h2 h3 hp2 h40
      · rw [if_neg h40]
        have hle := hd.2.1
        by_cases hro : es.length = 2 * ix.length / 3
        · rw [if_pos hro]
          exact implSet_pack ix es key val g c1 c2 a w h hl hm hks hky h1 h2 h3 hp2 (by omega) hro
        · rw [if_neg hro]
          exact implSet_put ix es key val g c1 c2 a w h hl hm hks hky h1 h2 h3 hp2 h40 hro hle
    · have hp2 : plc ix es key (hk key) = (k : Int) := hp
      rw [hp2, if_pos (by omega), Int.toNat_natCast]
      exact implSet_val ix es key val g c1 c2 a w h hl hm hks hky h1 h2 h3 k hp2 hkn
theorem TbT.val {T : TypeId} {w : World} {b bt g1 c1 c2 g2 k : Nat} {ix : List Int} {es : List Ent} {e : Ent} (h : TbT T w b ix es bt g1 c1 (some ⟨g2, 0, none⟩) c2) (he : es[k]? = some e) (v : Int) : TbT T (w.setCell ⟨g2, k * 4 + 2, none⟩ (.int .i64 v)) b ix (valP es k v) bt g1 c1 (some ⟨g2, 0, none⟩) c2 := by
  have hn := Ne.symm (h.2.2.1 g2 rfl)
  have hg := Ne.symm (h.2.2.2.2.2.2 g2 rfl)
  have e1 : valP es k v = es.set k { e with val := v } := by unfold valP; rw [he]
  have h9 := h.2.2.2.2.2.1.stored (r := 2) (u := .int .i64 v) (e' := { e with val := v }) he (by omega) (by simp [Ent.row])
  rw [e1]
  refine ⟨h.1, h.2.1, h.2.2.1, ?_, h.2.2.2.2.1.setOff hg, ?_, h.2.2.2.2.2.2⟩
  · rw [List.length_set]; exact h.2.2.2.1.setOff hn
  · rw [List.length_set]; exact h9
section
variable {P : Program} {ops : Array Oper} {o : Oper} {a : Act} {w : World} {K : Act → World → Prop} {Q : Exit → Act → World → Prop} {E : Prop}
theorem stepCall (hgd : o.guard = none) (f : FuncId) (x : Operand) (ts : Array TypeId) (v u : Value) (ho : o.op = .call { callee := .value (.func f), args := #[x], argTypes := ts }) (hx : a.eval x = v) (hb : plainFn P f = true)
    (c : Calls P f #[v] w fun e w' => e = .returned u ∧ w' = w) (h : K (a.put o.dst u) w) : if Region.wanted o (yielded ops a.tmps) = true then Oper.wp P o a w K Q else E := by
  have hwt : Region.wanted o (yielded ops a.tmps) = true := by simp [Region.wanted, hgd]
  rw [if_pos hwt]
  unfold Oper.wp
  rw [puts_call1 (P := P) (w := w) f x ts v ho hx hb]
  refine Calls.mono c fun e w' he => ?_
  obtain ⟨rfl, rfl⟩ := he
  exact h
end
set_option maxRecDepth 20000 in
set_option maxHeartbeats 8000000 in
theorem setKey_val (ix : List Int) (es : List Ent) (key : ByteArray) (val : Int) (g c1 c2 : Nat) (a : Option Addr) (w : World) (h : Tb w g ix a es) (hl : es.length ≤ 1048576) (hm : ix.length ≤ 1048576) (_ : KeysS es) (hky : key.size ≤ 1048576) (hcap : a = none → c2 = 0) (_ : -1000000 ≤ val ∧ val ≤ 1000000) (hd : DOk ix es) (k : Nat) (hp : plc ix es key (hk key) = (k : Int)) (hkn : k < es.length) :
    Calls Try.prog 76 #[.agg #[.slice (some ⟨g, 0, none⟩) ix.length c1, .slice a es.length c2], .string key, .int .i64 val] w (OdQ (ix, valP es k val) w) := by
  obtain ⟨w1, hw1⟩ : ∃ w1, w1 = (w.alloc (Obj.cells #[.slice (some ⟨g, 0, none⟩) ix.length c1, .slice a es.length c2] 27)).alloc (Obj.cells #[.slice none 0 0, .slice none 0 0] 27) := ⟨_, rfl⟩
  have HB1 := Lib.hid (show Below w.heap.size w w1 from by rw [hw1]; exact ((Below.refl _ _).alloc (Nat.le_refl _) _).alloc (by simp) _)
  have HX1 := Lib.hid (show Blk w1 w.heap.size 27 #[.slice (some ⟨g, 0, none⟩) ix.length c1, .slice a es.length c2] from by rw [hw1]; exact (Blk.newest w _ _).alloc _)
  have HY1 := Lib.hid (show Blk w1 (w.heap.size + 1) 27 #[.slice none 0 0, .slice none 0 0] from by rw [hw1]; exact Blk.new _ _ _ (by simp))
  have HT1 := Lib.hid (h.below HB1.out)
  have HSZ := Lib.hid (show w1.heap.size = w.heap.size + 2 by rw [hw1]; simp)
  have HW1 := Lib.hid hw1
  have hmx : 8 ≤ ix.length ∧ ix.length ≤ 128 := by have := slotN_mem hd.1.1; simp at this; omega
  have hex : es.length ≤ 128 := by have := hd.1.2.1; omega
  have HCp := Lib.hid (fun w h => copyDict_any ix es g c1 c2 a w h hl hm hcap (by omega))
  have HSl := Lib.hid (fun g c1 c2 a w h => slotOf_ok ix es key g c1 c2 a w h hd.1 hky)
  have hfs := (fst_ok (key := key) hd.1 (hsh_lt key.data.toList)).2.2.2
  have hsl := fstS_lt (key := key) hd.1 (hsh_lt key.data.toList)
  have hhk : hk key = hsh key.data.toList := rfl
  rw [← hhk] at HSl hfs hsl
  unfold OtP at HCp
  rw [hp] at hfs
  obtain ⟨e9, he9⟩ : ∃ e, es[k]? = some e := ⟨_, List.getElem?_eq_getElem hkn⟩
  have HGE := Lib.hid he9
  have HP4 := Lib.hid hfs
  generalize hmm : ix.length = m at *
  generalize hne : es.length = ne at *
  have HNE := Lib.hid hne
  have HMM := Lib.hid hmm
  clear hfs
  clear hmm hne h hw1 hcap hd hhk hp he9
  generalize hk key = hh at *
  generalize fstS ix es key hh = s at *
  have s1 : (s : Int) < (m : Int) := by omega
  have s0 : 0 ≤ (s : Int) := by omega
  have k1 : (k : Int) < (ne : Int) := by omega
  have k0 : 0 ≤ (k : Int) := by omega
  have b0 := HX1.out.cell 0
  have b1 := HX1.out.cell 1
  go_enter Try.func76, Try.ntmps76
  go_wp2_with fail
  rw [← HW1.out]
  refine (HCp.out _ HT1.out).mono ?_
  rintro e w3 ⟨g1, d1, a2, d2, rfl, ho3, hb3⟩
  have HTb := Lib.hid (show TbT 27 (w3.alloc (Obj.cells #[.slice (some ⟨g1, 0, none⟩) ix.length d1, .slice a2 es.length d2] 27)) w1.heap.size ix es w3.heap.size g1 d1 a2 d2 from ⟨hb3.size, by have := ho3.lt1; omega, by rintro g9 rfl; have := ho3.lt2; omega, Blk.newest _ _ _, ho3.below ((Below.refl _ _).alloc (Nat.le_refl _) _)⟩)
  rw [HMM.out, HNE.out] at HTb
  have hb3' : Below w1.heap.size w1 (w3.alloc (Obj.cells #[.slice (some ⟨g1, 0, none⟩) m d1, .slice a2 ne d2] 27)) := hb3.alloc hb3.size _
  have HB3 := Lib.hid (HB1.out.trans (hb3'.mono HB1.out.size))
  have HR3 := Lib.hid (HY1.out.below hb3' HY1.out.lt)
  have HQ3 := Lib.hid (show w1.heap.size ≤ (w3.alloc (Obj.cells #[.slice (some ⟨g1, 0, none⟩) m d1, .slice a2 ne d2] 27)).heap.size from hb3'.size)
  have HC3 := Lib.hid HTb.out.2.2.2.1
  rw [HMM.out, HNE.out] at HC3
  clear ho3 hb3 hb3' b0 b1
  go_wp2_with fail
  generalize hw4 : w3.alloc (Obj.cells #[.slice (some ⟨g1, 0, none⟩) m d1, .slice a2 ne d2] 27) = w4 at *
  generalize w3.heap.size = bt at *
  clear hw4
  refine (HSl.out _ _ _ _ _ HTb.out.2.2.2.2.tb).mono ?_
  rintro e w5 ⟨rfl, hb5⟩
  have HT5 := Lib.hid (HTb.out.below hb5)
  have HB5 := Lib.hid (HB3.out.trans ((hb5.mono HQ3.out).mono HB1.out.size))
  have HR5 := Lib.hid (HR3.out.below (hb5.mono HQ3.out) HY1.out.lt)
  have HQ5 := Lib.hid (show w1.heap.size ≤ w5.heap.size from Nat.le_trans HQ3.out hb5.size)
  have HC5 := Lib.hid HT5.out.2.2.2.1
  rw [HMM.out, HNE.out] at HC5
  clear hb5
  have t0 := HC5.out.cell 0
  have t1 := HC5.out.cell 1
  have i0 := (HT5.out.2.2.2.2.fact HP4.out).1
  obtain ⟨g2, hg2⟩ : ∃ g2, a2 = some ⟨g2, 0, none⟩ := by
    obtain ⟨g2, _, h9, _⟩ := (HT5.out.2.2.2.2.tb.2.2).at (show k < es.length by rw [HNE.out]; exact hkn)
    exact ⟨g2, h9⟩
  subst hg2
  obtain ⟨_, _, x2, _⟩ := HT5.out.2.2.2.2.2.1.cellsAt HGE.out
  have f2 := HT5.out.2.2.2.2.2.1.free (k * 4 + 2)
  have HT6 := Lib.hid (HT5.out.val HGE.out val)
  have HC6 := Lib.hid HT6.out.2.2.2.1
  rw [valP_len, HMM.out, HNE.out] at HC6
  have HR6 := Lib.hid (HR5.out.setOff (g' := g2) (i := k * 4 + 2) (v := .int .i64 val) (by have := HT5.out.2.2.2.2.lt2.1; have := HSZ.out; omega))
  have HB6 := Lib.hid (HB5.out.setCell (p := ⟨g2, k * 4 + 2, none⟩) (show w.heap.size ≤ g2 by have := HT5.out.2.2.2.2.lt2.1; have := HSZ.out; omega) (.int .i64 val))
  have i6 := (HT6.out.2.2.2.2.fact HP4.out).1
  have u0 := HC6.out.cell 0
  have u1 := HC6.out.cell 1
  have z0 := HR6.out.cell 0
  have z1 := HR6.out.cell 1
  have z2 := HR6.out.free 0
  have z3 := HR6.out.free 1
  go_wp2_with fail
  go_region_held3 (fun w' => w'.cell? ⟨bt, 0, none⟩ = some (.slice (some ⟨g1, 0, none⟩) m d1) ∧ w'.cell? ⟨bt, 1, none⟩ = some (.slice (some ⟨g2, 0, none⟩) ne d2) ∧ w'.cell? ⟨g1, s, none⟩ = some (.int .i64 (k : Int)))
    (first | exact ⟨t0, t1, i0⟩ | exact ⟨u0, u1, i6⟩)
    (first | fail)
  have HR6d := Lib.hid HR6.out.drew
  have HT6d : Hid (TbT 27 (w5.setCell ⟨g2, k * 4 + 2, none⟩ (.int .i64 val)).drew w1.heap.size ix (valP es k val) bt g1 d1 (some ⟨g2, 0, none⟩) d2) := Lib.hid HT6.out
  have HB6d := Lib.hid HB6.out.drew
  go_wp2_with fail
  have hq1 := HT6d.out.2.2.2.2.lt1.1
  have hq2 : ∀ g9 : Nat, ((some ⟨g2, 0, none⟩) : Option Addr) = some ⟨g9, 0, none⟩ → w1.heap.size ≤ g9 := by intro g9 h9; have h8 := HT6d.out; rw [h9] at h8; exact h8.2.2.2.2.lt2.1
  have hw := HSZ.out
  have HZ := Lib.hid (two_set HR6d.out (.slice (some ⟨g1, 0, none⟩) m d1) (.slice (some ⟨g2, 0, none⟩) ne d2))
  exact bodyPost_ret (v := .agg #[.slice (some ⟨g1, 0, none⟩) m d1, .slice (some ⟨g2, 0, none⟩) ne d2]) (results_cell_row rfl _ _ (w.heap.size + 1) 27 _ (0, 0) _ rfl HZ.out Try.underlying27 rfl (by kernel_rfl)) rfl
    ⟨some ⟨g1, 0, none⟩, d1, (some ⟨g2, 0, none⟩), d2, by rw [valP_len, HMM.out, HNE.out], (((HT6d.out.2.2.2.2.setOff (by omega) (by intro g9 h9; have := hq2 g9 h9; omega)).setOff (by omega) (by intro g9 h9; have := hq2 g9 h9; omega)).wide (by omega)).od, (HB6d.out.setCell (by show w.heap.size ≤ w.heap.size + 1; omega) _).setCell (by show w.heap.size ≤ w.heap.size + 1; omega) _⟩
set_option maxRecDepth 20000 in
set_option maxHeartbeats 8000000 in
theorem setKey_put (ix : List Int) (es : List Ent) (key : ByteArray) (val : Int) (g c1 c2 : Nat) (a : Option Addr) (w : World) (h : Tb w g ix a es) (hl : es.length ≤ 1048576) (hm : ix.length ≤ 1048576) (_ : KeysS es) (hky : key.size ≤ 1048576) (hcap : a = none → c2 = 0) (_ : -1000000 ≤ val ∧ val ≤ 1000000) (hd : DOk ix es) (hp : plc ix es key (hk key) = -1) (hro : es.length < 2 * ix.length / 3) :
    Calls Try.prog 76 #[.agg #[.slice (some ⟨g, 0, none⟩) ix.length c1, .slice a es.length c2], .string key, .int .i64 val] w (OdQ ((ix.set (fstS ix es key (hk key)) (es.length : Int)), es ++ [⟨key, (hk key : Int), val, true⟩]) w) := by
  obtain ⟨w1, hw1⟩ : ∃ w1, w1 = (w.alloc (Obj.cells #[.slice (some ⟨g, 0, none⟩) ix.length c1, .slice a es.length c2] 27)).alloc (Obj.cells #[.slice none 0 0, .slice none 0 0] 27) := ⟨_, rfl⟩
  have HB1 := Lib.hid (show Below w.heap.size w w1 from by rw [hw1]; exact ((Below.refl _ _).alloc (Nat.le_refl _) _).alloc (by simp) _)
  have HX1 := Lib.hid (show Blk w1 w.heap.size 27 #[.slice (some ⟨g, 0, none⟩) ix.length c1, .slice a es.length c2] from by rw [hw1]; exact (Blk.newest w _ _).alloc _)
  have HY1 := Lib.hid (show Blk w1 (w.heap.size + 1) 27 #[.slice none 0 0, .slice none 0 0] from by rw [hw1]; exact Blk.new _ _ _ (by simp))
  have HT1 := Lib.hid (h.below HB1.out)
  have HSZ := Lib.hid (show w1.heap.size = w.heap.size + 2 by rw [hw1]; simp)
  have HW1 := Lib.hid hw1
  have hmx : 8 ≤ ix.length ∧ ix.length ≤ 128 := by have := slotN_mem hd.1.1; simp at this; omega
  have hex : es.length ≤ 128 := by have := hd.1.2.1; omega
  have HCp := Lib.hid (fun w h => copyDict_any ix es g c1 c2 a w h hl hm hcap (by omega))
  have HSl := Lib.hid (fun g c1 c2 a w h => slotOf_ok ix es key g c1 c2 a w h hd.1 hky)
  have hfs := (fst_ok (key := key) hd.1 (hsh_lt key.data.toList)).2.2.2
  have hsl := fstS_lt (key := key) hd.1 (hsh_lt key.data.toList)
  have hhk : hk key = hsh key.data.toList := rfl
  rw [← hhk] at HSl hfs hsl
  unfold OtP at HCp
  rw [hp] at hfs
  have HP4 := Lib.hid hfs
  have HHo := Lib.hid (fun w => (hashOf_any key w hky).mono fun _ _ h9 => And.intro h9.1 h9.2.symm)
  rw [← hhk] at HHo
  have hrm9 : 2 * ix.length / 3 ≤ 128 := by omega
  have lr : ((ix.length : Int) * 2).tdiv 3 = ((2 * ix.length / 3 : Nat) : Int) := by rw [Int.tdiv_eq_ediv_of_nonneg (by omega)]; omega
  have lro : ¬ ((2 * ix.length / 3 : Nat) : Int) ≤ (es.length : Int) := by omega
  generalize 2 * ix.length / 3 = rm at *
  generalize hmm : ix.length = m at *
  generalize hne : es.length = ne at *
  have HNE := Lib.hid hne
  have HMM := Lib.hid hmm
  clear hfs
  clear hmm hne h hw1 hcap hd hhk hp hro
  generalize hk key = hh at *
  generalize fstS ix es key hh = s at *
  have HP5 := HP4
  have s1 : (s : Int) < (m : Int) := by omega
  have s0 : 0 ≤ (s : Int) := by omega
  have b0 := HX1.out.cell 0
  have b1 := HX1.out.cell 1
  go_enter Try.func76, Try.ntmps76
  go_wp2_with fail
  rw [← HW1.out]
  refine (HCp.out _ HT1.out).mono ?_
  rintro e w3 ⟨g1, d1, a2, d2, rfl, ho3, hb3⟩
  have HTb := Lib.hid (show TbT 27 (w3.alloc (Obj.cells #[.slice (some ⟨g1, 0, none⟩) ix.length d1, .slice a2 es.length d2] 27)) w1.heap.size ix es w3.heap.size g1 d1 a2 d2 from ⟨hb3.size, by have := ho3.lt1; omega, by rintro g9 rfl; have := ho3.lt2; omega, Blk.newest _ _ _, ho3.below ((Below.refl _ _).alloc (Nat.le_refl _) _)⟩)
  rw [HMM.out, HNE.out] at HTb
  have hb3' : Below w1.heap.size w1 (w3.alloc (Obj.cells #[.slice (some ⟨g1, 0, none⟩) m d1, .slice a2 ne d2] 27)) := hb3.alloc hb3.size _
  have HB3 := Lib.hid (HB1.out.trans (hb3'.mono HB1.out.size))
  have HR3 := Lib.hid (HY1.out.below hb3' HY1.out.lt)
  have HQ3 := Lib.hid (show w1.heap.size ≤ (w3.alloc (Obj.cells #[.slice (some ⟨g1, 0, none⟩) m d1, .slice a2 ne d2] 27)).heap.size from hb3'.size)
  have HC3 := Lib.hid HTb.out.2.2.2.1
  rw [HMM.out, HNE.out] at HC3
  clear ho3 hb3 hb3' b0 b1
  go_wp2_with fail
  generalize hw4 : w3.alloc (Obj.cells #[.slice (some ⟨g1, 0, none⟩) m d1, .slice a2 ne d2] 27) = w4 at *
  generalize w3.heap.size = bt at *
  clear hw4
  refine (HSl.out _ _ _ _ _ HTb.out.2.2.2.2.tb).mono ?_
  rintro e w5 ⟨rfl, hb5⟩
  have HT5 := Lib.hid (HTb.out.below hb5)
  have HB5 := Lib.hid (HB3.out.trans ((hb5.mono HQ3.out).mono HB1.out.size))
  have HR5 := Lib.hid (HR3.out.below (hb5.mono HQ3.out) HY1.out.lt)
  have HQ5 := Lib.hid (show w1.heap.size ≤ w5.heap.size from Nat.le_trans HQ3.out hb5.size)
  have HC5 := Lib.hid HT5.out.2.2.2.1
  rw [HMM.out, HNE.out] at HC5
  clear hb5
  have t0 := HC5.out.cell 0
  have t1 := HC5.out.cell 1
  have i0 := (HT5.out.2.2.2.2.fact HP4.out).1
  have i1 := (HT5.out.2.2.2.2.fact HP5.out).2
  have HT6 := Lib.hid (HT5.out.slot s (ne : Int))
  have HC6 := Lib.hid HT6.out.2.2.2.1
  rw [List.length_set, HMM.out, HNE.out] at HC6
  have HE6 := Lib.hid HT6.out.2.2.2.2.2.1
  rw [HNE.out] at HE6
  have HR6 := Lib.hid (HR5.out.setOff (g' := g1) (i := s) (v := .int .i64 (ne : Int)) (by have := HT5.out.2.2.2.2.lt1.1; have := HSZ.out; omega))
  have HB6 := Lib.hid (HB5.out.setCell (p := ⟨g1, s, none⟩) (show w.heap.size ≤ g1 by have := HT5.out.2.2.2.2.lt1.1; have := HSZ.out; omega) (.int .i64 (ne : Int)))
  have hbt : bt < w5.heap.size := HC5.out.lt
  go_upto_region 10 with fail
  generalize hw6 : w5.setCell ⟨g1, s, none⟩ (.int .i64 (ne : Int)) = w6 at *
  have hqs : w1.heap.size ≤ w6.heap.size := by rw [← hw6]; have := HQ5.out; simpa using this
  have hbt6 : bt < w6.heap.size := HC6.out.lt
  have HQS := Lib.hid hqs
  clear hw6 hbt hqs t0 t1 i0 i1
  have t0 := HC6.out.cell 0
  have t1 := HC6.out.cell 1
  go_region_law (first | (refine stepCall rfl 50 (.tmp 59) #[9] (.string key) (.int .i64 (hh : Int)) rfl rfl (by kernel_rfl) (HHo.out _) ?_) | (refine stepE rfl (.tmp 57) (.tmp 63) rfl w1.heap.size _ es [(⟨key, (hh : Int), val, true⟩ : Ent)] (some ⟨w6.heap.size, 0, none⟩) 1 1 rfl rfl (fun e => by cases e) rfl (HE6.out.below ((Below.refl _ _).alloc (Nat.le_refl _) _).drew) (show Re _ _ _ from .inr ⟨_, rfl, en_one (e := (⟨key, (hh : Int), val, true⟩ : Ent)) (Blk.newest w6 64 #[.string key, .int .i64 (hh : Int), .int .i64 val, .bool true])⟩) (by rw [HNE.out]; omega) (show w1.heap.size ≤ _ from by have := HQS.out; first | (simp; omega) | omega) (ne + 1) (by rw [List.length_append, HNE.out]; rfl) ?_; intro a9 c9 w7 ho7 hg7 hb7 hd7; have HN7 := Lib.hid (show (es ++ [(⟨key, (hh : Int), val, true⟩ : Ent)]).length = ne + 1 by rw [List.length_append, HNE.out]; rfl); have HA7 := Lib.hid (TbT.app (T := 27) (e := (⟨key, (hh : Int), val, true⟩ : Ent)) (a3 := a9) (c3 := c9) (by decide) HT6.out ((Below.refl _ _).alloc (Nat.le_refl _) _).drew (by rw [HNE.out]; exact hg7) (by rw [HN7.out]; exact ho7)); have HC7 := Lib.hid HA7.out.1; have HT8 := Lib.hid HA7.out.2; rw [List.length_set, HMM.out, HNE.out] at HC7; rw [HN7.out] at HT8; have hb67 : Below w1.heap.size w6 w7 := ((Below.refl w1.heap.size w6).alloc HQS.out _).drew.trans hb7; have HB8 := Lib.hid ((HB6.out.trans (hb67.mono HB1.out.size)).setCell (p := ⟨bt, 1, none⟩) (show w.heap.size ≤ bt by have := HT6.out.1; have := HSZ.out; omega) (.slice a9 (ne + 1) c9)); have HR8 := Lib.hid ((HR6.out.below hb67 (by have := HSZ.out; omega)).setOff (g' := bt) (i := 1) (v := .slice a9 (ne + 1) c9) (by have := HT6.out.1; have := HSZ.out; omega)); have HC8 := Lib.hid HT8.out.2.2.2.1; rw [List.length_set, HMM.out, HN7.out] at HC8; have u0 := HC7.out.cell 0; have u1 := HC7.out.cell 1; have u2 := HC7.out.free 0; have u3 := HC7.out.free 1; clear ho7 hg7 hb7 hd7 hb67))
  all_goals (clear t0 t1 u0 u1 u2 u3)
  all_goals
    have t0 := HC8.out.cell 0
    have t1 := HC8.out.cell 1
    have z0 := HR8.out.cell 0
    have z1 := HR8.out.cell 1
    have z2 := HR8.out.free 0
    have z3 := HR8.out.free 1
    go_wp2_with fail
    have hq1 := HT8.out.2.2.2.2.lt1.1
    have hq2 : ∀ g9 : Nat, (a9 : Option Addr) = some ⟨g9, 0, none⟩ → w1.heap.size ≤ g9 := by intro g9 h9; have h8 := HT8.out; rw [h9] at h8; exact h8.2.2.2.2.lt2.1
    have hw := HSZ.out
    have HZ := Lib.hid (two_set HR8.out (.slice (some ⟨g1, 0, none⟩) m d1) (.slice a9 (ne + 1) c9))
    exact bodyPost_ret (v := .agg #[.slice (some ⟨g1, 0, none⟩) m d1, .slice a9 (ne + 1) c9]) (results_cell_row rfl _ _ (w.heap.size + 1) 27 _ (0, 0) _ rfl HZ.out Try.underlying27 rfl (by kernel_rfl)) rfl
      ⟨some ⟨g1, 0, none⟩, d1, a9, c9, by rw [List.length_set, HMM.out, HN7.out], (((HT8.out.2.2.2.2.setOff (by omega) (by intro g9 h9; have := hq2 g9 h9; omega)).setOff (by omega) (by intro g9 h9; have := hq2 g9 h9; omega)).wide (by omega)).od, (HB8.out.setCell (by show w.heap.size ≤ w.heap.size + 1; omega) _).setCell (by show w.heap.size ≤ w.heap.size + 1; omega) _⟩
section
variable {P : Program} {ops : Array Oper} {o : Oper} {a : Act} {w : World} {K : Act → World → Prop} {Q : Exit → Act → World → Prop} {E : Prop}
theorem stepCallB (hgd : o.guard = none) (f : FuncId) (x : Operand) (ts : Array TypeId) (v u : Value) (ho : o.op = .call { callee := .value (.func f), args := #[x], argTypes := ts }) (hx : a.eval x = v) (hb : plainFn P f = true)
    (c : Calls P f #[v] w fun e w' => e = .returned u ∧ Below w.heap.size w w') (h : ∀ w', Below w.heap.size w w' → K (a.put o.dst u) w') : if Region.wanted o (yielded ops a.tmps) = true then Oper.wp P o a w K Q else E := by
  have hwt : Region.wanted o (yielded ops a.tmps) = true := by simp [Region.wanted, hgd]
  rw [if_pos hwt]
  unfold Oper.wp
  rw [puts_call1 (P := P) (w := w) f x ts v ho hx hb]
  refine Calls.mono c fun e w' he => ?_
  obtain ⟨rfl, hb⟩ := he
  exact h w' hb
theorem stepCall2 (hgd : o.guard = none) (f : FuncId) (x y : Operand) (ts : Array TypeId) (v u : Value) {R : Ending → World → Prop} (ho : o.op = .call { callee := .value (.func f), args := #[x, y], argTypes := ts }) (hx : a.eval x = v) (hy : a.eval y = u) (hb : plainFn P f = true)
    (c : Calls P f #[v, u] w R) (h : ∀ e w', R e w' → ∃ z, e = .returned z ∧ K (a.put o.dst z) w') : if Region.wanted o (yielded ops a.tmps) = true then Oper.wp P o a w K Q else E := by
  have hwt : Region.wanted o (yielded ops a.tmps) = true := by simp [Region.wanted, hgd]
  rw [if_pos hwt]
  unfold Oper.wp
  rw [puts_call2 (P := P) (w := w) f x y ts v u ho hx hy hb]
  refine Calls.mono c fun e w' he => ?_
  obtain ⟨z, rfl, hz⟩ := h e w' he
  exact hz
end
set_option maxRecDepth 20000 in
set_option maxHeartbeats 8000000 in
theorem setKey_pack (ix : List Int) (es : List Ent) (key : ByteArray) (val : Int) (g c1 c2 : Nat) (a : Option Addr) (w : World) (h : Tb w g ix a es) (hl : es.length ≤ 1048576) (hm : ix.length ≤ 1048576) (hks : KeysS es) (hky : key.size ≤ 1048576) (hcap : a = none → c2 = 0) (_ : -1000000 ≤ val ∧ val ≤ 1000000) (hd : DOk ix es) (hp : plc ix es key (hk key) = -1) (h40 : liveN es + 1 ≤ 40) (hro : es.length = 2 * ix.length / 3) :
    Calls Try.prog 76 #[.agg #[.slice (some ⟨g, 0, none⟩) ix.length c1, .slice a es.length c2], .string key, .int .i64 val] w (OdQ (((pkd (scN (liveN es + 1)) es).1.set (fstS (pkd (scN (liveN es + 1)) es).1 (pkd (scN (liveN es + 1)) es).2 key (hk key)) ((pkd (scN (liveN es + 1)) es).2.length : Int)), (pkd (scN (liveN es + 1)) es).2 ++ [⟨key, (hk key : Int), val, true⟩]) w) := by
  obtain ⟨w1, hw1⟩ : ∃ w1, w1 = (w.alloc (Obj.cells #[.slice (some ⟨g, 0, none⟩) ix.length c1, .slice a es.length c2] 27)).alloc (Obj.cells #[.slice none 0 0, .slice none 0 0] 27) := ⟨_, rfl⟩
  have HB1 := Lib.hid (show Below w.heap.size w w1 from by rw [hw1]; exact ((Below.refl _ _).alloc (Nat.le_refl _) _).alloc (by simp) _)
  have HX1 := Lib.hid (show Blk w1 w.heap.size 27 #[.slice (some ⟨g, 0, none⟩) ix.length c1, .slice a es.length c2] from by rw [hw1]; exact (Blk.newest w _ _).alloc _)
  have HY1 := Lib.hid (show Blk w1 (w.heap.size + 1) 27 #[.slice none 0 0, .slice none 0 0] from by rw [hw1]; exact Blk.new _ _ _ (by simp))
  have HT1 := Lib.hid (h.below HB1.out)
  have HSZ := Lib.hid (show w1.heap.size = w.heap.size + 2 by rw [hw1]; simp)
  have HW1 := Lib.hid hw1
  have hmx : 8 ≤ ix.length ∧ ix.length ≤ 128 := by have := slotN_mem hd.1.1; simp at this; omega
  have hex : es.length ≤ 128 := by have := hd.1.2.1; omega
  have HCp := Lib.hid (fun w h => copyDict_any ix es g c1 c2 a w h hl hm hcap (by omega))
  have HSl := Lib.hid (fun g c1 c2 a w h => slotOf_ok ix es key g c1 c2 a w h hd.1 hky)
  have hfs := (fst_ok (key := key) hd.1 (hsh_lt key.data.toList)).2.2.2
  have hsl := fstS_lt (key := key) hd.1 (hsh_lt key.data.toList)
  have hhk : hk key = hsh key.data.toList := rfl
  rw [← hhk] at HSl hfs hsl
  unfold OtP at HCp
  rw [hp] at hfs
  have HP4 := Lib.hid hfs
  have HHo := Lib.hid (fun w => (hashOf_any key w hky).mono fun _ _ h9 => And.intro h9.1 h9.2.symm)
  rw [← hhk] at HHo
  have hrm9 : 2 * ix.length / 3 ≤ 128 := by omega
  have lr : ((ix.length : Int) * 2).tdiv 3 = ((2 * ix.length / 3 : Nat) : Int) := by rw [Int.tdiv_eq_ediv_of_nonneg (by omega)]; omega
  have hpo := pkd_ok (c := scN (liveN es + 1)) (es := es) (slotN_sc _) (once_of hd) (by have := scN_room h40; omega) es.length (Nat.le_refl _)
  rw [List.take_length] at hpo
  have hplen : (pkd (scN (liveN es + 1)) es).1.length ≤ 128 ∧ (pkd (scN (liveN es + 1)) es).2.length ≤ 128 := by have h7 := hpo.1.2.1; have h8 := scN_le (liveN es + 1); have h9 := hpo.2.1; omega
  have HLv := Lib.hid (fun g1 c1 a2 c2 w h => liveEntries_any (.slice (some ⟨g1, 0, none⟩) ix.length c1) es a2 c2 w h hl rfl)
  have HSf := Lib.hid (fun w => sizeFor_any (liveN es + 1) w (by omega))
  rw [show ((liveN es + 1 : Nat) : Int) = (liveN es : Int) + 1 by omega] at HSf
  have HPk := Lib.hid (fun g c1 c2 a w h => specPacked_any ix es g c1 c2 (scN (liveN es + 1)) a w h hl hm (slotN_sc _) (by have := scN_room h40; omega) (once_of hd) hks)
  unfold OtP at HPk
  have HS2 := Lib.hid (fun g c1 c2 a w h => slotOf_ok (pkd (scN (liveN es + 1)) es).1 (pkd (scN (liveN es + 1)) es).2 key g c1 c2 a w h hpo.1 hky)
  rw [← hhk] at HS2
  obtain ⟨n9, hfs2⟩ : ∃ n9, (pkd (scN (liveN es + 1)) es).1[fstS (pkd (scN (liveN es + 1)) es).1 (pkd (scN (liveN es + 1)) es).2 key (hk key)]? = some n9 := ⟨_, (fst_ok (key := key) hpo.1 (hsh_lt key.data.toList)).2.2.2⟩
  have hsl2 : fstS (pkd (scN (liveN es + 1)) es).1 (pkd (scN (liveN es + 1)) es).2 key (hk key) < (pkd (scN (liveN es + 1)) es).1.length := fstS_lt (key := key) hpo.1 (hsh_lt key.data.toList)
  have HP5 := Lib.hid hfs2
  have lro : ((2 * ix.length / 3 : Nat) : Int) ≤ (es.length : Int) := by omega
  have lv40 : (liveN es : Int) ≤ 40 := by omega
  generalize pkd (scN (liveN es + 1)) es = PR at *
  obtain ⟨P1, P2⟩ := PR
  dsimp only at HPk HS2 HP5 hsl2 hplen ⊢
  generalize 2 * ix.length / 3 = rm at *
  generalize scN (liveN es + 1) = c9' at *
  generalize liveN es = lv at *
  generalize hmm : ix.length = m at *
  generalize hne : es.length = ne at *
  have HNE := Lib.hid hne
  have HMM := Lib.hid hmm
  generalize hp1 : P1.length = n1 at *
  generalize hp2 : P2.length = n2 at *
  have HP1 := Lib.hid hp1
  have HP2 := Lib.hid hp2
  clear hp1 hp2 hpo hfs hfs2
  clear hmm hne h hw1 hcap hd hhk hp hro h40
  generalize hk key = hh at *
  generalize fstS ix es key hh = s' at *
  generalize fstS P1 P2 key hh = s at *
  have s1' : (s' : Int) < (m : Int) := by omega
  have s0' : 0 ≤ (s' : Int) := by omega
  have s1 : (s : Int) < (n1 : Int) := by omega
  have s0 : 0 ≤ (s : Int) := by omega
  have b0 := HX1.out.cell 0
  have b1 := HX1.out.cell 1
  go_enter Try.func76, Try.ntmps76
  go_wp2_with fail
  rw [← HW1.out]
  refine (HCp.out _ HT1.out).mono ?_
  rintro e w3 ⟨g1, d1, a2, d2, rfl, ho3, hb3⟩
  have HTb := Lib.hid (show TbT 27 (w3.alloc (Obj.cells #[.slice (some ⟨g1, 0, none⟩) ix.length d1, .slice a2 es.length d2] 27)) w1.heap.size ix es w3.heap.size g1 d1 a2 d2 from ⟨hb3.size, by have := ho3.lt1; omega, by rintro g9 rfl; have := ho3.lt2; omega, Blk.newest _ _ _, ho3.below ((Below.refl _ _).alloc (Nat.le_refl _) _)⟩)
  rw [HMM.out, HNE.out] at HTb
  have hb3' : Below w1.heap.size w1 (w3.alloc (Obj.cells #[.slice (some ⟨g1, 0, none⟩) m d1, .slice a2 ne d2] 27)) := hb3.alloc hb3.size _
  have HB3 := Lib.hid (HB1.out.trans (hb3'.mono HB1.out.size))
  have HR3 := Lib.hid (HY1.out.below hb3' HY1.out.lt)
  have HQ3 := Lib.hid (show w1.heap.size ≤ (w3.alloc (Obj.cells #[.slice (some ⟨g1, 0, none⟩) m d1, .slice a2 ne d2] 27)).heap.size from hb3'.size)
  have HC3 := Lib.hid HTb.out.2.2.2.1
  rw [HMM.out, HNE.out] at HC3
  clear ho3 hb3 hb3' b0 b1
  go_wp2_with fail
  generalize hw4 : w3.alloc (Obj.cells #[.slice (some ⟨g1, 0, none⟩) m d1, .slice a2 ne d2] 27) = w4 at *
  generalize w3.heap.size = bt at *
  clear hw4
  refine (HSl.out _ _ _ _ _ HTb.out.2.2.2.2.tb).mono ?_
  rintro e w5 ⟨rfl, hb5⟩
  have HT5 := Lib.hid (HTb.out.below hb5)
  have HB5 := Lib.hid (HB3.out.trans ((hb5.mono HQ3.out).mono HB1.out.size))
  have HR5 := Lib.hid (HR3.out.below (hb5.mono HQ3.out) HY1.out.lt)
  have HQ5 := Lib.hid (show w1.heap.size ≤ w5.heap.size from Nat.le_trans HQ3.out hb5.size)
  have HC5 := Lib.hid HT5.out.2.2.2.1
  rw [HMM.out, HNE.out] at HC5
  clear hb5
  have t0 := HC5.out.cell 0
  have t1 := HC5.out.cell 1
  have i0 := (HT5.out.2.2.2.2.fact HP4.out).1
  go_wp2_with fail
  have HWR := Lib.hid (show IntKind.i64.wrap ((lv : Int) + 1) = (lv : Int) + 1 from by rw [IntKind.wrap_i64]; omega)
  go_cut [7] (fun p wx => p = .pointer (some ⟨bt, 0, none⟩) ∧ Hid (∃ g3 d3 a4 d4, Below w1.heap.size w5 wx ∧ TbT 27 wx w1.heap.size P1 P2 bt g3 d3 a4 d4))
  case first =>
    go_region_law (first | (refine stepCallB rfl 71 (.tmp 41) #[27] (.agg #[.slice (some ⟨g1, 0, none⟩) m d1, .slice a2 ne d2]) (.int .i64 (lv : Int)) rfl rfl (by kernel_rfl) (HLv.out _ _ _ _ _ (HT5.out.below (Below.refl _ _).drew).2.2.2.2.tb.2.2) ?_; intro w6 hb6; have HB56 := Lib.hid (show Below w5.heap.size w5 w6 from ((Below.refl _ w5).drew).trans hb6); have HC6 := Lib.hid (HC5.out.below HB56.out HC5.out.lt); have y0 := HC6.out.cell 0; have y1 := HC6.out.cell 1; clear hb6) | (refine stepCall rfl 70 (.tmp 43) #[3] (.int .i64 (IntKind.i64.wrap ((lv : Int) + 1))) (.int .i64 (c9' : Int)) rfl rfl (by kernel_rfl) (by rw [HWR.out]; exact (HSf.out _).mono fun _ _ h9 => And.intro h9.1 h9.2.symm) ?_) | (refine stepCall2 rfl 69 (.tmp 40) (.tmp 44) #[27, 3] (.agg #[.slice (some ⟨g1, 0, none⟩) m d1, .slice a2 ne d2]) (.int .i64 (c9' : Int)) rfl rfl rfl (by kernel_rfl) (HPk.out _ _ _ _ _ (HT5.out.below HB56.out).2.2.2.2.tb) ?_; rintro r w7 ⟨g3, d3, a4, d4, rfl, ho7, hb7⟩; refine ⟨_, rfl, ?_⟩; have HB57 := Lib.hid (show Below w5.heap.size w5 w7 from HB56.out.trans (hb7.mono HB56.out.size)); have HC7 := Lib.hid (HC5.out.below HB57.out HC5.out.lt); have v0 := HC7.out.cell 0; have v1 := HC7.out.cell 1; have v2 := HC7.out.free 0; have v3 := HC7.out.free 1; have HO7 := Lib.hid (show OwD w7 w5.heap.size P1 P2 g3 d3 a4 d4 from ho7.wide HB56.out.size); clear ho7 hb7))
    all_goals (try go_wp2)
    all_goals go_meet
    all_goals
      have hlb : bt < w5.heap.size := HC5.out.lt
      have hlw : w1.heap.size ≤ bt := HT5.out.1
      have q1 := HO7.out.lt1.1
      have q2 : ∀ g9, a4 = some ⟨g9, 0, none⟩ → g9 ≠ bt := by rintro g9 rfl; have := HO7.out.lt2.1; omega
      refine ⟨rfl, Lib.hid ⟨g3, d3, a4, d4, ((HB57.out.mono HQ5.out).setCell (p := ⟨bt, 0, none⟩) hlw _).setCell (p := ⟨bt, 1, none⟩) hlw _, hlw, by omega, q2, ?_, ((HO7.out.setOff (by omega) q2).setOff (by omega) q2).wide HQ5.out⟩⟩
      rw [HP1.out, HP2.out]
      exact two_set HC7.out _ _
  obtain ⟨rfl, HWc⟩ := hcut
  obtain ⟨g3, d3, a4, d4, hbc, htc⟩ := HWc.out
  have HTc := Lib.hid htc
  have HCc := Lib.hid htc.2.2.2.1
  rw [HP1.out, HP2.out] at HCc
  have HRc := Lib.hid (HR5.out.below hbc (by have := HSZ.out; omega))
  have HBc := Lib.hid (HB5.out.trans (hbc.mono HB1.out.size))
  have HQc := Lib.hid (show w1.heap.size ≤ wc.heap.size from Nat.le_trans HQ5.out hbc.size)
  clear hbc htc HWc t0 t1 i0
  have t0 := HCc.out.cell 0
  have t1 := HCc.out.cell 1
  go_wp2_with fail
  refine (HS2.out _ _ _ _ _ HTc.out.2.2.2.2.tb).mono ?_
  rintro e w8 ⟨rfl, hb8⟩
  have HT9 := Lib.hid (HTc.out.below hb8)
  have HB9 := Lib.hid (HBc.out.trans (hb8.mono HBc.out.size))
  have HR9 := Lib.hid (HRc.out.below hb8 HRc.out.lt)
  have HC9 := Lib.hid (HCc.out.below hb8 HCc.out.lt)
  have HQ9 := Lib.hid (show w1.heap.size ≤ w8.heap.size from Nat.le_trans HQc.out hb8.size)
  clear hb8 t0 t1
  have t0 := HC9.out.cell 0
  have t1 := HC9.out.cell 1
  have i0 := (HT9.out.2.2.2.2.fact HP5.out).1
  have i1 := (HT9.out.2.2.2.2.fact HP5.out).2
  have HT6 := Lib.hid (HT9.out.slot s (n2 : Int))
  have HC6 := Lib.hid HT6.out.2.2.2.1
  rw [List.length_set, HP1.out, HP2.out] at HC6
  have HE6 := Lib.hid HT6.out.2.2.2.2.2.1
  rw [HP2.out] at HE6
  have HR6 := Lib.hid (HR9.out.setOff (g' := g3) (i := s) (v := .int .i64 (n2 : Int)) (by have := HT9.out.2.2.2.2.lt1.1; have := HSZ.out; omega))
  have HB6 := Lib.hid (HB9.out.setCell (p := ⟨g3, s, none⟩) (show w.heap.size ≤ g3 by have := HT9.out.2.2.2.2.lt1.1; have := HSZ.out; omega) (.int .i64 (n2 : Int)))
  have hbt : bt < w8.heap.size := HC9.out.lt
  go_upto_region 10 with fail
  generalize hw6 : w8.setCell ⟨g3, s, none⟩ (.int .i64 (n2 : Int)) = w6 at *
  have hqs : w1.heap.size ≤ w6.heap.size := by rw [← hw6]; have := HQ9.out; simpa using this
  have hbt6 : bt < w6.heap.size := HC6.out.lt
  have HQS := Lib.hid hqs
  clear hw6 hbt hqs t0 t1 i0 i1
  have t0 := HC6.out.cell 0
  have t1 := HC6.out.cell 1
  go_region_law (first | (refine stepCall rfl 50 (.tmp 59) #[9] (.string key) (.int .i64 (hh : Int)) rfl rfl (by kernel_rfl) (HHo.out _) ?_) | (refine stepE rfl (.tmp 57) (.tmp 63) rfl w1.heap.size _ P2 [(⟨key, (hh : Int), val, true⟩ : Ent)] (some ⟨w6.heap.size, 0, none⟩) 1 1 rfl rfl (fun e => by cases e) rfl (HE6.out.below ((Below.refl _ _).alloc (Nat.le_refl _) _).drew) (show Re _ _ _ from .inr ⟨_, rfl, en_one (e := (⟨key, (hh : Int), val, true⟩ : Ent)) (Blk.newest w6 64 #[.string key, .int .i64 (hh : Int), .int .i64 val, .bool true])⟩) (by rw [HP2.out]; omega) (show w1.heap.size ≤ _ from by have := HQS.out; first | (simp; omega) | omega) (n2 + 1) (by rw [List.length_append, HP2.out]; rfl) ?_; intro a9 c9 w7 ho7 hg7 hb7 hd7; have HN7 := Lib.hid (show (P2 ++ [(⟨key, (hh : Int), val, true⟩ : Ent)]).length = n2 + 1 by rw [List.length_append, HP2.out]; rfl); have HA7 := Lib.hid (TbT.app (T := 27) (e := (⟨key, (hh : Int), val, true⟩ : Ent)) (a3 := a9) (c3 := c9) (by decide) HT6.out ((Below.refl _ _).alloc (Nat.le_refl _) _).drew (by rw [HP2.out]; exact hg7) (by rw [HN7.out]; exact ho7)); have HC7 := Lib.hid HA7.out.1; have HT8 := Lib.hid HA7.out.2; rw [List.length_set, HP1.out, HP2.out] at HC7; rw [HN7.out] at HT8; have hb67 : Below w1.heap.size w6 w7 := ((Below.refl w1.heap.size w6).alloc HQS.out _).drew.trans hb7; have HB8 := Lib.hid ((HB6.out.trans (hb67.mono HB1.out.size)).setCell (p := ⟨bt, 1, none⟩) (show w.heap.size ≤ bt by have := HT6.out.1; have := HSZ.out; omega) (.slice a9 (n2 + 1) c9)); have HR8 := Lib.hid ((HR6.out.below hb67 (by have := HSZ.out; omega)).setOff (g' := bt) (i := 1) (v := .slice a9 (n2 + 1) c9) (by have := HT6.out.1; have := HSZ.out; omega)); have HC8 := Lib.hid HT8.out.2.2.2.1; rw [List.length_set, HP1.out, HN7.out] at HC8; have u0 := HC7.out.cell 0; have u1 := HC7.out.cell 1; have u2 := HC7.out.free 0; have u3 := HC7.out.free 1; clear ho7 hg7 hb7 hd7 hb67))
  all_goals (clear t0 t1 u0 u1 u2 u3)
  all_goals
    have t0 := HC8.out.cell 0
    have t1 := HC8.out.cell 1
    have z0 := HR8.out.cell 0
    have z1 := HR8.out.cell 1
    have z2 := HR8.out.free 0
    have z3 := HR8.out.free 1
    go_wp2_with fail
    have hq1 := HT8.out.2.2.2.2.lt1.1
    have hq2 : ∀ g9 : Nat, (a9 : Option Addr) = some ⟨g9, 0, none⟩ → w1.heap.size ≤ g9 := by intro g9 h9; have h8 := HT8.out; rw [h9] at h8; exact h8.2.2.2.2.lt2.1
    have hw := HSZ.out
    have HZ := Lib.hid (two_set HR8.out (.slice (some ⟨g3, 0, none⟩) n1 d3) (.slice a9 (n2 + 1) c9))
    exact bodyPost_ret (v := .agg #[.slice (some ⟨g3, 0, none⟩) n1 d3, .slice a9 (n2 + 1) c9]) (results_cell_row rfl _ _ (w.heap.size + 1) 27 _ (0, 0) _ rfl HZ.out Try.underlying27 rfl (by kernel_rfl)) rfl
      ⟨some ⟨g3, 0, none⟩, d3, a9, c9, by rw [List.length_set, HP1.out, HN7.out], (((HT8.out.2.2.2.2.setOff (by omega) (by intro g9 h9; have := hq2 g9 h9; omega)).setOff (by omega) (by intro g9 h9; have := hq2 g9 h9; omega)).wide (by omega)).od, (HB8.out.setCell (by show w.heap.size ≤ w.heap.size + 1; omega) _).setCell (by show w.heap.size ≤ w.heap.size + 1; omega) _⟩
set_option maxRecDepth 20000 in
set_option maxHeartbeats 8000000 in
theorem specSet_no (ix : List Int) (es : List Ent) (key : ByteArray) (val : Int) (g c1 c2 : Nat) (a : Option Addr) (w : World) (h : Tb w g ix a es) (hl : es.length ≤ 1048576) (hm : ix.length ≤ 1048576) (hks : KeysS es) (hky : key.size ≤ 1048576) (hno : (keyB key && (okV val && dokB ix es)) = false) :
    Calls Try.prog 35 #[.agg #[.slice (some ⟨g, 0, none⟩) ix.length c1, .slice a es.length c2], .string key, .int .i64 val] w (OdP (([], []), false) w) := by
  obtain ⟨w1, hw1⟩ : ∃ w1, w1 = (w.alloc (Obj.cells #[.slice (some ⟨g, 0, none⟩) ix.length c1, .slice a es.length c2] 27)).alloc (Obj.cells #[.slice none 0 0, .slice none 0 0] 27) := ⟨_, rfl⟩
  have HB1 := Lib.hid (show Below w.heap.size w w1 from by rw [hw1]; exact ((Below.refl _ _).alloc (Nat.le_refl _) _).alloc (by simp) _)
  have HX1 := Lib.hid (show Blk w1 w.heap.size 27 #[.slice (some ⟨g, 0, none⟩) ix.length c1, .slice a es.length c2] from by rw [hw1]; exact (Blk.newest w _ _).alloc _)
  have HY1 := Lib.hid (show Blk w1 (w.heap.size + 1) 27 #[.slice none 0 0, .slice none 0 0] from by rw [hw1]; exact Blk.new _ _ _ (by simp))
  have HT1 := Lib.hid (h.below HB1.out)
  have HK := Lib.hid (fun w => validKey_any key w (by omega))
  have HV := Lib.hid (fun w => inRange_any val w)
  have HD := Lib.hid (validDict_any ix es g c1 c2 a w1 HT1.out hl hm hks)
  have HSZ := Lib.hid (show w1.heap.size = w.heap.size + 2 by rw [hw1]; simp)
  have HW1 := Lib.hid hw1
  clear h hw1
  generalize keyB key = kb at *
  generalize okV val = vb at *
  generalize dokB ix es = db at *
  generalize ix.length = m at *
  generalize es.length = ne at *
  cases db with
  | false =>
    go_enter Try.func35, Try.ntmps35
    go_wp2_with fail
    rw [← HW1.out]
    refine HD.out.mono ?_
    rintro e w2 ⟨rfl, hb2⟩
    have HB2 := Lib.hid (HB1.out.trans (hb2.mono HB1.out.size))
    have HR2 := Lib.hid (HY1.out.below hb2 HY1.out.lt)
    have HX2 := Lib.hid (HX1.out.below hb2 HX1.out.lt)
    have HT2 := Lib.hid (HT1.out.below hb2)
    have HW2 := Lib.hid (show w.heap.size + 2 ≤ w2.heap.size by have := hb2.size; have := HSZ.out; omega)
    clear hb2
    have z0 := HR2.out.cell 0
    have z1 := HR2.out.cell 1
    have z2 := HR2.out.free 0
    have z3 := HR2.out.free 1
    go_wp2_with fail
    exact bodyPost_ret (v := .tuple #[.agg #[.slice none 0 0, .slice none 0 0], .bool false]) (by exact res_ct (p := 6) (u := 7) (ty := 27) rfl _ _ (w.heap.size + 1) #[.slice none 0 0, .slice none 0 0] rfl (ld_dict (two_set HR2.out (.slice none 0 0) (.slice none 0 0)))) rfl
      ⟨none, 0, none, 0, rfl, OdD.none _ _, (HB2.out.setCell (by show w.heap.size ≤ w.heap.size + 1; omega) _).setCell (by show w.heap.size ≤ w.heap.size + 1; omega) _⟩
  | true =>
    cases kb with
    | false =>
      go_enter Try.func35, Try.ntmps35
      go_wp2_with fail
      rw [← HW1.out]
      refine HD.out.mono ?_
      rintro e w2 ⟨rfl, hb2⟩
      have HB2 := Lib.hid (HB1.out.trans (hb2.mono HB1.out.size))
      have HR2 := Lib.hid (HY1.out.below hb2 HY1.out.lt)
      have HX2 := Lib.hid (HX1.out.below hb2 HX1.out.lt)
      have HT2 := Lib.hid (HT1.out.below hb2)
      have HW2 := Lib.hid (show w.heap.size + 2 ≤ w2.heap.size by have := hb2.size; have := HSZ.out; omega)
      clear hb2
      go_wp2_with fail
      refine (HK.out _).mono ?_
      rintro e w9 ⟨rfl, rfl⟩
      have z0 := HR2.out.cell 0
      have z1 := HR2.out.cell 1
      have z2 := HR2.out.free 0
      have z3 := HR2.out.free 1
      go_wp2_with fail
      exact bodyPost_ret (v := .tuple #[.agg #[.slice none 0 0, .slice none 0 0], .bool false]) (by exact res_ct (p := 6) (u := 7) (ty := 27) rfl _ _ (w.heap.size + 1) #[.slice none 0 0, .slice none 0 0] rfl (ld_dict (two_set HR2.out (.slice none 0 0) (.slice none 0 0)))) rfl
        ⟨none, 0, none, 0, rfl, OdD.none _ _, (HB2.out.setCell (by show w.heap.size ≤ w.heap.size + 1; omega) _).setCell (by show w.heap.size ≤ w.heap.size + 1; omega) _⟩
    | true =>
      obtain rfl : vb = false := by simpa using hno
      go_enter Try.func35, Try.ntmps35
      go_wp2_with fail
      rw [← HW1.out]
      refine HD.out.mono ?_
      rintro e w2 ⟨rfl, hb2⟩
      have HB2 := Lib.hid (HB1.out.trans (hb2.mono HB1.out.size))
      have HR2 := Lib.hid (HY1.out.below hb2 HY1.out.lt)
      have HX2 := Lib.hid (HX1.out.below hb2 HX1.out.lt)
      have HT2 := Lib.hid (HT1.out.below hb2)
      have HW2 := Lib.hid (show w.heap.size + 2 ≤ w2.heap.size by have := hb2.size; have := HSZ.out; omega)
      clear hb2
      go_wp2_with fail
      refine (HK.out _).mono ?_
      rintro e w9 ⟨rfl, rfl⟩
      go_wp2_with fail
      refine (HV.out _).mono ?_
      rintro e w9 ⟨rfl, rfl⟩
      have z0 := HR2.out.cell 0
      have z1 := HR2.out.cell 1
      have z2 := HR2.out.free 0
      have z3 := HR2.out.free 1
      go_wp2_with fail
      exact bodyPost_ret (v := .tuple #[.agg #[.slice none 0 0, .slice none 0 0], .bool false]) (by exact res_ct (p := 6) (u := 7) (ty := 27) rfl _ _ (w.heap.size + 1) #[.slice none 0 0, .slice none 0 0] rfl (ld_dict (two_set HR2.out (.slice none 0 0) (.slice none 0 0)))) rfl
        ⟨none, 0, none, 0, rfl, OdD.none _ _, (HB2.out.setCell (by show w.heap.size ≤ w.heap.size + 1; omega) _).setCell (by show w.heap.size ≤ w.heap.size + 1; omega) _⟩
theorem OwI.setOffV {w : World} {b k i : Nat} {v u : Value} {is : List Int} (h : OwI w b v is) (hne : v.ownBlock ≠ some k) : OwI (w.setCell ⟨k, i, none⟩ u) b v is := by
  obtain ⟨h1, h2⟩ := h
  refine ⟨h1, ?_⟩
  rcases h2 with h2 | ⟨g', cap', cur, hv, hb1, hh, rest⟩
  · exact .inl h2
  · subst hv
    exact .inr ⟨_, _, cur, rfl, hb1, (heap_setCell_other w ⟨k, i, none⟩ _ u (fun e => hne (by rw [e]; rfl))).trans hh, rest⟩
theorem od_res {w wr : World} {b c1 c2 : Nat} {R1 : List Int} {R2 : List Ent} {a1 a2 : Option Addr} (h : OdD wr b (R1, R2) a1 c1 a2 c2) (hb : w.heap.size + 2 ≤ b) (u v : Value) : OdD ((wr.setCell ⟨w.heap.size + 1, 0, none⟩ u).setCell ⟨w.heap.size + 1, 1, none⟩ v) w.heap.size (R1, R2) a1 c1 a2 c2 := by
  have k1 : (Value.slice a1 R1.length c1).ownBlock ≠ some (w.heap.size + 1) := fun e => by have := (h.lt1 e).1; omega
  have k2 : (Value.slice a2 R2.length c2).ownBlock ≠ some (w.heap.size + 1) := fun e => by have := (h.lt2 e).1; omega
  exact ⟨((OwI.setOffV h.1 k1).setOffV k1).wide (by omega), ((OwE.setOff h.2 k2).setOff k2).wide (by omega)⟩
set_option maxRecDepth 20000 in
set_option maxHeartbeats 8000000 in
theorem specSet_full (ix : List Int) (es : List Ent) (key : ByteArray) (val : Int) (g c1 c2 : Nat) (a : Option Addr) (w : World) (h : Tb w g ix a es) (hl : es.length ≤ 1048576) (hm : ix.length ≤ 1048576) (hks : KeysS es) (hky : key.size ≤ 1048576) (hcap : a = none → c2 = 0) (hkb : keyB key = true) (hvb : okV val = true) (hdo : dokB ix es = true) (hp : plc ix es key (hk key) = -1) (h40 : liveN es = 40) :
    Calls Try.prog 35 #[.agg #[.slice (some ⟨g, 0, none⟩) ix.length c1, .slice a es.length c2], .string key, .int .i64 val] w (OdP ((ix, es), false) w) := by
  obtain ⟨w1, hw1⟩ : ∃ w1, w1 = (w.alloc (Obj.cells #[.slice (some ⟨g, 0, none⟩) ix.length c1, .slice a es.length c2] 27)).alloc (Obj.cells #[.slice none 0 0, .slice none 0 0] 27) := ⟨_, rfl⟩
  have HB1 := Lib.hid (show Below w.heap.size w w1 from by rw [hw1]; exact ((Below.refl _ _).alloc (Nat.le_refl _) _).alloc (by simp) _)
  have HX1 := Lib.hid (show Blk w1 w.heap.size 27 #[.slice (some ⟨g, 0, none⟩) ix.length c1, .slice a es.length c2] from by rw [hw1]; exact (Blk.newest w _ _).alloc _)
  have HY1 := Lib.hid (show Blk w1 (w.heap.size + 1) 27 #[.slice none 0 0, .slice none 0 0] from by rw [hw1]; exact Blk.new _ _ _ (by simp))
  have HT1 := Lib.hid (h.below HB1.out)
  have HK := Lib.hid (fun w => validKey_any key w (by omega))
  have HV := Lib.hid (fun w => inRange_any val w)
  have HD := Lib.hid (validDict_any ix es g c1 c2 a w1 HT1.out hl hm hks)
  have HSZ := Lib.hid (show w1.heap.size = w.heap.size + 2 by rw [hw1]; simp)
  have HW1 := Lib.hid hw1
  rw [hkb] at HK
  rw [hvb] at HV
  rw [hdo] at HD
  have hd := dok_of hdo
  have hmx : 8 ≤ ix.length ∧ ix.length ≤ 128 := by have := slotN_mem hd.1.1; simp at this; omega
  have HSl := Lib.hid (fun w h => slotOf_ok ix es key g c1 c2 a w h hd.1 hky)
  have hfs := (fst_ok (key := key) hd.1 (hsh_lt key.data.toList)).2.2.2
  have hsl := fstS_lt (key := key) hd.1 (hsh_lt key.data.toList)
  have hhk : hk key = hsh key.data.toList := rfl
  rw [← hhk] at HSl hfs hsl
  rw [hp] at hfs
  have HP4 := Lib.hid hfs
  have HLv := Lib.hid (fun w' h => liveEntries_any (.slice (some ⟨g, 0, none⟩) ix.length c1) es a c2 w' h hl rfl)
  have HCp := Lib.hid (fun w h => copyDict_any ix es g c1 c2 a w h hl hm hcap (by omega))
  unfold OtP at HCp
  rw [h40] at HLv
  clear hfs hp hhk hd hkb hvb hdo h hw1 hcap h40
  generalize hk key = hh at *
  generalize fstS ix es key hh = s at *
  generalize hmm : ix.length = m at *
  generalize hne : es.length = ne at *
  have HNE := Lib.hid hne
  have HMM := Lib.hid hmm
  clear hmm hne
  have s1 : (s : Int) < (m : Int) := by omega
  have s0 : 0 ≤ (s : Int) := by omega
  go_enter Try.func35, Try.ntmps35
  go_wp2_with fail
  rw [← HW1.out]
  refine HD.out.mono ?_
  rintro e w2 ⟨rfl, hb2⟩
  have HB2 := Lib.hid (HB1.out.trans (hb2.mono HB1.out.size))
  have HR2 := Lib.hid (HY1.out.below hb2 HY1.out.lt)
  have HX2 := Lib.hid (HX1.out.below hb2 HX1.out.lt)
  have HT2 := Lib.hid (HT1.out.below hb2)
  have HW2 := Lib.hid (show w.heap.size + 2 ≤ w2.heap.size by have := hb2.size; have := HSZ.out; omega)
  clear hb2
  go_wp2_with fail
  refine (HK.out _).mono ?_
  rintro e w9 ⟨rfl, rfl⟩
  go_wp2_with fail
  refine (HV.out _).mono ?_
  rintro e w9 ⟨rfl, rfl⟩
  have HS := Lib.hid (fun w' (hb : Below w2.heap.size w2 w') => show w'.cell? ⟨w.heap.size, 0, none⟩ = some (.slice (some ⟨g, 0, none⟩) m c1) ∧ w'.cell? ⟨w.heap.size, 1, none⟩ = some (.slice a ne c2) ∧ w'.cell? ⟨g, s, none⟩ = some (.int .i64 (-1)) from
    have hX := HX2.out.below hb HX2.out.lt
    ⟨hX.cell 0, hX.cell 1, (HT2.out.below hb).2.1 _ _ HP4.out⟩)
  go_upto_region 3 with fail
  go_cut [34] (fun q wx => q = .bool true ∧ Hid (Below w2.heap.size w2 wx))
  case first =>
    obtain ⟨b0, b1, i0⟩ := HS.out w2 (Below.refl _ _)
    go_region_with (first | (go_at_call 68; refine (HSl.out _ (by first | exact HT2.out | exact HT2.out.below (Below.refl _ _).drew)).mono ?_; rintro r w3 ⟨rfl, hb3⟩; have HB23 := Lib.hid (show Below w2.heap.size w2 w3 from (by first | exact hb3 | exact ((Below.refl _ w2).drew).trans hb3)); obtain ⟨y0, y1, y2⟩ := HS.out w3 HB23.out; clear hb3) | (go_at_call 71; refine (HLv.out _ (HT2.out.below HB23.out).2.2).mono ?_; rintro r w4 ⟨rfl, hb4⟩; have HB24 := Lib.hid (show Below w2.heap.size w2 w4 from HB23.out.trans (hb4.mono HB23.out.size)); obtain ⟨u0, u1, u2⟩ := HS.out w4 HB24.out; clear hb4))
    all_goals (try go_wp2)
    all_goals go_meet
    all_goals exact ⟨by first | rfl | (simp; omega), HB24⟩
  obtain ⟨rfl, HBc⟩ := hcut
  have HTc := Lib.hid (HT2.out.below HBc.out)
  have HXc := Lib.hid (HX2.out.below HBc.out HX2.out.lt)
  have HRc := Lib.hid (HR2.out.below HBc.out HR2.out.lt)
  have HBw := Lib.hid (HB2.out.trans (HBc.out.mono HB2.out.size))
  have HWc := Lib.hid (show w.heap.size + 2 ≤ wc.heap.size from Nat.le_trans HW2.out HBc.out.size)
  have b0 := HXc.out.cell 0
  have b1 := HXc.out.cell 1
  go_wp2_with fail
  refine (HCp.out _ HTc.out).mono ?_
  rintro e w5 ⟨g1, d1, a2, d2, rfl, ho5, hb5⟩
  have HO5 := Lib.hid (show OdD w5 wc.heap.size (ix, es) (some ⟨g1, 0, none⟩) d1 a2 d2 from ho5.od)
  have HR5 := Lib.hid (HRc.out.below hb5 HRc.out.lt)
  have HB5 := Lib.hid (HBw.out.trans (hb5.mono HBw.out.size))
  clear ho5 hb5
  have z0 := HR5.out.cell 0
  have z1 := HR5.out.cell 1
  have z2 := HR5.out.free 0
  have z3 := HR5.out.free 1
  go_wp2_with fail
  exact bodyPost_ret (v := .tuple #[.agg #[.slice (some ⟨g1, 0, none⟩) m d1, .slice a2 ne d2], .bool false]) (by exact res_ct (p := 6) (u := 7) (ty := 27) rfl _ _ (w.heap.size + 1) #[.slice (some ⟨g1, 0, none⟩) m d1, .slice a2 ne d2] rfl (ld_dict (two_set HR5.out (.slice (some ⟨g1, 0, none⟩) m d1) (.slice a2 ne d2)))) rfl
    ⟨(some ⟨g1, 0, none⟩), d1, a2, d2, by rw [HMM.out, HNE.out], (od_res HO5.out HWc.out _ _), (HB5.out.setCell (by show w.heap.size ≤ w.heap.size + 1; omega) _).setCell (by show w.heap.size ≤ w.heap.size + 1; omega) _⟩
set_option maxRecDepth 20000 in
set_option maxHeartbeats 8000000 in
theorem specSet_val (ix : List Int) (es : List Ent) (key : ByteArray) (val : Int) (g c1 c2 : Nat) (a : Option Addr) (w : World) (h : Tb w g ix a es) (hl : es.length ≤ 1048576) (hm : ix.length ≤ 1048576) (hks : KeysS es) (hky : key.size ≤ 1048576) (_ : a = none → c2 = 0) (hkb : keyB key = true) (hvb : okV val = true) (hdo : dokB ix es = true) (k : Nat) (hp : plc ix es key (hk key) = (k : Int)) (R1 : List Int) (R2 : List Ent) (hsk : ∀ w, Tb w g ix a es → Calls Try.prog 76 #[.agg #[.slice (some ⟨g, 0, none⟩) ix.length c1, .slice a es.length c2], .string key, .int .i64 val] w (OdQ (R1, R2) w)) :
    Calls Try.prog 35 #[.agg #[.slice (some ⟨g, 0, none⟩) ix.length c1, .slice a es.length c2], .string key, .int .i64 val] w (OdP ((R1, R2), true) w) := by
  obtain ⟨w1, hw1⟩ : ∃ w1, w1 = (w.alloc (Obj.cells #[.slice (some ⟨g, 0, none⟩) ix.length c1, .slice a es.length c2] 27)).alloc (Obj.cells #[.slice none 0 0, .slice none 0 0] 27) := ⟨_, rfl⟩
  have HB1 := Lib.hid (show Below w.heap.size w w1 from by rw [hw1]; exact ((Below.refl _ _).alloc (Nat.le_refl _) _).alloc (by simp) _)
  have HX1 := Lib.hid (show Blk w1 w.heap.size 27 #[.slice (some ⟨g, 0, none⟩) ix.length c1, .slice a es.length c2] from by rw [hw1]; exact (Blk.newest w _ _).alloc _)
  have HY1 := Lib.hid (show Blk w1 (w.heap.size + 1) 27 #[.slice none 0 0, .slice none 0 0] from by rw [hw1]; exact Blk.new _ _ _ (by simp))
  have HT1 := Lib.hid (h.below HB1.out)
  have HK := Lib.hid (fun w => validKey_any key w (by omega))
  have HV := Lib.hid (fun w => inRange_any val w)
  have HD := Lib.hid (validDict_any ix es g c1 c2 a w1 HT1.out hl hm hks)
  have HSZ := Lib.hid (show w1.heap.size = w.heap.size + 2 by rw [hw1]; simp)
  have HW1 := Lib.hid hw1
  rw [hkb] at HK
  rw [hvb] at HV
  rw [hdo] at HD
  have hd := dok_of hdo
  have hmx : 8 ≤ ix.length ∧ ix.length ≤ 128 := by have := slotN_mem hd.1.1; simp at this; omega
  have HSl := Lib.hid (fun w h => slotOf_ok ix es key g c1 c2 a w h hd.1 hky)
  have hfs := (fst_ok (key := key) hd.1 (hsh_lt key.data.toList)).2.2.2
  have hsl := fstS_lt (key := key) hd.1 (hsh_lt key.data.toList)
  have hhk : hk key = hsh key.data.toList := rfl
  rw [← hhk] at HSl hfs hsl
  rw [hp] at hfs
  have HP4 := Lib.hid hfs
  have HLv := Lib.hid (fun w' h => liveEntries_any (.slice (some ⟨g, 0, none⟩) ix.length c1) es a c2 w' h hl rfl)
  have HSk := Lib.hid (fun w h => hsk w h)
  unfold OdQ at HSk
  dsimp only at HSk
  clear hfs hp hhk hd hkb hvb hdo h hw1 hsk
  generalize hk key = hh at *
  generalize fstS ix es key hh = s at *
  generalize liveN es = lv at *
  generalize hr1 : R1.length = n1 at *
  generalize hr2 : R2.length = n2 at *
  have HR1 := Lib.hid hr1
  have HR2' := Lib.hid hr2
  clear hr1 hr2
  generalize hmm : ix.length = m at *
  generalize hne : es.length = ne at *
  have HNE := Lib.hid hne
  have HMM := Lib.hid hmm
  clear hmm hne
  have s1 : (s : Int) < (m : Int) := by omega
  have s0 : 0 ≤ (s : Int) := by omega
  go_enter Try.func35, Try.ntmps35
  go_wp2_with fail
  rw [← HW1.out]
  refine HD.out.mono ?_
  rintro e w2 ⟨rfl, hb2⟩
  have HB2 := Lib.hid (HB1.out.trans (hb2.mono HB1.out.size))
  have HR2 := Lib.hid (HY1.out.below hb2 HY1.out.lt)
  have HX2 := Lib.hid (HX1.out.below hb2 HX1.out.lt)
  have HT2 := Lib.hid (HT1.out.below hb2)
  have HW2 := Lib.hid (show w.heap.size + 2 ≤ w2.heap.size by have := hb2.size; have := HSZ.out; omega)
  clear hb2
  go_wp2_with fail
  refine (HK.out _).mono ?_
  rintro e w9 ⟨rfl, rfl⟩
  go_wp2_with fail
  refine (HV.out _).mono ?_
  rintro e w9 ⟨rfl, rfl⟩
  have HS := Lib.hid (fun w' (hb : Below w2.heap.size w2 w') => show w'.cell? ⟨w.heap.size, 0, none⟩ = some (.slice (some ⟨g, 0, none⟩) m c1) ∧ w'.cell? ⟨w.heap.size, 1, none⟩ = some (.slice a ne c2) ∧ w'.cell? ⟨g, s, none⟩ = some (.int .i64 ((k : Int))) from
    have hX := HX2.out.below hb HX2.out.lt
    ⟨hX.cell 0, hX.cell 1, (HT2.out.below hb).2.1 _ _ HP4.out⟩)
  go_upto_region 3 with fail
  go_cut [34] (fun q wx => q = .bool false ∧ Hid (Below w2.heap.size w2 wx))
  case first =>
    obtain ⟨b0, b1, i0⟩ := HS.out w2 (Below.refl _ _)
    go_region_with (first | (go_at_call 68; refine (HSl.out _ (by first | exact HT2.out | exact HT2.out.below (Below.refl _ _).drew)).mono ?_; rintro r w3 ⟨rfl, hb3⟩; have HB23 := Lib.hid (show Below w2.heap.size w2 w3 from (by first | exact hb3 | exact ((Below.refl _ w2).drew).trans hb3)); obtain ⟨y0, y1, y2⟩ := HS.out w3 HB23.out; clear hb3))
    all_goals (try go_wp2)
    all_goals go_meet
    all_goals exact ⟨by first | rfl | (simp; omega), HB23⟩
  obtain ⟨rfl, HBc⟩ := hcut
  have HTc := Lib.hid (HT2.out.below HBc.out)
  have HXc := Lib.hid (HX2.out.below HBc.out HX2.out.lt)
  have HRc := Lib.hid (HR2.out.below HBc.out HR2.out.lt)
  have HBw := Lib.hid (HB2.out.trans (HBc.out.mono HB2.out.size))
  have HWc := Lib.hid (show w.heap.size + 2 ≤ wc.heap.size from Nat.le_trans HW2.out HBc.out.size)
  have b0 := HXc.out.cell 0
  have b1 := HXc.out.cell 1
  go_wp2_with fail
  refine (HSk.out _ HTc.out).mono ?_
  rintro e w5 ⟨a1, d1, a2, d2, rfl, ho5, hb5⟩
  have HO5 := Lib.hid (show OdD w5 wc.heap.size (R1, R2) a1 d1 a2 d2 from ho5)
  have HR5 := Lib.hid (HRc.out.below hb5 HRc.out.lt)
  have HB5 := Lib.hid (HBw.out.trans (hb5.mono HBw.out.size))
  clear ho5 hb5
  have z0 := HR5.out.cell 0
  have z1 := HR5.out.cell 1
  have z2 := HR5.out.free 0
  have z3 := HR5.out.free 1
  go_wp2_with fail
  exact bodyPost_ret (v := .tuple #[.agg #[.slice a1 n1 d1, .slice a2 n2 d2], .bool true]) (by exact res_ct (p := 6) (u := 7) (ty := 27) rfl _ _ (w.heap.size + 1) #[.slice a1 n1 d1, .slice a2 n2 d2] rfl (ld_dict (two_set HR5.out (.slice a1 n1 d1) (.slice a2 n2 d2)))) rfl
    ⟨a1, d1, a2, d2, by rw [HR1.out, HR2'.out], (od_res HO5.out HWc.out _ _), (HB5.out.setCell (by show w.heap.size ≤ w.heap.size + 1; omega) _).setCell (by show w.heap.size ≤ w.heap.size + 1; omega) _⟩
set_option maxRecDepth 20000 in
set_option maxHeartbeats 8000000 in
theorem specSet_put (ix : List Int) (es : List Ent) (key : ByteArray) (val : Int) (g c1 c2 : Nat) (a : Option Addr) (w : World) (h : Tb w g ix a es) (hl : es.length ≤ 1048576) (hm : ix.length ≤ 1048576) (hks : KeysS es) (hky : key.size ≤ 1048576) (_ : a = none → c2 = 0) (hkb : keyB key = true) (hvb : okV val = true) (hdo : dokB ix es = true) (hp : plc ix es key (hk key) = -1) (hlt : liveN es < 40) (R1 : List Int) (R2 : List Ent) (hsk : ∀ w, Tb w g ix a es → Calls Try.prog 76 #[.agg #[.slice (some ⟨g, 0, none⟩) ix.length c1, .slice a es.length c2], .string key, .int .i64 val] w (OdQ (R1, R2) w)) :
    Calls Try.prog 35 #[.agg #[.slice (some ⟨g, 0, none⟩) ix.length c1, .slice a es.length c2], .string key, .int .i64 val] w (OdP ((R1, R2), true) w) := by
  obtain ⟨w1, hw1⟩ : ∃ w1, w1 = (w.alloc (Obj.cells #[.slice (some ⟨g, 0, none⟩) ix.length c1, .slice a es.length c2] 27)).alloc (Obj.cells #[.slice none 0 0, .slice none 0 0] 27) := ⟨_, rfl⟩
  have HB1 := Lib.hid (show Below w.heap.size w w1 from by rw [hw1]; exact ((Below.refl _ _).alloc (Nat.le_refl _) _).alloc (by simp) _)
  have HX1 := Lib.hid (show Blk w1 w.heap.size 27 #[.slice (some ⟨g, 0, none⟩) ix.length c1, .slice a es.length c2] from by rw [hw1]; exact (Blk.newest w _ _).alloc _)
  have HY1 := Lib.hid (show Blk w1 (w.heap.size + 1) 27 #[.slice none 0 0, .slice none 0 0] from by rw [hw1]; exact Blk.new _ _ _ (by simp))
  have HT1 := Lib.hid (h.below HB1.out)
  have HK := Lib.hid (fun w => validKey_any key w (by omega))
  have HV := Lib.hid (fun w => inRange_any val w)
  have HD := Lib.hid (validDict_any ix es g c1 c2 a w1 HT1.out hl hm hks)
  have HSZ := Lib.hid (show w1.heap.size = w.heap.size + 2 by rw [hw1]; simp)
  have HW1 := Lib.hid hw1
  rw [hkb] at HK
  rw [hvb] at HV
  rw [hdo] at HD
  have hd := dok_of hdo
  have hmx : 8 ≤ ix.length ∧ ix.length ≤ 128 := by have := slotN_mem hd.1.1; simp at this; omega
  have HSl := Lib.hid (fun w h => slotOf_ok ix es key g c1 c2 a w h hd.1 hky)
  have hfs := (fst_ok (key := key) hd.1 (hsh_lt key.data.toList)).2.2.2
  have hsl := fstS_lt (key := key) hd.1 (hsh_lt key.data.toList)
  have hhk : hk key = hsh key.data.toList := rfl
  rw [← hhk] at HSl hfs hsl
  rw [hp] at hfs
  have HP4 := Lib.hid hfs
  have HLv := Lib.hid (fun w' h => liveEntries_any (.slice (some ⟨g, 0, none⟩) ix.length c1) es a c2 w' h hl rfl)
  have HSk := Lib.hid (fun w h => hsk w h)
  unfold OdQ at HSk
  dsimp only at HSk
  have l40 : ¬ (40 : Int) ≤ (liveN es : Int) := by omega
  clear hfs hp hhk hd hkb hvb hdo h hw1 hsk
  generalize hk key = hh at *
  generalize fstS ix es key hh = s at *
  generalize liveN es = lv at *
  generalize hr1 : R1.length = n1 at *
  generalize hr2 : R2.length = n2 at *
  have HR1 := Lib.hid hr1
  have HR2' := Lib.hid hr2
  clear hr1 hr2
  generalize hmm : ix.length = m at *
  generalize hne : es.length = ne at *
  have HNE := Lib.hid hne
  have HMM := Lib.hid hmm
  clear hmm hne
  have s1 : (s : Int) < (m : Int) := by omega
  have s0 : 0 ≤ (s : Int) := by omega
  go_enter Try.func35, Try.ntmps35
  go_wp2_with fail
  rw [← HW1.out]
  refine HD.out.mono ?_
  rintro e w2 ⟨rfl, hb2⟩
  have HB2 := Lib.hid (HB1.out.trans (hb2.mono HB1.out.size))
  have HR2 := Lib.hid (HY1.out.below hb2 HY1.out.lt)
  have HX2 := Lib.hid (HX1.out.below hb2 HX1.out.lt)
  have HT2 := Lib.hid (HT1.out.below hb2)
  have HW2 := Lib.hid (show w.heap.size + 2 ≤ w2.heap.size by have := hb2.size; have := HSZ.out; omega)
  clear hb2
  go_wp2_with fail
  refine (HK.out _).mono ?_
  rintro e w9 ⟨rfl, rfl⟩
  go_wp2_with fail
  refine (HV.out _).mono ?_
  rintro e w9 ⟨rfl, rfl⟩
  have HS := Lib.hid (fun w' (hb : Below w2.heap.size w2 w') => show w'.cell? ⟨w.heap.size, 0, none⟩ = some (.slice (some ⟨g, 0, none⟩) m c1) ∧ w'.cell? ⟨w.heap.size, 1, none⟩ = some (.slice a ne c2) ∧ w'.cell? ⟨g, s, none⟩ = some (.int .i64 (-1)) from
    have hX := HX2.out.below hb HX2.out.lt
    ⟨hX.cell 0, hX.cell 1, (HT2.out.below hb).2.1 _ _ HP4.out⟩)
  go_upto_region 3 with fail
  go_cut [34] (fun q wx => q = .bool false ∧ Hid (Below w2.heap.size w2 wx))
  case first =>
    obtain ⟨b0, b1, i0⟩ := HS.out w2 (Below.refl _ _)
    go_region_with (first | (go_at_call 68; refine (HSl.out _ (by first | exact HT2.out | exact HT2.out.below (Below.refl _ _).drew)).mono ?_; rintro r w3 ⟨rfl, hb3⟩; have HB23 := Lib.hid (show Below w2.heap.size w2 w3 from (by first | exact hb3 | exact ((Below.refl _ w2).drew).trans hb3)); obtain ⟨y0, y1, y2⟩ := HS.out w3 HB23.out; clear hb3) | (go_at_call 71; refine (HLv.out _ (HT2.out.below HB23.out).2.2).mono ?_; rintro r w4 ⟨rfl, hb4⟩; have HB24 := Lib.hid (show Below w2.heap.size w2 w4 from HB23.out.trans (hb4.mono HB23.out.size)); obtain ⟨u0, u1, u2⟩ := HS.out w4 HB24.out; clear hb4))
    all_goals (try go_wp2)
    all_goals go_meet
    all_goals exact ⟨by first | rfl | (simp; omega), HB24⟩
  obtain ⟨rfl, HBc⟩ := hcut
  have HTc := Lib.hid (HT2.out.below HBc.out)
  have HXc := Lib.hid (HX2.out.below HBc.out HX2.out.lt)
  have HRc := Lib.hid (HR2.out.below HBc.out HR2.out.lt)
  have HBw := Lib.hid (HB2.out.trans (HBc.out.mono HB2.out.size))
  have HWc := Lib.hid (show w.heap.size + 2 ≤ wc.heap.size from Nat.le_trans HW2.out HBc.out.size)
  have b0 := HXc.out.cell 0
  have b1 := HXc.out.cell 1
  go_wp2_with fail
  refine (HSk.out _ HTc.out).mono ?_
  rintro e w5 ⟨a1, d1, a2, d2, rfl, ho5, hb5⟩
  have HO5 := Lib.hid (show OdD w5 wc.heap.size (R1, R2) a1 d1 a2 d2 from ho5)
  have HR5 := Lib.hid (HRc.out.below hb5 HRc.out.lt)
  have HB5 := Lib.hid (HBw.out.trans (hb5.mono HBw.out.size))
  clear ho5 hb5
  have z0 := HR5.out.cell 0
  have z1 := HR5.out.cell 1
  have z2 := HR5.out.free 0
  have z3 := HR5.out.free 1
  go_wp2_with fail
  exact bodyPost_ret (v := .tuple #[.agg #[.slice a1 n1 d1, .slice a2 n2 d2], .bool true]) (by exact res_ct (p := 6) (u := 7) (ty := 27) rfl _ _ (w.heap.size + 1) #[.slice a1 n1 d1, .slice a2 n2 d2] rfl (ld_dict (two_set HR5.out (.slice a1 n1 d1) (.slice a2 n2 d2)))) rfl
    ⟨a1, d1, a2, d2, by rw [HR1.out, HR2'.out], (od_res HO5.out HWc.out _ _), (HB5.out.setCell (by show w.heap.size ≤ w.heap.size + 1; omega) _).setCell (by show w.heap.size ≤ w.heap.size + 1; omega) _⟩
set_option maxRecDepth 20000 in
theorem specSet_any (ix : List Int) (es : List Ent) (key : ByteArray) (val : Int) (g c1 c2 : Nat) (a : Option Addr) (w : World) (h : Tb w g ix a es) (hl : es.length ≤ 1048576) (hm : ix.length ≤ 1048576) (hks : KeysS es) (hky : key.size ≤ 1048576) (hcap : a = none → c2 = 0) :
    Calls Try.prog 35 #[.agg #[.slice (some ⟨g, 0, none⟩) ix.length c1, .slice a es.length c2], .string key, .int .i64 val] w (OdP (stV ix es key val) w) := by
  by_cases hno : (keyB key && (okV val && dokB ix es)) = false
  · rw [stV_no hno]
    exact specSet_no ix es key val g c1 c2 a w h hl hm hks hky hno
  · have hyes : keyB key = true ∧ okV val = true ∧ dokB ix es = true := by simpa using hno
    obtain ⟨h1, h2, h3⟩ := hyes
    rw [stV_yes h1 h2 h3]
    have hd := dok_of h3
    have hv := okV_b h2
    rcases plc_in2 (key := key) hd.1 (hsh_lt key.data.toList) with hp | ⟨k, hp, hkn⟩
    · have hp2 : plc ix es key (hk key) = -1 := hp
      rw [hp2, if_neg (by decide)]
      by_cases h40 : liveN es = 40
      · rw [if_pos h40]
        exact specSet_full ix es key val g c1 c2 a w h hl hm hks hky hcap h1 h2 h3 hp2 h40
      · rw [if_neg h40]
        have hle := hd.2.1
        have hro2 := hd.1.2.1
        by_cases hro : es.length = 2 * ix.length / 3
        · rw [if_pos hro]
          exact specSet_put ix es key val g c1 c2 a w h hl hm hks hky hcap h1 h2 h3 hp2 (by omega) _ _ (fun w h => setKey_pack ix es key val g c1 c2 a w h hl hm hks hky hcap hv hd hp2 (by omega) hro)
        · rw [if_neg hro]
          exact specSet_put ix es key val g c1 c2 a w h hl hm hks hky hcap h1 h2 h3 hp2 (by omega) _ _ (fun w h => setKey_put ix es key val g c1 c2 a w h hl hm hks hky hcap hv hd hp2 (by omega))
    · have hp2 : plc ix es key (hk key) = (k : Int) := hp
      rw [hp2, if_pos (by omega), Int.toNat_natCast]
      exact specSet_val ix es key val g c1 c2 a w h hl hm hks hky hcap h1 h2 h3 k hp2 _ _ (fun w h => setKey_val ix es key val g c1 c2 a w h hl hm hks hky hcap hv hd k hp2 hkn)
theorem stV_len {ix : List Int} {es : List Ent} {key : ByteArray} {val : Int} : (stV ix es key val).1.1.length ≤ 128 ∧ (stV ix es key val).1.2.length ≤ 200 := by
  unfold stV
  split
  · next h =>
    have hd : dokB ix es = true := by simp at h; exact h.2.2
    have hk := dok_of hd
    have hf := hk.1
    have hm : ix.length ≤ 128 := by have := slotN_mem hf.1; simp at this; omega
    have he : es.length ≤ 128 := by have := hf.2.1; omega
    split
    · exact ⟨hm, by rw [valP_len]; omega⟩
    · split
      · exact ⟨hm, by show es.length ≤ 200; omega⟩
      · next h40 =>
        split
        · have h1 := pkd_ok (c := scN (liveN es + 1)) (es := es) (slotN_sc _) (once_of hk) (by have := scN_room (show liveN es ≤ 40 from hk.2.1); have h7 := hk.2.1; have h8 := scN_room (show liveN es + 1 ≤ 40 by omega); omega) es.length (Nat.le_refl _)
          rw [List.take_length] at h1
          have h2 := scN_le (liveN es + 1)
          have h3 := h1.1.2.1
          have h4 := h1.2.1
          unfold putP
          simp only [List.length_set, List.length_append, List.length_cons, List.length_nil]
          omega
        · unfold putP
          simp only [List.length_set, List.length_append, List.length_cons, List.length_nil]
          omega
  · simp
end Go.Proofs.Ytplpgcbdbmfffaa
