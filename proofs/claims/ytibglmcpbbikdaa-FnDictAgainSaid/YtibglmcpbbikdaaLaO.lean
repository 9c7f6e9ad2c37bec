/- A key set, the model. -/
import Derived.Test.YtibglmcpbbikdaaLaN
import Derived.Test.YtibglmcpbbikdaaLaM
namespace Go.Proofs.Ytibglmcpbbikdaa
open Go.RowKit
/-- Where the blocks of a dictionary lie. -/
theorem OdD.lt1 {w : World} {b c1 c2 k : Nat} {R1 : List Int} {R2 : List Ent} {a1 a2 : Option Addr} (h : OdD w b (R1, R2) a1 c1 a2 c2) (hk : (Value.slice a1 R1.length c1).ownBlock = some k) : b ≤ k ∧ k < w.heap.size := h.1.lt k hk
theorem OdD.lt2 {w : World} {b c1 c2 k : Nat} {R1 : List Int} {R2 : List Ent} {a1 a2 : Option Addr} (h : OdD w b (R1, R2) a1 c1 a2 c2) (hk : (Value.slice a2 R2.length c2).ownBlock = some k) : b ≤ k ∧ k < w.heap.size := h.2.lt k hk
theorem OdD.inn {w : World} {b c1 c2 k : Nat} {R1 : List Int} {R2 : List Ent} {a1 a2 : Option Addr} (h : OdD w b (R1, R2) a1 c1 a2 c2) (hk : (Value.slice a1 R1.length c1).ownBlock = some k ∨ (Value.slice a2 R2.length c2).ownBlock = some k) : b ≤ k ∧ k < w.heap.size := by
  rcases hk with hk | hk
  · exact h.lt1 hk
  · exact h.lt2 hk
set_option maxRecDepth 20000 in
set_option maxHeartbeats 8000000 in
theorem specSet_no (ix : List Int) (es : List Ent) (key : ByteArray) (val : Int) (g c1 c2 : Nat) (a : Option Addr) (w : World) (h : Tb w g ix a es) (hl : es.length ≤ 1048576) (hm : ix.length ≤ 1048576) (hks : KeysS es) (hky : key.size ≤ 1048576) (hno : (keyB key && (okV val && dokB ix es)) = false) :
    Calls Try.prog 38 #[.agg #[.slice (some ⟨g, 0, none⟩) ix.length c1, .slice a es.length c2], .string key, .int .i64 val] w (OdP (([], []), false) w) := by
  obtain ⟨w1, hw1⟩ : ∃ w1, w1 = (w.alloc (Obj.cells #[.slice (some ⟨g, 0, none⟩) ix.length c1, .slice a es.length c2] 26)).alloc (Obj.cells #[.slice none 0 0, .slice none 0 0] 26) := ⟨_, rfl⟩
  have HB1 := Lib.hid (show Below w.heap.size w w1 from by rw [hw1]; exact ((Below.refl _ _).alloc (Nat.le_refl _) _).alloc (by simp) _)
  have HX1 := Lib.hid (show Blk w1 w.heap.size 26 #[.slice (some ⟨g, 0, none⟩) ix.length c1, .slice a es.length c2] from by rw [hw1]; exact (Blk.newest w _ _).alloc _)
  have HY1 := Lib.hid (show Blk w1 (w.heap.size + 1) 26 #[.slice none 0 0, .slice none 0 0] from by rw [hw1]; exact Blk.new _ _ _ (by simp))
  have HT1 := Lib.hid (h.below HB1.out)
  have HK := Lib.hid (fun w => validKey_any key w (by omega))
  have HV := Lib.hid (fun w => inRange_any val w)
  have HD := Lib.hid (validDict_any ix es g c1 c2 a w1 HT1.out hl hm hks)
  have HSZ := Lib.hid (show w1.heap.size = w.heap.size + 2 by rw [hw1]; simp)
  have HW1 := Lib.hid hw1
  clear h hw1
  generalize keyB key = kb at *
  generalize okV val = vb at *
  generalize dokB ix es = db at *
  generalize ix.length = m at *
  generalize es.length = ne at *
  cases db with
  | false =>
    go_enter Try.func38, Try.ntmps38
    go_wp2_with fail
    rw [← HW1.out]
    refine HD.out.mono ?_
    rintro e w2 ⟨rfl, hb2⟩
    have HB2 := Lib.hid (HB1.out.trans (hb2.mono HB1.out.size))
    have HR2 := Lib.hid (HY1.out.below hb2 HY1.out.lt)
    have HX2 := Lib.hid (HX1.out.below hb2 HX1.out.lt)
    have HT2 := Lib.hid (HT1.out.below hb2)
    have HW2 := Lib.hid (show w.heap.size + 2 ≤ w2.heap.size by have := hb2.size; have := HSZ.out; omega)
    clear hb2
    have z0 := HR2.out.cell 0
    have z1 := HR2.out.cell 1
    have z2 := HR2.out.free 0
    have z3 := HR2.out.free 1
    go_wp2_with fail
    exact bodyPost_ret (v := .tuple #[.agg #[.slice none 0 0, .slice none 0 0], .bool false]) (by exact res_ct (p := 6) (u := 7) (ty := 26) rfl _ _ (w.heap.size + 1) #[.slice none 0 0, .slice none 0 0] rfl (ld_dict (two_set HR2.out (.slice none 0 0) (.slice none 0 0)))) rfl
      ⟨none, 0, none, 0, rfl, OdD.none _ _, (HB2.out.setCell (by show w.heap.size ≤ w.heap.size + 1; omega) _).setCell (by show w.heap.size ≤ w.heap.size + 1; omega) _⟩
  | true =>
    cases kb with
    | false =>
      go_enter Try.func38, Try.ntmps38
      go_wp2_with fail
      rw [← HW1.out]
      refine HD.out.mono ?_
      rintro e w2 ⟨rfl, hb2⟩
      have HB2 := Lib.hid (HB1.out.trans (hb2.mono HB1.out.size))
      have HR2 := Lib.hid (HY1.out.below hb2 HY1.out.lt)
      have HX2 := Lib.hid (HX1.out.below hb2 HX1.out.lt)
      have HT2 := Lib.hid (HT1.out.below hb2)
      have HW2 := Lib.hid (show w.heap.size + 2 ≤ w2.heap.size by have := hb2.size; have := HSZ.out; omega)
      clear hb2
      go_wp2_with fail
      refine (HK.out _).mono ?_
      rintro e w9 ⟨rfl, rfl⟩
      have z0 := HR2.out.cell 0
      have z1 := HR2.out.cell 1
      have z2 := HR2.out.free 0
      have z3 := HR2.out.free 1
      go_wp2_with fail
      exact bodyPost_ret (v := .tuple #[.agg #[.slice none 0 0, .slice none 0 0], .bool false]) (by exact res_ct (p := 6) (u := 7) (ty := 26) rfl _ _ (w.heap.size + 1) #[.slice none 0 0, .slice none 0 0] rfl (ld_dict (two_set HR2.out (.slice none 0 0) (.slice none 0 0)))) rfl
        ⟨none, 0, none, 0, rfl, OdD.none _ _, (HB2.out.setCell (by show w.heap.size ≤ w.heap.size + 1; omega) _).setCell (by show w.heap.size ≤ w.heap.size + 1; omega) _⟩
    | true =>
      obtain rfl : vb = false := by simpa using hno
      go_enter Try.func38, Try.ntmps38
      go_wp2_with fail
      rw [← HW1.out]
      refine HD.out.mono ?_
      rintro e w2 ⟨rfl, hb2⟩
      have HB2 := Lib.hid (HB1.out.trans (hb2.mono HB1.out.size))
      have HR2 := Lib.hid (HY1.out.below hb2 HY1.out.lt)
      have HX2 := Lib.hid (HX1.out.below hb2 HX1.out.lt)
      have HT2 := Lib.hid (HT1.out.below hb2)
      have HW2 := Lib.hid (show w.heap.size + 2 ≤ w2.heap.size by have := hb2.size; have := HSZ.out; omega)
      clear hb2
      go_wp2_with fail
      refine (HK.out _).mono ?_
      rintro e w9 ⟨rfl, rfl⟩
      go_wp2_with fail
      refine (HV.out _).mono ?_
      rintro e w9 ⟨rfl, rfl⟩
      have z0 := HR2.out.cell 0
      have z1 := HR2.out.cell 1
      have z2 := HR2.out.free 0
      have z3 := HR2.out.free 1
      go_wp2_with fail
      exact bodyPost_ret (v := .tuple #[.agg #[.slice none 0 0, .slice none 0 0], .bool false]) (by exact res_ct (p := 6) (u := 7) (ty := 26) rfl _ _ (w.heap.size + 1) #[.slice none 0 0, .slice none 0 0] rfl (ld_dict (two_set HR2.out (.slice none 0 0) (.slice none 0 0)))) rfl
        ⟨none, 0, none, 0, rfl, OdD.none _ _, (HB2.out.setCell (by show w.heap.size ≤ w.heap.size + 1; omega) _).setCell (by show w.heap.size ≤ w.heap.size + 1; omega) _⟩
theorem OwI.setOffV {w : World} {b k i : Nat} {v u : Value} {is : List Int} (h : OwI w b v is) (hne : v.ownBlock ≠ some k) : OwI (w.setCell ⟨k, i, none⟩ u) b v is := by
  obtain ⟨h1, h2⟩ := h
  refine ⟨h1, ?_⟩
  rcases h2 with h2 | ⟨g', cap', cur, hv, hb1, hh, rest⟩
  · exact .inl h2
  · subst hv
    exact .inr ⟨_, _, cur, rfl, hb1, (heap_setCell_other w ⟨k, i, none⟩ _ u (fun e => hne (by rw [e]; rfl))).trans hh, rest⟩
theorem od_res {w wr : World} {b c1 c2 : Nat} {R1 : List Int} {R2 : List Ent} {a1 a2 : Option Addr} (h : OdD wr b (R1, R2) a1 c1 a2 c2) (hb : w.heap.size + 2 ≤ b) (u v : Value) : OdD ((wr.setCell ⟨w.heap.size + 1, 0, none⟩ u).setCell ⟨w.heap.size + 1, 1, none⟩ v) w.heap.size (R1, R2) a1 c1 a2 c2 := by
  have k1 : (Value.slice a1 R1.length c1).ownBlock ≠ some (w.heap.size + 1) := fun e => by have := (h.lt1 e).1; omega
  have k2 : (Value.slice a2 R2.length c2).ownBlock ≠ some (w.heap.size + 1) := fun e => by have := (h.lt2 e).1; omega
  exact ⟨((OwI.setOffV h.1 k1).setOffV k1).wide (by omega), ((OwE.setOff h.2 k2).setOff k2).wide (by omega)⟩
set_option maxRecDepth 20000 in
set_option maxHeartbeats 8000000 in
theorem specSet_full (ix : List Int) (es : List Ent) (key : ByteArray) (val : Int) (g c1 c2 : Nat) (a : Option Addr) (w : World) (h : Tb w g ix a es) (hl : es.length ≤ 1048576) (hm : ix.length ≤ 1048576) (hks : KeysS es) (hky : key.size ≤ 1048576) (hcap : a = none → c2 = 0) (hkb : keyB key = true) (hvb : okV val = true) (hdo : dokB ix es = true) (hp : plc ix es key (hk key) = -1) (h40 : liveN es = 40) :
    Calls Try.prog 38 #[.agg #[.slice (some ⟨g, 0, none⟩) ix.length c1, .slice a es.length c2], .string key, .int .i64 val] w (OdP ((ix, es), false) w) := by
  obtain ⟨w1, hw1⟩ : ∃ w1, w1 = (w.alloc (Obj.cells #[.slice (some ⟨g, 0, none⟩) ix.length c1, .slice a es.length c2] 26)).alloc (Obj.cells #[.slice none 0 0, .slice none 0 0] 26) := ⟨_, rfl⟩
  have HB1 := Lib.hid (show Below w.heap.size w w1 from by rw [hw1]; exact ((Below.refl _ _).alloc (Nat.le_refl _) _).alloc (by simp) _)
  have HX1 := Lib.hid (show Blk w1 w.heap.size 26 #[.slice (some ⟨g, 0, none⟩) ix.length c1, .slice a es.length c2] from by rw [hw1]; exact (Blk.newest w _ _).alloc _)
  have HY1 := Lib.hid (show Blk w1 (w.heap.size + 1) 26 #[.slice none 0 0, .slice none 0 0] from by rw [hw1]; exact Blk.new _ _ _ (by simp))
  have HT1 := Lib.hid (h.below HB1.out)
  have HK := Lib.hid (fun w => validKey_any key w (by omega))
  have HV := Lib.hid (fun w => inRange_any val w)
  have HD := Lib.hid (validDict_any ix es g c1 c2 a w1 HT1.out hl hm hks)
  have HSZ := Lib.hid (show w1.heap.size = w.heap.size + 2 by rw [hw1]; simp)
  have HW1 := Lib.hid hw1
  rw [hkb] at HK
  rw [hvb] at HV
  rw [hdo] at HD
  have hd := dok_of hdo
  have hmx : 8 ≤ ix.length ∧ ix.length ≤ 128 := by have := slotN_mem hd.1.1; simp at this; omega
  have HSl := Lib.hid (fun w h => slotOf_ok ix es key g c1 c2 a w h hd.1 hky)
  have hfs := (fst_ok (key := key) hd.1 (hsh_lt key.data.toList)).2.2.2
  have hsl := fstS_lt (key := key) hd.1 (hsh_lt key.data.toList)
  have hhk : hk key = hsh key.data.toList := rfl
  rw [← hhk] at HSl hfs hsl
  rw [hp] at hfs
  have HP4 := Lib.hid hfs
  have HLv := Lib.hid (fun w' h => liveEntries_any (.slice (some ⟨g, 0, none⟩) ix.length c1) es a c2 w' h hl rfl)
  have HCp := Lib.hid (fun w h => copyDict_any ix es g c1 c2 a w h hl hm hcap (by omega))
  unfold OtP at HCp
  rw [h40] at HLv
  clear hfs hp hhk hd hkb hvb hdo h hw1 hcap h40
  generalize hk key = hh at *
  generalize fstS ix es key hh = s at *
  generalize hmm : ix.length = m at *
  generalize hne : es.length = ne at *
  have HNE := Lib.hid hne
  have HMM := Lib.hid hmm
  clear hmm hne
  have s1 : (s : Int) < (m : Int) := by omega
  have s0 : 0 ≤ (s : Int) := by omega
  go_enter Try.func38, Try.ntmps38
  go_wp2_with fail
  rw [← HW1.out]
  refine HD.out.mono ?_
  rintro e w2 ⟨rfl, hb2⟩
  have HB2 := Lib.hid (HB1.out.trans (hb2.mono HB1.out.size))
  have HR2 := Lib.hid (HY1.out.below hb2 HY1.out.lt)
  have HX2 := Lib.hid (HX1.out.below hb2 HX1.out.lt)
  have HT2 := Lib.hid (HT1.out.below hb2)
  have HW2 := Lib.hid (show w.heap.size + 2 ≤ w2.heap.size by have := hb2.size; have := HSZ.out; omega)
  clear hb2
  go_wp2_with fail
  refine (HK.out _).mono ?_
  rintro e w9 ⟨rfl, rfl⟩
  go_wp2_with fail
  refine (HV.out _).mono ?_
  rintro e w9 ⟨rfl, rfl⟩
  have HS := Lib.hid (fun w' (hb : Below w2.heap.size w2 w') => show w'.cell? ⟨w.heap.size, 0, none⟩ = some (.slice (some ⟨g, 0, none⟩) m c1) ∧ w'.cell? ⟨w.heap.size, 1, none⟩ = some (.slice a ne c2) ∧ w'.cell? ⟨g, s, none⟩ = some (.int .i64 (-1)) from
    have hX := HX2.out.below hb HX2.out.lt
    ⟨hX.cell 0, hX.cell 1, (HT2.out.below hb).2.1 _ _ HP4.out⟩)
  go_upto_region 3 with fail
  go_cut [34] (fun q wx => q = .bool true ∧ Hid (Below w2.heap.size w2 wx))
  case first =>
    obtain ⟨b0, b1, i0⟩ := HS.out w2 (Below.refl _ _)
    go_region_with (first | (go_at_call 64; refine (HSl.out _ (by first | exact HT2.out | exact HT2.out.below (Below.refl _ _).drew)).mono ?_; rintro r w3 ⟨rfl, hb3⟩; have HB23 := Lib.hid (show Below w2.heap.size w2 w3 from (by first | exact hb3 | exact ((Below.refl _ w2).drew).trans hb3)); obtain ⟨y0, y1, y2⟩ := HS.out w3 HB23.out; clear hb3) | (go_at_call 69; refine (HLv.out _ (HT2.out.below HB23.out).2.2).mono ?_; rintro r w4 ⟨rfl, hb4⟩; have HB24 := Lib.hid (show Below w2.heap.size w2 w4 from HB23.out.trans (hb4.mono HB23.out.size)); obtain ⟨u0, u1, u2⟩ := HS.out w4 HB24.out; clear hb4))
    all_goals (try go_wp2)
    all_goals go_meet
    all_goals exact ⟨by first | rfl | (simp; omega), HB24⟩
  obtain ⟨rfl, HBc⟩ := hcut
  have HTc := Lib.hid (HT2.out.below HBc.out)
  have HXc := Lib.hid (HX2.out.below HBc.out HX2.out.lt)
  have HRc := Lib.hid (HR2.out.below HBc.out HR2.out.lt)
  have HBw := Lib.hid (HB2.out.trans (HBc.out.mono HB2.out.size))
  have HWc := Lib.hid (show w.heap.size + 2 ≤ wc.heap.size from Nat.le_trans HW2.out HBc.out.size)
  have b0 := HXc.out.cell 0
  have b1 := HXc.out.cell 1
  go_wp2_with fail
  refine (HCp.out _ HTc.out).mono ?_
  rintro e w5 ⟨g1, d1, a2, d2, rfl, ho5, hb5⟩
  have HO5 := Lib.hid (show OdD w5 wc.heap.size (ix, es) (some ⟨g1, 0, none⟩) d1 a2 d2 from ho5.od)
  have HR5 := Lib.hid (HRc.out.below hb5 HRc.out.lt)
  have HB5 := Lib.hid (HBw.out.trans (hb5.mono HBw.out.size))
  clear ho5 hb5
  have z0 := HR5.out.cell 0
  have z1 := HR5.out.cell 1
  have z2 := HR5.out.free 0
  have z3 := HR5.out.free 1
  go_wp2_with fail
  exact bodyPost_ret (v := .tuple #[.agg #[.slice (some ⟨g1, 0, none⟩) m d1, .slice a2 ne d2], .bool false]) (by exact res_ct (p := 6) (u := 7) (ty := 26) rfl _ _ (w.heap.size + 1) #[.slice (some ⟨g1, 0, none⟩) m d1, .slice a2 ne d2] rfl (ld_dict (two_set HR5.out (.slice (some ⟨g1, 0, none⟩) m d1) (.slice a2 ne d2)))) rfl
    ⟨(some ⟨g1, 0, none⟩), d1, a2, d2, by rw [HMM.out, HNE.out], (od_res HO5.out HWc.out _ _), (HB5.out.setCell (by show w.heap.size ≤ w.heap.size + 1; omega) _).setCell (by show w.heap.size ≤ w.heap.size + 1; omega) _⟩
set_option maxRecDepth 20000 in
set_option maxHeartbeats 8000000 in
theorem specSet_val (ix : List Int) (es : List Ent) (key : ByteArray) (val : Int) (g c1 c2 : Nat) (a : Option Addr) (w : World) (h : Tb w g ix a es) (hl : es.length ≤ 1048576) (hm : ix.length ≤ 1048576) (hks : KeysS es) (hky : key.size ≤ 1048576) (_ : a = none → c2 = 0) (hkb : keyB key = true) (hvb : okV val = true) (hdo : dokB ix es = true) (k : Nat) (hp : plc ix es key (hk key) = (k : Int)) (R1 : List Int) (R2 : List Ent) (hsk : ∀ w, Tb w g ix a es → Calls Try.prog 79 #[.agg #[.slice (some ⟨g, 0, none⟩) ix.length c1, .slice a es.length c2], .string key, .int .i64 val] w (OdQ (R1, R2) w)) :
    Calls Try.prog 38 #[.agg #[.slice (some ⟨g, 0, none⟩) ix.length c1, .slice a es.length c2], .string key, .int .i64 val] w (OdP ((R1, R2), true) w) := by
  obtain ⟨w1, hw1⟩ : ∃ w1, w1 = (w.alloc (Obj.cells #[.slice (some ⟨g, 0, none⟩) ix.length c1, .slice a es.length c2] 26)).alloc (Obj.cells #[.slice none 0 0, .slice none 0 0] 26) := ⟨_, rfl⟩
  have HB1 := Lib.hid (show Below w.heap.size w w1 from by rw [hw1]; exact ((Below.refl _ _).alloc (Nat.le_refl _) _).alloc (by simp) _)
  have HX1 := Lib.hid (show Blk w1 w.heap.size 26 #[.slice (some ⟨g, 0, none⟩) ix.length c1, .slice a es.length c2] from by rw [hw1]; exact (Blk.newest w _ _).alloc _)
  have HY1 := Lib.hid (show Blk w1 (w.heap.size + 1) 26 #[.slice none 0 0, .slice none 0 0] from by rw [hw1]; exact Blk.new _ _ _ (by simp))
  have HT1 := Lib.hid (h.below HB1.out)
  have HK := Lib.hid (fun w => validKey_any key w (by omega))
  have HV := Lib.hid (fun w => inRange_any val w)
  have HD := Lib.hid (validDict_any ix es g c1 c2 a w1 HT1.out hl hm hks)
  have HSZ := Lib.hid (show w1.heap.size = w.heap.size + 2 by rw [hw1]; simp)
  have HW1 := Lib.hid hw1
  rw [hkb] at HK
  rw [hvb] at HV
  rw [hdo] at HD
  have hd := dok_of hdo
  have hmx : 8 ≤ ix.length ∧ ix.length ≤ 128 := by have := slotN_mem hd.1.1; simp at this; omega
  have HSl := Lib.hid (fun w h => slotOf_ok ix es key g c1 c2 a w h hd.1 hky)
  have hfs := (fst_ok (key := key) hd.1 (hsh_lt key.data.toList)).2.2.2
  have hsl := fstS_lt (key := key) hd.1 (hsh_lt key.data.toList)
  have hhk : hk key = hsh key.data.toList := rfl
  rw [← hhk] at HSl hfs hsl
  rw [hp] at hfs
  have HP4 := Lib.hid hfs
  have HLv := Lib.hid (fun w' h => liveEntries_any (.slice (some ⟨g, 0, none⟩) ix.length c1) es a c2 w' h hl rfl)
  have HSk := Lib.hid (fun w h => hsk w h)
  unfold OdQ at HSk
  dsimp only at HSk
  clear hfs hp hhk hd hkb hvb hdo h hw1 hsk
  generalize hk key = hh at *
  generalize fstS ix es key hh = s at *
  generalize liveN es = lv at *
  generalize hr1 : R1.length = n1 at *
  generalize hr2 : R2.length = n2 at *
  have HR1 := Lib.hid hr1
  have HR2' := Lib.hid hr2
  clear hr1 hr2
  generalize hmm : ix.length = m at *
  generalize hne : es.length = ne at *
  have HNE := Lib.hid hne
  have HMM := Lib.hid hmm
  clear hmm hne
  have s1 : (s : Int) < (m : Int) := by omega
  have s0 : 0 ≤ (s : Int) := by omega
  go_enter Try.func38, Try.ntmps38
  go_wp2_with fail
  rw [← HW1.out]
  refine HD.out.mono ?_
  rintro e w2 ⟨rfl, hb2⟩
  have HB2 := Lib.hid (HB1.out.trans (hb2.mono HB1.out.size))
  have HR2 := Lib.hid (HY1.out.below hb2 HY1.out.lt)
  have HX2 := Lib.hid (HX1.out.below hb2 HX1.out.lt)
  have HT2 := Lib.hid (HT1.out.below hb2)
  have HW2 := Lib.hid (show w.heap.size + 2 ≤ w2.heap.size by have := hb2.size; have := HSZ.out; omega)
  clear hb2
  go_wp2_with fail
  refine (HK.out _).mono ?_
  rintro e w9 ⟨rfl, rfl⟩
  go_wp2_with fail
  refine (HV.out _).mono ?_
  rintro e w9 ⟨rfl, rfl⟩
  have HS := Lib.hid (fun w' (hb : Below w2.heap.size w2 w') => show w'.cell? ⟨w.heap.size, 0, none⟩ = some (.slice (some ⟨g, 0, none⟩) m c1) ∧ w'.cell? ⟨w.heap.size, 1, none⟩ = some (.slice a ne c2) ∧ w'.cell? ⟨g, s, none⟩ = some (.int .i64 ((k : Int))) from
    have hX := HX2.out.below hb HX2.out.lt
    ⟨hX.cell 0, hX.cell 1, (HT2.out.below hb).2.1 _ _ HP4.out⟩)
  go_upto_region 3 with fail
  go_cut [34] (fun q wx => q = .bool false ∧ Hid (Below w2.heap.size w2 wx))
  case first =>
    obtain ⟨b0, b1, i0⟩ := HS.out w2 (Below.refl _ _)
    go_region_with (first | (go_at_call 64; refine (HSl.out _ (by first | exact HT2.out | exact HT2.out.below (Below.refl _ _).drew)).mono ?_; rintro r w3 ⟨rfl, hb3⟩; have HB23 := Lib.hid (show Below w2.heap.size w2 w3 from (by first | exact hb3 | exact ((Below.refl _ w2).drew).trans hb3)); obtain ⟨y0, y1, y2⟩ := HS.out w3 HB23.out; clear hb3))
    all_goals (try go_wp2)
    all_goals go_meet
    all_goals exact ⟨by first | rfl | (simp; omega), HB23⟩
  obtain ⟨rfl, HBc⟩ := hcut
  have HTc := Lib.hid (HT2.out.below HBc.out)
  have HXc := Lib.hid (HX2.out.below HBc.out HX2.out.lt)
  have HRc := Lib.hid (HR2.out.below HBc.out HR2.out.lt)
  have HBw := Lib.hid (HB2.out.trans (HBc.out.mono HB2.out.size))
  have HWc := Lib.hid (show w.heap.size + 2 ≤ wc.heap.size from Nat.le_trans HW2.out HBc.out.size)
  have b0 := HXc.out.cell 0
  have b1 := HXc.out.cell 1
  go_wp2_with fail
  refine (HSk.out _ HTc.out).mono ?_
  rintro e w5 ⟨a1, d1, a2, d2, rfl, ho5, hb5⟩
  have HO5 := Lib.hid (show OdD w5 wc.heap.size (R1, R2) a1 d1 a2 d2 from ho5)
  have HR5 := Lib.hid (HRc.out.below hb5 HRc.out.lt)
  have HB5 := Lib.hid (HBw.out.trans (hb5.mono HBw.out.size))
  clear ho5 hb5
  have z0 := HR5.out.cell 0
  have z1 := HR5.out.cell 1
  have z2 := HR5.out.free 0
  have z3 := HR5.out.free 1
  go_wp2_with fail
  exact bodyPost_ret (v := .tuple #[.agg #[.slice a1 n1 d1, .slice a2 n2 d2], .bool true]) (by exact res_ct (p := 6) (u := 7) (ty := 26) rfl _ _ (w.heap.size + 1) #[.slice a1 n1 d1, .slice a2 n2 d2] rfl (ld_dict (two_set HR5.out (.slice a1 n1 d1) (.slice a2 n2 d2)))) rfl
    ⟨a1, d1, a2, d2, by rw [HR1.out, HR2'.out], (od_res HO5.out HWc.out _ _), (HB5.out.setCell (by show w.heap.size ≤ w.heap.size + 1; omega) _).setCell (by show w.heap.size ≤ w.heap.size + 1; omega) _⟩
set_option maxRecDepth 20000 in
set_option maxHeartbeats 8000000 in
theorem specSet_put (ix : List Int) (es : List Ent) (key : ByteArray) (val : Int) (g c1 c2 : Nat) (a : Option Addr) (w : World) (h : Tb w g ix a es) (hl : es.length ≤ 1048576) (hm : ix.length ≤ 1048576) (hks : KeysS es) (hky : key.size ≤ 1048576) (_ : a = none → c2 = 0) (hkb : keyB key = true) (hvb : okV val = true) (hdo : dokB ix es = true) (hp : plc ix es key (hk key) = -1) (hlt : liveN es < 40) (R1 : List Int) (R2 : List Ent) (hsk : ∀ w, Tb w g ix a es → Calls Try.prog 79 #[.agg #[.slice (some ⟨g, 0, none⟩) ix.length c1, .slice a es.length c2], .string key, .int .i64 val] w (OdQ (R1, R2) w)) :
    Calls Try.prog 38 #[.agg #[.slice (some ⟨g, 0, none⟩) ix.length c1, .slice a es.length c2], .string key, .int .i64 val] w (OdP ((R1, R2), true) w) := by
  obtain ⟨w1, hw1⟩ : ∃ w1, w1 = (w.alloc (Obj.cells #[.slice (some ⟨g, 0, none⟩) ix.length c1, .slice a es.length c2] 26)).alloc (Obj.cells #[.slice none 0 0, .slice none 0 0] 26) := ⟨_, rfl⟩
  have HB1 := Lib.hid (show Below w.heap.size w w1 from by rw [hw1]; exact ((Below.refl _ _).alloc (Nat.le_refl _) _).alloc (by simp) _)
  have HX1 := Lib.hid (show Blk w1 w.heap.size 26 #[.slice (some ⟨g, 0, none⟩) ix.length c1, .slice a es.length c2] from by rw [hw1]; exact (Blk.newest w _ _).alloc _)
  have HY1 := Lib.hid (show Blk w1 (w.heap.size + 1) 26 #[.slice none 0 0, .slice none 0 0] from by rw [hw1]; exact Blk.new _ _ _ (by simp))
  have HT1 := Lib.hid (h.below HB1.out)
  have HK := Lib.hid (fun w => validKey_any key w (by omega))
  have HV := Lib.hid (fun w => inRange_any val w)
  have HD := Lib.hid (validDict_any ix es g c1 c2 a w1 HT1.out hl hm hks)
  have HSZ := Lib.hid (show w1.heap.size = w.heap.size + 2 by rw [hw1]; simp)
  have HW1 := Lib.hid hw1
  rw [hkb] at HK
  rw [hvb] at HV
  rw [hdo] at HD
  have hd := dok_of hdo
  have hmx : 8 ≤ ix.length ∧ ix.length ≤ 128 := by have := slotN_mem hd.1.1; simp at this; omega
  have HSl := Lib.hid (fun w h => slotOf_ok ix es key g c1 c2 a w h hd.1 hky)
  have hfs := (fst_ok (key := key) hd.1 (hsh_lt key.data.toList)).2.2.2
  have hsl := fstS_lt (key := key) hd.1 (hsh_lt key.data.toList)
  have hhk : hk key = hsh key.data.toList := rfl
  rw [← hhk] at HSl hfs hsl
  rw [hp] at hfs
  have HP4 := Lib.hid hfs
  have HLv := Lib.hid (fun w' h => liveEntries_any (.slice (some ⟨g, 0, none⟩) ix.length c1) es a c2 w' h hl rfl)
  have HSk := Lib.hid (fun w h => hsk w h)
  unfold OdQ at HSk
  dsimp only at HSk
  have l40 : ¬ (40 : Int) ≤ (liveN es : Int) := by omega
  clear hfs hp hhk hd hkb hvb hdo h hw1 hsk
  generalize hk key = hh at *
  generalize fstS ix es key hh = s at *
  generalize liveN es = lv at *
  generalize hr1 : R1.length = n1 at *
  generalize hr2 : R2.length = n2 at *
  have HR1 := Lib.hid hr1
  have HR2' := Lib.hid hr2
  clear hr1 hr2
  generalize hmm : ix.length = m at *
  generalize hne : es.length = ne at *
  have HNE := Lib.hid hne
  have HMM := Lib.hid hmm
  clear hmm hne
  have s1 : (s : Int) < (m : Int) := by omega
  have s0 : 0 ≤ (s : Int) := by omega
  go_enter Try.func38, Try.ntmps38
  go_wp2_with fail
  rw [← HW1.out]
  refine HD.out.mono ?_
  rintro e w2 ⟨rfl, hb2⟩
  have HB2 := Lib.hid (HB1.out.trans (hb2.mono HB1.out.size))
  have HR2 := Lib.hid (HY1.out.below hb2 HY1.out.lt)
  have HX2 := Lib.hid (HX1.out.below hb2 HX1.out.lt)
  have HT2 := Lib.hid (HT1.out.below hb2)
  have HW2 := Lib.hid (show w.heap.size + 2 ≤ w2.heap.size by have := hb2.size; have := HSZ.out; omega)
  clear hb2
  go_wp2_with fail
  refine (HK.out _).mono ?_
  rintro e w9 ⟨rfl, rfl⟩
  go_wp2_with fail
  refine (HV.out _).mono ?_
  rintro e w9 ⟨rfl, rfl⟩
  have HS := Lib.hid (fun w' (hb : Below w2.heap.size w2 w') => show w'.cell? ⟨w.heap.size, 0, none⟩ = some (.slice (some ⟨g, 0, none⟩) m c1) ∧ w'.cell? ⟨w.heap.size, 1, none⟩ = some (.slice a ne c2) ∧ w'.cell? ⟨g, s, none⟩ = some (.int .i64 (-1)) from
    have hX := HX2.out.below hb HX2.out.lt
    ⟨hX.cell 0, hX.cell 1, (HT2.out.below hb).2.1 _ _ HP4.out⟩)
  go_upto_region 3 with fail
  go_cut [34] (fun q wx => q = .bool false ∧ Hid (Below w2.heap.size w2 wx))
  case first =>
    obtain ⟨b0, b1, i0⟩ := HS.out w2 (Below.refl _ _)
    go_region_with (first | (go_at_call 64; refine (HSl.out _ (by first | exact HT2.out | exact HT2.out.below (Below.refl _ _).drew)).mono ?_; rintro r w3 ⟨rfl, hb3⟩; have HB23 := Lib.hid (show Below w2.heap.size w2 w3 from (by first | exact hb3 | exact ((Below.refl _ w2).drew).trans hb3)); obtain ⟨y0, y1, y2⟩ := HS.out w3 HB23.out; clear hb3) | (go_at_call 69; refine (HLv.out _ (HT2.out.below HB23.out).2.2).mono ?_; rintro r w4 ⟨rfl, hb4⟩; have HB24 := Lib.hid (show Below w2.heap.size w2 w4 from HB23.out.trans (hb4.mono HB23.out.size)); obtain ⟨u0, u1, u2⟩ := HS.out w4 HB24.out; clear hb4))
    all_goals (try go_wp2)
    all_goals go_meet
    all_goals exact ⟨by first | rfl | (simp; omega), HB24⟩
  obtain ⟨rfl, HBc⟩ := hcut
  have HTc := Lib.hid (HT2.out.below HBc.out)
  have HXc := Lib.hid (HX2.out.below HBc.out HX2.out.lt)
  have HRc := Lib.hid (HR2.out.below HBc.out HR2.out.lt)
  have HBw := Lib.hid (HB2.out.trans (HBc.out.mono HB2.out.size))
  have HWc := Lib.hid (show w.heap.size + 2 ≤ wc.heap.size from Nat.le_trans HW2.out HBc.out.size)
  have b0 := HXc.out.cell 0
  have b1 := HXc.out.cell 1
  go_wp2_with fail
  refine (HSk.out _ HTc.out).mono ?_
  rintro e w5 ⟨a1, d1, a2, d2, rfl, ho5, hb5⟩
  have HO5 := Lib.hid (show OdD w5 wc.heap.size (R1, R2) a1 d1 a2 d2 from ho5)
  have HR5 := Lib.hid (HRc.out.below hb5 HRc.out.lt)
  have HB5 := Lib.hid (HBw.out.trans (hb5.mono HBw.out.size))
  clear ho5 hb5
  have z0 := HR5.out.cell 0
  have z1 := HR5.out.cell 1
  have z2 := HR5.out.free 0
  have z3 := HR5.out.free 1
  go_wp2_with fail
  exact bodyPost_ret (v := .tuple #[.agg #[.slice a1 n1 d1, .slice a2 n2 d2], .bool true]) (by exact res_ct (p := 6) (u := 7) (ty := 26) rfl _ _ (w.heap.size + 1) #[.slice a1 n1 d1, .slice a2 n2 d2] rfl (ld_dict (two_set HR5.out (.slice a1 n1 d1) (.slice a2 n2 d2)))) rfl
    ⟨a1, d1, a2, d2, by rw [HR1.out, HR2'.out], (od_res HO5.out HWc.out _ _), (HB5.out.setCell (by show w.heap.size ≤ w.heap.size + 1; omega) _).setCell (by show w.heap.size ≤ w.heap.size + 1; omega) _⟩
set_option maxRecDepth 20000 in
theorem specSet_any (ix : List Int) (es : List Ent) (key : ByteArray) (val : Int) (g c1 c2 : Nat) (a : Option Addr) (w : World) (h : Tb w g ix a es) (hl : es.length ≤ 1048576) (hm : ix.length ≤ 1048576) (hks : KeysS es) (hky : key.size ≤ 1048576) (hcap : a = none → c2 = 0) :
    Calls Try.prog 38 #[.agg #[.slice (some ⟨g, 0, none⟩) ix.length c1, .slice a es.length c2], .string key, .int .i64 val] w (OdP (stV ix es key val) w) := by
  by_cases hno : (keyB key && (okV val && dokB ix es)) = false
  · rw [stV_no hno]
    exact specSet_no ix es key val g c1 c2 a w h hl hm hks hky hno
  · have hyes : keyB key = true ∧ okV val = true ∧ dokB ix es = true := by simpa using hno
    obtain ⟨h1, h2, h3⟩ := hyes
    rw [stV_yes h1 h2 h3]
    have hd := dok_of h3
    have hv := okV_b h2
    rcases plc_in2 (key := key) hd.1 (hsh_lt key.data.toList) with hp | ⟨k, hp, hkn⟩
    · have hp2 : plc ix es key (hk key) = -1 := hp
      rw [hp2, if_neg (by decide)]
      by_cases h40 : liveN es = 40
      · rw [if_pos h40]
        exact specSet_full ix es key val g c1 c2 a w h hl hm hks hky hcap h1 h2 h3 hp2 h40
      · rw [if_neg h40]
        have hle := hd.2.1
        have hro2 := hd.1.2.1
        by_cases hro : es.length = 2 * ix.length / 3
        · rw [if_pos hro]
          exact specSet_put ix es key val g c1 c2 a w h hl hm hks hky hcap h1 h2 h3 hp2 (by omega) _ _ (fun w h => setKey_pack ix es key val g c1 c2 a w h hl hm hks hky hcap hv hd hp2 (by omega) hro)
        · rw [if_neg hro]
          exact specSet_put ix es key val g c1 c2 a w h hl hm hks hky hcap h1 h2 h3 hp2 (by omega) _ _ (fun w h => setKey_put ix es key val g c1 c2 a w h hl hm hks hky hcap hv hd hp2 (by omega))
    · have hp2 : plc ix es key (hk key) = (k : Int) := hp
      rw [hp2, if_pos (by omega), Int.toNat_natCast]
      exact specSet_val ix es key val g c1 c2 a w h hl hm hks hky hcap h1 h2 h3 k hp2 _ _ (fun w h => setKey_val ix es key val g c1 c2 a w h hl hm hks hky hcap hv hd k hp2 hkn)
theorem stV_len {ix : List Int} {es : List Ent} {key : ByteArray} {val : Int} : (stV ix es key val).1.1.length ≤ 128 ∧ (stV ix es key val).1.2.length ≤ 200 := by
  unfold stV
  split
  · next h =>
    have hd : dokB ix es = true := by simp at h; exact h.2.2
    have hk := dok_of hd
    have hf := hk.1
    have hm : ix.length ≤ 128 := by have := slotN_mem hf.1; simp at this; omega
    have he : es.length ≤ 128 := by have := hf.2.1; omega
    split
    · exact ⟨hm, by rw [valP_len]; omega⟩
    · split
      · exact ⟨hm, by show es.length ≤ 200; omega⟩
      · next h40 =>
        split
        · have h1 := pkd_ok (c := scN (liveN es + 1)) (es := es) (slotN_sc _) (once_of hk) (by have := scN_room (show liveN es ≤ 40 from hk.2.1); have h7 := hk.2.1; have h8 := scN_room (show liveN es + 1 ≤ 40 by omega); omega) es.length (Nat.le_refl _)
          rw [List.take_length] at h1
          have h2 := scN_le (liveN es + 1)
          have h3 := h1.1.2.1
          have h4 := h1.2.1
          unfold putP
          simp only [List.length_set, List.length_append, List.length_cons, List.length_nil]
          omega
        · unfold putP
          simp only [List.length_set, List.length_append, List.length_cons, List.length_nil]
          omega
  · simp
end Go.Proofs.Ytibglmcpbbikdaa
