/- DictGet and DictProbes. -/
import Derived.Test.YtibglmcpbbikdaaLaC
import Derived.Test.YtibglmcpbbikdaaLaD
import Derived.Test.YtibglmcpbbikdaaLaE
namespace Go.Proofs.Ytibglmcpbbikdaa
open Go.RowKit
/-- What lies at a place. -/
def valAt (es : List Ent) (n : Int) : Int := (es[n.toNat]?.map (·.val)).getD 0
theorem valAt_is {es : List Ent} {k : Nat} {e : Ent} (h : es[k]? = some e) : valAt es (k : Int) = e.val := by unfold valAt; rw [Int.toNat_natCast, h]; rfl
/-- An entry that is alive has the same value there. -/
def smE (ix : List Int) (es : List Ent) (e : Ent) : Bool := !e.live || (decide (0 ≤ plc ix es e.key (hsh e.key.data.toList)) && (valAt es (plc ix es e.key (hsh e.key.data.toList)) == e.val))
noncomputable def sameB (ixA : List Int) (esA : List Ent) (ixB : List Int) (esB : List Ent) : Bool := dokB ixA esA && (dokB ixB esB && ((liveN esA == liveN esB) && esA.all (smE ixB esB)))
theorem same_a {ixA ixB : List Int} {esA esB : List Ent} (h : dokB ixA esA = false) : sameB ixA esA ixB esB = false := by unfold sameB; rw [h]; rfl
theorem same_b {ixA ixB : List Int} {esA esB : List Ent} (h : dokB ixB esB = false) : sameB ixA esA ixB esB = false := by unfold sameB; rw [h]; simp
theorem same_n {ixA ixB : List Int} {esA esB : List Ent} (h : ¬ liveN esA = liveN esB) : sameB ixA esA ixB esB = false := by unfold sameB; rw [beq_eq_false_iff_ne.2 h]; simp
theorem same_e {ixA ixB : List Int} {esA esB : List Ent} {k : Nat} {e : Ent} (h : esA[k]? = some e) (h2 : smE ixB esB e = false) : sameB ixA esA ixB esB = false := by unfold sameB; rw [not_all h h2]; simp
theorem same_y {ixA ixB : List Int} {esA esB : List Ent} (h1 : dokB ixA esA = true) (h2 : dokB ixB esB = true) (h3 : liveN esA = liveN esB) (h4 : esA.all (smE ixB esB) = true) : sameB ixA esA ixB esB = true := by unfold sameB; rw [h1, h2, h3, h4]; simp
/-- The value of a key, and whether it is there. -/
noncomputable def getV (ix : List Int) (es : List Ent) (key : ByteArray) : Int × Bool :=
  if keyB key && dokB ix es then (if plc ix es key (hsh key.data.toList) < 0 then (0, false) else (valAt es (plc ix es key (hsh key.data.toList)), true)) else (0, false)
theorem getV_no {ix : List Int} {es : List Ent} {key : ByteArray} (h : (keyB key && dokB ix es) = false) : getV ix es key = (0, false) := by unfold getV; rw [if_neg (by rw [h]; decide)]
theorem getV_yes {ix : List Int} {es : List Ent} {key : ByteArray} (h : keyB key = true) (h2 : dokB ix es = true) : getV ix es key = (if plc ix es key (hsh key.data.toList) < 0 then (0, false) else (valAt es (plc ix es key (hsh key.data.toList)), true)) := by unfold getV; rw [if_pos (by rw [h, h2]; rfl)]
def GtP (ix : List Int) (es : List Ent) (key : ByteArray) (w : World) (e : Ending) (w' : World) : Prop := e = .returned (.tuple #[.int .i64 (getV ix es key).1, .bool (getV ix es key).2]) ∧ Below w.heap.size w w'
theorem plc_in {ix : List Int} {es : List Ent} {key : ByteArray} {hs : Nat} (h : Fit ix es) (hh : hs < 65536) : plc ix es key hs = -1 ∨ ∃ k : Nat, plc ix es key hs = (k : Int) ∧ k < es.length := by
  rcases plc_is (key := key) h hh with h1 | ⟨k, h1, h2, _⟩
  · exact .inl h1
  · exact .inr ⟨k, h1, h2⟩
set_option maxRecDepth 20000 in
set_option maxHeartbeats 4000000 in
theorem dictGet_any (ix : List Int) (es : List Ent) (key : ByteArray) (g c1 c2 : Nat) (a : Option Addr) (w : World) (h : Tb w g ix a es) (hl : es.length ≤ 1048576) (hm : ix.length ≤ 1048576) (hks : KeysS es) (hky : key.size ≤ 1048576) :
    Calls Try.prog 20 #[.agg #[.slice (some ⟨g, 0, none⟩) ix.length c1, .slice a es.length c2], .string key] w (GtP ix es key w) := by
  unfold GtP
  obtain ⟨w1, hw1⟩ : ∃ w1, w1 = w.alloc (Obj.cells #[.slice (some ⟨g, 0, none⟩) ix.length c1, .slice a es.length c2] 26) := ⟨_, rfl⟩
  have HB1 := Lib.hid (show Below w.heap.size w w1 from by rw [hw1]; exact (Below.refl _ _).alloc (Nat.le_refl _) _)
  have HT1 := Lib.hid (h.below HB1.out)
  have HX1 := Lib.hid (show Blk w1 w.heap.size _ #[.slice (some ⟨g, 0, none⟩) ix.length c1, .slice a es.length c2] from by rw [hw1]; exact Blk.newest w _ _)
  have HK := Lib.hid (fun w => isKey_any key w (by omega))
  have HD := Lib.hid (dictOk_any ix es g c1 c2 a w1 HT1.out hl hm hks)
  have HW1 := Lib.hid hw1
  cases hkb : keyB key with
  | false =>
    have HE := Lib.hid (getV_no (ix := ix) (es := es) (key := key) (by rw [hkb]; rfl))
    rw [hkb] at HK
    clear hkb h hw1 HD
    generalize ix.length = m at *
    generalize es.length = ne at *
    go_enter Try.func20, Try.ntmps20
    go_wp2_with fail
    rw [← HW1.out]
    refine (HK.out _).mono ?_
    rintro e w2 ⟨rfl, rfl⟩
    go_wp2_with fail
    go_ret2
    exact ⟨by rw [HE.out]; rfl, HB1.out⟩
  | true =>
    rw [hkb] at HK
    cases hdo : dokB ix es with
    | false =>
      have HE := Lib.hid (getV_no (ix := ix) (es := es) (key := key) (by rw [hdo, Bool.and_false]))
      rw [hdo] at HD
      clear hkb hdo h hw1
      generalize ix.length = m at *
      generalize es.length = ne at *
      go_enter Try.func20, Try.ntmps20
      go_wp2_with fail
      rw [← HW1.out]
      refine (HK.out _).mono ?_
      rintro e w2 ⟨rfl, rfl⟩
      have b0 := HX1.out.cell 0
      have b1 := HX1.out.cell 1
      go_wp2_with fail
      refine HD.out.mono ?_
      rintro e w2 ⟨rfl, hb2⟩
      have HB2 := Lib.hid (HB1.out.trans (hb2.mono HB1.out.size))
      clear hb2
      go_wp2_with fail
      go_ret2
      exact ⟨by rw [HE.out]; rfl, HB2.out⟩
    | true =>
      have HE := getV_yes hkb hdo
      have hd := dok_of hdo
      have hpl := plc_in (key := key) hd.1 (hsh_lt key.data.toList)
      have hv2 : hashV key = (hsh key.data.toList : Int) := by unfold hashV; rw [if_pos (by unfold keyB at hkb; simpa using hkb)]
      have HH := Lib.hid (fun w => implHash_any key w (by omega))
      have HFi := Lib.hid (fun w h => find_ok ix es key g c1 c2 (hsh key.data.toList) a w h hd.1 (hsh_lt key.data.toList))
      rw [hdo] at HD
      rw [hv2] at HH
      clear hkb hdo h hw1 hv2 hd
      generalize hmm : ix.length = m at *
      generalize hne : es.length = ne at *
      have HNE := Lib.hid hne
      clear hmm hne
      generalize hsh key.data.toList = hh at *
      have HEH := Lib.hid HE
      rcases hpl with hp | ⟨k, hp, hk⟩
      · rw [hp] at HFi
        have HE2 := Lib.hid (show getV ix es key = (0, false) by rw [HE, hp]; rfl)
        clear HE hp
        go_enter Try.func20, Try.ntmps20
        go_wp2_with fail
        rw [← HW1.out]
        refine (HK.out _).mono ?_
        rintro e w2 ⟨rfl, rfl⟩
        have b0 := HX1.out.cell 0
        have b1 := HX1.out.cell 1
        go_wp2_with fail
        refine HD.out.mono ?_
        rintro e w2 ⟨rfl, hb2⟩
        have HB2 := Lib.hid (HB1.out.trans (hb2.mono HB1.out.size))
        have HX2 := Lib.hid (HX1.out.below hb2 HX1.out.lt)
        have HT2 := Lib.hid (HT1.out.below hb2)
        clear hb2 b0 b1
        have b0 := HX2.out.cell 0
        have b1 := HX2.out.cell 1
        go_wp2_with fail
        go_region_with (first | (refine (HH.out _).mono ?_; rintro e w3 ⟨rfl, rfl⟩) | (refine (HFi.out _ (by first | exact HT2.out | exact HT2.out.below (below_drewN' (Below.refl _ _)))).mono ?_; rintro e w3 ⟨rfl, hb3⟩; have HB3 := Lib.hid (show Below w2.heap.size w2 w3 from (by first | exact hb3 | exact ((Below.refl _ w2).drew).trans hb3 | exact (below_drewN' (Below.refl _ w2)).trans hb3)); clear hb3))
        all_goals
          go_wp2_with fail
          go_ret2
          exact ⟨by rw [HE2.out]; rfl, HB2.out.trans (HB3.out.mono HB2.out.size)⟩
      · rw [hp] at HFi
        obtain ⟨e9, he9⟩ : ∃ e, es[k]? = some e := ⟨_, List.getElem?_eq_getElem (by have := HNE.out; omega)⟩
        have HE2 := Lib.hid (show getV ix es key = (e9.val, true) by rw [HE, hp, if_neg (by omega), valAt_is he9])
        have k1 : (k : Int) < (ne : Int) := by have := HNE.out; omega
        have k0 : 0 ≤ (k : Int) := by omega
        have k2 : ((k : Int) == -1) = false := beq_eq_false_iff_ne.2 (by omega)
        have HKN := Lib.hid hk
        have HGE := Lib.hid he9
        clear HE hp he9
        go_enter Try.func20, Try.ntmps20
        go_wp2_with fail
        rw [← HW1.out]
        refine (HK.out _).mono ?_
        rintro e w2 ⟨rfl, rfl⟩
        have b0 := HX1.out.cell 0
        have b1 := HX1.out.cell 1
        go_wp2_with fail
        refine HD.out.mono ?_
        rintro e w2 ⟨rfl, hb2⟩
        have HB2 := Lib.hid (HB1.out.trans (hb2.mono HB1.out.size))
        have HX2 := Lib.hid (HX1.out.below hb2 HX1.out.lt)
        have HT2 := Lib.hid (HT1.out.below hb2)
        clear hb2 b0 b1
        have b0 := HX2.out.cell 0
        have b1 := HX2.out.cell 1
        obtain ⟨g9, e8, ha9, he8, hb9, x0, x1, x2, x3⟩ := HT2.out.2.2.at (show k < es.length by rw [HNE.out]; exact HKN.out)
        obtain rfl : e8 = e9 := by have := HGE.out; rw [he8] at this; injection this
        subst ha9
        have HC := Lib.hid (show ∀ w', Below w2.heap.size w2 w' → w'.cell? ⟨g9, k * 4 + 2, none⟩ = some (.int .i64 e8.val) from fun w' hb => (hb.cell hb9).trans x2)
        clear x0 x1 x2 x3 he8
        go_wp2_with fail
        go_region_with (first | (refine (HH.out _).mono ?_; rintro e w3 ⟨rfl, rfl⟩) | (refine (HFi.out _ (by first | exact HT2.out | exact HT2.out.below (below_drewN' (Below.refl _ _)))).mono ?_; rintro e w3 ⟨rfl, hb3⟩; have HB3 := Lib.hid (show Below w2.heap.size w2 w3 from (by first | exact hb3 | exact ((Below.refl _ w2).drew).trans hb3 | exact (below_drewN' (Below.refl _ w2)).trans hb3)); have HX3 := Lib.hid (HX2.out.below HB3.out HX2.out.lt); have p0 := HX3.out.cell 0; have p1 := HX3.out.cell 1; have p2 := HC.out _ HB3.out; clear hb3))
        all_goals
          go_wp2_with fail
          go_ret2
          exact ⟨by rw [HE2.out]; rfl, HB2.out.trans (HB3.out.mono HB2.out.size)⟩
set_option maxRecDepth 20000 in
set_option maxHeartbeats 4000000 in
theorem specDictGet_any (ix : List Int) (es : List Ent) (key : ByteArray) (g c1 c2 : Nat) (a : Option Addr) (w : World) (h : Tb w g ix a es) (hl : es.length ≤ 1048576) (hm : ix.length ≤ 1048576) (hks : KeysS es) (hky : key.size ≤ 1048576) :
    Calls Try.prog 29 #[.agg #[.slice (some ⟨g, 0, none⟩) ix.length c1, .slice a es.length c2], .string key] w (GtP ix es key w) := by
  unfold GtP
  obtain ⟨w1, hw1⟩ : ∃ w1, w1 = w.alloc (Obj.cells #[.slice (some ⟨g, 0, none⟩) ix.length c1, .slice a es.length c2] 26) := ⟨_, rfl⟩
  have HB1 := Lib.hid (show Below w.heap.size w w1 from by rw [hw1]; exact (Below.refl _ _).alloc (Nat.le_refl _) _)
  have HT1 := Lib.hid (h.below HB1.out)
  have HX1 := Lib.hid (show Blk w1 w.heap.size _ #[.slice (some ⟨g, 0, none⟩) ix.length c1, .slice a es.length c2] from by rw [hw1]; exact Blk.newest w _ _)
  have HK := Lib.hid (fun w => validKey_any key w (by omega))
  have HD := Lib.hid (validDict_any ix es g c1 c2 a w1 HT1.out hl hm hks)
  have HW1 := Lib.hid hw1
  have hmb : ix.length ≤ 1048576 := hm
  cases hdo : dokB ix es with
  | false =>
    have HE := Lib.hid (getV_no (ix := ix) (es := es) (key := key) (by rw [hdo, Bool.and_false]))
    rw [hdo] at HD
    clear hdo h hw1
    generalize ix.length = m at *
    generalize es.length = ne at *
    go_enter Try.func29, Try.ntmps29
    go_wp2_with fail
    rw [← HW1.out]
    refine HD.out.mono ?_
    rintro e w2 ⟨rfl, hb2⟩
    have HB2 := Lib.hid (HB1.out.trans (hb2.mono HB1.out.size))
    clear hb2
    go_wp2_with fail
    go_ret2
    exact ⟨by rw [HE.out]; rfl, HB2.out⟩
  | true =>
    rw [hdo] at HD
    cases hkb : keyB key with
    | false =>
      have HE := Lib.hid (getV_no (ix := ix) (es := es) (key := key) (by rw [hkb]; rfl))
      rw [hkb] at HK
      clear hkb hdo h hw1
      generalize ix.length = m at *
      generalize es.length = ne at *
      go_enter Try.func29, Try.ntmps29
      go_wp2_with fail
      rw [← HW1.out]
      refine HD.out.mono ?_
      rintro e w2 ⟨rfl, hb2⟩
      have HB2 := Lib.hid (HB1.out.trans (hb2.mono HB1.out.size))
      clear hb2
      go_wp2_with fail
      refine (HK.out _).mono ?_
      rintro e w3 ⟨rfl, rfl⟩
      go_wp2_with fail
      go_ret2
      exact ⟨by rw [HE.out]; rfl, HB2.out⟩
    | true =>
      rw [hkb] at HK
      have HE := getV_yes hkb hdo
      have hd := dok_of hdo
      have hpl := plc_in (key := key) hd.1 (hsh_lt key.data.toList)
      have h4 := (fst_ok (key := key) hd.1 (hsh_lt key.data.toList)).2.2.2
      have HSl := Lib.hid (fun w h => slotOf_ok ix es key g c1 c2 a w h hd.1 hky)
      have s9 : fstS ix es key (hsh key.data.toList) < ix.length := by
        rcases Nat.lt_or_ge (fstS ix es key (hsh key.data.toList)) ix.length with h7 | h7
        · exact h7
        · rw [List.getElem?_eq_none h7] at h4; cases h4
      clear hkb hdo h hw1 hd
      generalize hss : fstS ix es key (hsh key.data.toList) = s at *
      generalize hpp : plc ix es key (hsh key.data.toList) = n at *
      have HH4 := Lib.hid h4
      generalize hmm : ix.length = m at *
      generalize hne : es.length = ne at *
      have HNE := Lib.hid hne
      clear hmm hne hss hpp h4
      have s1 : (s : Int) < (m : Int) := by omega
      have s0 : 0 ≤ (s : Int) := by omega
      rcases hpl with rfl | ⟨k, rfl, hk⟩
      · have HE2 := Lib.hid (show getV ix es key = (0, false) by rw [HE]; rfl)
        clear HE
        go_enter Try.func29, Try.ntmps29
        go_wp2_with fail
        rw [← HW1.out]
        refine HD.out.mono ?_
        rintro e w2 ⟨rfl, hb2⟩
        have HB2 := Lib.hid (HB1.out.trans (hb2.mono HB1.out.size))
        have HX2 := Lib.hid (HX1.out.below hb2 HX1.out.lt)
        have HT2 := Lib.hid (HT1.out.below hb2)
        clear hb2
        go_wp2_with fail
        refine (HK.out _).mono ?_
        rintro e w3 ⟨rfl, rfl⟩
        have b0 := HX2.out.cell 0
        have b1 := HX2.out.cell 1
        go_wp2_with fail
        go_region_with (first | (refine (HSl.out _ (by first | exact HT2.out | exact HT2.out.below (below_drewN' (Below.refl _ _)))).mono ?_; rintro e w3 ⟨rfl, hb3⟩; have HB3 := Lib.hid (show Below w2.heap.size w2 w3 from (by first | exact hb3 | exact ((Below.refl _ w2).drew).trans hb3 | exact (below_drewN' (Below.refl _ w2)).trans hb3)); have HX3 := Lib.hid (HX2.out.below HB3.out HX2.out.lt); have p0 := HX3.out.cell 0; have p1 := HX3.out.cell 1; have p2 := (HT2.out.below HB3.out).2.1 _ _ HH4.out; clear hb3))
        all_goals
          go_wp2_with fail
          go_ret2
          exact ⟨by rw [HE2.out]; rfl, HB2.out.trans (HB3.out.mono HB2.out.size)⟩
      · obtain ⟨e9, he9⟩ : ∃ e, es[k]? = some e := ⟨_, List.getElem?_eq_getElem (by have := HNE.out; omega)⟩
        have HE2 := Lib.hid (show getV ix es key = (e9.val, true) by rw [HE, if_neg (by omega), valAt_is he9])
        have k1 : (k : Int) < (ne : Int) := by have := HNE.out; omega
        have k0 : 0 ≤ (k : Int) := by omega
        have HKN := Lib.hid hk
        have HGE := Lib.hid he9
        clear HE he9
        go_enter Try.func29, Try.ntmps29
        go_wp2_with fail
        rw [← HW1.out]
        refine HD.out.mono ?_
        rintro e w2 ⟨rfl, hb2⟩
        have HB2 := Lib.hid (HB1.out.trans (hb2.mono HB1.out.size))
        have HX2 := Lib.hid (HX1.out.below hb2 HX1.out.lt)
        have HT2 := Lib.hid (HT1.out.below hb2)
        clear hb2
        go_wp2_with fail
        refine (HK.out _).mono ?_
        rintro e w3 ⟨rfl, rfl⟩
        have b0 := HX2.out.cell 0
        have b1 := HX2.out.cell 1
        obtain ⟨g9, e8, ha9, he8, hb9, x0, x1, x2, x3⟩ := HT2.out.2.2.at (show k < es.length by rw [HNE.out]; exact HKN.out)
        obtain rfl : e8 = e9 := by have := HGE.out; rw [he8] at this; injection this
        subst ha9
        have HC := Lib.hid (show ∀ w', Below w2.heap.size w2 w' → w'.cell? ⟨g9, k * 4 + 2, none⟩ = some (.int .i64 e8.val) from fun w' hb => (hb.cell hb9).trans x2)
        clear x0 x1 x2 x3 he8
        go_wp2_with fail
        go_region_with (first | (refine (HSl.out _ (by first | exact HT2.out | exact HT2.out.below (below_drewN' (Below.refl _ _)))).mono ?_; rintro e w3 ⟨rfl, hb3⟩; have HB3 := Lib.hid (show Below w2.heap.size w2 w3 from (by first | exact hb3 | exact ((Below.refl _ w2).drew).trans hb3 | exact (below_drewN' (Below.refl _ w2)).trans hb3)); have HX3 := Lib.hid (HX2.out.below HB3.out HX2.out.lt); have p0 := HX3.out.cell 0; have p1 := HX3.out.cell 1; have p2 := HC.out _ HB3.out; have p3 := (HT2.out.below HB3.out).2.1 _ _ HH4.out; clear hb3))
        all_goals
          go_wp2_with fail
          go_ret2
          exact ⟨by rw [HE2.out]; rfl, HB2.out.trans (HB3.out.mono HB2.out.size)⟩
/-- The slots that are looked at for a key. -/
noncomputable def prV (ix : List Int) (es : List Ent) (key : ByteArray) : List Int :=
  if keyB key && dokB ix es then (List.range (fstT ix es key (hsh key.data.toList) + 1)).map fun t => ((pr ix.length (hsh key.data.toList) t).1 : Int) else []
theorem prV_no {ix : List Int} {es : List Ent} {key : ByteArray} (h : (keyB key && dokB ix es) = false) : prV ix es key = [] := by unfold prV; rw [if_neg (by rw [h]; decide)]
theorem prV_yes {ix : List Int} {es : List Ent} {key : ByteArray} (h : keyB key = true) (h2 : dokB ix es = true) : iv (prV ix es key) = prl ix.length (hsh key.data.toList) (fstT ix es key (hsh key.data.toList) + 1) := by
  unfold prV; rw [if_pos (by rw [h, h2]; rfl)]
  unfold iv prl
  rw [List.map_map]; rfl
theorem prV_len (ix : List Int) (es : List Ent) (key : ByteArray) : (prV ix es key).length ≤ 1048576 := by
  unfold prV
  split
  · rename_i h
    rw [Bool.and_eq_true] at h
    have h1 := (fst_ok (key := key) (dok_of h.2).1 (hsh_lt key.data.toList)).1
    simp; omega
  · simp
def PbP (ix : List Int) (es : List Ent) (key : ByteArray) (w : World) (e : Ending) (w' : World) : Prop := ∃ v, e = .returned v ∧ OwI w' w.heap.size v (prV ix es key) ∧ Below w.heap.size w w'
theorem ow_nil (w : World) (b : Nat) {ix : List Int} {es : List Ent} {key : ByteArray} (h : prV ix es key = []) : OwI w b (.slice none 0 0) (prV ix es key) := by rw [h]; exact Own.nil w b 3
set_option maxRecDepth 20000 in
set_option maxHeartbeats 4000000 in
theorem dictProbes_any (ix : List Int) (es : List Ent) (key : ByteArray) (g c1 c2 : Nat) (a : Option Addr) (w : World) (h : Tb w g ix a es) (hl : es.length ≤ 1048576) (hm : ix.length ≤ 1048576) (hks : KeysS es) (hky : key.size ≤ 1048576) :
    Calls Try.prog 24 #[.agg #[.slice (some ⟨g, 0, none⟩) ix.length c1, .slice a es.length c2], .string key] w (PbP ix es key w) := by
  unfold PbP
  obtain ⟨w1, hw1⟩ : ∃ w1, w1 = w.alloc (Obj.cells #[.slice (some ⟨g, 0, none⟩) ix.length c1, .slice a es.length c2] 26) := ⟨_, rfl⟩
  have HB1 := Lib.hid (show Below w.heap.size w w1 from by rw [hw1]; exact (Below.refl _ _).alloc (Nat.le_refl _) _)
  have HT1 := Lib.hid (h.below HB1.out)
  have HX1 := Lib.hid (show Blk w1 w.heap.size _ #[.slice (some ⟨g, 0, none⟩) ix.length c1, .slice a es.length c2] from by rw [hw1]; exact Blk.newest w _ _)
  have HK := Lib.hid (fun w => isKey_any key w (by omega))
  have HD := Lib.hid (dictOk_any ix es g c1 c2 a w1 HT1.out hl hm hks)
  have HW1 := Lib.hid hw1
  cases hkb : keyB key with
  | false =>
    have HE := Lib.hid (prV_no (ix := ix) (es := es) (key := key) (by rw [hkb]; rfl))
    rw [hkb] at HK
    clear hkb h hw1 HD
    generalize ix.length = m at *
    generalize es.length = ne at *
    go_enter Try.func24, Try.ntmps24
    go_wp2_with fail
    rw [← HW1.out]
    refine (HK.out _).mono ?_
    rintro e w2 ⟨rfl, rfl⟩
    go_wp2_with fail
    go_ret
    exact ⟨_, rfl, ow_nil _ _ HE.out, HB1.out⟩
  | true =>
    rw [hkb] at HK
    cases hdo : dokB ix es with
    | false =>
      have HE := Lib.hid (prV_no (ix := ix) (es := es) (key := key) (by rw [hdo, Bool.and_false]))
      rw [hdo] at HD
      clear hkb hdo h hw1
      generalize ix.length = m at *
      generalize es.length = ne at *
      go_enter Try.func24, Try.ntmps24
      go_wp2_with fail
      rw [← HW1.out]
      refine (HK.out _).mono ?_
      rintro e w2 ⟨rfl, rfl⟩
      have b0 := HX1.out.cell 0
      have b1 := HX1.out.cell 1
      go_wp2_with fail
      refine HD.out.mono ?_
      rintro e w2 ⟨rfl, hb2⟩
      have HB2 := Lib.hid (HB1.out.trans (hb2.mono HB1.out.size))
      clear hb2
      go_wp2_with fail
      go_ret
      exact ⟨_, rfl, ow_nil _ _ HE.out, HB2.out⟩
    | true =>
      have HE := Lib.hid (prV_yes hkb hdo)
      have hd := dok_of hdo
      have hf := fst_ok (key := key) hd.1 (hsh_lt key.data.toList)
      have hv2 : hashV key = (hsh key.data.toList : Int) := by unfold hashV; rw [if_pos (by unfold keyB at hkb; simpa using hkb)]
      have HH := Lib.hid (fun w => implHash_any key w (by omega))
      have HP := Lib.hid (fun w h => (probes_any ix es key g c1 c2 (hsh key.data.toList) (fstT ix es key (hsh key.data.toList)) a w h hd.1.2.2.1 hd.1.1 hl (hsh_lt key.data.toList) hf.1 hf.2.1 hf.2.2.1).mono (R' := fun e w' => ∃ v, e = .returned v ∧ Own w' w.heap.size 3 v (prl ix.length (hsh key.data.toList) (fstT ix es key (hsh key.data.toList) + 1)) ∧ Below w.heap.size w w') (by
        rintro e w' ⟨v, rfl, q1, _, q3⟩
        refine ⟨v, rfl, ?_, ((Below.refl _ w).alloc (Nat.le_refl _) _).trans (q1.mono (by simp))⟩
        have q4 := OwI.wide (b' := w.heap.size) (is := prV ix es key) (by unfold OwI; rw [prV_yes hkb hdo]; exact q3) (by simp)
        unfold OwI at q4
        rwa [prV_yes hkb hdo] at q4))
      rw [hdo] at HD
      rw [hv2] at HH
      clear hkb hdo h hw1 hv2 hd hf
      generalize ix.length = m at *
      generalize es.length = ne at *
      generalize fstT ix es key (hsh key.data.toList) = T at *
      generalize hsh key.data.toList = hh at *
      go_enter Try.func24, Try.ntmps24
      go_wp2_with fail
      rw [← HW1.out]
      refine (HK.out _).mono ?_
      rintro e w2 ⟨rfl, rfl⟩
      have b0 := HX1.out.cell 0
      have b1 := HX1.out.cell 1
      go_wp2_with fail
      refine HD.out.mono ?_
      rintro e w2 ⟨rfl, hb2⟩
      have HB2 := Lib.hid (HB1.out.trans (hb2.mono HB1.out.size))
      have HX2 := Lib.hid (HX1.out.below hb2 HX1.out.lt)
      have HT2 := Lib.hid (HT1.out.below hb2)
      clear hb2 b0 b1
      have b0 := HX2.out.cell 0
      have b1 := HX2.out.cell 1
      go_wp2_with fail
      go_region_with (first | (refine (HH.out _).mono ?_; rintro e w3 ⟨rfl, rfl⟩) | (refine (HP.out _ (by first | exact HT2.out | exact HT2.out.below (below_drewN' (Below.refl _ _)))).mono ?_; rintro e w3 ⟨v3, rfl, ho3, hb3⟩; have HB3 := Lib.hid (show Below w2.heap.size w2 w3 from (by first | exact hb3 | exact ((Below.refl _ w2).drew).trans hb3 | exact (below_drewN' (Below.refl _ w2)).trans hb3)); have HO3 := Lib.hid (show Own w3 w2.heap.size 3 v3 _ from ho3); clear hb3 ho3))
      all_goals
        go_wp2_with fail
        go_ret
        exact ⟨_, rfl, OwI.wide (by unfold OwI; rw [HE.out]; exact HO3.out) HB2.out.size, HB2.out.trans (HB3.out.mono HB2.out.size)⟩
set_option maxRecDepth 20000 in
set_option maxHeartbeats 4000000 in
theorem specDictProbes_any (ix : List Int) (es : List Ent) (key : ByteArray) (g c1 c2 : Nat) (a : Option Addr) (w : World) (h : Tb w g ix a es) (hl : es.length ≤ 1048576) (hm : ix.length ≤ 1048576) (hks : KeysS es) (hky : key.size ≤ 1048576) :
    Calls Try.prog 25 #[.agg #[.slice (some ⟨g, 0, none⟩) ix.length c1, .slice a es.length c2], .string key] w (PbP ix es key w) := by
  unfold PbP
  obtain ⟨w1, hw1⟩ : ∃ w1, w1 = w.alloc (Obj.cells #[.slice (some ⟨g, 0, none⟩) ix.length c1, .slice a es.length c2] 26) := ⟨_, rfl⟩
  have HB1 := Lib.hid (show Below w.heap.size w w1 from by rw [hw1]; exact (Below.refl _ _).alloc (Nat.le_refl _) _)
  have HT1 := Lib.hid (h.below HB1.out)
  have HX1 := Lib.hid (show Blk w1 w.heap.size _ #[.slice (some ⟨g, 0, none⟩) ix.length c1, .slice a es.length c2] from by rw [hw1]; exact Blk.newest w _ _)
  have HK := Lib.hid (fun w => validKey_any key w (by omega))
  have HD := Lib.hid (validDict_any ix es g c1 c2 a w1 HT1.out hl hm hks)
  have HW1 := Lib.hid hw1
  cases hdo : dokB ix es with
  | false =>
    have HE := Lib.hid (prV_no (ix := ix) (es := es) (key := key) (by rw [hdo, Bool.and_false]))
    rw [hdo] at HD
    clear hdo h hw1
    generalize ix.length = m at *
    generalize es.length = ne at *
    go_enter Try.func25, Try.ntmps25
    go_wp2_with fail
    rw [← HW1.out]
    refine HD.out.mono ?_
    rintro e w2 ⟨rfl, hb2⟩
    have HB2 := Lib.hid (HB1.out.trans (hb2.mono HB1.out.size))
    clear hb2
    go_wp2_with fail
    go_ret
    exact ⟨_, rfl, ow_nil _ _ HE.out, HB2.out⟩
  | true =>
    rw [hdo] at HD
    cases hkb : keyB key with
    | false =>
      have HE := Lib.hid (prV_no (ix := ix) (es := es) (key := key) (by rw [hkb]; rfl))
      rw [hkb] at HK
      clear hkb hdo h hw1
      generalize ix.length = m at *
      generalize es.length = ne at *
      go_enter Try.func25, Try.ntmps25
      go_wp2_with fail
      rw [← HW1.out]
      refine HD.out.mono ?_
      rintro e w2 ⟨rfl, hb2⟩
      have HB2 := Lib.hid (HB1.out.trans (hb2.mono HB1.out.size))
      clear hb2
      go_wp2_with fail
      refine (HK.out _).mono ?_
      rintro e w3 ⟨rfl, rfl⟩
      go_wp2_with fail
      go_ret
      exact ⟨_, rfl, ow_nil _ _ HE.out, HB2.out⟩
    | true =>
      rw [hkb] at HK
      have HE := Lib.hid (prV_yes hkb hdo)
      have hd := dok_of hdo
      have hf := fst_ok (key := key) hd.1 (hsh_lt key.data.toList)
      have HP := Lib.hid (fun w h => (probesOf_any ix es key g c1 c2 (fstT ix es key (hsh key.data.toList)) a w h hd.1.2.2.1 hd.1.1 hl hky hf.1 hf.2.1 hf.2.2.1).mono (R' := fun e w' => ∃ v, e = .returned v ∧ Own w' w.heap.size 3 v (prl ix.length (hsh key.data.toList) (fstT ix es key (hsh key.data.toList) + 1)) ∧ Below w.heap.size w w') (by
        rintro e w' ⟨v, rfl, q1, _, q3⟩
        refine ⟨v, rfl, ?_, ((Below.refl _ w).alloc (Nat.le_refl _) _).trans (q1.mono (by simp))⟩
        have q4 := OwI.wide (b' := w.heap.size) (is := prV ix es key) (by unfold OwI; rw [prV_yes hkb hdo]; exact q3) (by simp)
        unfold OwI at q4
        rwa [prV_yes hkb hdo] at q4))
      clear hkb hdo h hw1 hd hf
      generalize ix.length = m at *
      generalize es.length = ne at *
      generalize fstT ix es key (hsh key.data.toList) = T at *
      generalize hsh key.data.toList = hh at *
      go_enter Try.func25, Try.ntmps25
      go_wp2_with fail
      rw [← HW1.out]
      refine HD.out.mono ?_
      rintro e w2 ⟨rfl, hb2⟩
      have HB2 := Lib.hid (HB1.out.trans (hb2.mono HB1.out.size))
      have HX2 := Lib.hid (HX1.out.below hb2 HX1.out.lt)
      have HT2 := Lib.hid (HT1.out.below hb2)
      clear hb2
      go_wp2_with fail
      refine (HK.out _).mono ?_
      rintro e w3 ⟨rfl, rfl⟩
      have b0 := HX2.out.cell 0
      have b1 := HX2.out.cell 1
      go_wp2_with fail
      refine (HP.out _ HT2.out).mono ?_
      rintro e w3 ⟨v3, rfl, ho3, hb3⟩
      have HB3 := Lib.hid hb3
      have HO3 := Lib.hid ho3
      clear hb3 ho3
      go_wp2_with fail
      go_ret
      exact ⟨_, rfl, OwI.wide (by unfold OwI; rw [HE.out]; exact HO3.out) HB2.out.size, HB2.out.trans (HB3.out.mono HB2.out.size)⟩
end Go.Proofs.Ytibglmcpbbikdaa
