/- The slots that are looked at: the program's DictProbes and the model's. -/
import Derived.Test.YtplpgcbdbmfffaaDok3
import Derived.Test.YtplpgcbdbmfffaaIlD
namespace Go.Proofs.Ytplpgcbdbmfffaa
open Go.RowKit
/-- The slots that are looked at for a key. -/
noncomputable def prV (ix : List Int) (es : List Ent) (key : ByteArray) : List Int :=
  if keyB key && dokB ix es then (List.range (fstT ix es key (hsh key.data.toList) + 1)).map fun t => ((pr ix.length (hsh key.data.toList) t).1 : Int) else []
theorem prV_no {ix : List Int} {es : List Ent} {key : ByteArray} (h : (keyB key && dokB ix es) = false) : prV ix es key = [] := by unfold prV; rw [if_neg (by rw [h]; decide)]
theorem prV_yes {ix : List Int} {es : List Ent} {key : ByteArray} (h : keyB key = true) (h2 : dokB ix es = true) : iv (prV ix es key) = prl ix.length (hsh key.data.toList) (fstT ix es key (hsh key.data.toList) + 1) := by
  unfold prV; rw [if_pos (by rw [h, h2]; rfl)]
  unfold iv prl
  rw [List.map_map]; rfl
theorem prV_len (ix : List Int) (es : List Ent) (key : ByteArray) : (prV ix es key).length ≤ 1048576 := by
  unfold prV
  split
  · rename_i h
    rw [Bool.and_eq_true] at h
    have h1 := (fst_ok (key := key) (dok_of h.2).1 (hsh_lt key.data.toList)).1
    simp; omega
  · simp
def PbP (ix : List Int) (es : List Ent) (key : ByteArray) (w : World) (e : Ending) (w' : World) : Prop := ∃ v, e = .returned v ∧ OwI w' w.heap.size v (prV ix es key) ∧ Below w.heap.size w w'
theorem ow_nil (w : World) (b : Nat) {ix : List Int} {es : List Ent} {key : ByteArray} (h : prV ix es key = []) : OwI w b (.slice none 0 0) (prV ix es key) := by rw [h]; exact Own.nil w b 3
set_option maxRecDepth 20000 in
set_option maxHeartbeats 4000000 in
theorem dictProbes_any (ix : List Int) (es : List Ent) (key : ByteArray) (g c1 c2 : Nat) (a : Option Addr) (w : World) (h : Tb w g ix a es) (hl : es.length ≤ 1048576) (hm : ix.length ≤ 1048576) (hks : KeysS es) (hky : key.size ≤ 1048576) :
    Calls Try.prog 27 #[.agg #[.slice (some ⟨g, 0, none⟩) ix.length c1, .slice a es.length c2], .string key] w (PbP ix es key w) := by
  unfold PbP
  obtain ⟨w1, hw1⟩ : ∃ w1, w1 = w.alloc (Obj.cells #[.slice (some ⟨g, 0, none⟩) ix.length c1, .slice a es.length c2] 27) := ⟨_, rfl⟩
  have HB1 := Lib.hid (show Below w.heap.size w w1 from by rw [hw1]; exact (Below.refl _ _).alloc (Nat.le_refl _) _)
  have HT1 := Lib.hid (h.below HB1.out)
  have HX1 := Lib.hid (show Blk w1 w.heap.size _ #[.slice (some ⟨g, 0, none⟩) ix.length c1, .slice a es.length c2] from by rw [hw1]; exact Blk.newest w _ _)
  have HK := Lib.hid (fun w => isKey_any key w (by omega))
  have HD := Lib.hid (dictOk_any ix es g c1 c2 a w1 HT1.out hl hm hks)
  have HW1 := Lib.hid hw1
  cases hkb : keyB key with
  | false =>
    have HE := Lib.hid (prV_no (ix := ix) (es := es) (key := key) (by rw [hkb]; rfl))
    rw [hkb] at HK
    clear hkb h hw1 HD
    generalize ix.length = m at *
    generalize es.length = ne at *
    go_enter Try.func27, Try.ntmps27
    go_wp2_with fail
    rw [← HW1.out]
    refine (HK.out _).mono ?_
    rintro e w2 ⟨rfl, rfl⟩
    go_wp2_with fail
    go_ret
    exact ⟨_, rfl, ow_nil _ _ HE.out, HB1.out⟩
  | true =>
    rw [hkb] at HK
    cases hdo : dokB ix es with
    | false =>
      have HE := Lib.hid (prV_no (ix := ix) (es := es) (key := key) (by rw [hdo, Bool.and_false]))
      rw [hdo] at HD
      clear hkb hdo h hw1
      generalize ix.length = m at *
      generalize es.length = ne at *
      go_enter Try.func27, Try.ntmps27
      go_wp2_with fail
      rw [← HW1.out]
      refine (HK.out _).mono ?_
      rintro e w2 ⟨rfl, rfl⟩
      have b0 := HX1.out.cell 0
      have b1 := HX1.out.cell 1
      go_wp2_with fail
      refine HD.out.mono ?_
      rintro e w2 ⟨rfl, hb2⟩
      have HB2 := Lib.hid (HB1.out.trans (hb2.mono HB1.out.size))
      clear hb2
      go_wp2_with fail
      go_ret
      exact ⟨_, rfl, ow_nil _ _ HE.out, HB2.out⟩
    | true =>
      have HE := Lib.hid (prV_yes hkb hdo)
      have hd := dok_of hdo
      have hf := fst_ok (key := key) hd.1 (hsh_lt key.data.toList)
      have hv2 : hashV key = (hsh key.data.toList : Int) := by unfold hashV; rw [if_pos (by unfold keyB at hkb; simpa using hkb)]
      have HH := Lib.hid (fun w => implHash_any key w (by omega))
      have HP := Lib.hid (fun w h => (probes_any ix es key g c1 c2 (hsh key.data.toList) (fstT ix es key (hsh key.data.toList)) a w h hd.1.2.2.1 hd.1.1 hl (hsh_lt key.data.toList) hf.1 hf.2.1 hf.2.2.1).mono (R' := fun e w' => ∃ v, e = .returned v ∧ Own w' w.heap.size 3 v (prl ix.length (hsh key.data.toList) (fstT ix es key (hsh key.data.toList) + 1)) ∧ Below w.heap.size w w') (by
        rintro e w' ⟨v, rfl, q1, _, q3⟩
        refine ⟨v, rfl, ?_, ((Below.refl _ w).alloc (Nat.le_refl _) _).trans (q1.mono (by simp))⟩
        have q4 := OwI.wide (b' := w.heap.size) (is := prV ix es key) (by unfold OwI; rw [prV_yes hkb hdo]; exact q3) (by simp)
        unfold OwI at q4
        rwa [prV_yes hkb hdo] at q4))
      rw [hdo] at HD
      rw [hv2] at HH
      clear hkb hdo h hw1 hv2 hd hf
      generalize ix.length = m at *
      generalize es.length = ne at *
      generalize fstT ix es key (hsh key.data.toList) = T at *
      generalize hsh key.data.toList = hh at *
      go_enter Try.func27, Try.ntmps27
      go_wp2_with fail
      rw [← HW1.out]
      refine (HK.out _).mono ?_
      rintro e w2 ⟨rfl, rfl⟩
      have b0 := HX1.out.cell 0
      have b1 := HX1.out.cell 1
      go_wp2_with fail
      refine HD.out.mono ?_
      rintro e w2 ⟨rfl, hb2⟩
      have HB2 := Lib.hid (HB1.out.trans (hb2.mono HB1.out.size))
      have HX2 := Lib.hid (HX1.out.below hb2 HX1.out.lt)
      have HT2 := Lib.hid (HT1.out.below hb2)
      clear hb2 b0 b1
      have b0 := HX2.out.cell 0
      have b1 := HX2.out.cell 1
      go_wp2_with fail
      go_region_with (first | (refine (HH.out _).mono ?_; rintro e w3 ⟨rfl, rfl⟩) | (refine (HP.out _ (by first | exact HT2.out | exact HT2.out.below (below_drewN' (Below.refl _ _)))).mono ?_; rintro e w3 ⟨v3, rfl, ho3, hb3⟩; have HB3 := Lib.hid (show Below w2.heap.size w2 w3 from (by first | exact hb3 | exact ((Below.refl _ w2).drew).trans hb3 | exact (below_drewN' (Below.refl _ w2)).trans hb3)); have HO3 := Lib.hid (show Own w3 w2.heap.size 3 v3 _ from ho3); clear hb3 ho3))
      all_goals
        go_wp2_with fail
        go_ret
        exact ⟨_, rfl, OwI.wide (by unfold OwI; rw [HE.out]; exact HO3.out) HB2.out.size, HB2.out.trans (HB3.out.mono HB2.out.size)⟩
set_option maxRecDepth 20000 in
set_option maxHeartbeats 4000000 in
theorem specDictProbes_any (ix : List Int) (es : List Ent) (key : ByteArray) (g c1 c2 : Nat) (a : Option Addr) (w : World) (h : Tb w g ix a es) (hl : es.length ≤ 1048576) (hm : ix.length ≤ 1048576) (hks : KeysS es) (hky : key.size ≤ 1048576) :
    Calls Try.prog 26 #[.agg #[.slice (some ⟨g, 0, none⟩) ix.length c1, .slice a es.length c2], .string key] w (PbP ix es key w) := by
  unfold PbP
  obtain ⟨w1, hw1⟩ : ∃ w1, w1 = w.alloc (Obj.cells #[.slice (some ⟨g, 0, none⟩) ix.length c1, .slice a es.length c2] 27) := ⟨_, rfl⟩
  have HB1 := Lib.hid (show Below w.heap.size w w1 from by rw [hw1]; exact (Below.refl _ _).alloc (Nat.le_refl _) _)
  have HT1 := Lib.hid (h.below HB1.out)
  have HX1 := Lib.hid (show Blk w1 w.heap.size _ #[.slice (some ⟨g, 0, none⟩) ix.length c1, .slice a es.length c2] from by rw [hw1]; exact Blk.newest w _ _)
  have HK := Lib.hid (fun w => validKey_any key w (by omega))
  have HD := Lib.hid (validDict_any ix es g c1 c2 a w1 HT1.out hl hm hks)
  have HW1 := Lib.hid hw1
  cases hdo : dokB ix es with
  | false =>
    have HE := Lib.hid (prV_no (ix := ix) (es := es) (key := key) (by rw [hdo, Bool.and_false]))
    rw [hdo] at HD
    clear hdo h hw1
    generalize ix.length = m at *
    generalize es.length = ne at *
    go_enter Try.func26, Try.ntmps26
    go_wp2_with fail
    rw [← HW1.out]
    refine HD.out.mono ?_
    rintro e w2 ⟨rfl, hb2⟩
    have HB2 := Lib.hid (HB1.out.trans (hb2.mono HB1.out.size))
    clear hb2
    go_wp2_with fail
    go_ret
    exact ⟨_, rfl, ow_nil _ _ HE.out, HB2.out⟩
  | true =>
    rw [hdo] at HD
    cases hkb : keyB key with
    | false =>
      have HE := Lib.hid (prV_no (ix := ix) (es := es) (key := key) (by rw [hkb]; rfl))
      rw [hkb] at HK
      clear hkb hdo h hw1
      generalize ix.length = m at *
      generalize es.length = ne at *
      go_enter Try.func26, Try.ntmps26
      go_wp2_with fail
      rw [← HW1.out]
      refine HD.out.mono ?_
      rintro e w2 ⟨rfl, hb2⟩
      have HB2 := Lib.hid (HB1.out.trans (hb2.mono HB1.out.size))
      clear hb2
      go_wp2_with fail
      refine (HK.out _).mono ?_
      rintro e w3 ⟨rfl, rfl⟩
      go_wp2_with fail
      go_ret
      exact ⟨_, rfl, ow_nil _ _ HE.out, HB2.out⟩
    | true =>
      rw [hkb] at HK
      have HE := Lib.hid (prV_yes hkb hdo)
      have hd := dok_of hdo
      have hf := fst_ok (key := key) hd.1 (hsh_lt key.data.toList)
      have HP := Lib.hid (fun w h => (probesOf_any ix es key g c1 c2 (fstT ix es key (hsh key.data.toList)) a w h hd.1.2.2.1 hd.1.1 hl hky hf.1 hf.2.1 hf.2.2.1).mono (R' := fun e w' => ∃ v, e = .returned v ∧ Own w' w.heap.size 3 v (prl ix.length (hsh key.data.toList) (fstT ix es key (hsh key.data.toList) + 1)) ∧ Below w.heap.size w w') (by
        rintro e w' ⟨v, rfl, q1, _, q3⟩
        refine ⟨v, rfl, ?_, ((Below.refl _ w).alloc (Nat.le_refl _) _).trans (q1.mono (by simp))⟩
        have q4 := OwI.wide (b' := w.heap.size) (is := prV ix es key) (by unfold OwI; rw [prV_yes hkb hdo]; exact q3) (by simp)
        unfold OwI at q4
        rwa [prV_yes hkb hdo] at q4))
      clear hkb hdo h hw1 hd hf
      generalize ix.length = m at *
      generalize es.length = ne at *
      generalize fstT ix es key (hsh key.data.toList) = T at *
      generalize hsh key.data.toList = hh at *
      go_enter Try.func26, Try.ntmps26
      go_wp2_with fail
      rw [← HW1.out]
      refine HD.out.mono ?_
      rintro e w2 ⟨rfl, hb2⟩
      have HB2 := Lib.hid (HB1.out.trans (hb2.mono HB1.out.size))
      have HX2 := Lib.hid (HX1.out.below hb2 HX1.out.lt)
      have HT2 := Lib.hid (HT1.out.below hb2)
      clear hb2
      go_wp2_with fail
      refine (HK.out _).mono ?_
      rintro e w3 ⟨rfl, rfl⟩
      have b0 := HX2.out.cell 0
      have b1 := HX2.out.cell 1
      go_wp2_with fail
      refine (HP.out _ HT2.out).mono ?_
      rintro e w3 ⟨v3, rfl, ho3, hb3⟩
      have HB3 := Lib.hid hb3
      have HO3 := Lib.hid ho3
      clear hb3 ho3
      go_wp2_with fail
      go_ret
      exact ⟨_, rfl, OwI.wide (by unfold OwI; rw [HE.out]; exact HO3.out) HB2.out.size, HB2.out.trans (HB3.out.mono HB2.out.size)⟩
end Go.Proofs.Ytplpgcbdbmfffaa
