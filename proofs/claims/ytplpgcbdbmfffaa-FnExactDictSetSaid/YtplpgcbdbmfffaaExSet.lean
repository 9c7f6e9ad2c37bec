/- The exact law on DictSet. -/
import Derived.Test.YtplpgcbdbmfffaaDcC
import Derived.Deep.DeepCutAuto
namespace Go.Proofs.Ytplpgcbdbmfffaa
open Go.RowKit
set_option maxRecDepth 20000 in
set_option maxHeartbeats 8000000 in
theorem exactDictSet_walk (ix : List Int) (es : List Ent) (a0 a1 : Option Addr) (c0 c1 : Nat) (key : ByteArray) (val : Int) (w : World) (h0 : RsI w a0 c0 ix) (h1 : RsE w a1 c1 es) (hk : KeyM es) (hc0 : c0 ≤ maxLen) (hc1 : c1 ≤ maxLen) (hky9 : key.size ≤ maxLen) (_ : (Lit.int .i64 val).wf = true) :
    Calls Try.prog 9 #[.agg #[.slice a0 ix.length c0, .slice a1 es.length c1], .string key, .int .i64 val] w fun e w' => e = .returned (.bool true) ∧ Below w.heap.size w w' := by
  obtain ⟨w1, hw1⟩ : ∃ w1, w1 = w.alloc (Obj.cells #[.slice a0 ix.length c0, .slice a1 es.length c1] 34) := ⟨_, rfl⟩
  have HB1 := Lib.hid (show Below w.heap.size w w1 from by rw [hw1]; exact (Below.refl _ _).alloc (Nat.le_refl _) _)
  have hsz : w1.heap.size = w.heap.size + 1 := by rw [hw1]; simp
  have HX1 := Lib.hid (show Blk w1 w.heap.size 34 #[.slice a0 ix.length c0, .slice a1 es.length c1] from by rw [hw1]; exact Blk.newest w _ _)
  have HSz := Lib.hid (szDict_any ix es a0 a1 c0 c1 1048576 w1 (h1.below HB1.out) hk (by omega) (by omega) (Nat.le_trans h0.1 hc0) hc1)
  have hr1 : szV 1048576 (ix.length + (es.length + ksz es)) ≤ 1048576 := by unfold szV; split <;> omega
  have HW1 := Lib.hid hw1
  clear hw1
  unfold maxLen at hky9
  by_cases hky : key.size ≤ 1048576
  case neg =>
    have hk3 : (1048576 : Int) < (key.size : Int) := by omega
    clear h0 h1 hk HSz hr1 hky
    generalize ix.length = m at *
    generalize es.length = ne at *
    go_enter Try.func9, Try.ntmps9
    go_wp2_with fail
    go_ret
    exact ⟨rfl, by rw [← HW1.out]; exact HB1.out⟩
  have hk3 : (key.size : Int) ≤ 1048576 := by omega
  by_cases hr : szV 1048576 (ix.length + (es.length + ksz es)) < 0
  · have hr0 : -1 ≤ szV 1048576 (ix.length + (es.length + ksz es)) := by unfold szV; split <;> omega
    generalize szV 1048576 (ix.length + (es.length + ksz es)) = r at *
    clear h0 h1 hk
    generalize ix.length = m at *
    generalize es.length = ne at *
    go_enter Try.func9, Try.ntmps9
    go_wp2_with fail
    rw [← HW1.out]
    refine HSz.out.mono ?_
    rintro e w2 ⟨rfl, hb2⟩
    have HB2 := Lib.hid (HB1.out.trans (hb2.mono HB1.out.size))
    clear hb2
    go_wp2_with fail
    go_ret
    exact ⟨rfl, HB2.out⟩
  · obtain ⟨hm, hl, hs⟩ := sz_of hr
    have hks := keys_of hs
    have hr0 : 0 ≤ szV 1048576 (ix.length + (es.length + ksz es)) := by omega
    have HTo := Lib.hid (fun w' (hb : Below w.heap.size w w') => toDict_any ix es a0 a1 c0 c1 w' (h0.below hb) (h1.below hb) hm hl)
    have HEq := Lib.hid (fun g1 g2 q1 q2 w' h1 h2 he1 he2 => eqDict_same ix es g1 g2 q1 q2 ix.length ix.length es.length es.length w' h1 h2 hm hl he1 he2)
    have HTb := Lib.hid (fun (w w' : World) (g1 g2 : Nat) h1 h2 => (DiP.tb (ix := ix) (es := es) (w := w) (w' := w') (g1 := g1) (g2 := g2) h1 h2))
    have HEK := Lib.hid (fun (w' : World) (g : Nat) (h : EnK w' g es.length es es.length) => h.en)
    have hlen := stV_len (ix := ix) (es := es) (key := key) (val := val)
    have HO1 := Lib.hid (fun g g2 w' h => specSet_any ix es key val g ix.length es.length (some ⟨g2, 0, none⟩) w' h hl hm hks hky (fun e => by cases e))
    have HO2 := Lib.hid (fun g g2 w' h => implSet_any ix es key val g ix.length es.length (some ⟨g2, 0, none⟩) w' h hl hm hks hky)
    obtain ⟨R1, R2, rb, hR⟩ : ∃ R1 R2 rb, stV ix es key val = ((R1, R2), rb) := ⟨_, _, _, rfl⟩
    rw [hR] at HO1 HO2 hlen
    unfold DiP at HTo
    unfold OdP at HO1 HO2
    dsimp only at HO1 HO2 hlen
    obtain ⟨hn1, hn2⟩ := hlen
    have HED := Lib.hid (fun b b' c1 c2 d1 d2 a1 a2 p1 p2 w q1 q2 => eqDict_od (R1, R2) b b' c1 c2 d1 d2 a1 a2 p1 p2 w q1 q2 (show R1.length ≤ 1048576 by omega) (show R2.length ≤ 1048576 by omega))
    have HMO := Lib.hid (fun b c1 c2 a1 a2 w q1 q2 => markDict_od (R1, R2) b c1 c2 a1 a2 w q1 (show R1.length ≤ 1000000 by omega) (show R2.length ≤ 1048576 by omega) q2)
    have HHD := Lib.hid (fun b c1 c2 a1 a2 w q => heldDict_od R1.length R2.length b c1 c2 a1 a2 w q (by omega) (by omega))
    dsimp only at HED HMO
    generalize szV 1048576 (ix.length + (es.length + ksz es)) = r at *
    clear h0 h1 hk hks hs hR
    generalize ix.length = m at *
    generalize es.length = ne at *
    generalize hr1e : R1.length = n1 at *
    generalize hr2e : R2.length = n2 at *
    have HR1 := Lib.hid hr1e
    have HR2 := Lib.hid hr2e
    clear hr1e hr2e
    have rb1 : (rb != rb) = false := by simp
    have rb2 : (rb == rb) = true := by simp
    have rb3 : (!(rb == rb)) = false := by simp
    have HMD := Lib.hid (fun g1 g2 b w q1 q2 q3 => markDict_two g1 g2 m ne b ix w q1 q2 q3 hm hl)
    go_enter Try.func9, Try.ntmps9
    go_wp2_with fail
    rw [← HW1.out]
    refine HSz.out.mono ?_
    rintro e w2 ⟨rfl, hb2⟩
    have HB2 := Lib.hid (HB1.out.trans (hb2.mono HB1.out.size))
    have HX2 := Lib.hid (HX1.out.below hb2 (by omega))
    clear hb2 hsz
    have b0 := HX2.out.cell 0
    have b1 := HX2.out.cell 1
    go_wp2_with fail
    refine (HTo.out _ HB2.out).mono ?_
    rintro e w3 ⟨g1, g2, rfl, hg1, hg12, hb3, ho3, he3⟩
    have HT3 := Lib.hid (HTb.out _ _ _ _ ho3 he3)
    have HB3 := Lib.hid (HB2.out.trans (hb3.mono HB2.out.size))
    have HX3 := Lib.hid (HX2.out.below hb3 HX2.out.lt)
    clear hg1 hg12 hb3 ho3 he3 b0 b1
    go_wp2_with fail
    refine (HO1.out _ _ _ HT3.out).mono ?_
    rintro e w4 ⟨p1, d1, p2, d2, rfl, ho4, hb4⟩
    have HV4 := Lib.hid ho4
    have HB4 := Lib.hid (HB3.out.trans (hb4.mono HB3.out.size))
    have HX4 := Lib.hid (HX3.out.below hb4 HX3.out.lt)
    clear hb4 ho4
    have hbA : Below w4.heap.size w4 (w4.alloc (Obj.cells #[.slice p1 n1 d1, .slice p2 n2 d2] 27)) := (Below.refl _ _).alloc (Nat.le_refl _) _
    have HVA := Lib.hid (HV4.out.below hbA)
    have HXA := Lib.hid (HX4.out.below hbA HX4.out.lt)
    have HBA := Lib.hid (HB4.out.trans (hbA.mono HB4.out.size))
    have H6A := Lib.hid (Blk.newest w4 27 #[.slice p1 n1 d1, .slice p2 n2 d2])
    have HLA := Lib.hid (show w4.heap.size < (w4.alloc (Obj.cells #[.slice p1 n1 d1, .slice p2 n2 d2] 27)).heap.size from H6A.out.lt)
    have b0 := HX4.out.cell 0
    have b1 := HX4.out.cell 1
    have hx4 := HX4.out.lt
    clear hbA
    go_wp2_with (first | (refine ext rfl (.tmp 26) 0 [.agg #[.slice p1 n1 d1, .slice p2 n2 d2], .bool rb] (.agg #[.slice p1 n1 d1, .slice p2 n2 d2]) rfl rfl rfl ?_) | (refine ext rfl (.tmp 26) 1 [.agg #[.slice p1 n1 d1, .slice p2 n2 d2], .bool rb] (.bool rb) rfl rfl rfl ?_))
    generalize hwA : w4.alloc (Obj.cells #[.slice p1 n1 d1, .slice p2 n2 d2] 27) = wA at *
    clear b0 b1 hx4 hwA
    refine (HTo.out _ HBA.out).mono ?_
    rintro e w5 ⟨g3, g4, rfl, hg3, hg34, hb5, ho5, he5⟩
    have HT5 := Lib.hid (HTb.out _ _ _ _ ho5 he5)
    have HE5 := Lib.hid (HEK.out _ _ he5)
    have HB5 := Lib.hid (HBA.out.trans (hb5.mono HBA.out.size))
    have HX5 := Lib.hid (HXA.out.below hb5 HXA.out.lt)
    have H65 := Lib.hid (H6A.out.below hb5 H6A.out.lt)
    have HV5 := Lib.hid (HVA.out.below hb5)
    have HO5 := Lib.hid ho5
    have HW5 := Lib.hid he5.w
    have HG3 := Lib.hid (show wA.heap.size ≤ g3 ∧ g3 < g4 ∧ g4 < w5.heap.size from ⟨hg3, hg34, he5.lt⟩)
    clear hg3 hg34 hb5 ho5 he5
    have hb6 : Below w5.heap.size w5 (w5.alloc (Obj.cells #[.slice (some ⟨g3, 0, none⟩) m m, .slice (some ⟨g4, 0, none⟩) ne ne] 27)) := (Below.refl _ _).alloc (Nat.le_refl _) _
    have HT6 := Lib.hid (HT5.out.below hb6)
    have HE6 := Lib.hid (HE5.out.below hb6 HE5.out.1)
    have HB6 := Lib.hid (HB5.out.trans (hb6.mono HB5.out.size))
    have HX6 := Lib.hid (HX5.out.below hb6 HX5.out.lt)
    have H66 := Lib.hid (H65.out.below hb6 H65.out.lt)
    have HV6 := Lib.hid (HV5.out.below hb6)
    have HO6 := Lib.hid (HO5.out.keepD hb6 (OwI.lt HO5.out _ rfl).2)
    have HW6 := Lib.hid (HW5.out.below hb6 HW5.out.lt)
    have HY6 := Lib.hid (Blk.newest w5 27 #[.slice (some ⟨g3, 0, none⟩) m m, .slice (some ⟨g4, 0, none⟩) ne ne])
    have HS6 := Lib.hid (show w5.heap.size < (w5.alloc (Obj.cells #[.slice (some ⟨g3, 0, none⟩) m m, .slice (some ⟨g4, 0, none⟩) ne ne] 27)).heap.size from HY6.out.lt)
    clear hb6
    go_wp2_with fail
    generalize hw6 : w5.alloc (Obj.cells #[.slice (some ⟨g3, 0, none⟩) m m, .slice (some ⟨g4, 0, none⟩) ne ne] 27) = w6 at *
    clear hw6
    refine (HO2.out _ _ _ HT6.out).mono ?_
    rintro e w7 ⟨q1, f1, q2, f2, rfl, ho7, hb7⟩
    have HT7 := Lib.hid (HT6.out.below hb7)
    have HE7 := Lib.hid (HE6.out.below hb7 HE6.out.1)
    have HB7 := Lib.hid (HB6.out.trans (hb7.mono HB6.out.size))
    have HX7 := Lib.hid (HX6.out.below hb7 HX6.out.lt)
    have H67 := Lib.hid (H66.out.below hb7 H66.out.lt)
    have HY7 := Lib.hid (HY6.out.below hb7 HY6.out.lt)
    have HV7 := Lib.hid (HV6.out.below hb7)
    have HU7 := Lib.hid ho7
    have HO7 := Lib.hid (HO6.out.keepD hb7 (OwI.lt HO6.out _ rfl).2)
    have HW7 := Lib.hid (HW6.out.below hb7 HW6.out.lt)
    have HL67 := Lib.hid (show w6.heap.size ≤ w7.heap.size from hb7.size)
    clear hb7 ho7
    have hbC : Below w7.heap.size w7 (w7.alloc (Obj.cells #[.slice q1 n1 f1, .slice q2 n2 f2] 27)) := (Below.refl _ _).alloc (Nat.le_refl _) _
    have HTC := Lib.hid (HT7.out.below hbC)
    have HEC := Lib.hid (HE7.out.below hbC HE7.out.1)
    have HBC := Lib.hid (HB7.out.trans (hbC.mono HB7.out.size))
    have HXC := Lib.hid (HX7.out.below hbC HX7.out.lt)
    have H6C := Lib.hid (H67.out.below hbC H67.out.lt)
    have HYC := Lib.hid (HY7.out.below hbC HY7.out.lt)
    have HVC := Lib.hid (HV7.out.below hbC)
    have HUC := Lib.hid (HU7.out.below hbC)
    have HOC := Lib.hid (HO7.out.keepD hbC (OwI.lt HO7.out _ rfl).2)
    have HWC := Lib.hid (HW7.out.below hbC HW7.out.lt)
    have H9C := Lib.hid (Blk.newest w7 27 #[.slice q1 n1 f1, .slice q2 n2 f2])
    have c60 := H67.out.cell 0
    have c61 := H67.out.cell 1
    have h67 := H67.out.lt
    clear hbC
    go_wp2_with (first | (refine ext rfl (.tmp 36) 0 [.agg #[.slice q1 n1 f1, .slice q2 n2 f2], .bool rb] (.agg #[.slice q1 n1 f1, .slice q2 n2 f2]) rfl rfl rfl ?_) | (refine ext rfl (.tmp 36) 1 [.agg #[.slice q1 n1 f1, .slice q2 n2 f2], .bool rb] (.bool rb) rfl rfl rfl ?_))
    generalize hwC : w7.alloc (Obj.cells #[.slice q1 n1 f1, .slice q2 n2 f2] 27) = wC at *
    clear hwC c60 c61 h67
    refine (HED.out _ _ _ _ _ _ _ _ _ _ _ HUC.out HVC.out).mono ?_
    rintro e w8 ⟨rfl, hb8⟩
    have HT8 := Lib.hid (HTC.out.below hb8)
    have HE8 := Lib.hid (HEC.out.below hb8 HEC.out.1)
    have HB8 := Lib.hid (HBC.out.trans (hb8.mono HBC.out.size))
    have HX8 := Lib.hid (HXC.out.below hb8 HXC.out.lt)
    have H68 := Lib.hid (H6C.out.below hb8 H6C.out.lt)
    have H98 := Lib.hid (H9C.out.below hb8 H9C.out.lt)
    have HY8 := Lib.hid (HYC.out.below hb8 HYC.out.lt)
    have HV8 := Lib.hid (HVC.out.below hb8)
    have HU8 := Lib.hid (HUC.out.below hb8)
    have HO8 := Lib.hid (HOC.out.keepD hb8 (OwI.lt HOC.out _ rfl).2)
    have HW8 := Lib.hid (HWC.out.below hb8 HWC.out.lt)
    clear hb8
    have b0 := HX8.out.cell 0
    have b1 := HX8.out.cell 1
    have d0' := HY8.out.cell 0
    have d1' := HY8.out.cell 1
    go_upto_region 12 with fail
    go_cut [56] (fun s wx => s = .bool false ∧ Hid (Below w8.heap.size w8 wx))
    case first =>
      go_region_with (first | (refine (HTo.out _ (by first | exact HB8.out | exact below_drewN' HB8.out)).mono ?_; rintro e w9 ⟨g5, g6, rfl, hg5, hg56, hb9, ho9, he9⟩; have HB9 := Lib.hid (show Below w8.heap.size w8 w9 from (by first | exact hb9 | exact ((Below.refl _ w8).drew).trans hb9 | exact (below_drewN' (Below.refl _ w8)).trans hb9)); have HT9 := Lib.hid (HTb.out _ _ _ _ ho9 he9); have HE9 := Lib.hid (HEK.out _ _ he9); have HY9 := Lib.hid (HY8.out.below HB9.out HY8.out.lt); have p0 := HY9.out.cell 0; have p1 := HY9.out.cell 1; clear hg5 hg56 hb9 ho9 he9) | (refine (HEq.out _ _ _ _ _ (HT8.out.below HB9.out) HT9.out (HE8.out.below HB9.out HE8.out.1) HE9.out).mono ?_; rintro e w10 ⟨rfl, hb10⟩; have HB10 := Lib.hid hb10; clear hb10))
      all_goals (try go_wp2)
      all_goals go_meet
      all_goals exact ⟨rfl, Lib.hid (HB9.out.trans ((by first | exact HB10.out | exact ((Below.refl _ w9).drew).trans HB10.out | exact (below_drewN' (Below.refl _ w9)).trans HB10.out : Below w9.heap.size w9 _).mono HB9.out.size))⟩
    obtain ⟨rfl, HBc⟩ := hcut
    have HXc := Lib.hid (HX8.out.below HBc.out HX8.out.lt)
    have HYc := Lib.hid (HY8.out.below HBc.out HY8.out.lt)
    have H6c := Lib.hid (H68.out.below HBc.out H68.out.lt)
    have H9c := Lib.hid (H98.out.below HBc.out H98.out.lt)
    have HVc := Lib.hid (HV8.out.below HBc.out)
    have HUc := Lib.hid (HU8.out.below HBc.out)
    have HOc := Lib.hid (HO8.out.keepD HBc.out (OwI.lt HO8.out _ rfl).2)
    have HWc := Lib.hid (HW8.out.below HBc.out HW8.out.lt)
    have HBw := Lib.hid (HB8.out.trans (HBc.out.mono HB8.out.size))
    clear b0 b1 d0' d1'
    have d0' := HYc.out.cell 0
    have d1' := HYc.out.cell 1
    go_wp2_with fail
    refine (HMD.out g3 g4 _ _ HOc.out HWc.out (by have := HG3.out; omega)).mono ?_
    rintro e w11 ⟨rfl, hk11⟩
    have sz := And.intro HG3.out (And.intro HS6.out (And.intro HL67.out (And.intro HLA.out (And.intro HB4.out.size HX4.out.lt))))
    have HB11 := Lib.hid (HBw.out.trans (hk11.below (by omega) (by omega) HBw.out.size))
    have HX11 := Lib.hid (hk11.blk HXc.out (by omega) (by omega))
    have H611 := Lib.hid (hk11.blk H6c.out (by omega) (by omega))
    have H911 := Lib.hid (hk11.blk H9c.out (by omega) (by omega))
    have HV11 := Lib.hid (HVc.out.two hk11 (fun k e => by have h9 := (HV4.out.inn e).2; omega))
    have HU11 := Lib.hid (HUc.out.two hk11 (fun k e => by have h9 := (HU7.out.inn e).1; omega))
    have HSZ := Lib.hid sz
    clear hk11 sz d0' d1'
    have n1' : decide (1 + (m : Int) + 4 * (ne : Int) < 0) = false := decide_eq_false (by omega)
    have n2' : ¬ 1 + (m : Int) + 4 * (ne : Int) < 0 := by omega
    have c60 := H611.out.cell 0
    have c61 := H611.out.cell 1
    have c90 := H911.out.cell 0
    have c91 := H911.out.cell 1
    go_wp2_with fail
    refine (HED.out _ _ _ _ _ _ _ _ _ _ _ HU11.out HV11.out).mono ?_
    rintro e w12 ⟨rfl, hb12⟩
    have HB12 := Lib.hid (HB11.out.trans (hb12.mono HB11.out.size))
    have HX12 := Lib.hid (HX11.out.below hb12 HX11.out.lt)
    have H612 := Lib.hid (H611.out.below hb12 H611.out.lt)
    have H912 := Lib.hid (H911.out.below hb12 H911.out.lt)
    have HV12 := Lib.hid (HV11.out.below hb12)
    have HU12 := Lib.hid (HU11.out.below hb12)
    have HL12 := Lib.hid (show w6.heap.size ≤ w12.heap.size by have := H912.out.lt; have := HSZ.out; omega)
    clear hb12 c60 c61 c90 c91
    have c90 := H912.out.cell 0
    have c91 := H912.out.cell 1
    go_wp2_with fail
    refine (HMO.out _ _ _ _ _ _ HU12.out HL12.out).mono ?_
    rintro e w13 ⟨rfl, hu13, hg13⟩
    have sz := HSZ.out
    have HB13 := Lib.hid (HB12.out.trans (hg13.below HU7.out HR1.out HR2.out (show w.heap.size ≤ w6.heap.size from HB6.out.size) HB12.out.size))
    have HX13 := Lib.hid (hg13.blk HU7.out HR1.out HR2.out HX12.out (.inl (by omega)))
    have H613 := Lib.hid (hg13.blk HU7.out HR1.out HR2.out H612.out (.inl (by omega)))
    have H913 := Lib.hid (hg13.blk HU7.out HR1.out HR2.out H912.out (.inr (Nat.le_refl _)))
    have HV13 := Lib.hid (HV12.out.twoV hg13 HU7.out HR1.out HR2.out (fun k e => by have h9 := (HV4.out.inn e).2; omega))
    have HQ13 := Lib.hid hu13
    clear hu13 hg13 sz c90 c91
    have c90 := H913.out.cell 0
    have c91 := H913.out.cell 1
    go_wp2_with fail
    refine (HHD.out _ _ _ _ _ _ HQ13.out).mono ?_
    rintro e w14 ⟨rfl, hb14⟩
    have HB14 := Lib.hid (HB13.out.trans (hb14.mono HB13.out.size))
    have HX14 := Lib.hid (HX13.out.below hb14 HX13.out.lt)
    have H614 := Lib.hid (H613.out.below hb14 H613.out.lt)
    have H914 := Lib.hid (H913.out.below hb14 H913.out.lt)
    have HV14 := Lib.hid (HV13.out.below hb14)
    have HQ14 := Lib.hid (HQ13.out.below hb14)
    clear hb14 c90 c91
    have n3 : decide (1 + (n1 : Int) + 4 * (n2 : Int) < 0) = false := decide_eq_false (by omega)
    have n4 : ¬ 1 + (n1 : Int) + 4 * (n2 : Int) < 0 := by omega
    have n5 : (1 + (n1 : Int) + 4 * (n2 : Int) != 1 + (n1 : Int) + 4 * (n2 : Int)) = false := by simp
    have b0 := HX14.out.cell 0
    have b1 := HX14.out.cell 1
    go_wp2_with fail
    refine (HTo.out _ HB14.out).mono ?_
    rintro e w15 ⟨g7, g8, rfl, hg7, hg78, hb15, ho15, he15⟩
    have HT15 := Lib.hid (HTb.out _ _ _ _ ho15 he15)
    have HB15 := Lib.hid (HB14.out.trans (hb15.mono HB14.out.size))
    have H615 := Lib.hid (H614.out.below hb15 H614.out.lt)
    have H915 := Lib.hid (H914.out.below hb15 H914.out.lt)
    have HV15 := Lib.hid (HV14.out.below hb15)
    have HQ15 := Lib.hid (HQ14.out.below hb15)
    clear hg7 hg78 hb15 ho15 he15 b0 b1
    go_wp2_with fail
    refine (HO2.out _ _ _ HT15.out).mono ?_
    rintro e w16 ⟨s1, t1, s2, t2, rfl, ho16, hb16⟩
    have HB16 := Lib.hid (HB15.out.trans (hb16.mono HB15.out.size))
    have H616 := Lib.hid (H615.out.below hb16 H615.out.lt)
    have H916 := Lib.hid (H915.out.below hb16 H915.out.lt)
    have HV16 := Lib.hid (HV15.out.below hb16)
    have HQ16 := Lib.hid (HQ15.out.below hb16)
    have HZ16 := Lib.hid ho16
    clear hb16 ho16
    have hbD : Below w16.heap.size w16 (w16.alloc (Obj.cells #[.slice s1 n1 t1, .slice s2 n2 t2] 27)) := (Below.refl _ _).alloc (Nat.le_refl _) _
    have HBD := Lib.hid (HB16.out.trans (hbD.mono HB16.out.size))
    have H9D := Lib.hid (H916.out.below hbD H916.out.lt)
    have HVD := Lib.hid (HV16.out.below hbD)
    have HQD := Lib.hid (HQ16.out.below hbD)
    have HZD := Lib.hid (HZ16.out.below hbD)
    have c60 := H616.out.cell 0
    have c61 := H616.out.cell 1
    have h616 := H616.out.lt
    clear hbD
    go_wp2_with (first | (refine ext rfl (.tmp 84) 0 [.agg #[.slice s1 n1 t1, .slice s2 n2 t2], .bool rb] (.agg #[.slice s1 n1 t1, .slice s2 n2 t2]) rfl rfl rfl ?_) | (refine ext rfl (.tmp 84) 1 [.agg #[.slice s1 n1 t1, .slice s2 n2 t2], .bool rb] (.bool rb) rfl rfl rfl ?_))
    generalize hwD : w16.alloc (Obj.cells #[.slice s1 n1 t1, .slice s2 n2 t2] 27) = wD at *
    clear hwD c60 c61 h616
    refine (HED.out _ _ _ _ _ _ _ _ _ _ _ HZD.out HVD.out).mono ?_
    rintro e w17 ⟨rfl, hb17⟩
    have HB17 := Lib.hid (HBD.out.trans (hb17.mono HBD.out.size))
    have H917 := Lib.hid (H9D.out.below hb17 H9D.out.lt)
    have HQ17 := Lib.hid (HQD.out.below hb17)
    clear hb17
    have c90 := H917.out.cell 0
    have c91 := H917.out.cell 1
    go_wp2_with fail
    refine (HHD.out _ _ _ _ _ _ HQ17.out).mono ?_
    rintro e w18 ⟨rfl, hb18⟩
    have HB18 := Lib.hid (HB17.out.trans (hb18.mono HB17.out.size))
    clear hb18
    go_wp2_with fail
    go_ret
    exact ⟨rfl, HB18.out⟩
end Go.Proofs.Ytplpgcbdbmfffaa
