/- The exact law on DictProbes. -/
import Derived.Test.YtplpgcbdbmfffaaDex
import Derived.Test.YtplpgcbdbmfffaaPbx
import Derived.Test.YtplpgcbdbmfffaaMkE
import Derived.Deep.DeepCutAuto
namespace Go.Proofs.Ytplpgcbdbmfffaa
open Go.RowKit
theorem RdI.two {w w' : World} {g1 g2 : Nat} {v : Value} {is : List Int} (h : RdI w v is) (hk : TwoG w w' g1 g2) (hne : ∀ g, v.ownBlock = some g → g ≠ g1 ∧ g ≠ g2) : RdI w' v is := by
  obtain ⟨a, cap, rfl, h1, h2, h3⟩ := h
  refine ⟨a, cap, rfl, h1, h2, fun x hx j i hj => ?_⟩
  subst hx
  have hc := h3 x rfl j i hj
  have hlt := World.block_lt_of_cell? w _ hc
  have hb := hne x.block rfl
  rw [← hc]
  unfold World.cell?
  rw [hk.2.2.2.2 _ hlt (by rw [addr_block]; exact hb.1) (by rw [addr_block]; exact hb.2)]
theorem OwI.two {w w' : World} {b g1 g2 : Nat} {v : Value} {is : List Int} (h : OwI w b v is) (hk : TwoG w w' g1 g2) (hne : ∀ g, v.ownBlock = some g → g ≠ g1 ∧ g ≠ g2) : OwI w' b v is := by
  obtain ⟨h1, h2⟩ := h
  refine ⟨h1, ?_⟩
  rcases h2 with h2 | ⟨g, cap, cur, hv, hg, hh, rest⟩
  · exact .inl h2
  · have hb := hne g (by rw [hv]; rfl)
    have hlt : g < w.heap.size := by
      rcases Nat.lt_or_ge g w.heap.size with h9 | h9
      · exact h9
      · rw [Array.getElem?_eq_none h9] at hh; cases hh
    exact .inr ⟨g, cap, cur, hv, hg, (hk.2.2.2.2 g hlt hb.1 hb.2).trans hh, rest⟩
set_option maxRecDepth 20000 in
set_option maxHeartbeats 8000000 in
theorem exactDictProbes_walk (ix : List Int) (es : List Ent) (a0 a1 : Option Addr) (c0 c1 : Nat) (key : ByteArray) (w : World) (h0 : RsI w a0 c0 ix) (h1 : RsE w a1 c1 es) (hk : KeyM es) (hc0 : c0 ≤ maxLen) (hc1 : c1 ≤ maxLen) (hky9 : key.size ≤ maxLen) :
    Calls Try.prog 6 #[.agg #[.slice a0 ix.length c0, .slice a1 es.length c1], .string key] w fun e w' => e = .returned (.bool true) ∧ Below w.heap.size w w' := by
  obtain ⟨w1, hw1⟩ : ∃ w1, w1 = w.alloc (Obj.cells #[.slice a0 ix.length c0, .slice a1 es.length c1] 34) := ⟨_, rfl⟩
  have HB1 := Lib.hid (show Below w.heap.size w w1 from by rw [hw1]; exact (Below.refl _ _).alloc (Nat.le_refl _) _)
  have hsz : w1.heap.size = w.heap.size + 1 := by rw [hw1]; simp
  have HX1 := Lib.hid (show Blk w1 w.heap.size _ #[.slice a0 ix.length c0, .slice a1 es.length c1] from by rw [hw1]; exact Blk.newest w _ _)
  have HSz := Lib.hid (szDict_any ix es a0 a1 c0 c1 1048576 w1 (h1.below HB1.out) hk (by omega) (by omega) (Nat.le_trans h0.1 hc0) hc1)
  have hr1 : szV 1048576 (ix.length + (es.length + ksz es)) ≤ 1048576 := by unfold szV; split <;> omega
  have HW1 := Lib.hid hw1
  clear hw1
  unfold maxLen at hky9
  by_cases hky : key.size ≤ 1048576
  case neg =>
    have hk3 : (1048576 : Int) < (key.size : Int) := by omega
    clear h0 h1 hk HSz hr1 hky
    generalize ix.length = m at *
    generalize es.length = ne at *
    go_enter Try.func6, Try.ntmps6
    go_wp2_with fail
    go_ret
    exact ⟨rfl, by rw [← HW1.out]; exact HB1.out⟩
  have hk3 : (key.size : Int) ≤ 1048576 := by omega
  by_cases hr : szV 1048576 (ix.length + (es.length + ksz es)) < 0
  · have hr0 : -1 ≤ szV 1048576 (ix.length + (es.length + ksz es)) := by unfold szV; split <;> omega
    generalize szV 1048576 (ix.length + (es.length + ksz es)) = r at *
    clear h0 h1 hk
    generalize ix.length = m at *
    generalize es.length = ne at *
    go_enter Try.func6, Try.ntmps6
    go_wp2_with fail
    rw [← HW1.out]
    refine HSz.out.mono ?_
    rintro e w2 ⟨rfl, hb2⟩
    have HB2 := Lib.hid (HB1.out.trans (hb2.mono HB1.out.size))
    clear hb2
    go_wp2_with fail
    go_ret
    exact ⟨rfl, HB2.out⟩
  · obtain ⟨hm, hl, hs⟩ := sz_of hr
    have hks := keys_of hs
    have hr0 : 0 ≤ szV 1048576 (ix.length + (es.length + ksz es)) := by omega
    have HTo := Lib.hid (fun w' (hb : Below w.heap.size w w') => toDict_any ix es a0 a1 c0 c1 w' (h0.below hb) (h1.below hb) hm hl)
    have HO1 := Lib.hid (fun g g2 w' h => specDictProbes_any ix es key g ix.length es.length (some ⟨g2, 0, none⟩) w' h hl hm hks hky)
    have HO2 := Lib.hid (fun g g2 w' h => dictProbes_any ix es key g ix.length es.length (some ⟨g2, 0, none⟩) w' h hl hm hks hky)
    have HEq := Lib.hid (fun g1 g2 q1 q2 w' h1 h2 he1 he2 => eqDict_same ix es g1 g2 q1 q2 ix.length ix.length es.length es.length w' h1 h2 hm hl he1 he2)
    have HTb := Lib.hid (fun (w w' : World) (g1 g2 : Nat) h1 h2 => (DiP.tb (ix := ix) (es := es) (w := w) (w' := w') (g1 := g1) (g2 := g2) h1 h2))
    have HEK := Lib.hid (fun (w' : World) (g : Nat) (h : EnK w' g es.length es es.length) => h.en)
    have HRL := prV_len ix es key
    unfold PbP at HO1 HO2
    unfold DiP at HTo
    generalize szV 1048576 (ix.length + (es.length + ksz es)) = r at *
    generalize prV ix es key = R at *
    have HEI := Lib.hid (fun v1 v2 w q1 q2 => eqIntS_rd R v1 v2 w q1 q2 HRL)
    have HMO := Lib.hid (fun (b : Nat) (v : Value) w (q : OwI w b v R) => mark_own 1 w q (by omega) (by omega) HRL)
    have HHU := Lib.hid (fun (b : Nat) (v : Value) w (q : UpV w b v 1 R.length) => held_up 1 w q (by omega) (by omega) HRL)
    clear h0 h1 hk hks hs
    generalize ix.length = m at *
    generalize es.length = ne at *
    generalize R.length = rl at *
    have HMD := Lib.hid (fun g1 g2 b w q1 q2 q3 => markDict_two g1 g2 m ne b ix w q1 q2 q3 hm hl)
    go_enter Try.func6, Try.ntmps6
    go_wp2_with fail
    rw [← HW1.out]
    refine HSz.out.mono ?_
    rintro e w2 ⟨rfl, hb2⟩
    have HB2 := Lib.hid (HB1.out.trans (hb2.mono HB1.out.size))
    have HX2 := Lib.hid (HX1.out.below hb2 (by omega))
    clear hb2
    have b0 := HX2.out.cell 0
    have b1 := HX2.out.cell 1
    go_wp2_with fail
    refine (HTo.out _ HB2.out).mono ?_
    rintro e w3 ⟨g1, g2, rfl, hg1, hg12, hb3, ho3, he3⟩
    have HT3 := Lib.hid (HTb.out _ _ _ _ ho3 he3)
    have HB3 := Lib.hid (HB2.out.trans (hb3.mono HB2.out.size))
    have HX3 := Lib.hid (HX2.out.below hb3 HX2.out.lt)
    clear hg1 hg12 hb3 ho3 he3 b0 b1
    go_wp2_with fail
    refine (HO1.out _ _ _ HT3.out).mono ?_
    rintro e w4 ⟨v0, rfl, ho4, hb4⟩
    have HV4 := Lib.hid ho4
    have HG0 := Lib.hid (fun g h => OwI.lt ho4 g h)
    have HB4 := Lib.hid (HB3.out.trans (hb4.mono HB3.out.size))
    have HX4 := Lib.hid (HX3.out.below hb4 HX3.out.lt)
    clear hb4 ho4
    have b0 := HX4.out.cell 0
    have b1 := HX4.out.cell 1
    go_wp2_with fail
    refine (HTo.out _ HB4.out).mono ?_
    rintro e w5 ⟨g3, g4, rfl, hg3, hg34, hb5, ho5, he5⟩
    have HT5 := Lib.hid (HTb.out _ _ _ _ ho5 he5)
    have HE5 := Lib.hid (HEK.out _ _ he5)
    have HB5 := Lib.hid (HB4.out.trans (hb5.mono HB4.out.size))
    have HX5 := Lib.hid (HX4.out.below hb5 HX4.out.lt)
    have HV5 := Lib.hid (HV4.out.below hb5)
    have HO5 := Lib.hid ho5
    have HW5 := Lib.hid he5.w
    have HG3 := Lib.hid (show w4.heap.size ≤ g3 ∧ g3 < g4 ∧ g4 < w5.heap.size from ⟨hg3, hg34, he5.lt⟩)
    clear hg3 hg34 hb5 ho5 he5 b0 b1
    go_wp2_with fail
    obtain ⟨w6, hw6⟩ : ∃ w6, w6 = w5.alloc (Obj.cells #[.slice (some ⟨g3, 0, none⟩) m m, .slice (some ⟨g4, 0, none⟩) ne ne] 27) := ⟨_, rfl⟩
    have hb6 : Below w5.heap.size w5 w6 := by rw [hw6]; exact (Below.refl _ _).alloc (Nat.le_refl _) _
    have HT6 := Lib.hid (HT5.out.below hb6)
    have HE6 := Lib.hid (HE5.out.below hb6 HE5.out.1)
    have HB6 := Lib.hid (HB5.out.trans (hb6.mono HB5.out.size))
    have HX6 := Lib.hid (HX5.out.below hb6 HX5.out.lt)
    have HV6 := Lib.hid (HV5.out.below hb6)
    have HO6 := Lib.hid (HO5.out.keepD hb6 (OwI.lt HO5.out _ rfl).2)
    have HW6 := Lib.hid (HW5.out.below hb6 HW5.out.lt)
    have HY6 := Lib.hid (show Blk w6 w5.heap.size _ #[.slice (some ⟨g3, 0, none⟩) m m, .slice (some ⟨g4, 0, none⟩) ne ne] from by rw [hw6]; exact Blk.newest w5 _ _)
    have HS6 := Lib.hid (show w5.heap.size ≤ w6.heap.size from hb6.size)
    rw [← hw6]
    clear hb6 hw6
    refine (HO2.out _ _ _ HT6.out).mono ?_
    rintro e w7 ⟨v1, rfl, ho7, hb7⟩
    have HT7 := Lib.hid (HT6.out.below hb7)
    have HE7 := Lib.hid (HE6.out.below hb7 HE6.out.1)
    have HB7 := Lib.hid (HB6.out.trans (hb7.mono HB6.out.size))
    have HX7 := Lib.hid (HX6.out.below hb7 HX6.out.lt)
    have HY7 := Lib.hid (HY6.out.below hb7 HY6.out.lt)
    have HV7 := Lib.hid (HV6.out.below hb7)
    have HU7 := Lib.hid ho7
    have HG1 := Lib.hid (fun g h => OwI.lt ho7 g h)
    have HO7 := Lib.hid (HO6.out.keepD hb7 (OwI.lt HO6.out _ rfl).2)
    have HW7 := Lib.hid (HW6.out.below hb7 HW6.out.lt)
    clear hb7 ho7
    go_wp2_with fail
    refine (HEI.out _ _ _ HU7.out.rd HV7.out.rd).mono ?_
    rintro e w8 ⟨rfl, hb8⟩
    have hb8' : Below w7.heap.size w7 w8 := hb8
    have HT8 := Lib.hid (HT7.out.below hb8')
    have HE8 := Lib.hid (HE7.out.below hb8' HE7.out.1)
    have HB8 := Lib.hid (HB7.out.trans (hb8'.mono HB7.out.size))
    have HX8 := Lib.hid (HX7.out.below hb8' HX7.out.lt)
    have HY8 := Lib.hid (HY7.out.below hb8' HY7.out.lt)
    have HV8 := Lib.hid (HV7.out.below hb8')
    have HU8 := Lib.hid (HU7.out.below hb8')
    have HO8 := Lib.hid (HO7.out.keepD hb8' (OwI.lt HO7.out _ rfl).2)
    have HW8 := Lib.hid (HW7.out.below hb8' HW7.out.lt)
    clear hb8 hb8'
    have b0 := HX8.out.cell 0
    have b1 := HX8.out.cell 1
    have d0 := HY8.out.cell 0
    have d1 := HY8.out.cell 1
    go_upto_region 12 with fail
    go_cut [38] (fun s wx => s = .bool false ∧ Hid (Below w8.heap.size w8 wx))
    case first =>
      go_region_with (first | (refine (HTo.out _ (by first | exact HB8.out | exact below_drewN' HB8.out)).mono ?_; rintro e w9 ⟨g5, g6, rfl, hg5, hg56, hb9, ho9, he9⟩; have HB9 := Lib.hid (show Below w8.heap.size w8 w9 from (by first | exact hb9 | exact ((Below.refl _ w8).drew).trans hb9 | exact (below_drewN' (Below.refl _ w8)).trans hb9)); have HT9 := Lib.hid (HTb.out _ _ _ _ ho9 he9); have HE9 := Lib.hid (HEK.out _ _ he9); have HY9 := Lib.hid (HY8.out.below HB9.out HY8.out.lt); have p0 := HY9.out.cell 0; have p1 := HY9.out.cell 1; clear hg5 hg56 hb9 ho9 he9) | (refine (HEq.out _ _ _ _ _ (HT8.out.below HB9.out) HT9.out (HE8.out.below HB9.out HE8.out.1) HE9.out).mono ?_; rintro e w10 ⟨rfl, hb10⟩; have HB10 := Lib.hid hb10; clear hb10))
      all_goals (try go_wp2)
      all_goals go_meet
      all_goals exact ⟨rfl, Lib.hid (HB9.out.trans ((by first | exact HB10.out | exact ((Below.refl _ w9).drew).trans HB10.out | exact (below_drewN' (Below.refl _ w9)).trans HB10.out : Below w9.heap.size w9 _).mono HB9.out.size))⟩
    obtain ⟨rfl, HBc⟩ := hcut
    have HXc := Lib.hid (HX8.out.below HBc.out HX8.out.lt)
    have HYc := Lib.hid (HY8.out.below HBc.out HY8.out.lt)
    have HVc := Lib.hid (HV8.out.below HBc.out)
    have HUc := Lib.hid (HU8.out.below HBc.out)
    have HOc := Lib.hid (HO8.out.keepD HBc.out (OwI.lt HO8.out _ rfl).2)
    have HWc := Lib.hid (HW8.out.below HBc.out HW8.out.lt)
    have HBw := Lib.hid (HB8.out.trans (HBc.out.mono HB8.out.size))
    clear b0 b1 d0 d1
    have d0 := HYc.out.cell 0
    have d1 := HYc.out.cell 1
    go_wp2_with fail
    refine (HMD.out g3 g4 _ _ HOc.out HWc.out (by have := HG3.out; omega)).mono ?_
    rintro e w11 ⟨rfl, hk11⟩
    have hne0 : ∀ g, v0.ownBlock = some g → g ≠ g3 ∧ g ≠ g4 := fun g h => by have := HG0.out g h; have := HG3.out; omega
    have hne1 : ∀ g, v1.ownBlock = some g → g ≠ g3 ∧ g ≠ g4 := fun g h => by have := HG1.out g h; have := HG3.out; have := HS6.out; omega
    have hge : w.heap.size ≤ g3 ∧ w.heap.size ≤ g4 := by have := HG3.out; have := HB4.out.size; omega
    have HB11 := Lib.hid (HBw.out.trans (hk11.below hge.1 hge.2 HBw.out.size))
    have HX11 := Lib.hid (show Blk w11 w.heap.size _ #[.slice a0 m c0, .slice a1 ne c1] from (hk11.2.2.2.2 _ HXc.out.lt (by have := HG3.out; have := HX4.out.lt; omega) (by have := HG3.out; have := HX4.out.lt; omega)).trans HXc.out)
    have HV11 := Lib.hid (HVc.out.rd.two hk11 hne0)
    have HU11 := Lib.hid (HUc.out.two hk11 hne1)
    clear hk11 hne0 hne1 hge d0 d1
    have n1 : decide (1 + (m : Int) + 4 * (ne : Int) < 0) = false := decide_eq_false (by omega)
    have n2 : (0 : Int) ≤ 1 + (m : Int) + 4 * (ne : Int) := by omega
    go_wp2_with fail
    refine (HEI.out _ _ _ HU11.out.rd HV11.out).mono ?_
    rintro e w12 ⟨rfl, hb12⟩
    have hb12' : Below w11.heap.size w11 w12 := hb12
    have HB12 := Lib.hid (HB11.out.trans (hb12'.mono HB11.out.size))
    have HX12 := Lib.hid (HX11.out.below hb12' HX11.out.lt)
    have HV12 := Lib.hid (HV11.out.below hb12')
    have HU12 := Lib.hid (HU11.out.below hb12')
    clear hb12 hb12'
    go_wp2_with fail
    refine (HMO.out _ _ _ HU12.out).mono ?_
    rintro e w13 ⟨rfl, hu13, hg13⟩
    have hx1 : (some w.heap.size) ≠ v1.ownBlock := fun h => by have := HG1.out _ h.symm; have := HS6.out; have := HB5.out.size; have := HX5.out.lt; omega
    have hv01 : v0.ownBlock = none ∨ v0.ownBlock ≠ v1.ownBlock := by
      cases hq : v0.ownBlock with
      | none => exact .inl rfl
      | some g => exact .inr (fun h => by have := HG0.out g hq; have := HG1.out g h.symm; have := HG3.out; have := HS6.out; omega)
    have hgw : ∀ k, v1.ownBlock = some k → w.heap.size ≤ k := fun k h => by have := HG1.out k h; have := HB6.out.size; omega
    have HB13 := Lib.hid (HB12.out.grown hg13 HB12.out.size hgw)
    have HX13 := Lib.hid (show Blk w13 w.heap.size _ #[.slice a0 m c0, .slice a1 ne c1] from (hg13.block _ HX12.out.lt hx1).trans HX12.out)
    have HV13 := Lib.hid (HV12.out.grown hg13 hv01)
    have HQ13 := Lib.hid hu13
    clear hu13 hg13 hx1 hv01 hgw
    go_wp2_with fail
    refine (HHU.out _ _ _ HQ13.out).mono ?_
    rintro e w14 ⟨rfl, rfl⟩
    have n3 : decide (1 + (rl : Int) < 0) = false := decide_eq_false (by omega)
    have n4 : (0 : Int) ≤ 1 + (rl : Int) := by omega
    have n5 : (1 + (rl : Int) != 1 + (rl : Int)) = false := by simp
    have b0 := HX13.out.cell 0
    have b1 := HX13.out.cell 1
    go_wp2_with fail
    refine (HTo.out _ HB13.out).mono ?_
    rintro e w15 ⟨g7, g8, rfl, hg7, hg78, hb15, ho15, he15⟩
    have HT15 := Lib.hid (HTb.out _ _ _ _ ho15 he15)
    have HB15 := Lib.hid (HB13.out.trans (hb15.mono HB13.out.size))
    have HV15 := Lib.hid (HV13.out.below hb15)
    have HQ15 := Lib.hid (HQ13.out.below hb15)
    clear hg7 hg78 hb15 ho15 he15 b0 b1
    go_wp2_with fail
    refine (HO2.out _ _ _ HT15.out).mono ?_
    rintro e w16 ⟨v2, rfl, ho16, hb16⟩
    have HB16 := Lib.hid (HB15.out.trans (hb16.mono HB15.out.size))
    have HV16 := Lib.hid (HV15.out.below hb16)
    have HQ16 := Lib.hid (HQ15.out.below hb16)
    have HW16 := Lib.hid ho16
    clear hb16 ho16
    go_wp2_with fail
    refine (HEI.out _ _ _ HW16.out.rd HV16.out).mono ?_
    rintro e w17 ⟨rfl, hb17⟩
    have hb17' : Below w16.heap.size w16 w17 := hb17
    have HB17 := Lib.hid (HB16.out.trans (hb17'.mono HB16.out.size))
    have HQ17 := Lib.hid (HQ16.out.below hb17')
    clear hb17 hb17'
    go_wp2_with fail
    refine (HHU.out _ _ _ HQ17.out).mono ?_
    rintro e w18 ⟨rfl, rfl⟩
    go_wp2_with fail
    go_ret
    exact ⟨rfl, HB17.out⟩
end Go.Proofs.Ytplpgcbdbmfffaa
