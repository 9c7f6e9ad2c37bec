/- The exact law on DictSame. -/
import Derived.Test.YtejmgklhfggilaaDex
import Derived.Test.YtejmgklhfggilaaSamS
import Derived.Deep.DeepCutAuto
namespace Go.Proofs.Ytejmgklhfggilaa
open Go.RowKit
set_option maxRecDepth 20000 in
set_option maxHeartbeats 8000000 in
theorem exactDictSame_walk (ixA : List Int) (esA : List Ent) (aA0 aA1 : Option Addr) (cA0 cA1 : Nat) (ixB : List Int) (esB : List Ent) (aB0 aB1 : Option Addr) (cB0 cB1 : Nat) (w : World) (hA0 : RsI w aA0 cA0 ixA) (hA1 : RsE w aA1 cA1 esA) (hkA : KeyM esA) (hcA0 : cA0 ≤ maxLen) (hcA1 : cA1 ≤ maxLen) (hB0 : RsI w aB0 cB0 ixB) (hB1 : RsE w aB1 cB1 esB) (hkB : KeyM esB) (hcB0 : cB0 ≤ maxLen) (hcB1 : cB1 ≤ maxLen) :
    Calls Try.prog 12 #[.agg #[.slice aA0 ixA.length cA0, .slice aA1 esA.length cA1], .agg #[.slice aB0 ixB.length cB0, .slice aB1 esB.length cB1]] w fun e w' => e = .returned (.bool true) ∧ Below w.heap.size w w' := by
  obtain ⟨w1, hw1⟩ : ∃ w1, w1 = (w.alloc (Obj.cells #[.slice aA0 ixA.length cA0, .slice aA1 esA.length cA1] 34)).alloc (Obj.cells #[.slice aB0 ixB.length cB0, .slice aB1 esB.length cB1] 34) := ⟨_, rfl⟩
  have HB1 := Lib.hid (show Below w.heap.size w w1 from by rw [hw1]; exact ((Below.refl _ _).alloc (Nat.le_refl _) _).alloc (by simp) _)
  have hsz : w1.heap.size = w.heap.size + 2 := by rw [hw1]; simp
  have HX1 := Lib.hid (show Blk w1 w.heap.size _ #[.slice aA0 ixA.length cA0, .slice aA1 esA.length cA1] from by rw [hw1]; exact (Blk.newest w _ _).alloc _)
  have HY1 := Lib.hid (show Blk w1 (w.heap.size + 1) _ #[.slice aB0 ixB.length cB0, .slice aB1 esB.length cB1] from by rw [hw1]; exact Blk.new _ _ _ (by simp))
  have HSzA := Lib.hid (szDict_any ixA esA aA0 aA1 cA0 cA1 1048576 w1 (hA1.below HB1.out) hkA (by omega) (by omega) (Nat.le_trans hA0.1 hcA0) hcA1)
  have hr1 : szV 1048576 (ixA.length + (esA.length + ksz esA)) ≤ 1048576 := by unfold szV; split <;> omega
  have HW1 := Lib.hid hw1
  clear hw1
  by_cases hr : szV 1048576 (ixA.length + (esA.length + ksz esA)) < 0
  case pos =>
    have hr0 : -1 ≤ szV 1048576 (ixA.length + (esA.length + ksz esA)) := by unfold szV; split <;> omega
    generalize szV 1048576 (ixA.length + (esA.length + ksz esA)) = r at *
    clear hA0 hA1 hkA hB0 hB1 hkB
    generalize ixA.length = mA at *
    generalize esA.length = nA at *
    generalize ixB.length = mB at *
    generalize esB.length = nB at *
    go_enter Try.func12, Try.ntmps12
    go_wp2_with fail
    rw [← HW1.out]
    refine HSzA.out.mono ?_
    rintro e w2 ⟨rfl, hb2⟩
    have HB2 := Lib.hid (HB1.out.trans (hb2.mono HB1.out.size))
    clear hb2
    go_wp2_with fail
    go_ret
    exact ⟨rfl, HB2.out⟩
  obtain ⟨hmA, hlA, hsA⟩ := sz_of hr
  have hksA := keys_of hsA
  have hr0 : 0 ≤ szV 1048576 (ixA.length + (esA.length + ksz esA)) := by omega
  obtain ⟨l1, hl1⟩ : ∃ l1, l1 = szV 1048576 (ixA.length + (esA.length + ksz esA)) := ⟨_, rfl⟩
  rw [← hl1] at hr hr1 hr0 HSzA
  clear hl1
  have HSzB := Lib.hid (fun w' (hb : Below w.heap.size w w') => szDict_any ixB esB aB0 aB1 cB0 cB1 l1 w' (hB1.below hb) hkB hr0 hr1 (Nat.le_trans hB0.1 hcB0) hcB1)
  have hq1 : szV l1 (ixB.length + (esB.length + ksz esB)) ≤ 1048576 := by unfold szV; split <;> omega
  by_cases hq : szV l1 (ixB.length + (esB.length + ksz esB)) < 0
  case pos =>
    have hq0 : -1 ≤ szV l1 (ixB.length + (esB.length + ksz esB)) := by unfold szV; split <;> omega
    generalize szV l1 (ixB.length + (esB.length + ksz esB)) = r at *
    clear hA0 hA1 hkA hB0 hB1 hkB hksA hsA
    generalize ixA.length = mA at *
    generalize esA.length = nA at *
    generalize ixB.length = mB at *
    generalize esB.length = nB at *
    go_enter Try.func12, Try.ntmps12
    go_wp2_with fail
    rw [← HW1.out]
    refine HSzA.out.mono ?_
    rintro e w2 ⟨rfl, hb2⟩
    have HB2 := Lib.hid (HB1.out.trans (hb2.mono HB1.out.size))
    have HY2 := Lib.hid (HY1.out.below hb2 HY1.out.lt)
    clear hb2
    have b0 := HY2.out.cell 0
    have b1 := HY2.out.cell 1
    go_wp2_with fail
    refine (HSzB.out _ HB2.out).mono ?_
    rintro e w3 ⟨rfl, hb3⟩
    have HB3 := Lib.hid (HB2.out.trans (hb3.mono HB2.out.size))
    clear hb3
    go_wp2_with fail
    go_ret
    exact ⟨rfl, HB3.out⟩
  have hszB : ixB.length ≤ 1048576 ∧ esB.length ≤ 1048576 ∧ ksz esB ≤ 1048576 := by
    unfold szV at hq
    split at hq
    · omega
    · exact absurd (by decide) hq
  obtain ⟨hmB, hlB, hsB⟩ := hszB
  have hksB := keys_of hsB
  have hq0 : 0 ≤ szV l1 (ixB.length + (esB.length + ksz esB)) := by omega
  have HTA := Lib.hid (fun w' (hb : Below w.heap.size w w') => toDict_any ixA esA aA0 aA1 cA0 cA1 w' (hA0.below hb) (hA1.below hb) hmA hlA)
  have HTB := Lib.hid (fun w' (hb : Below w.heap.size w w') => toDict_any ixB esB aB0 aB1 cB0 cB1 w' (hB0.below hb) (hB1.below hb) hmB hlB)
  have HO1 := Lib.hid (fun gA gA2 gB gB2 w' h1 h2 => specDictSame_any ixA ixB esA esB gA gB ixA.length esA.length ixB.length esB.length (some ⟨gA2, 0, none⟩) (some ⟨gB2, 0, none⟩) w' h1 h2 hlA hmA hksA hlB hmB hksB)
  have HO2 := Lib.hid (fun gA gA2 gB gB2 w' h1 h2 => dictSame_any ixA ixB esA esB gA gB ixA.length esA.length ixB.length esB.length (some ⟨gA2, 0, none⟩) (some ⟨gB2, 0, none⟩) w' h1 h2 hlA hmA hksA hlB hmB hksB)
  have HEqA := Lib.hid (fun g1 g2 q1 q2 w' h1 h2 he1 he2 => eqDict_same ixA esA g1 g2 q1 q2 ixA.length ixA.length esA.length esA.length w' h1 h2 hmA hlA he1 he2)
  have HEqB := Lib.hid (fun g1 g2 q1 q2 w' h1 h2 he1 he2 => eqDict_same ixB esB g1 g2 q1 q2 ixB.length ixB.length esB.length esB.length w' h1 h2 hmB hlB he1 he2)
  have HTbA := Lib.hid (fun (w w' : World) (g1 g2 : Nat) h1 h2 => (DiP.tb (ix := ixA) (es := esA) (w := w) (w' := w') (g1 := g1) (g2 := g2) h1 h2))
  have HTbB := Lib.hid (fun (w w' : World) (g1 g2 : Nat) h1 h2 => (DiP.tb (ix := ixB) (es := esB) (w := w) (w' := w') (g1 := g1) (g2 := g2) h1 h2))
  have HEKA := Lib.hid (fun (w' : World) (g : Nat) (h : EnK w' g esA.length esA esA.length) => h.en)
  have HEKB := Lib.hid (fun (w' : World) (g : Nat) (h : EnK w' g esB.length esB esB.length) => h.en)
  unfold DiP at HTA HTB
  generalize szV l1 (ixB.length + (esB.length + ksz esB)) = r at *
  generalize sameB ixA esA ixB esB = bb at *
  clear hA0 hA1 hkA hB0 hB1 hkB hksA hsA hksB hsB
  generalize ixA.length = mA at *
  generalize esA.length = nA at *
  generalize ixB.length = mB at *
  generalize esB.length = nB at *
  go_enter Try.func12, Try.ntmps12
  go_wp2_with fail
  rw [← HW1.out]
  refine HSzA.out.mono ?_
  rintro e w2 ⟨rfl, hb2⟩
  have HB2 := Lib.hid (HB1.out.trans (hb2.mono HB1.out.size))
  have HX2 := Lib.hid (HX1.out.below hb2 HX1.out.lt)
  have HY2 := Lib.hid (HY1.out.below hb2 HY1.out.lt)
  clear hb2
  have b0 := HY2.out.cell 0
  have b1 := HY2.out.cell 1
  go_wp2_with fail
  refine (HSzB.out _ HB2.out).mono ?_
  rintro e w3 ⟨rfl, hb3⟩
  have HB3 := Lib.hid (HB2.out.trans (hb3.mono HB2.out.size))
  have HX3 := Lib.hid (HX2.out.below hb3 HX2.out.lt)
  have HY3 := Lib.hid (HY2.out.below hb3 HY2.out.lt)
  clear hb3 b0 b1
  have b0 := HX3.out.cell 0
  have b1 := HX3.out.cell 1
  have d0 := HY3.out.cell 0
  have d1 := HY3.out.cell 1
  go_upto_region 8 with fail
  go_cut [6] (fun s wx => s = .bool bb ∧ Hid (Below w3.heap.size w3 wx))
  case first =>
    go_region_with (first | (go_at_call_of 24 (Value.agg #[.slice aA0 mA cA0, .slice aA1 nA cA1]); refine (HTA.out _ HB3.out.drew).mono ?_; rintro e wa ⟨ga, ga2, rfl, _, _, hba, hoa, hea⟩; have HBa := Lib.hid (((Below.refl _ w3).drew).trans hba); have HTa := Lib.hid (HTbA.out _ _ _ _ hoa hea); have p0 := (HX3.out.below HBa.out HX3.out.lt).cell 0; have p1 := (HX3.out.below HBa.out HX3.out.lt).cell 1; have r0 := (HY3.out.below HBa.out HY3.out.lt).cell 0; have r1 := (HY3.out.below HBa.out HY3.out.lt).cell 1; clear hba hoa hea) | (go_at_call_of 24 (Value.agg #[.slice aB0 mB cB0, .slice aB1 nB cB1]); refine (HTB.out _ (HB3.out.trans (HBa.out.mono HB3.out.size))).mono ?_; rintro e wb ⟨gb, gb2, rfl, _, _, hbb, hob, heb⟩; have HBb := Lib.hid (HBa.out.trans (hbb.mono HBa.out.size)); have HTa2 := Lib.hid (HTa.out.below hbb); have HTb2 := Lib.hid (HTbB.out _ _ _ _ hob heb); clear hbb hob heb) | (go_at_call 44; refine (HO1.out _ _ _ _ _ HTa2.out HTb2.out).mono ?_; rintro e wd ⟨rfl, hbd⟩; have HBd := Lib.hid (HBb.out.trans (hbd.mono HBb.out.size)); clear hbd))
    all_goals (try go_wp2)
    all_goals go_meet
    all_goals exact ⟨rfl, Lib.hid HBd.out⟩
  obtain ⟨rfl, HBc⟩ := hcut
  have HB4 := Lib.hid (HB3.out.trans (HBc.out.mono HB3.out.size))
  have HX4 := Lib.hid (HX3.out.below HBc.out HX3.out.lt)
  have HY4 := Lib.hid (HY3.out.below HBc.out HY3.out.lt)
  clear b0 b1 d0 d1
  have b0 := HX4.out.cell 0
  have b1 := HX4.out.cell 1
  go_wp2_with fail
  refine (HTA.out _ HB4.out).mono ?_
  rintro e w5 ⟨g3, g4, rfl, _, _, hb5, ho5, he5⟩
  have HT5 := Lib.hid (HTbA.out _ _ _ _ ho5 he5)
  have HE5 := Lib.hid (HEKA.out _ _ he5)
  have HB5 := Lib.hid (HB4.out.trans (hb5.mono HB4.out.size))
  have HX5 := Lib.hid (HX4.out.below hb5 HX4.out.lt)
  have HY5 := Lib.hid (HY4.out.below hb5 HY4.out.lt)
  clear hb5 ho5 he5 b0 b1
  obtain ⟨w6, hw6⟩ : ∃ w6, w6 = w5.alloc (Obj.cells #[.slice (some ⟨g3, 0, none⟩) mA mA, .slice (some ⟨g4, 0, none⟩) nA nA] 27) := ⟨_, rfl⟩
  have hb6 : Below w5.heap.size w5 w6 := by rw [hw6]; exact (Below.refl _ _).alloc (Nat.le_refl _) _
  have HT6 := Lib.hid (HT5.out.below hb6)
  have HE6 := Lib.hid (HE5.out.below hb6 HE5.out.1)
  have HB6 := Lib.hid (HB5.out.trans (hb6.mono HB5.out.size))
  have HX6 := Lib.hid (HX5.out.below hb6 HX5.out.lt)
  have HY6 := Lib.hid (HY5.out.below hb6 HY5.out.lt)
  have HP6 := Lib.hid (show Blk w6 w5.heap.size _ #[.slice (some ⟨g3, 0, none⟩) mA mA, .slice (some ⟨g4, 0, none⟩) nA nA] from by rw [hw6]; exact Blk.newest w5 _ _)
  have HW6 := Lib.hid hw6
  have hly : w.heap.size + 1 < w5.heap.size := HY5.out.lt
  have b0 := HY5.out.cell 0
  have b1 := HY5.out.cell 1
  clear hb6 hw6
  go_wp2_with fail
  rw [← HW6.out]
  clear b0 b1 hly
  refine (HTB.out _ HB6.out).mono ?_
  rintro e w7 ⟨g5, g6, rfl, _, _, hb7, ho7, he7⟩
  have HS7 := Lib.hid (HTbB.out _ _ _ _ ho7 he7)
  have HF7 := Lib.hid (HEKB.out _ _ he7)
  have HT7 := Lib.hid (HT6.out.below hb7)
  have HE7 := Lib.hid (HE6.out.below hb7 HE6.out.1)
  have HB7 := Lib.hid (HB6.out.trans (hb7.mono HB6.out.size))
  have HX7 := Lib.hid (HX6.out.below hb7 HX6.out.lt)
  have HY7 := Lib.hid (HY6.out.below hb7 HY6.out.lt)
  have HP7 := Lib.hid (HP6.out.below hb7 HP6.out.lt)
  clear hb7 ho7 he7
  obtain ⟨w8, hw8⟩ : ∃ w8, w8 = w7.alloc (Obj.cells #[.slice (some ⟨g5, 0, none⟩) mB mB, .slice (some ⟨g6, 0, none⟩) nB nB] 27) := ⟨_, rfl⟩
  have hb8 : Below w7.heap.size w7 w8 := by rw [hw8]; exact (Below.refl _ _).alloc (Nat.le_refl _) _
  have HS8 := Lib.hid (HS7.out.below hb8)
  have HF8 := Lib.hid (HF7.out.below hb8 HF7.out.1)
  have HT8 := Lib.hid (HT7.out.below hb8)
  have HE8 := Lib.hid (HE7.out.below hb8 HE7.out.1)
  have HB8 := Lib.hid (HB7.out.trans (hb8.mono HB7.out.size))
  have HX8 := Lib.hid (HX7.out.below hb8 HX7.out.lt)
  have HY8 := Lib.hid (HY7.out.below hb8 HY7.out.lt)
  have HP8 := Lib.hid (HP7.out.below hb8 HP7.out.lt)
  have HQ8 := Lib.hid (show Blk w8 w7.heap.size _ #[.slice (some ⟨g5, 0, none⟩) mB mB, .slice (some ⟨g6, 0, none⟩) nB nB] from by rw [hw8]; exact Blk.newest w7 _ _)
  have HW8 := Lib.hid hw8
  have hlp : w5.heap.size < w7.heap.size := HP7.out.lt
  have b0 := HP7.out.cell 0
  have b1 := HP7.out.cell 1
  clear hb8 hw8
  go_wp2_with fail
  rw [← HW8.out]
  clear b0 b1 hlp
  refine (HO2.out _ _ _ _ _ HT8.out HS8.out).mono ?_
  rintro e w9 ⟨rfl, hb9⟩
  have HS9 := Lib.hid (HS8.out.below hb9)
  have HF9 := Lib.hid (HF8.out.below hb9 HF8.out.1)
  have HT9 := Lib.hid (HT8.out.below hb9)
  have HE9 := Lib.hid (HE8.out.below hb9 HE8.out.1)
  have HB9 := Lib.hid (HB8.out.trans (hb9.mono HB8.out.size))
  have HX9 := Lib.hid (HX8.out.below hb9 HX8.out.lt)
  have HY9 := Lib.hid (HY8.out.below hb9 HY8.out.lt)
  have HP9 := Lib.hid (HP8.out.below hb9 HP8.out.lt)
  have HQ9 := Lib.hid (HQ8.out.below hb9 HQ8.out.lt)
  clear hb9
  have hbb : (!bb == bb) = false := by simp
  have hbb2 : (bb != bb) = false := by simp
  have b0 := HX9.out.cell 0
  have b1 := HX9.out.cell 1
  have d0 := HP9.out.cell 0
  have d1 := HP9.out.cell 1
  go_upto_region 14 with fail
  go_cut [39] (fun s wx => s = .bool false ∧ Hid (Below w9.heap.size w9 wx))
  case first =>
    go_region_with (first | (go_at_call 24; refine (HTA.out _ (by first | exact HB9.out | exact HB9.out.drew)).mono ?_; rintro e wa ⟨ga, ga2, rfl, _, _, hba, hoa, hea⟩; have HBa := Lib.hid (show Below w9.heap.size w9 wa from (by first | exact hba | exact ((Below.refl _ w9).drew).trans hba)); have HTa := Lib.hid (HTbA.out _ _ _ _ hoa hea); have HEa := Lib.hid (HEKA.out _ _ hea); have p0 := (HP9.out.below HBa.out HP9.out.lt).cell 0; have p1 := (HP9.out.below HBa.out HP9.out.lt).cell 1; clear hba hoa hea) | (go_at_call 19; refine (HEqA.out _ _ _ _ _ (HT9.out.below HBa.out) HTa.out (HE9.out.below HBa.out HE9.out.1) HEa.out).mono ?_; rintro e wb ⟨rfl, hbb⟩; have HBb := Lib.hid (HBa.out.trans (hbb.mono HBa.out.size)); clear hbb))
    all_goals (try go_wp2)
    all_goals go_meet
    all_goals exact ⟨rfl, Lib.hid HBb.out⟩
  obtain ⟨rfl, HBe⟩ := hcut
  have HBx := Lib.hid (HB9.out.trans (HBe.out.mono HB9.out.size))
  have HYx := Lib.hid (HY9.out.below HBe.out HY9.out.lt)
  have HQx := Lib.hid (HQ9.out.below HBe.out HQ9.out.lt)
  have HSx := Lib.hid (HS9.out.below HBe.out)
  have HFx := Lib.hid (HF9.out.below HBe.out HF9.out.1)
  clear b0 b1 d0 d1
  have b0 := HYx.out.cell 0
  have b1 := HYx.out.cell 1
  have d0 := HQx.out.cell 0
  have d1 := HQx.out.cell 1
  go_wp2_with fail
  go_region_with (first | (go_at_call 24; refine (HTB.out _ (by first | exact HBx.out | exact HBx.out.drew)).mono ?_; rintro e wa ⟨ga, ga2, rfl, _, _, hba, hoa, hea⟩; have HBa := Lib.hid (show Below wc.heap.size wc wa from (by first | exact hba | exact ((Below.refl _ wc).drew).trans hba)); have HTa := Lib.hid (HTbB.out _ _ _ _ hoa hea); have HEa := Lib.hid (HEKB.out _ _ hea); have p0 := (HQx.out.below HBa.out HQx.out.lt).cell 0; have p1 := (HQx.out.below HBa.out HQx.out.lt).cell 1; clear hba hoa hea) | (go_at_call 19; refine (HEqB.out _ _ _ _ _ (HSx.out.below HBa.out) HTa.out (HFx.out.below HBa.out HFx.out.1) HEa.out).mono ?_; rintro e wb ⟨rfl, hbb⟩; have HBb := Lib.hid (HBa.out.trans (hbb.mono HBa.out.size)); clear hbb))
  all_goals (try go_wp2)
  all_goals go_ret
  all_goals exact ⟨rfl, HBx.out.trans (HBb.out.mono HBx.out.size)⟩
end Go.Proofs.Ytejmgklhfggilaa
