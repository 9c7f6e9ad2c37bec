/- Whether two dictionaries are the same: the model's. -/
import Derived.Test.YtejmgklhfggilaaSame
import Derived.Test.YtejmgklhfggilaaDok3
import Derived.Deep.CutRange
namespace Go.Proofs.Ytejmgklhfggilaa
open Go.RowKit
set_option maxRecDepth 20000 in
set_option maxHeartbeats 8000000 in
theorem specDictSame_any (ixA ixB : List Int) (esA esB : List Ent) (gA gB cA dA cB dB : Nat) (aA aB : Option Addr) (w : World) (hA : Tb w gA ixA aA esA) (hB : Tb w gB ixB aB esB) (hlA : esA.length ≤ 1048576) (hmA : ixA.length ≤ 1048576) (hkA : KeysS esA) (hlB : esB.length ≤ 1048576) (hmB : ixB.length ≤ 1048576) (hkB : KeysS esB) :
    Calls Try.prog 44 #[.agg #[.slice (some ⟨gA, 0, none⟩) ixA.length cA, .slice aA esA.length dA], .agg #[.slice (some ⟨gB, 0, none⟩) ixB.length cB, .slice aB esB.length dB]] w fun e w' => e = .returned (.bool (sameB ixA esA ixB esB)) ∧ Below w.heap.size w w' := by
  obtain ⟨w1, hw1⟩ : ∃ w1, w1 = (w.alloc (Obj.cells #[.slice (some ⟨gA, 0, none⟩) ixA.length cA, .slice aA esA.length dA] 27)).alloc (Obj.cells #[.slice (some ⟨gB, 0, none⟩) ixB.length cB, .slice aB esB.length dB] 27) := ⟨_, rfl⟩
  have HB1 := Lib.hid (show Below w.heap.size w w1 from by rw [hw1]; exact ((Below.refl _ _).alloc (Nat.le_refl _) _).alloc (by simp) _)
  have HA1 := Lib.hid (hA.below HB1.out)
  have HC1 := Lib.hid (hB.below HB1.out)
  have hsz : w1.heap.size = w.heap.size + 2 := by rw [hw1]; simp
  have HX1 := Lib.hid (show Blk w1 w.heap.size _ #[.slice (some ⟨gA, 0, none⟩) ixA.length cA, .slice aA esA.length dA] from by rw [hw1]; exact (Blk.newest w _ _).alloc _)
  have HY1 := Lib.hid (show Blk w1 (w.heap.size + 1) _ #[.slice (some ⟨gB, 0, none⟩) ixB.length cB, .slice aB esB.length dB] from by rw [hw1]; exact Blk.new _ _ _ (by simp))
  have HDA := Lib.hid (fun w h => validDict_any ixA esA gA cA dA aA w h hlA hmA hkA)
  have HDB := Lib.hid (fun w h => validDict_any ixB esB gB cB dB aB w h hlB hmB hkB)
  have HLA := Lib.hid (fun w h => liveEntries_any (.slice (some ⟨gA, 0, none⟩) ixA.length cA) esA aA dA w h hlA rfl)
  have HLB := Lib.hid (fun w h => liveEntries_any (.slice (some ⟨gB, 0, none⟩) ixB.length cB) esB aB dB w h hlB rfl)
  have HSl := Lib.hid (fun (key : ByteArray) w h hf hk => slotOf_ok ixB esB key gB cB dB aB w h hf hk)
  have HW1 := Lib.hid hw1
  clear hA hB hw1
  generalize hmA9 : ixA.length = mA at *
  generalize hnA9 : esA.length = nA at *
  generalize hmB9 : ixB.length = mB at *
  have HMB9 := Lib.hid hmB9
  generalize hnB9 : esB.length = nB at *
  have HNA := Lib.hid hnA9
  have HNB := Lib.hid hnB9
  clear hmA9 hnA9 hmB9 hnB9
  cases hda : dokB ixA esA with
  | false =>
    have HE := Lib.hid (same_a (ixB := ixB) (esB := esB) hda)
    rw [hda] at HDA
    clear hda
    go_enter Try.func44, Try.ntmps44
    go_upto_region 1 with fail
    rw [← HW1.out]
    have b0 := HX1.out.cell 0
    have b1 := HX1.out.cell 1
    have d0 := HY1.out.cell 0
    have d1 := HY1.out.cell 1
    go_region_with ((go_at_call_of 59 (Value.agg #[.slice (some ⟨gA, 0, none⟩) mA cA, .slice aA nA dA]); refine (HDA.out _ (HA1.out.below ((Below.refl _ w1).drew))).mono ?_; rintro e wa ⟨rfl, hba⟩; have HBa := Lib.hid (((Below.refl _ w1).drew).trans hba); have p0 := (HX1.out.below HBa.out HX1.out.lt).cell 0; have p1 := (HX1.out.below HBa.out HX1.out.lt).cell 1; have r0 := (HY1.out.below HBa.out HY1.out.lt).cell 0; have r1 := (HY1.out.below HBa.out HY1.out.lt).cell 1; clear hba))
    all_goals
      go_wp2_with fail
      go_ret
      exact ⟨by rw [HE.out]; rfl, HB1.out.trans (HBa.out.mono HB1.out.size)⟩
  | true =>
    have HOA := Lib.hid hda
    rw [hda] at HDA
    clear hda
    cases hdb : dokB ixB esB with
    | false =>
      have HE := Lib.hid (same_b (ixA := ixA) (esA := esA) hdb)
      rw [hdb] at HDB
      clear hdb
      go_enter Try.func44, Try.ntmps44
      go_upto_region 1 with fail
      rw [← HW1.out]
      have b0 := HX1.out.cell 0
      have b1 := HX1.out.cell 1
      have d0 := HY1.out.cell 0
      have d1 := HY1.out.cell 1
      go_region_with (first | (go_at_call_of 59 (Value.agg #[.slice (some ⟨gA, 0, none⟩) mA cA, .slice aA nA dA]); refine (HDA.out _ (HA1.out.below ((Below.refl _ w1).drew))).mono ?_; rintro e wa ⟨rfl, hba⟩; have HBa := Lib.hid (((Below.refl _ w1).drew).trans hba); have p0 := (HX1.out.below HBa.out HX1.out.lt).cell 0; have p1 := (HX1.out.below HBa.out HX1.out.lt).cell 1; have r0 := (HY1.out.below HBa.out HY1.out.lt).cell 0; have r1 := (HY1.out.below HBa.out HY1.out.lt).cell 1; clear hba) | (go_at_call_of 59 (Value.agg #[.slice (some ⟨gB, 0, none⟩) mB cB, .slice aB nB dB]); refine (HDB.out _ (HC1.out.below HBa.out)).mono ?_; rintro e wb ⟨rfl, hbb⟩; have HBb := Lib.hid (HBa.out.trans (hbb.mono HBa.out.size)); have p0 := (HX1.out.below HBb.out HX1.out.lt).cell 0; have p1 := (HX1.out.below HBb.out HX1.out.lt).cell 1; have r0 := (HY1.out.below HBb.out HY1.out.lt).cell 0; have r1 := (HY1.out.below HBb.out HY1.out.lt).cell 1; clear hbb))
      all_goals
        go_wp2_with fail
        go_ret
        exact ⟨by rw [HE.out]; rfl, HB1.out.trans (HBb.out.mono HB1.out.size)⟩
    | true =>
      have HOB := Lib.hid hdb
      rw [hdb] at HDB
      clear hdb
      have hLA : (liveN esA : Int) ≤ 1048576 := by have := liveN_le esA esA.length; rw [List.take_length, HNA.out] at this; omega
      have hLB : (liveN esB : Int) ≤ 1048576 := by have := liveN_le esB esB.length; rw [List.take_length, HNB.out] at this; omega
      have HKA := Lib.hid hkA
      go_enter Try.func44, Try.ntmps44
      go_upto_region 1 with fail
      rw [← HW1.out]
      have b0 := HX1.out.cell 0
      have b1 := HX1.out.cell 1
      have d0 := HY1.out.cell 0
      have d1 := HY1.out.cell 1
      go_cut [22] (fun s wx => s = .bool ((liveN esA : Int) != (liveN esB : Int)) ∧ Hid (Below w1.heap.size w1 wx))
      case first =>
        go_region_with (first | (go_at_call_of 59 (Value.agg #[.slice (some ⟨gA, 0, none⟩) mA cA, .slice aA nA dA]); refine (HDA.out _ (HA1.out.below ((Below.refl _ w1).drew))).mono ?_; rintro e wa ⟨rfl, hba⟩; have HBa := Lib.hid (((Below.refl _ w1).drew).trans hba); have p0 := (HX1.out.below HBa.out HX1.out.lt).cell 0; have p1 := (HX1.out.below HBa.out HX1.out.lt).cell 1; have r0 := (HY1.out.below HBa.out HY1.out.lt).cell 0; have r1 := (HY1.out.below HBa.out HY1.out.lt).cell 1; clear hba) | (go_at_call_of 59 (Value.agg #[.slice (some ⟨gB, 0, none⟩) mB cB, .slice aB nB dB]); refine (HDB.out _ (HC1.out.below HBa.out)).mono ?_; rintro e wb ⟨rfl, hbb⟩; have HBb := Lib.hid (HBa.out.trans (hbb.mono HBa.out.size)); have p0 := (HX1.out.below HBb.out HX1.out.lt).cell 0; have p1 := (HX1.out.below HBb.out HX1.out.lt).cell 1; have r0 := (HY1.out.below HBb.out HY1.out.lt).cell 0; have r1 := (HY1.out.below HBb.out HY1.out.lt).cell 1; clear hbb) | (go_at_call_of 71 (Value.agg #[.slice (some ⟨gA, 0, none⟩) mA cA, .slice aA nA dA]); refine (HLA.out _ (HA1.out.below HBb.out).2.2).mono ?_; rintro e wd ⟨rfl, hbd⟩; have HBd := Lib.hid (HBb.out.trans (hbd.mono HBb.out.size)); have p0 := (HX1.out.below HBd.out HX1.out.lt).cell 0; have p1 := (HX1.out.below HBd.out HX1.out.lt).cell 1; have r0 := (HY1.out.below HBd.out HY1.out.lt).cell 0; have r1 := (HY1.out.below HBd.out HY1.out.lt).cell 1; clear hbd) | (go_at_call_of 71 (Value.agg #[.slice (some ⟨gB, 0, none⟩) mB cB, .slice aB nB dB]); refine (HLB.out _ (HC1.out.below HBd.out).2.2).mono ?_; rintro e wf ⟨rfl, hbf⟩; have HBf := Lib.hid (HBd.out.trans (hbf.mono HBd.out.size)); have p0 := (HX1.out.below HBf.out HX1.out.lt).cell 0; have p1 := (HX1.out.below HBf.out HX1.out.lt).cell 1; have r0 := (HY1.out.below HBf.out HY1.out.lt).cell 0; have r1 := (HY1.out.below HBf.out HY1.out.lt).cell 1; clear hbf))
        all_goals (try go_wp2)
        all_goals go_meet
        all_goals exact ⟨by first | rfl | simp, Lib.hid HBf.out⟩
      obtain ⟨rfl, HBd⟩ := hcut
      have HXd := Lib.hid (HX1.out.below HBd.out HX1.out.lt)
      have HYd := Lib.hid (HY1.out.below HBd.out HY1.out.lt)
      have HAd := Lib.hid (HA1.out.below HBd.out)
      have HCd := Lib.hid (HC1.out.below HBd.out)
      have HBw := Lib.hid (HB1.out.trans (HBd.out.mono HB1.out.size))
      clear b0 b1 d0 d1
      have hTB : ∀ (key : ByteArray), (plc ixB esB key (hsh key.data.toList) = -1 ∨ ∃ j : Nat, plc ixB esB key (hsh key.data.toList) = (j : Int) ∧ j < nB) ∧ fstS ixB esB key (hsh key.data.toList) < mB ∧ ixB[fstS ixB esB key (hsh key.data.toList)]? = some (plc ixB esB key (hsh key.data.toList)) := fun key => by
        have h4 := (fst_ok (key := key) (dok_of HOB.out).1 (hsh_lt key.data.toList)).2.2.2
        refine ⟨?_, ?_, h4⟩
        · rcases plc_is (key := key) (dok_of HOB.out).1 (hsh_lt key.data.toList) with h1 | ⟨j, h1, h2, _⟩
          · exact .inl h1
          · exact .inr ⟨j, h1, by rw [HNB.out] at h2; exact h2⟩
        · rw [← HMB9.out]
          rcases Nat.lt_or_ge (fstS ixB esB key (hsh key.data.toList)) ixB.length with h7 | h7
          · exact h7
          · rw [List.getElem?_eq_none h7] at h4; cases h4
      have HTB := Lib.hid hTB
      clear hTB
      by_cases hn : liveN esA = liveN esB
      · have hne : ((liveN esA : Int) != (liveN esB : Int)) = false := by rw [hn]; simp
        rw [hne]
        have HLN := Lib.hid hn
        clear hn hne hLA hLB
        go_wp2_with fail
        go_loopw [5] (fun i wr => ∃ k : Nat, k ≤ nA ∧ i = .int .i64 k ∧ Hid ((esA.take k).all (smE ixB esB) = true) ∧ Hid (Below wc.heap.size wc wr)) (fun i _ => nA - (intOf i).toNat)
        case atStart => exact ⟨0, by omega, rfl, Lib.hid rfl, Lib.hid (Below.refl _ _)⟩
        case round =>
          obtain ⟨k, hk, rfl, HS, HI⟩ := hrel
          have HXr := Lib.hid (HXd.out.below HI.out HXd.out.lt)
          have b0 := HXr.out.cell 0
          have b1 := HXr.out.cell 1
          by_cases hltk : k < nA
          · obtain ⟨g2, e, rfl, he, hb, x0, x1, x2, x3⟩ := (HAd.out.below HI.out).2.2.at (show k < esA.length by rw [HNA.out]; exact hltk)
            have q1 : (k : Int) < (nA : Int) := by omega
            have q0 : 0 ≤ (k : Int) := by omega
            have HL := Lib.hid (lies4 x0 x1 x2 x3)
            have HKe := Lib.hid (HKA.out e (List.mem_of_getElem? he))
            have HGE := Lib.hid he
            clear x0 x1 x2 x3 he
            cases hlv : e.live with
            | false =>
              have HS2 := Lib.hid (take_all HS.out HGE.out (show smE ixB esB e = true by unfold smE; rw [hlv]; rfl))
              rw [hlv] at HL
              go_wp2_with (first | (refine ldE (o := ⟨some 34, _, _, _, _, _⟩) rfl (.tmp 33) rfl g2 (k * 4) (.string e.key) (.int .i64 e.hash) (.int .i64 e.val) (.bool false) rfl HL.out ?_))
              go_roundw
              case rel => exact ⟨k + 1, by omega, by go_num, HS2, Lib.hid (HI.out.alloc HI.out.size _)⟩
              case measure => simp [intOf]; try omega
            | true =>
              have hsm : smE ixB esB e = (decide (0 ≤ plc ixB esB e.key (hsh e.key.data.toList)) && (valAt esB (plc ixB esB e.key (hsh e.key.data.toList)) == e.val)) := by unfold smE; rw [hlv]; rfl
              rw [hlv] at HL
              obtain ⟨w7, hw7⟩ : ∃ w7, w7 = wr.alloc (Obj.cells #[.string e.key, .int .i64 e.hash, .int .i64 e.val, .bool true] 64) := ⟨_, rfl⟩
              have hb7 : Below wr.heap.size wr w7 := by rw [hw7]; exact (Below.refl _ _).alloc (Nat.le_refl _) _
              have HI7 := Lib.hid (HI.out.trans (hb7.mono HI.out.size))
              have HE7 := Lib.hid (show Blk w7 wr.heap.size _ #[.string e.key, .int .i64 e.hash, .int .i64 e.val, .bool true] from by rw [hw7]; exact Blk.newest wr _ _)
              have HW7 := Lib.hid hw7
              clear hw7 hb7
              go_wp2_with (first | (refine ldE (o := ⟨some 34, _, _, _, _, _⟩) rfl (.tmp 33) rfl g2 (k * 4) (.string e.key) (.int .i64 e.hash) (.int .i64 e.val) (.bool true) rfl HL.out ?_))
              rw [← HW7.out]
              have HY7 := Lib.hid (HYd.out.below HI7.out HYd.out.lt)
              have y0 := HY7.out.cell 0
              have y1 := HY7.out.cell 1
              have z0 := HE7.out.cell 0
              obtain ⟨hpl, hss, h4⟩ := HTB.out e.key
              have HCall := Lib.hid (fun w' (hb : Below w7.heap.size w7 w') => HSl.out e.key w' ((HCd.out.below HI7.out).below hb) (dok_of HOB.out).1 HKe.out)
              have HSM := Lib.hid hsm
              have HH4 := Lib.hid h4
              clear hsm h4 b0 b1
              generalize plc ixB esB e.key (hsh e.key.data.toList) = n at *
              generalize fstS ixB esB e.key (hsh e.key.data.toList) = s at *
              have s1 : (s : Int) < (mB : Int) := by omega
              have s0 : 0 ≤ (s : Int) := by omega
              go_cut [7] from 23 to 58 (fun q wx => q = .int .i64 n ∧ Hid (Below w7.heap.size w7 wx))
              case first =>
                go_region_with (go_at_call 68; refine (HCall.out _ ((Below.refl _ w7).drew)).mono ?_; rintro r w8 ⟨rfl, hb8⟩; have HB8 := Lib.hid (((Below.refl _ w7).drew).trans hb8); have u0 := (HY7.out.below HB8.out HY7.out.lt).cell 0; have u1 := (HY7.out.below HB8.out HY7.out.lt).cell 1; have t0 := (HE7.out.below HB8.out HE7.out.lt).cell 0; have v0 := ((HCd.out.below HI7.out).below HB8.out).2.1 _ _ HH4.out; clear hb8)
                all_goals (try go_wp2)
                all_goals go_meet
                all_goals exact ⟨rfl, Lib.hid HB8.out⟩
              obtain ⟨rfl, HB8⟩ := hcut
              rename_i w8
              have HI8 := Lib.hid (HI7.out.trans (HB8.out.mono HI7.out.size))
              have HE8 := Lib.hid (HE7.out.below HB8.out HE7.out.lt)
              have HY8 := Lib.hid (HY7.out.below HB8.out HY7.out.lt)
              clear y0 y1 z0
              have z2 := HE8.out.cell 2
              have y0 := HY8.out.cell 0
              have y1 := HY8.out.cell 1
              rcases hpl with rfl | ⟨j, rfl, hj⟩
              · have HE := Lib.hid (same_e (ixA := ixA) HGE.out (show smE ixB esB e = false by rw [HSM.out]; rfl))
                go_wp2_with fail
                go_quiet (fail)
                go_wp2_with fail
                go_ret
                exact ⟨by rw [HE.out]; rfl, below_drewN' (HBw.out.trans (HI8.out.mono HBw.out.size))⟩
              · obtain ⟨g9, e9, ha9, he9, hb9, t0, t1, t2, t3⟩ := (HCd.out.below HI8.out).2.2.at (show j < esB.length by rw [HNB.out]; exact hj)
                subst ha9
                have j1 : (j : Int) < (nB : Int) := by omega
                have j0 : 0 ≤ (j : Int) := by omega
                have j2 : decide ((j : Int) < 0) = false := decide_eq_false (by omega)
                have HVa := Lib.hid (valAt_is he9)
                clear t0 t1 t3 he9
                cases hv : (e9.val == e.val) with
                | true =>
                  have hv2 : (e9.val != e.val) = false := by rw [bne, hv]; rfl
                  have HS2 := Lib.hid (take_all HS.out HGE.out (show smE ixB esB e = true by rw [HSM.out, HVa.out, hv, decide_eq_true j0]; rfl))
                  go_wp2_with fail
                  go_quiet (fail)
                  go_wp2_with fail
                  go_roundw
                  case rel => exact ⟨k + 1, by omega, by go_num, HS2, Lib.hid (below_drewN' HI8.out)⟩
                  case measure => simp [intOf]; try omega
                | false =>
                  have hv2 : (e9.val != e.val) = true := by rw [bne, hv]; rfl
                  have HE := Lib.hid (same_e (ixA := ixA) HGE.out (show smE ixB esB e = false by rw [HSM.out, HVa.out, hv, Bool.and_false]))
                  go_wp2_with fail
                  go_quiet (fail)
                  go_wp2_with fail
                  go_ret
                  exact ⟨by rw [HE.out]; rfl, below_drewN' (HBw.out.trans (HI8.out.mono HBw.out.size))⟩
          · obtain rfl : k = nA := by omega
            have HE := Lib.hid (same_y HOA.out HOB.out HLN.out (by have h9 := HS.out; rwa [List.take_of_length_le (by rw [HNA.out]; exact Nat.le_refl _)] at h9))
            clear hltk
            go_wp2_with fail
            go_ret
            exact ⟨by rw [HE.out]; rfl, HBw.out.trans (HI.out.mono HBw.out.size)⟩
      · have hne : ((liveN esA : Int) != (liveN esB : Int)) = true := by rw [bne_iff_ne]; omega
        rw [hne]
        have HE := Lib.hid (same_n (ixA := ixA) (ixB := ixB) hn)
        clear hn hne
        go_wp2_with fail
        go_ret
        exact ⟨by rw [HE.out]; rfl, HBw.out⟩
end Go.Proofs.Ytejmgklhfggilaa
