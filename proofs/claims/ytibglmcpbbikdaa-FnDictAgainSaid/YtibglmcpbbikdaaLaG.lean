/- DictSame. -/
import Derived.Test.YtibglmcpbbikdaaLaF
import Derived.Deep.DeepCutAuto
import Derived.Test.YtibglmcpbbikdaaLaD
import Derived.Deep.CutRange
namespace Go.Proofs.Ytibglmcpbbikdaa
open Go.RowKit
section
variable {P : Program} {ops : Array Oper} {o o' : Oper} {a : Act} {w w' : World} {Q : Exit → Act → World → Prop}
variable {md : Region.Mode} {S : World → Prop} {fuel : Nat} {listed : Array Bool} {l : List Oper}
theorem puts_neqInt (t yt : TypeId) (x y : Operand) (k : IntKind) (m n : Int) (b : Bool) (ho : o.op = .binOp .neq t x y yt) (hx : a.eval x = .int k m) (hy : a.eval y = .int k n) (hb : (m != n) = b) : Puts P o a w (.bool b) := by
  subst hb; unfold Puts execOp; simp only [ho, hx, hy]; simp [eqGuard, go_sem]
end
/-- The two tables lie in blocks of their own. -/
def TwoB (w wx : World) (b5 b6 : Nat) (A B : Array Value) : Prop := Below w.heap.size w wx ∧ w.heap.size ≤ b5 ∧ w.heap.size ≤ b6 ∧ Blk wx b5 54 A ∧ Blk wx b6 54 B
set_option maxRecDepth 20000 in
set_option maxHeartbeats 8000000 in
theorem dictSame_any (ixA ixB : List Int) (esA esB : List Ent) (gA gB cA dA cB dB : Nat) (aA aB : Option Addr) (w : World) (hA : Tb w gA ixA aA esA) (hB : Tb w gB ixB aB esB) (hlA : esA.length ≤ 1048576) (hmA : ixA.length ≤ 1048576) (hkA : KeysS esA) (hlB : esB.length ≤ 1048576) (hmB : ixB.length ≤ 1048576) (hkB : KeysS esB) :
    Calls Try.prog 21 #[.agg #[.slice (some ⟨gA, 0, none⟩) ixA.length cA, .slice aA esA.length dA], .agg #[.slice (some ⟨gB, 0, none⟩) ixB.length cB, .slice aB esB.length dB]] w fun e w' => e = .returned (.bool (sameB ixA esA ixB esB)) ∧ Below w.heap.size w w' := by
  obtain ⟨w1, hw1⟩ : ∃ w1, w1 = (w.alloc (Obj.cells #[.slice (some ⟨gA, 0, none⟩) ixA.length cA, .slice aA esA.length dA] 26)).alloc (Obj.cells #[.slice (some ⟨gB, 0, none⟩) ixB.length cB, .slice aB esB.length dB] 26) := ⟨_, rfl⟩
  have HB1 := Lib.hid (show Below w.heap.size w w1 from by rw [hw1]; exact ((Below.refl _ _).alloc (Nat.le_refl _) _).alloc (by simp) _)
  have HA1 := Lib.hid (hA.below HB1.out)
  have HC1 := Lib.hid (hB.below HB1.out)
  have hsz : w1.heap.size = w.heap.size + 2 := by rw [hw1]; simp
  have HX1 := Lib.hid (show Blk w1 w.heap.size _ #[.slice (some ⟨gA, 0, none⟩) ixA.length cA, .slice aA esA.length dA] from by rw [hw1]; exact (Blk.newest w _ _).alloc _)
  have HY1 := Lib.hid (show Blk w1 (w.heap.size + 1) _ #[.slice (some ⟨gB, 0, none⟩) ixB.length cB, .slice aB esB.length dB] from by rw [hw1]; exact Blk.new _ _ _ (by simp))
  have HDA := Lib.hid (fun w h => dictOk_any ixA esA gA cA dA aA w h hlA hmA hkA)
  have HDB := Lib.hid (fun w h => dictOk_any ixB esB gB cB dB aB w h hlB hmB hkB)
  have HLA := Lib.hid (fun w h => countLive_any (.slice (some ⟨gA, 0, none⟩) ixA.length cA) esA aA dA w h hlA rfl)
  have HLB := Lib.hid (fun w h => countLive_any (.slice (some ⟨gB, 0, none⟩) ixB.length cB) esB aB dB w h hlB rfl)
  have HFi := Lib.hid (fun (key : ByteArray) w h hf => find_ok ixB esB key gB cB dB (hsh key.data.toList) aB w h hf (hsh_lt key.data.toList))
  have HW1 := Lib.hid hw1
  clear hA hB hw1
  generalize hmA9 : ixA.length = mA at *
  generalize hnA9 : esA.length = nA at *
  generalize hmB9 : ixB.length = mB at *
  generalize hnB9 : esB.length = nB at *
  have HNA := Lib.hid hnA9
  have HNB := Lib.hid hnB9
  clear hmA9 hnA9 hmB9 hnB9
  cases hda : dokB ixA esA with
  | false =>
    have HE := Lib.hid (same_a (ixB := ixB) (esB := esB) hda)
    rw [hda] at HDA
    clear hda
    go_enter Try.func21, Try.ntmps21
    go_wp2_with fail
    rw [← HW1.out]
    refine (HDA.out _ HA1.out).mono ?_
    rintro e w2 ⟨rfl, hb2⟩
    have HB2 := Lib.hid (HB1.out.trans (hb2.mono HB1.out.size))
    clear hb2
    go_wp2_with fail
    go_ret
    exact ⟨by rw [HE.out]; rfl, HB2.out⟩
  | true =>
    have HOA := Lib.hid hda
    rw [hda] at HDA
    clear hda
    cases hdb : dokB ixB esB with
    | false =>
      have HE := Lib.hid (same_b (ixA := ixA) (esA := esA) hdb)
      rw [hdb] at HDB
      clear hdb
      go_enter Try.func21, Try.ntmps21
      go_wp2_with fail
      rw [← HW1.out]
      refine (HDA.out _ HA1.out).mono ?_
      rintro e w2 ⟨rfl, hb2⟩
      have HY2 := Lib.hid (HY1.out.below hb2 (by omega))
      have HC2 := Lib.hid (HC1.out.below hb2)
      have HB2 := Lib.hid (HB1.out.trans (hb2.mono HB1.out.size))
      clear hb2
      have b0 := HY2.out.cell 0
      have b1 := HY2.out.cell 1
      go_wp2_with fail
      refine (HDB.out _ HC2.out).mono ?_
      rintro e w3 ⟨rfl, hb3⟩
      have HB3 := Lib.hid (HB2.out.trans (hb3.mono HB2.out.size))
      clear hb3
      go_wp2_with fail
      go_ret
      exact ⟨by rw [HE.out]; rfl, HB3.out⟩
    | true =>
      have HOB := Lib.hid hdb
      rw [hdb] at HDB
      clear hdb
      have hLA : (liveN esA : Int) ≤ 1048576 := by have := liveN_le esA esA.length; rw [List.take_length, HNA.out] at this; omega
      have hLB : (liveN esB : Int) ≤ 1048576 := by have := liveN_le esB esB.length; rw [List.take_length, HNB.out] at this; omega
      go_enter Try.func21, Try.ntmps21
      go_wp2_with fail
      rw [← HW1.out]
      refine (HDA.out _ HA1.out).mono ?_
      rintro e w2 ⟨rfl, hb2⟩
      have HX2 := Lib.hid (HX1.out.below hb2 (by omega))
      have HY2 := Lib.hid (HY1.out.below hb2 (by omega))
      have HA2 := Lib.hid (HA1.out.below hb2)
      have HC2 := Lib.hid (HC1.out.below hb2)
      have HB2 := Lib.hid (HB1.out.trans (hb2.mono HB1.out.size))
      clear hb2
      have b0 := HY2.out.cell 0
      have b1 := HY2.out.cell 1
      go_wp2_with fail
      refine (HDB.out _ HC2.out).mono ?_
      rintro e w3 ⟨rfl, hb3⟩
      have HX3 := Lib.hid (HX2.out.below hb3 HX2.out.lt)
      have HY3 := Lib.hid (HY2.out.below hb3 HY2.out.lt)
      have HA3 := Lib.hid (HA2.out.below hb3)
      have HC3 := Lib.hid (HC2.out.below hb3)
      have HB3 := Lib.hid (HB2.out.trans (hb3.mono HB2.out.size))
      clear hb3 b0 b1
      have b0 := HX3.out.cell 0
      have b1 := HX3.out.cell 1
      have d0 := HY3.out.cell 0
      have d1 := HY3.out.cell 1
      have hx3 : w.heap.size < w3.heap.size := HX3.out.lt
      have hy3 : w.heap.size + 1 < w3.heap.size := HY3.out.lt
      go_upto_region 3 with fail
      go_cut [5, 6] (fun p q wx => ∃ b5 b6, p = .pointer (some ⟨b5, 0, none⟩) ∧ q = .pointer (some ⟨b6, 0, none⟩) ∧ Hid (TwoB w3 wx b5 b6 #[.slice (some ⟨gA, 0, none⟩) mA cA, .slice aA nA dA] #[.slice (some ⟨gB, 0, none⟩) mB cB, .slice aB nB dB]))
      case first =>
        go_region
        · (try go_wp2)
          go_meet
          exact ⟨_, _, rfl, rfl, Lib.hid ⟨(((Below.refl _ w3).alloc (Nat.le_refl _) _).alloc (by simp) _).drew, Nat.le_refl _, by simp, ((Blk.newest w3 _ _).alloc _).drew, (Blk.new _ _ _ (by simp)).drew⟩⟩
        · (try go_wp2)
          go_meet
          exact ⟨_, _, rfl, rfl, Lib.hid ⟨(((Below.refl _ w3).alloc (Nat.le_refl _) _).alloc (by simp) _).drew, by simp, Nat.le_refl _, (Blk.new _ _ _ (by simp)).drew, ((Blk.newest w3 _ _).alloc _).drew⟩⟩
      obtain ⟨b5, b6, rfl, rfl, HTw⟩ := hcut
      have HAc := Lib.hid (HA3.out.below HTw.out.1)
      have HCc := Lib.hid (HC3.out.below HTw.out.1)
      have HBc := Lib.hid (HB3.out.trans (HTw.out.1.mono HB3.out.size))
      have HX5 := Lib.hid HTw.out.2.2.2.1
      have HX6 := Lib.hid HTw.out.2.2.2.2
      have HXc := Lib.hid (HX3.out.below HTw.out.1 HX3.out.lt)
      have HYc := Lib.hid (HY3.out.below HTw.out.1 HY3.out.lt)
      clear b0 b1 d0 d1 hx3 hy3
      have b0 := HX5.out.cell 0
      have b1 := HX5.out.cell 1
      have d0 := HX6.out.cell 0
      have d1 := HX6.out.cell 1
      go_upto_region 4 with fail
      go_cut [24] (fun s wx => s = .bool ((liveN esA : Int) != (liveN esB : Int)) ∧ Hid (Below wc.heap.size wc wx))
      case first =>
        refine wp_region_held_drew (S := fun wx => Below wc.heap.size wc wx) (by kernel_rfl) ((Below.refl _ wc).drew) fun hS => ?_
        refine held_take 0 (v := .agg #[.slice (some ⟨gA, 0, none⟩) mA cA, .slice aA nA dA]) rfl rfl (by kernel_rfl) (by kernel_rfl) (by kernel_rfl) (fun _ _ _ h => h) (fun w' h => puts_load 54 _ rfl b5 0 #[.slice (some ⟨gA, 0, none⟩) mA cA, .slice aA nA dA] rfl (Blk.lies (HX5.out.below h HX5.out.lt)) _ Try.underlying54 rfl (by kernel_rfl)) hS ?_
        go_frame
        refine held_take 2 (v := .agg #[.slice (some ⟨gB, 0, none⟩) mB cB, .slice aB nB dB]) rfl rfl (by kernel_rfl) (by kernel_rfl) (by kernel_rfl) (fun _ _ _ h => h) (fun w' h => puts_load 54 _ rfl b6 0 #[.slice (some ⟨gB, 0, none⟩) mB cB, .slice aB nB dB] rfl (Blk.lies (HX6.out.below h HX6.out.lt)) _ Try.underlying54 rfl (by kernel_rfl)) hS ?_
        go_frame
        refine held_call 1 (by kernel_rfl) rfl rfl (puts_call1 51 _ _ (.agg #[.slice (some ⟨gA, 0, none⟩) mA cA, .slice aA nA dA]) rfl rfl (by kernel_rfl)) (HLA.out _ (HAc.out.below hS).2.2) ?_
        rintro e wa ⟨rfl, hba⟩
        have hSa : Below wc.heap.size wc wa := hS.trans (hba.mono hS.size)
        refine ⟨_, rfl, hSa, ?_⟩
        go_frame
        refine held_call 3 (by kernel_rfl) rfl rfl (puts_call1 51 _ _ (.agg #[.slice (some ⟨gB, 0, none⟩) mB cB, .slice aB nB dB]) rfl rfl (by kernel_rfl)) (HLB.out _ (HCc.out.below hSa).2.2) ?_
        rintro e wb ⟨rfl, hbb⟩
        have hSb : Below wc.heap.size wc wb := hSa.trans (hbb.mono hSa.size)
        refine ⟨_, rfl, hSb, ?_⟩
        go_frame
        refine held_only 4 (by kernel_rfl) rfl rfl (puts_neqInt 3 3 _ _ .i64 _ _ _ rfl rfl rfl rfl).gives hSb ?_
        go_frame
        refine wpAnyH_done (by kernel_rfl) ?_ _
        (try go_wp2)
        go_meet
        exact ⟨rfl, Lib.hid hSb⟩
      obtain ⟨rfl, HBd⟩ := hcut
      have HXd := Lib.hid (HXc.out.below HBd.out HXc.out.lt)
      have HYd := Lib.hid (HYc.out.below HBd.out HYc.out.lt)
      have HX6d := Lib.hid (HX6.out.below HBd.out HX6.out.lt)
      have HAd := Lib.hid (HAc.out.below HBd.out)
      have HCd := Lib.hid (HCc.out.below HBd.out)
      have HBw := Lib.hid (HBc.out.trans (HBd.out.mono HBc.out.size))
      clear b0 b1 d0 d1
      have hTB : ∀ (key : ByteArray), plc ixB esB key (hsh key.data.toList) = -1 ∨ ∃ j : Nat, plc ixB esB key (hsh key.data.toList) = (j : Int) ∧ j < nB := fun key => by
        rcases plc_is (key := key) (dok_of HOB.out).1 (hsh_lt key.data.toList) with h1 | ⟨j, h1, h2, _⟩
        · exact .inl h1
        · exact .inr ⟨j, h1, by rw [HNB.out] at h2; exact h2⟩
      have HTB := Lib.hid hTB
      clear hTB
      by_cases hn : liveN esA = liveN esB
      · have hne : ((liveN esA : Int) != (liveN esB : Int)) = false := by rw [hn]; simp
        rw [hne]
        have HLN := Lib.hid hn
        clear hn hne hLA hLB
        have b0 := HXd.out.cell 0
        have b1 := HXd.out.cell 1
        go_wp2_with fail
        clear b0 b1
        go_loopw [28] (fun i wr => ∃ k : Nat, k ≤ nA ∧ i = .int .i64 k ∧ Hid ((esA.take k).all (smE ixB esB) = true) ∧ Hid (Below wc.heap.size wc wr)) (fun i _ => nA - (intOf i).toNat)
        case atStart => exact ⟨0, by omega, rfl, Lib.hid rfl, Lib.hid (Below.refl _ _)⟩
        case round =>
          obtain ⟨k, hk, rfl, HS, HI⟩ := hrel
          by_cases hltk : k < nA
          · obtain ⟨g2, e, rfl, he, hb, x0, x1, x2, x3⟩ := (HAd.out.below HI.out).2.2.at (show k < esA.length by rw [HNA.out]; exact hltk)
            have q1 : (k : Int) < (nA : Int) := by omega
            have q0 : 0 ≤ (k : Int) := by omega
            have HL := Lib.hid (lies4 x0 x1 x2 x3)
            have HGE := Lib.hid he
            have hro := (dok_of HOA.out).2.2 k e he
            clear x0 x1 x2 x3 he
            cases hlv : e.live with
            | false =>
              have HS2 := Lib.hid (take_all HS.out HGE.out (show smE ixB esB e = true by unfold smE; rw [hlv]; rfl))
              rw [hlv] at HL
              clear hro
              go_wp2_with (first | (refine ldE (o := ⟨some 31, _, _, _, _, _⟩) rfl (.tmp 30) rfl g2 (k * 4) (.string e.key) (.int .i64 e.hash) (.int .i64 e.val) (.bool false) rfl HL.out ?_))
              go_roundw
              case rel => exact ⟨k + 1, by omega, by go_num, HS2, Lib.hid (HI.out.alloc HI.out.size _)⟩
              case measure => simp [intOf]; try omega
            | true =>
              have hsm : smE ixB esB e = (decide (0 ≤ plc ixB esB e.key (hsh e.key.data.toList)) && (valAt esB (plc ixB esB e.key (hsh e.key.data.toList)) == e.val)) := by unfold smE; rw [hlv]; rfl
              obtain ⟨hh1, _⟩ := ent_hash hro.1 hlv
              rw [hlv] at HL
              rw [hh1] at HL
              obtain ⟨w7, hw7⟩ : ∃ w7, w7 = wr.alloc (Obj.cells #[.string e.key, .int .i64 ((hsh e.key.data.toList : Nat) : Int), .int .i64 e.val, .bool true] 57) := ⟨_, rfl⟩
              have hb7 : Below wr.heap.size wr w7 := by rw [hw7]; exact (Below.refl _ _).alloc (Nat.le_refl _) _
              have HI7 := Lib.hid (HI.out.trans (hb7.mono HI.out.size))
              have HE7 := Lib.hid (show Blk w7 wr.heap.size _ #[.string e.key, .int .i64 ((hsh e.key.data.toList : Nat) : Int), .int .i64 e.val, .bool true] from by rw [hw7]; exact Blk.newest wr _ _)
              have HW7 := Lib.hid hw7
              have hl6 : b6 < wr.heap.size := Nat.lt_of_lt_of_le HX6d.out.lt HI.out.size
              have p0 := (HX6d.out.below HI.out HX6d.out.lt).cell 0
              have p1 := (HX6d.out.below HI.out HX6d.out.lt).cell 1
              clear hro hw7 hb7
              go_wp2_with (first | (refine ldE (o := ⟨some 31, _, _, _, _, _⟩) rfl (.tmp 30) rfl g2 (k * 4) (.string e.key) (.int .i64 ((hsh e.key.data.toList : Nat) : Int)) (.int .i64 e.val) (.bool true) rfl HL.out ?_))
              rw [← HW7.out]
              refine (HFi.out e.key _ (HCd.out.below HI7.out) (dok_of HOB.out).1).mono ?_
              rintro r w8 ⟨rfl, hb8⟩
              have HI8 := Lib.hid (HI7.out.trans (hb8.mono HI7.out.size))
              have HE8 := Lib.hid (HE7.out.below hb8 HE7.out.lt)
              have HY8 := Lib.hid (HYd.out.below HI8.out HYd.out.lt)
              clear hb8 p0 p1 hl6
              have z2 := HE8.out.cell 2
              have y0 := HY8.out.cell 0
              have y1 := HY8.out.cell 1
              have HSM := Lib.hid hsm
              have hpl := HTB.out e.key
              clear hsm hh1
              generalize plc ixB esB e.key (hsh e.key.data.toList) = n at *
              rcases hpl with rfl | ⟨j, rfl, hj⟩
              · have HE := Lib.hid (same_e (ixA := ixA) HGE.out (show smE ixB esB e = false by rw [HSM.out]; rfl))
                go_wp2_with fail
                go_quiet (fail)
                go_wp2_with fail
                go_ret
                exact ⟨by rw [HE.out]; rfl, below_drewN' (HBw.out.trans (HI8.out.mono HBw.out.size))⟩
              · obtain ⟨g9, e9, ha9, he9, hb9, t0, t1, t2, t3⟩ := (HCd.out.below HI8.out).2.2.at (show j < esB.length by rw [HNB.out]; exact hj)
                subst ha9
                have j1 : (j : Int) < (nB : Int) := by omega
                have j0 : 0 ≤ (j : Int) := by omega
                have j2 : ((j : Int) == -1) = false := beq_eq_false_iff_ne.2 (by omega)
                have HVa := Lib.hid (valAt_is he9)
                clear t0 t1 t3 he9
                cases hv : (e9.val == e.val) with
                | true =>
                  have hv2 : (e9.val != e.val) = false := by rw [bne, hv]; rfl
                  have HS2 := Lib.hid (take_all HS.out HGE.out (show smE ixB esB e = true by rw [HSM.out, HVa.out, hv, decide_eq_true j0]; rfl))
                  go_wp2_with fail
                  go_quiet (fail)
                  go_wp2_with fail
                  go_roundw
                  case rel => exact ⟨k + 1, by omega, by go_num, HS2, Lib.hid (below_drewN' HI8.out)⟩
                  case measure => simp [intOf]; try omega
                | false =>
                  have hv2 : (e9.val != e.val) = true := by rw [bne, hv]; rfl
                  have HE := Lib.hid (same_e (ixA := ixA) HGE.out (show smE ixB esB e = false by rw [HSM.out, HVa.out, hv, Bool.and_false]))
                  go_wp2_with fail
                  go_quiet (fail)
                  go_wp2_with fail
                  go_ret
                  exact ⟨by rw [HE.out]; rfl, below_drewN' (HBw.out.trans (HI8.out.mono HBw.out.size))⟩
          · obtain rfl : k = nA := by omega
            have HE := Lib.hid (same_y HOA.out HOB.out HLN.out (by have h9 := HS.out; rwa [List.take_of_length_le (by rw [HNA.out]; exact Nat.le_refl _)] at h9))
            clear hltk
            go_wp2_with fail
            go_ret
            exact ⟨by rw [HE.out]; rfl, HBw.out.trans (HI.out.mono HBw.out.size)⟩
      · have hne : ((liveN esA : Int) != (liveN esB : Int)) = true := by rw [bne_iff_ne]; omega
        rw [hne]
        have HE := Lib.hid (same_n (ixA := ixA) (ixB := ixB) hn)
        clear hn hne
        go_wp2_with fail
        go_ret
        exact ⟨by rw [HE.out]; rfl, HBw.out⟩
set_option maxRecDepth 20000 in
set_option maxHeartbeats 8000000 in
theorem specDictSame_any (ixA ixB : List Int) (esA esB : List Ent) (gA gB cA dA cB dB : Nat) (aA aB : Option Addr) (w : World) (hA : Tb w gA ixA aA esA) (hB : Tb w gB ixB aB esB) (hlA : esA.length ≤ 1048576) (hmA : ixA.length ≤ 1048576) (hkA : KeysS esA) (hlB : esB.length ≤ 1048576) (hmB : ixB.length ≤ 1048576) (hkB : KeysS esB) :
    Calls Try.prog 44 #[.agg #[.slice (some ⟨gA, 0, none⟩) ixA.length cA, .slice aA esA.length dA], .agg #[.slice (some ⟨gB, 0, none⟩) ixB.length cB, .slice aB esB.length dB]] w fun e w' => e = .returned (.bool (sameB ixA esA ixB esB)) ∧ Below w.heap.size w w' := by
  obtain ⟨w1, hw1⟩ : ∃ w1, w1 = (w.alloc (Obj.cells #[.slice (some ⟨gA, 0, none⟩) ixA.length cA, .slice aA esA.length dA] 26)).alloc (Obj.cells #[.slice (some ⟨gB, 0, none⟩) ixB.length cB, .slice aB esB.length dB] 26) := ⟨_, rfl⟩
  have HB1 := Lib.hid (show Below w.heap.size w w1 from by rw [hw1]; exact ((Below.refl _ _).alloc (Nat.le_refl _) _).alloc (by simp) _)
  have HA1 := Lib.hid (hA.below HB1.out)
  have HC1 := Lib.hid (hB.below HB1.out)
  have hsz : w1.heap.size = w.heap.size + 2 := by rw [hw1]; simp
  have HX1 := Lib.hid (show Blk w1 w.heap.size _ #[.slice (some ⟨gA, 0, none⟩) ixA.length cA, .slice aA esA.length dA] from by rw [hw1]; exact (Blk.newest w _ _).alloc _)
  have HY1 := Lib.hid (show Blk w1 (w.heap.size + 1) _ #[.slice (some ⟨gB, 0, none⟩) ixB.length cB, .slice aB esB.length dB] from by rw [hw1]; exact Blk.new _ _ _ (by simp))
  have HDA := Lib.hid (fun w h => validDict_any ixA esA gA cA dA aA w h hlA hmA hkA)
  have HDB := Lib.hid (fun w h => validDict_any ixB esB gB cB dB aB w h hlB hmB hkB)
  have HLA := Lib.hid (fun w h => liveEntries_any (.slice (some ⟨gA, 0, none⟩) ixA.length cA) esA aA dA w h hlA rfl)
  have HLB := Lib.hid (fun w h => liveEntries_any (.slice (some ⟨gB, 0, none⟩) ixB.length cB) esB aB dB w h hlB rfl)
  have HSl := Lib.hid (fun (key : ByteArray) w h hf hk => slotOf_ok ixB esB key gB cB dB aB w h hf hk)
  have HW1 := Lib.hid hw1
  clear hA hB hw1
  generalize hmA9 : ixA.length = mA at *
  generalize hnA9 : esA.length = nA at *
  generalize hmB9 : ixB.length = mB at *
  have HMB9 := Lib.hid hmB9
  generalize hnB9 : esB.length = nB at *
  have HNA := Lib.hid hnA9
  have HNB := Lib.hid hnB9
  clear hmA9 hnA9 hmB9 hnB9
  cases hda : dokB ixA esA with
  | false =>
    have HE := Lib.hid (same_a (ixB := ixB) (esB := esB) hda)
    rw [hda] at HDA
    clear hda
    go_enter Try.func44, Try.ntmps44
    go_upto_region 1 with fail
    rw [← HW1.out]
    have b0 := HX1.out.cell 0
    have b1 := HX1.out.cell 1
    have d0 := HY1.out.cell 0
    have d1 := HY1.out.cell 1
    go_region_with ((go_at_call_of 54 (Value.agg #[.slice (some ⟨gA, 0, none⟩) mA cA, .slice aA nA dA]); refine (HDA.out _ (HA1.out.below ((Below.refl _ w1).drew))).mono ?_; rintro e wa ⟨rfl, hba⟩; have HBa := Lib.hid (((Below.refl _ w1).drew).trans hba); have p0 := (HX1.out.below HBa.out HX1.out.lt).cell 0; have p1 := (HX1.out.below HBa.out HX1.out.lt).cell 1; have r0 := (HY1.out.below HBa.out HY1.out.lt).cell 0; have r1 := (HY1.out.below HBa.out HY1.out.lt).cell 1; clear hba))
    all_goals
      go_wp2_with fail
      go_ret
      exact ⟨by rw [HE.out]; rfl, HB1.out.trans (HBa.out.mono HB1.out.size)⟩
  | true =>
    have HOA := Lib.hid hda
    rw [hda] at HDA
    clear hda
    cases hdb : dokB ixB esB with
    | false =>
      have HE := Lib.hid (same_b (ixA := ixA) (esA := esA) hdb)
      rw [hdb] at HDB
      clear hdb
      go_enter Try.func44, Try.ntmps44
      go_upto_region 1 with fail
      rw [← HW1.out]
      have b0 := HX1.out.cell 0
      have b1 := HX1.out.cell 1
      have d0 := HY1.out.cell 0
      have d1 := HY1.out.cell 1
      go_region_with (first | (go_at_call_of 54 (Value.agg #[.slice (some ⟨gA, 0, none⟩) mA cA, .slice aA nA dA]); refine (HDA.out _ (HA1.out.below ((Below.refl _ w1).drew))).mono ?_; rintro e wa ⟨rfl, hba⟩; have HBa := Lib.hid (((Below.refl _ w1).drew).trans hba); have p0 := (HX1.out.below HBa.out HX1.out.lt).cell 0; have p1 := (HX1.out.below HBa.out HX1.out.lt).cell 1; have r0 := (HY1.out.below HBa.out HY1.out.lt).cell 0; have r1 := (HY1.out.below HBa.out HY1.out.lt).cell 1; clear hba) | (go_at_call_of 54 (Value.agg #[.slice (some ⟨gB, 0, none⟩) mB cB, .slice aB nB dB]); refine (HDB.out _ (HC1.out.below HBa.out)).mono ?_; rintro e wb ⟨rfl, hbb⟩; have HBb := Lib.hid (HBa.out.trans (hbb.mono HBa.out.size)); have p0 := (HX1.out.below HBb.out HX1.out.lt).cell 0; have p1 := (HX1.out.below HBb.out HX1.out.lt).cell 1; have r0 := (HY1.out.below HBb.out HY1.out.lt).cell 0; have r1 := (HY1.out.below HBb.out HY1.out.lt).cell 1; clear hbb))
      all_goals
        go_wp2_with fail
        go_ret
        exact ⟨by rw [HE.out]; rfl, HB1.out.trans (HBb.out.mono HB1.out.size)⟩
    | true =>
      have HOB := Lib.hid hdb
      rw [hdb] at HDB
      clear hdb
      have hLA : (liveN esA : Int) ≤ 1048576 := by have := liveN_le esA esA.length; rw [List.take_length, HNA.out] at this; omega
      have hLB : (liveN esB : Int) ≤ 1048576 := by have := liveN_le esB esB.length; rw [List.take_length, HNB.out] at this; omega
      have HKA := Lib.hid hkA
      go_enter Try.func44, Try.ntmps44
      go_upto_region 1 with fail
      rw [← HW1.out]
      have b0 := HX1.out.cell 0
      have b1 := HX1.out.cell 1
      have d0 := HY1.out.cell 0
      have d1 := HY1.out.cell 1
      go_cut [22] (fun s wx => s = .bool ((liveN esA : Int) != (liveN esB : Int)) ∧ Hid (Below w1.heap.size w1 wx))
      case first =>
        go_region_with (first | (go_at_call_of 54 (Value.agg #[.slice (some ⟨gA, 0, none⟩) mA cA, .slice aA nA dA]); refine (HDA.out _ (HA1.out.below ((Below.refl _ w1).drew))).mono ?_; rintro e wa ⟨rfl, hba⟩; have HBa := Lib.hid (((Below.refl _ w1).drew).trans hba); have p0 := (HX1.out.below HBa.out HX1.out.lt).cell 0; have p1 := (HX1.out.below HBa.out HX1.out.lt).cell 1; have r0 := (HY1.out.below HBa.out HY1.out.lt).cell 0; have r1 := (HY1.out.below HBa.out HY1.out.lt).cell 1; clear hba) | (go_at_call_of 54 (Value.agg #[.slice (some ⟨gB, 0, none⟩) mB cB, .slice aB nB dB]); refine (HDB.out _ (HC1.out.below HBa.out)).mono ?_; rintro e wb ⟨rfl, hbb⟩; have HBb := Lib.hid (HBa.out.trans (hbb.mono HBa.out.size)); have p0 := (HX1.out.below HBb.out HX1.out.lt).cell 0; have p1 := (HX1.out.below HBb.out HX1.out.lt).cell 1; have r0 := (HY1.out.below HBb.out HY1.out.lt).cell 0; have r1 := (HY1.out.below HBb.out HY1.out.lt).cell 1; clear hbb) | (go_at_call_of 69 (Value.agg #[.slice (some ⟨gA, 0, none⟩) mA cA, .slice aA nA dA]); refine (HLA.out _ (HA1.out.below HBb.out).2.2).mono ?_; rintro e wd ⟨rfl, hbd⟩; have HBd := Lib.hid (HBb.out.trans (hbd.mono HBb.out.size)); have p0 := (HX1.out.below HBd.out HX1.out.lt).cell 0; have p1 := (HX1.out.below HBd.out HX1.out.lt).cell 1; have r0 := (HY1.out.below HBd.out HY1.out.lt).cell 0; have r1 := (HY1.out.below HBd.out HY1.out.lt).cell 1; clear hbd) | (go_at_call_of 69 (Value.agg #[.slice (some ⟨gB, 0, none⟩) mB cB, .slice aB nB dB]); refine (HLB.out _ (HC1.out.below HBd.out).2.2).mono ?_; rintro e wf ⟨rfl, hbf⟩; have HBf := Lib.hid (HBd.out.trans (hbf.mono HBd.out.size)); have p0 := (HX1.out.below HBf.out HX1.out.lt).cell 0; have p1 := (HX1.out.below HBf.out HX1.out.lt).cell 1; have r0 := (HY1.out.below HBf.out HY1.out.lt).cell 0; have r1 := (HY1.out.below HBf.out HY1.out.lt).cell 1; clear hbf))
        all_goals (try go_wp2)
        all_goals go_meet
        all_goals exact ⟨by first | rfl | simp, Lib.hid HBf.out⟩
      obtain ⟨rfl, HBd⟩ := hcut
      have HXd := Lib.hid (HX1.out.below HBd.out HX1.out.lt)
      have HYd := Lib.hid (HY1.out.below HBd.out HY1.out.lt)
      have HAd := Lib.hid (HA1.out.below HBd.out)
      have HCd := Lib.hid (HC1.out.below HBd.out)
      have HBw := Lib.hid (HB1.out.trans (HBd.out.mono HB1.out.size))
      clear b0 b1 d0 d1
      have hTB : ∀ (key : ByteArray), (plc ixB esB key (hsh key.data.toList) = -1 ∨ ∃ j : Nat, plc ixB esB key (hsh key.data.toList) = (j : Int) ∧ j < nB) ∧ fstS ixB esB key (hsh key.data.toList) < mB ∧ ixB[fstS ixB esB key (hsh key.data.toList)]? = some (plc ixB esB key (hsh key.data.toList)) := fun key => by
        have h4 := (fst_ok (key := key) (dok_of HOB.out).1 (hsh_lt key.data.toList)).2.2.2
        refine ⟨?_, ?_, h4⟩
        · rcases plc_is (key := key) (dok_of HOB.out).1 (hsh_lt key.data.toList) with h1 | ⟨j, h1, h2, _⟩
          · exact .inl h1
          · exact .inr ⟨j, h1, by rw [HNB.out] at h2; exact h2⟩
        · rw [← HMB9.out]
          rcases Nat.lt_or_ge (fstS ixB esB key (hsh key.data.toList)) ixB.length with h7 | h7
          · exact h7
          · rw [List.getElem?_eq_none h7] at h4; cases h4
      have HTB := Lib.hid hTB
      clear hTB
      by_cases hn : liveN esA = liveN esB
      · have hne : ((liveN esA : Int) != (liveN esB : Int)) = false := by rw [hn]; simp
        rw [hne]
        have HLN := Lib.hid hn
        clear hn hne hLA hLB
        go_wp2_with fail
        go_loopw [5] (fun i wr => ∃ k : Nat, k ≤ nA ∧ i = .int .i64 k ∧ Hid ((esA.take k).all (smE ixB esB) = true) ∧ Hid (Below wc.heap.size wc wr)) (fun i _ => nA - (intOf i).toNat)
        case atStart => exact ⟨0, by omega, rfl, Lib.hid rfl, Lib.hid (Below.refl _ _)⟩
        case round =>
          obtain ⟨k, hk, rfl, HS, HI⟩ := hrel
          have HXr := Lib.hid (HXd.out.below HI.out HXd.out.lt)
          have b0 := HXr.out.cell 0
          have b1 := HXr.out.cell 1
          by_cases hltk : k < nA
          · obtain ⟨g2, e, rfl, he, hb, x0, x1, x2, x3⟩ := (HAd.out.below HI.out).2.2.at (show k < esA.length by rw [HNA.out]; exact hltk)
            have q1 : (k : Int) < (nA : Int) := by omega
            have q0 : 0 ≤ (k : Int) := by omega
            have HL := Lib.hid (lies4 x0 x1 x2 x3)
            have HKe := Lib.hid (HKA.out e (List.mem_of_getElem? he))
            have HGE := Lib.hid he
            clear x0 x1 x2 x3 he
            cases hlv : e.live with
            | false =>
              have HS2 := Lib.hid (take_all HS.out HGE.out (show smE ixB esB e = true by unfold smE; rw [hlv]; rfl))
              rw [hlv] at HL
              go_wp2_with (first | (refine ldE (o := ⟨some 34, _, _, _, _, _⟩) rfl (.tmp 33) rfl g2 (k * 4) (.string e.key) (.int .i64 e.hash) (.int .i64 e.val) (.bool false) rfl HL.out ?_))
              go_roundw
              case rel => exact ⟨k + 1, by omega, by go_num, HS2, Lib.hid (HI.out.alloc HI.out.size _)⟩
              case measure => simp [intOf]; try omega
            | true =>
              have hsm : smE ixB esB e = (decide (0 ≤ plc ixB esB e.key (hsh e.key.data.toList)) && (valAt esB (plc ixB esB e.key (hsh e.key.data.toList)) == e.val)) := by unfold smE; rw [hlv]; rfl
              rw [hlv] at HL
              obtain ⟨w7, hw7⟩ : ∃ w7, w7 = wr.alloc (Obj.cells #[.string e.key, .int .i64 e.hash, .int .i64 e.val, .bool true] 57) := ⟨_, rfl⟩
              have hb7 : Below wr.heap.size wr w7 := by rw [hw7]; exact (Below.refl _ _).alloc (Nat.le_refl _) _
              have HI7 := Lib.hid (HI.out.trans (hb7.mono HI.out.size))
              have HE7 := Lib.hid (show Blk w7 wr.heap.size _ #[.string e.key, .int .i64 e.hash, .int .i64 e.val, .bool true] from by rw [hw7]; exact Blk.newest wr _ _)
              have HW7 := Lib.hid hw7
              clear hw7 hb7
              go_wp2_with (first | (refine ldE (o := ⟨some 34, _, _, _, _, _⟩) rfl (.tmp 33) rfl g2 (k * 4) (.string e.key) (.int .i64 e.hash) (.int .i64 e.val) (.bool true) rfl HL.out ?_))
              rw [← HW7.out]
              have HY7 := Lib.hid (HYd.out.below HI7.out HYd.out.lt)
              have y0 := HY7.out.cell 0
              have y1 := HY7.out.cell 1
              have z0 := HE7.out.cell 0
              obtain ⟨hpl, hss, h4⟩ := HTB.out e.key
              have HCall := Lib.hid (fun w' (hb : Below w7.heap.size w7 w') => HSl.out e.key w' ((HCd.out.below HI7.out).below hb) (dok_of HOB.out).1 HKe.out)
              have HSM := Lib.hid hsm
              have HH4 := Lib.hid h4
              clear hsm h4 b0 b1
              generalize plc ixB esB e.key (hsh e.key.data.toList) = n at *
              generalize fstS ixB esB e.key (hsh e.key.data.toList) = s at *
              have s1 : (s : Int) < (mB : Int) := by omega
              have s0 : 0 ≤ (s : Int) := by omega
              go_cut [7] from 23 to 58 (fun q wx => q = .int .i64 n ∧ Hid (Below w7.heap.size w7 wx))
              case first =>
                go_region_with (go_at_call 64; refine (HCall.out _ ((Below.refl _ w7).drew)).mono ?_; rintro r w8 ⟨rfl, hb8⟩; have HB8 := Lib.hid (((Below.refl _ w7).drew).trans hb8); have u0 := (HY7.out.below HB8.out HY7.out.lt).cell 0; have u1 := (HY7.out.below HB8.out HY7.out.lt).cell 1; have t0 := (HE7.out.below HB8.out HE7.out.lt).cell 0; have v0 := ((HCd.out.below HI7.out).below HB8.out).2.1 _ _ HH4.out; clear hb8)
                all_goals (try go_wp2)
                all_goals go_meet
                all_goals exact ⟨rfl, Lib.hid HB8.out⟩
              obtain ⟨rfl, HB8⟩ := hcut
              rename_i w8
              have HI8 := Lib.hid (HI7.out.trans (HB8.out.mono HI7.out.size))
              have HE8 := Lib.hid (HE7.out.below HB8.out HE7.out.lt)
              have HY8 := Lib.hid (HY7.out.below HB8.out HY7.out.lt)
              clear y0 y1 z0
              have z2 := HE8.out.cell 2
              have y0 := HY8.out.cell 0
              have y1 := HY8.out.cell 1
              rcases hpl with rfl | ⟨j, rfl, hj⟩
              · have HE := Lib.hid (same_e (ixA := ixA) HGE.out (show smE ixB esB e = false by rw [HSM.out]; rfl))
                go_wp2_with fail
                go_quiet (fail)
                go_wp2_with fail
                go_ret
                exact ⟨by rw [HE.out]; rfl, below_drewN' (HBw.out.trans (HI8.out.mono HBw.out.size))⟩
              · obtain ⟨g9, e9, ha9, he9, hb9, t0, t1, t2, t3⟩ := (HCd.out.below HI8.out).2.2.at (show j < esB.length by rw [HNB.out]; exact hj)
                subst ha9
                have j1 : (j : Int) < (nB : Int) := by omega
                have j0 : 0 ≤ (j : Int) := by omega
                have j2 : decide ((j : Int) < 0) = false := decide_eq_false (by omega)
                have HVa := Lib.hid (valAt_is he9)
                clear t0 t1 t3 he9
                cases hv : (e9.val == e.val) with
                | true =>
                  have hv2 : (e9.val != e.val) = false := by rw [bne, hv]; rfl
                  have HS2 := Lib.hid (take_all HS.out HGE.out (show smE ixB esB e = true by rw [HSM.out, HVa.out, hv, decide_eq_true j0]; rfl))
                  go_wp2_with fail
                  go_quiet (fail)
                  go_wp2_with fail
                  go_roundw
                  case rel => exact ⟨k + 1, by omega, by go_num, HS2, Lib.hid (below_drewN' HI8.out)⟩
                  case measure => simp [intOf]; try omega
                | false =>
                  have hv2 : (e9.val != e.val) = true := by rw [bne, hv]; rfl
                  have HE := Lib.hid (same_e (ixA := ixA) HGE.out (show smE ixB esB e = false by rw [HSM.out, HVa.out, hv, Bool.and_false]))
                  go_wp2_with fail
                  go_quiet (fail)
                  go_wp2_with fail
                  go_ret
                  exact ⟨by rw [HE.out]; rfl, below_drewN' (HBw.out.trans (HI8.out.mono HBw.out.size))⟩
          · obtain rfl : k = nA := by omega
            have HE := Lib.hid (same_y HOA.out HOB.out HLN.out (by have h9 := HS.out; rwa [List.take_of_length_le (by rw [HNA.out]; exact Nat.le_refl _)] at h9))
            clear hltk
            go_wp2_with fail
            go_ret
            exact ⟨by rw [HE.out]; rfl, HBw.out.trans (HI.out.mono HBw.out.size)⟩
      · have hne : ((liveN esA : Int) != (liveN esB : Int)) = true := by rw [bne_iff_ne]; omega
        rw [hne]
        have HE := Lib.hid (same_n (ixA := ixA) (ixB := ixB) hn)
        clear hn hne
        go_wp2_with fail
        go_ret
        exact ⟨by rw [HE.out]; rfl, HBw.out⟩
end Go.Proofs.Ytibglmcpbbikdaa
