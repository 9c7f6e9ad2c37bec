/- The law on DictSame. -/
import Derived.Test.YtibglmcpbbikdaaDdl
import Derived.Test.YtibglmcpbbikdaaKx
import Derived.Deep.RegionHeld3
import Derived.Test.YtibglmcpbbikdaaDsm
namespace Go.Proofs.Ytibglmcpbbikdaa
open Go.RowKit
set_option maxRecDepth 20000 in
set_option maxHeartbeats 8000000 in
theorem fnDictSame_walk (a : Option Addr) (n cap : Nat) (zs : List Int) (w : World) (h : (a = none ∧ n = 0 ∧ cap = 0 ∧ zs = []) ∨ ∃ x, a = some x ∧ n ≤ cap ∧ cap ≤ maxLen ∧ zs.length = cap ∧ (∀ i, i < zs.length → w.cell? (x.add i) = some (.int .u8 (zs.getD i 0))) ∧ ∀ n ∈ zs, (Lit.int .u8 n).wf = true) :
    Calls Try.prog 10 #[.slice a n cap] w fun e w' => e = .returned (.bool true) ∧ Below w.heap.size w w' := by
  have hcr := cr_of h
  have hcap : n ≤ 9223372036854775807 := by
    rcases h with ⟨_, rfl, _⟩ | ⟨x, _, h1, h2, _⟩
    · omega
    · unfold maxLen at h2; omega
  clear h
  by_cases h0 : n ≤ 1048576
  · have k0 : (n : Int) ≤ 1048576 := by omega
    have HC := Lib.hid (dDictSame w a n cap hcr)
    clear hcr
    go_enter Try.func10, Try.ntmps10
    go_wp2_with fail
    refine (HC.out).mono ?_
    rintro e w1 ⟨ix, es, g1, c1, a2, c2, jx, fs, p1, d1, p2, d2, rfl, hd, ho, hp, hv, hb⟩
    have HB := Lib.hid hb
    have HO := Lib.hid ho
    have HP := Lib.hid hp
    have HD := Lib.hid hd
    have HVL := Lib.hid hv
    clear HC ho hd hp hv
    clear hb
    cases hok : dokB ix es with
    | false =>
      have HOK := Lib.hid hok
      clear hok
      obtain ⟨w2, hw⟩ : ∃ x, x = (w1.alloc (Obj.cells #[.slice (some ⟨g1, 0, none⟩) ix.length c1, .slice a2 es.length c2] 26)).alloc (Obj.cells #[.slice p1 jx.length d1, .slice p2 fs.length d2] 26) := ⟨_, rfl⟩
      have hb : Below w1.heap.size w1 w2 := by rw [hw]; exact ((Below.refl _ _).alloc (Nat.le_refl _) _).alloc (by simp) _
      have HX := Lib.hid (show Blk w2 w1.heap.size 26 #[.slice (some ⟨g1, 0, none⟩) ix.length c1, .slice a2 es.length c2] from by rw [hw]; exact (Blk.newest w1 _ _).alloc _)
      have HY := Lib.hid (show Blk w2 (w1.heap.size + 1) 26 #[.slice p1 jx.length d1, .slice p2 fs.length d2] from by rw [hw]; exact Blk.new _ _ _ (by simp))
      have HW := Lib.hid hw
      clear hw
      replace HB := Lib.hid (HB.out.trans (hb.mono HB.out.size))
      replace HO := Lib.hid (HO.out.below hb)
      replace HP := Lib.hid (HP.out.below hb)
      clear hb
      go_upto_region 4 with (fail)
      rw [← HW.out]
      clear HW
      have b00 := HX.out.cell 0
      have b01 := HX.out.cell 1
      have b10 := HY.out.cell 0
      have b11 := HY.out.cell 1
      go_wp2_with fail
      clear b00 b01 b10 b11
      refine (iSameN ix es g1 c1 a2 c2 p1 p2 jx.length d1 fs.length d2 _ _ HO.out HD.out HOK.out).mono ?_
      rintro e w3 ⟨rfl, hb⟩
      replace HB := Lib.hid (HB.out.trans (hb.mono HB.out.size))
      replace HO := Lib.hid (HO.out.below hb)
      replace HP := Lib.hid (HP.out.below hb)
      replace HX := Lib.hid (HX.out.below hb HX.out.lt)
      replace HY := Lib.hid (HY.out.below hb HY.out.lt)
      clear hb
      have b00 := HX.out.cell 0
      have b01 := HX.out.cell 1
      have b10 := HY.out.cell 0
      have b11 := HY.out.cell 1
      go_wp2_with fail
      clear b00 b01 b10 b11
      refine (sSameN ix es g1 c1 a2 c2 p1 p2 jx.length d1 fs.length d2 _ _ HO.out HD.out HOK.out).mono ?_
      rintro e w4 ⟨rfl, hb⟩
      replace HB := Lib.hid (HB.out.trans (hb.mono HB.out.size))
      replace HO := Lib.hid (HO.out.below hb)
      replace HP := Lib.hid (HP.out.below hb)
      replace HX := Lib.hid (HX.out.below hb HX.out.lt)
      replace HY := Lib.hid (HY.out.below hb HY.out.lt)
      clear hb
      go_wp2_with fail
      go_ret
      exact ⟨rfl, HB.out⟩
    | true =>
      have HDJ := Lib.hid (HVL.out hok)
      clear hok HVL
      obtain ⟨q1, rfl, hq1⟩ := od_own HP.out (show 0 < jx.length by have := HDJ.out.1; omega)
      have HQ := Lib.hid hq1
      clear hq1 HP
      obtain ⟨w2, hw⟩ : ∃ x, x = (w1.alloc (Obj.cells #[.slice (some ⟨g1, 0, none⟩) ix.length c1, .slice a2 es.length c2] 26)).alloc (Obj.cells #[.slice (some ⟨q1, 0, none⟩) jx.length d1, .slice p2 fs.length d2] 26) := ⟨_, rfl⟩
      have hb : Below w1.heap.size w1 w2 := by rw [hw]; exact ((Below.refl _ _).alloc (Nat.le_refl _) _).alloc (by simp) _
      have HX := Lib.hid (show Blk w2 w1.heap.size 26 #[.slice (some ⟨g1, 0, none⟩) ix.length c1, .slice a2 es.length c2] from by rw [hw]; exact (Blk.newest w1 _ _).alloc _)
      have HY := Lib.hid (show Blk w2 (w1.heap.size + 1) 26 #[.slice (some ⟨q1, 0, none⟩) jx.length d1, .slice p2 fs.length d2] from by rw [hw]; exact Blk.new _ _ _ (by simp))
      have HW := Lib.hid hw
      clear hw
      replace HB := Lib.hid (HB.out.trans (hb.mono HB.out.size))
      replace HO := Lib.hid (HO.out.below hb)
      replace HQ := Lib.hid (HQ.out.below hb)
      clear hb
      go_upto_region 4 with (fail)
      rw [← HW.out]
      clear HW
      obtain ⟨ok, hok⟩ : ∃ b, sameB ix es jx fs = b := ⟨_, rfl⟩
      have HOK := Lib.hid hok
      clear hok
      have b00 := HX.out.cell 0
      have b01 := HX.out.cell 1
      have b10 := HY.out.cell 0
      have b11 := HY.out.cell 1
      go_wp2_with fail
      clear b00 b01 b10 b11
      refine (iSame ix es g1 c1 a2 c2 jx fs q1 d1 p2 d2 _ _ _ HO.out HD.out HQ.out HDJ.out HOK.out).mono ?_
      rintro e w3 ⟨rfl, hb⟩
      replace HB := Lib.hid (HB.out.trans (hb.mono HB.out.size))
      replace HO := Lib.hid (HO.out.below hb)
      replace HQ := Lib.hid (HQ.out.below hb)
      replace HX := Lib.hid (HX.out.below hb HX.out.lt)
      replace HY := Lib.hid (HY.out.below hb HY.out.lt)
      clear hb
      have b00 := HX.out.cell 0
      have b01 := HX.out.cell 1
      have b10 := HY.out.cell 0
      have b11 := HY.out.cell 1
      go_wp2_with fail
      clear b00 b01 b10 b11
      refine (sSame ix es g1 c1 a2 c2 jx fs q1 d1 p2 d2 _ _ _ HO.out HD.out HQ.out HDJ.out HOK.out).mono ?_
      rintro e w4 ⟨rfl, hb⟩
      replace HB := Lib.hid (HB.out.trans (hb.mono HB.out.size))
      replace HO := Lib.hid (HO.out.below hb)
      replace HQ := Lib.hid (HQ.out.below hb)
      replace HX := Lib.hid (HX.out.below hb HX.out.lt)
      replace HY := Lib.hid (HY.out.below hb HY.out.lt)
      clear hb
      cases ok with
      | false =>
        go_wp2_with fail
        go_ret
        exact ⟨rfl, HB.out⟩
      | true =>
        obtain ⟨t1, t2, t3, t4⟩ := same_to HOK.out
        have HJO := Lib.hid t1
        have HJF := Lib.hid t2
        have HLN := Lib.hid t3
        have HSB := Lib.hid t4
        clear t1 t2 t3 t4
        have HK0 := Lib.hid (show dkV ix es = kyL es by unfold dkV; rw [if_pos (dok_yes HJO.out)])
        have HK1 := Lib.hid (show dkV jx fs = kyL fs by unfold dkV; rw [if_pos (dok_yes HJF.out)])
        have HST := Lib.hid (same_turn HOK.out)
        have b00 := HX.out.cell 0
        have b01 := HX.out.cell 1
        go_wp2_with fail
        clear b00 b01
        refine (iKeys ix es g1 c1 a2 c2 _ _ HO.out HD.out HK0.out).mono ?_
        rintro e w5 ⟨v1, rfl, hl1, hb⟩
        replace HB := Lib.hid (HB.out.trans (hb.mono HB.out.size))
        replace HO := Lib.hid (HO.out.below hb)
        replace HQ := Lib.hid (HQ.out.below hb)
        replace HX := Lib.hid (HX.out.below hb HX.out.lt)
        replace HY := Lib.hid (HY.out.below hb HY.out.lt)
        have HV1 := Lib.hid hl1
        clear hl1
        clear hb
        obtain ⟨va, vc, rfl, hvc, _, _⟩ := HV1.out.rd.sub
        obtain ⟨lk, hlk⟩ : ∃ x, x = (kyL es).length := ⟨_, rfl⟩
        have HLK := Lib.hid hlk
        rw [← hlk] at hvc
        rw [← hlk]
        have hl40 : lk ≤ 40 := by rw [hlk, ky_len]; exact HJO.out.2.1
        clear hlk
        go_wp2_with fail
        go_loopw [9] (fun i wr => ∃ k : Nat, k ≤ lk ∧ i = .int .i64 (k : Int) ∧ Hid (Below w.heap.size w wr) ∧ Hid (OwD wr w.heap.size ix es g1 c1 a2 c2) ∧ Hid (OwD wr w.heap.size jx fs q1 d1 p2 d2) ∧ Hid (Blk wr w1.heap.size 26 #[.slice (some ⟨g1, 0, none⟩) ix.length c1, .slice a2 es.length c2]) ∧ Hid (Blk wr (w1.heap.size + 1) 26 #[.slice (some ⟨q1, 0, none⟩) jx.length d1, .slice p2 fs.length d2]) ∧ Hid (OwT wr w4.heap.size (.slice va (kyL es).length vc) (kyL es))) (fun i _ => lk - (intOf i).toNat)
        case atStart => exact ⟨0, by omega, rfl, HB, HO, HQ, HX, HY, HV1⟩
        case round =>
          obtain ⟨k, hk, rfl, HB, HO, HQ, HX, HY, HV1⟩ := hrel
          by_cases hlt : k < lk
          · skip
            obtain ⟨s, hs⟩ : ∃ s, (kyL es)[k]? = some s := ⟨(kyL es)[k]'(by have := HLK.out; omega), List.getElem?_eq_getElem _⟩
            obtain ⟨xk, hxa, hcell⟩ := rdT_at HV1.out.rd k s hs
            subst hxa
            have HCL := Lib.hid (fun w' (hb : Below wr.heap.size wr w') => show w'.cell? (xk.add k) = some (.string s) by rw [hb.cell (World.block_lt_of_cell? _ _ hcell)]; exact hcell)
            have HSM := Lib.hid (List.mem_of_getElem? hs)
            have HSK := Lib.hid hs
            have k1 : (k : Int) < (lk : Int) := by omega
            have k0 : 0 ≤ (k : Int) := by omega
            clear hs hcell
            have HBW := Lib.hid (Below.refl wr.heap.size wr)
            obtain ⟨u, hu⟩ := kv_of_ky HSM.out
            have HG := Lib.hid (get_mem HJO.out hu)
            have HG2 := Lib.hid (get_mem HJF.out (HSB.out _ _ hu))
            have HKS := Lib.hid (key_le HJO.out HSM.out)
            clear hu
            go_wp2_with fail
            skip
            have hb := (Below.refl wr.heap.size wr).drew
            replace HB := Lib.hid (HB.out.trans (hb.mono HB.out.size))
            replace HO := Lib.hid (HO.out.below hb)
            replace HQ := Lib.hid (HQ.out.below hb)
            replace HX := Lib.hid (HX.out.below hb HX.out.lt)
            replace HY := Lib.hid (HY.out.below hb HY.out.lt)
            replace HV1 := Lib.hid (HV1.out.below hb)
            replace HBW := Lib.hid (HBW.out.trans (hb.mono HBW.out.size))
            clear hb
            go_region_held3 (fun w' => w'.cell? ⟨w1.heap.size, 0, none⟩ = some (.slice (some ⟨g1, 0, none⟩) ix.length c1) ∧ w'.cell? ⟨w1.heap.size, 1, none⟩ = some (.slice a2 es.length c2) ∧ w'.cell? (xk.add k) = some (.string s))
              (first | exact ⟨HX.out.cell 0, HX.out.cell 1, HCL.out _ HBW.out⟩)
              (first | (go_at_call 20; refine (iGet ix es g1 c1 a2 c2 s _ _ HO.out HD.out HKS.out HG.out).mono ?_; rintro e w6 ⟨rfl, hb⟩; replace HB := Lib.hid (HB.out.trans (hb.mono HB.out.size)); replace HO := Lib.hid (HO.out.below hb); replace HQ := Lib.hid (HQ.out.below hb); replace HX := Lib.hid (HX.out.below hb HX.out.lt); replace HY := Lib.hid (HY.out.below hb HY.out.lt); replace HV1 := Lib.hid (HV1.out.below hb); replace HBW := Lib.hid (HBW.out.trans (hb.mono HBW.out.size)); clear hb))
            go_upto_region 14 with (fail)
            skip
            have hb := (Below.refl w6.heap.size w6).drew
            replace HB := Lib.hid (HB.out.trans (hb.mono HB.out.size))
            replace HO := Lib.hid (HO.out.below hb)
            replace HQ := Lib.hid (HQ.out.below hb)
            replace HX := Lib.hid (HX.out.below hb HX.out.lt)
            replace HY := Lib.hid (HY.out.below hb HY.out.lt)
            replace HV1 := Lib.hid (HV1.out.below hb)
            replace HBW := Lib.hid (HBW.out.trans (hb.mono HBW.out.size))
            clear hb
            go_region_held3 (fun w' => w'.cell? ⟨(w1.heap.size + 1), 0, none⟩ = some (.slice (some ⟨q1, 0, none⟩) jx.length d1) ∧ w'.cell? ⟨(w1.heap.size + 1), 1, none⟩ = some (.slice p2 fs.length d2) ∧ w'.cell? (xk.add k) = some (.string s))
              (first | exact ⟨HY.out.cell 0, HY.out.cell 1, HCL.out _ HBW.out⟩)
              (first | (go_at_call 20; refine (iGet jx fs q1 d1 p2 d2 s _ _ HQ.out HDJ.out HKS.out HG2.out).mono ?_; rintro e w7 ⟨rfl, hb⟩; replace HB := Lib.hid (HB.out.trans (hb.mono HB.out.size)); replace HO := Lib.hid (HO.out.below hb); replace HQ := Lib.hid (HQ.out.below hb); replace HX := Lib.hid (HX.out.below hb HX.out.lt); replace HY := Lib.hid (HY.out.below hb HY.out.lt); replace HV1 := Lib.hid (HV1.out.below hb); replace HBW := Lib.hid (HBW.out.trans (hb.mono HBW.out.size)); clear hb))
            go_wp2_with fail
            go_roundw
            case rel => exact ⟨k + 1, by omega, by go_num, HB, HO, HQ, HX, HY, HV1⟩
            case measure => simp [intOf]; try omega
          · obtain rfl : k = lk := by omega
            clear hlt
            have b00 := HY.out.cell 0
            have b01 := HY.out.cell 1
            have b10 := HX.out.cell 0
            have b11 := HX.out.cell 1
            go_wp2_with fail
            clear b00 b01 b10 b11
            refine (iSame jx fs q1 d1 p2 d2 ix es g1 c1 a2 c2 _ _ _ HQ.out HDJ.out HO.out HD.out HST.out).mono ?_
            rintro e w6 ⟨rfl, hb⟩
            replace HB := Lib.hid (HB.out.trans (hb.mono HB.out.size))
            replace HO := Lib.hid (HO.out.below hb)
            replace HQ := Lib.hid (HQ.out.below hb)
            replace HX := Lib.hid (HX.out.below hb HX.out.lt)
            replace HY := Lib.hid (HY.out.below hb HY.out.lt)
            replace HV1 := Lib.hid (HV1.out.below hb)
            clear hb
            have b00 := HY.out.cell 0
            have b01 := HY.out.cell 1
            go_wp2_with fail
            clear b00 b01
            refine (iKeys jx fs q1 d1 p2 d2 _ _ HQ.out HDJ.out HK1.out).mono ?_
            rintro e w7 ⟨v2, rfl, hl2, hb⟩
            replace HB := Lib.hid (HB.out.trans (hb.mono HB.out.size))
            replace HO := Lib.hid (HO.out.below hb)
            replace HQ := Lib.hid (HQ.out.below hb)
            replace HX := Lib.hid (HX.out.below hb HX.out.lt)
            replace HY := Lib.hid (HY.out.below hb HY.out.lt)
            replace HV1 := Lib.hid (HV1.out.below hb)
            clear hb
            obtain ⟨va2, vc2, rfl, _⟩ := hl2.rd.sub
            rw [show (kyL fs).length = k by rw [HLK.out, ky_len, ky_len, HLN.out]]
            clear hl2
            go_wp2_with fail
            go_ret
            exact ⟨rfl, HB.out⟩
  · have k0 : (1048576 : Int) < (n : Int) := by omega
    clear hcr
    go_enter Try.func10, Try.ntmps10
    go_wp2_with fail
    go_ret
    exact ⟨rfl, Below.refl _ _⟩
end Go.Proofs.Ytibglmcpbbikdaa
