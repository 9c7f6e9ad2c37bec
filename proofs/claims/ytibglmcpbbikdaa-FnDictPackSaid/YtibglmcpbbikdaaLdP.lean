/- The law on DictPack. -/
import Derived.Test.YtibglmcpbbikdaaDdl
import Derived.Test.YtibglmcpbbikdaaKx
import Derived.Deep.RegionHeld3
namespace Go.Proofs.Ytibglmcpbbikdaa
open Go.RowKit
set_option maxRecDepth 20000 in
set_option maxHeartbeats 8000000 in
theorem fnDictPack_walk (a : Option Addr) (n cap : Nat) (zs : List Int) (w : World) (h : (a = none ∧ n = 0 ∧ cap = 0 ∧ zs = []) ∨ ∃ x, a = some x ∧ n ≤ cap ∧ cap ≤ maxLen ∧ zs.length = cap ∧ (∀ i, i < zs.length → w.cell? (x.add i) = some (.int .u8 (zs.getD i 0))) ∧ ∀ n ∈ zs, (Lit.int .u8 n).wf = true) :
    Calls Try.prog 6 #[.slice a n cap] w fun e w' => e = .returned (.bool true) ∧ Below w.heap.size w w' := by
  have hcr := cr_of h
  have hcap : n ≤ 9223372036854775807 := by
    rcases h with ⟨_, rfl, _⟩ | ⟨x, _, h1, h2, _⟩
    · omega
    · unfold maxLen at h2; omega
  clear h
  by_cases h0 : n ≤ 1048576
  · have k0 : (n : Int) ≤ 1048576 := by omega
    have HC := Lib.hid (dDictPack w a n cap hcr)
    clear hcr
    go_enter Try.func6, Try.ntmps6
    go_wp2_with fail
    refine (HC.out).mono ?_
    rintro e w1 ⟨ix, es, g1, c1, a2, c2, rfl, hd, ho, hb⟩
    have HB := Lib.hid hb
    have HO := Lib.hid ho
    have HD := Lib.hid hd
    clear HC ho hd
    clear hb
    obtain ⟨w2, hw⟩ : ∃ x, x = w1.alloc (Obj.cells #[.slice (some ⟨g1, 0, none⟩) ix.length c1, .slice a2 es.length c2] 26) := ⟨_, rfl⟩
    have hb : Below w1.heap.size w1 w2 := by rw [hw]; exact (Below.refl _ _).alloc (Nat.le_refl _) _
    have HX := Lib.hid (show Blk w2 w1.heap.size 26 #[.slice (some ⟨g1, 0, none⟩) ix.length c1, .slice a2 es.length c2] from by rw [hw]; exact Blk.newest w1 _ _)
    have HW := Lib.hid hw
    clear hw
    replace HB := Lib.hid (HB.out.trans (hb.mono HB.out.size))
    replace HO := Lib.hid (HO.out.below hb)
    clear hb
    go_upto_region 4 with (fail)
    rw [← HW.out]
    clear HW
    by_cases hdo : DOk ix es
    · obtain ⟨r1, r2⟩ := pack_ok hdo
      have r3 := pack_two hdo
      obtain ⟨⟨jx, fs⟩, hst⟩ : ∃ R, pkV ix es = R := ⟨_, rfl⟩
      rw [hst] at r1 r2 r3
      have HST := Lib.hid hst
      have HJ := Lib.hid r1
      have HPP := Lib.hid r3
      have HK0 := Lib.hid (show dkV ix es = kyL es by unfold dkV; rw [if_pos (dok_yes hdo)])
      have HK1 := Lib.hid (show dkV jx fs = kyL es by unfold dkV; rw [if_pos (dok_yes r1)]; show kyL fs = _; rw [show fs = _ from r2, kyL_live])
      have HSM := Lib.hid (show sameB jx fs ix es = true from same_of r1 hdo (by show liveN fs = _; rw [show fs = _ from r2, liveN_live]) (fun k v h9 => by rw [show fs = _ from r2, kv_live] at h9; exact h9))
      have HL := Lib.hid (show (kyL es).length ≤ 1048576 by rw [ky_len]; have := hdo.2.1; omega)
      have hz : ((jx.length : Int) == 0) = false := beq_eq_false_iff_ne.2 (by have h9 : 8 ≤ jx.length := (dm_of r1).1; omega)
      clear hdo r1 r2 r3 hst
      have b00 := HX.out.cell 0
      have b01 := HX.out.cell 1
      go_wp2_with fail
      clear b00 b01
      refine (iPack ix es g1 c1 a2 c2 _ _ HO.out HD.out HST.out (by have := (dm_of HJ.out).1; omega)).mono ?_
      rintro e w3 ⟨q1, d1, p2, d2, rfl, ho, hb⟩
      replace HB := Lib.hid (HB.out.trans (hb.mono HB.out.size))
      replace HO := Lib.hid (HO.out.below hb)
      replace HX := Lib.hid (HX.out.below hb HX.out.lt)
      have HP := Lib.hid ho
      clear ho
      clear hb
      obtain ⟨w4, hw⟩ : ∃ x, x = w3.alloc (Obj.cells #[.slice (some ⟨q1, 0, none⟩) jx.length d1, .slice p2 fs.length d2] 26) := ⟨_, rfl⟩
      have hb : Below w3.heap.size w3 w4 := by rw [hw]; exact (Below.refl _ _).alloc (Nat.le_refl _) _
      have HY := Lib.hid (show Blk w4 w3.heap.size 26 #[.slice (some ⟨q1, 0, none⟩) jx.length d1, .slice p2 fs.length d2] from by rw [hw]; exact Blk.newest w3 _ _)
      have HW := Lib.hid hw
      clear hw
      replace HB := Lib.hid (HB.out.trans (hb.mono HB.out.size))
      replace HO := Lib.hid (HO.out.below hb)
      replace HX := Lib.hid (HX.out.below hb HX.out.lt)
      replace HP := Lib.hid (HP.out.below hb)
      clear hb
      go_upto_region 5 with (fail)
      rw [← HW.out]
      clear HW
      have b00 := HX.out.cell 0
      have b01 := HX.out.cell 1
      go_wp2_with fail
      clear b00 b01
      refine (sPack ix es g1 c1 a2 c2 _ _ HO.out HD.out HST.out (by have := (dm_of HJ.out).1; omega)).mono ?_
      rintro e w5 ⟨q3, d3, p4, d4, rfl, ho, hb⟩
      replace HB := Lib.hid (HB.out.trans (hb.mono HB.out.size))
      replace HO := Lib.hid (HO.out.below hb)
      replace HX := Lib.hid (HX.out.below hb HX.out.lt)
      replace HP := Lib.hid (HP.out.below hb)
      replace HY := Lib.hid (HY.out.below hb HY.out.lt)
      have HQ := Lib.hid ho
      clear ho
      clear hb
      obtain ⟨w6, hw⟩ : ∃ x, x = w5.alloc (Obj.cells #[.slice (some ⟨q3, 0, none⟩) jx.length d3, .slice p4 fs.length d4] 26) := ⟨_, rfl⟩
      have hb : Below w5.heap.size w5 w6 := by rw [hw]; exact (Below.refl _ _).alloc (Nat.le_refl _) _
      have HZ := Lib.hid (show Blk w6 w5.heap.size 26 #[.slice (some ⟨q3, 0, none⟩) jx.length d3, .slice p4 fs.length d4] from by rw [hw]; exact Blk.newest w5 _ _)
      have HW := Lib.hid hw
      clear hw
      replace HB := Lib.hid (HB.out.trans (hb.mono HB.out.size))
      replace HO := Lib.hid (HO.out.below hb)
      replace HX := Lib.hid (HX.out.below hb HX.out.lt)
      replace HP := Lib.hid (HP.out.below hb)
      replace HY := Lib.hid (HY.out.below hb HY.out.lt)
      replace HQ := Lib.hid (HQ.out.below hb)
      clear hb
      go_upto_region 6 with (fail)
      rw [← HW.out]
      clear HW
      have b00 := HY.out.cell 0
      have b01 := HY.out.cell 1
      have b10 := HZ.out.cell 0
      have b11 := HZ.out.cell 1
      go_wp2_with fail
      clear b00 b01 b10 b11
      refine (sameD jx fs _ _ _ _ _ _ _ _ _ _ _ HP.out.od HQ.out.od (by have := (dm_of HJ.out).2.1; omega) (by have := (dm_of HJ.out).2.2.1; omega)).mono ?_
      rintro e w7 ⟨rfl, hb⟩
      replace HB := Lib.hid (HB.out.trans (hb.mono HB.out.size))
      replace HO := Lib.hid (HO.out.below hb)
      replace HX := Lib.hid (HX.out.below hb HX.out.lt)
      replace HP := Lib.hid (HP.out.below hb)
      replace HY := Lib.hid (HY.out.below hb HY.out.lt)
      replace HQ := Lib.hid (HQ.out.below hb)
      replace HZ := Lib.hid (HZ.out.below hb HZ.out.lt)
      clear hb
      have b0 := HY.out.cell 0
      have b1 := HY.out.cell 1
      go_upto_region 9 with (fail)
      clear b0 b1
      skip
      have hb := (Below.refl w7.heap.size w7).drew
      replace HB := Lib.hid (HB.out.trans (hb.mono HB.out.size))
      replace HO := Lib.hid (HO.out.below hb)
      replace HX := Lib.hid (HX.out.below hb HX.out.lt)
      replace HP := Lib.hid (HP.out.below hb)
      replace HY := Lib.hid (HY.out.below hb HY.out.lt)
      replace HQ := Lib.hid (HQ.out.below hb)
      replace HZ := Lib.hid (HZ.out.below hb HZ.out.lt)
      clear hb
      go_region_held3 (fun w' => w'.cell? ⟨w1.heap.size, 0, none⟩ = some (.slice (some ⟨g1, 0, none⟩) ix.length c1) ∧ w'.cell? ⟨w1.heap.size, 1, none⟩ = some (.slice a2 es.length c2) ∧ w'.cell? ⟨w3.heap.size, 0, none⟩ = some (.slice (some ⟨q1, 0, none⟩) jx.length d1) ∧ w'.cell? ⟨w3.heap.size, 1, none⟩ = some (.slice p2 fs.length d2))
        (first | exact ⟨HX.out.cell 0, HX.out.cell 1, HY.out.cell 0, HY.out.cell 1⟩)
        (first | (go_at_call_of 19 (Value.agg #[.slice (some ⟨q1, 0, none⟩) jx.length d1, .slice p2 fs.length d2]); refine (iKeys jx fs q1 d1 p2 d2 _ _ HP.out (dm_of HJ.out) HK1.out).mono ?_; rintro e w8 ⟨v1, rfl, hl1, hb⟩; replace HB := Lib.hid (HB.out.trans (hb.mono HB.out.size)); replace HO := Lib.hid (HO.out.below hb); replace HX := Lib.hid (HX.out.below hb HX.out.lt); replace HP := Lib.hid (HP.out.below hb); replace HY := Lib.hid (HY.out.below hb HY.out.lt); replace HQ := Lib.hid (HQ.out.below hb); replace HZ := Lib.hid (HZ.out.below hb HZ.out.lt); have HV1 := Lib.hid hl1; clear hb hl1) | (go_at_call_of 19 (Value.agg #[.slice (some ⟨g1, 0, none⟩) ix.length c1, .slice a2 es.length c2]); refine (iKeys ix es g1 c1 a2 c2 _ _ HO.out HD.out HK0.out).mono ?_; rintro e w9 ⟨v2, rfl, hl2, hb⟩; replace HB := Lib.hid (HB.out.trans (hb.mono HB.out.size)); replace HO := Lib.hid (HO.out.below hb); replace HX := Lib.hid (HX.out.below hb HX.out.lt); replace HP := Lib.hid (HP.out.below hb); replace HY := Lib.hid (HY.out.below hb HY.out.lt); replace HQ := Lib.hid (HQ.out.below hb); replace HZ := Lib.hid (HZ.out.below hb HZ.out.lt); replace HV1 := Lib.hid (HV1.out.below hb); have HV2 := Lib.hid hl2; clear hb hl2) | (go_at_call 35; refine (sameTexts_rd (kyL es) v1 v2 _ HV1.out.rd HV2.out.rd HL.out).mono ?_; rintro e w10 ⟨rfl, hb⟩; replace HB := Lib.hid (HB.out.trans (hb.mono HB.out.size)); replace HO := Lib.hid (HO.out.below hb); replace HX := Lib.hid (HX.out.below hb HX.out.lt); replace HP := Lib.hid (HP.out.below hb); replace HY := Lib.hid (HY.out.below hb HY.out.lt); replace HQ := Lib.hid (HQ.out.below hb); replace HZ := Lib.hid (HZ.out.below hb HZ.out.lt); replace HV1 := Lib.hid (HV1.out.below hb); replace HV2 := Lib.hid (HV2.out.below hb); clear hb) | (go_at_call 22; refine (iPack jx fs q1 d1 p2 d2 _ _ HP.out (dm_of HJ.out) HPP.out (by have := (dm_of HJ.out).1; omega)).mono ?_; rintro e w11 ⟨q5, d5, p6, d6, rfl, ho5, hb⟩; replace HB := Lib.hid (HB.out.trans (hb.mono HB.out.size)); replace HO := Lib.hid (HO.out.below hb); replace HX := Lib.hid (HX.out.below hb HX.out.lt); replace HP := Lib.hid (HP.out.below hb); replace HY := Lib.hid (HY.out.below hb HY.out.lt); replace HQ := Lib.hid (HQ.out.below hb); replace HZ := Lib.hid (HZ.out.below hb HZ.out.lt); replace HV1 := Lib.hid (HV1.out.below hb); replace HV2 := Lib.hid (HV2.out.below hb); have HR := Lib.hid ho5; clear hb ho5) | (go_at_call 34; refine (sameD jx fs _ _ _ _ _ _ _ _ _ _ _ HR.out.od HP.out.od (by have := (dm_of HJ.out).2.1; omega) (by have := (dm_of HJ.out).2.2.1; omega)).mono ?_; rintro e w12 ⟨rfl, hb⟩; replace HB := Lib.hid (HB.out.trans (hb.mono HB.out.size)); replace HO := Lib.hid (HO.out.below hb); replace HX := Lib.hid (HX.out.below hb HX.out.lt); replace HP := Lib.hid (HP.out.below hb); replace HY := Lib.hid (HY.out.below hb HY.out.lt); replace HQ := Lib.hid (HQ.out.below hb); replace HZ := Lib.hid (HZ.out.below hb HZ.out.lt); replace HV1 := Lib.hid (HV1.out.below hb); replace HV2 := Lib.hid (HV2.out.below hb); replace HR := Lib.hid (HR.out.below hb); clear hb) | (go_at_call 21; refine (iSame jx fs q1 d1 p2 d2 ix es g1 c1 a2 c2 _ _ _ HP.out (dm_of HJ.out) HO.out HD.out HSM.out).mono ?_; rintro e w13 ⟨rfl, hb⟩; replace HB := Lib.hid (HB.out.trans (hb.mono HB.out.size)); replace HO := Lib.hid (HO.out.below hb); replace HX := Lib.hid (HX.out.below hb HX.out.lt); replace HP := Lib.hid (HP.out.below hb); replace HY := Lib.hid (HY.out.below hb HY.out.lt); replace HQ := Lib.hid (HQ.out.below hb); replace HZ := Lib.hid (HZ.out.below hb HZ.out.lt); replace HV1 := Lib.hid (HV1.out.below hb); replace HV2 := Lib.hid (HV2.out.below hb); replace HR := Lib.hid (HR.out.below hb); clear hb))
      all_goals (try go_wp2_with fail)
      all_goals go_ret
      all_goals exact ⟨rfl, HB.out⟩
    · obtain ⟨jx, hjx⟩ : ∃ x : List Int, x = [] := ⟨_, rfl⟩
      obtain ⟨fs, hfs⟩ : ∃ x : List Ent, x = [] := ⟨_, rfl⟩
      have HST := Lib.hid (show pkV ix es = (jx, fs) by unfold pkV; rw [dok_no hdo, hjx, hfs]; rfl)
      have hz : ((jx.length : Int) == 0) = true := by rw [hjx]; rfl
      have HN := Lib.hid (show jx.length ≤ 1048576 ∧ fs.length ≤ 1048576 by rw [hjx, hfs]; simp)
      clear hjx hfs hdo
      have b00 := HX.out.cell 0
      have b01 := HX.out.cell 1
      go_wp2_with fail
      clear b00 b01
      refine (iPackX ix es g1 c1 a2 c2 _ _ HO.out HD.out HST.out).mono ?_
      rintro e w3 ⟨q1, d1, p2, d2, rfl, ho, hb⟩
      replace HB := Lib.hid (HB.out.trans (hb.mono HB.out.size))
      replace HO := Lib.hid (HO.out.below hb)
      replace HX := Lib.hid (HX.out.below hb HX.out.lt)
      have HP := Lib.hid ho
      clear ho
      clear hb
      obtain ⟨w4, hw⟩ : ∃ x, x = w3.alloc (Obj.cells #[.slice q1 jx.length d1, .slice p2 fs.length d2] 26) := ⟨_, rfl⟩
      have hb : Below w3.heap.size w3 w4 := by rw [hw]; exact (Below.refl _ _).alloc (Nat.le_refl _) _
      have HY := Lib.hid (show Blk w4 w3.heap.size 26 #[.slice q1 jx.length d1, .slice p2 fs.length d2] from by rw [hw]; exact Blk.newest w3 _ _)
      have HW := Lib.hid hw
      clear hw
      replace HB := Lib.hid (HB.out.trans (hb.mono HB.out.size))
      replace HO := Lib.hid (HO.out.below hb)
      replace HX := Lib.hid (HX.out.below hb HX.out.lt)
      replace HP := Lib.hid (HP.out.below hb)
      clear hb
      go_upto_region 5 with (fail)
      rw [← HW.out]
      clear HW
      have b00 := HX.out.cell 0
      have b01 := HX.out.cell 1
      go_wp2_with fail
      clear b00 b01
      refine (sPackX ix es g1 c1 a2 c2 _ _ HO.out HD.out HST.out).mono ?_
      rintro e w5 ⟨q3, d3, p4, d4, rfl, ho, hb⟩
      replace HB := Lib.hid (HB.out.trans (hb.mono HB.out.size))
      replace HO := Lib.hid (HO.out.below hb)
      replace HX := Lib.hid (HX.out.below hb HX.out.lt)
      replace HP := Lib.hid (HP.out.below hb)
      replace HY := Lib.hid (HY.out.below hb HY.out.lt)
      have HQ := Lib.hid ho
      clear ho
      clear hb
      obtain ⟨w6, hw⟩ : ∃ x, x = w5.alloc (Obj.cells #[.slice q3 jx.length d3, .slice p4 fs.length d4] 26) := ⟨_, rfl⟩
      have hb : Below w5.heap.size w5 w6 := by rw [hw]; exact (Below.refl _ _).alloc (Nat.le_refl _) _
      have HZ := Lib.hid (show Blk w6 w5.heap.size 26 #[.slice q3 jx.length d3, .slice p4 fs.length d4] from by rw [hw]; exact Blk.newest w5 _ _)
      have HW := Lib.hid hw
      clear hw
      replace HB := Lib.hid (HB.out.trans (hb.mono HB.out.size))
      replace HO := Lib.hid (HO.out.below hb)
      replace HX := Lib.hid (HX.out.below hb HX.out.lt)
      replace HP := Lib.hid (HP.out.below hb)
      replace HY := Lib.hid (HY.out.below hb HY.out.lt)
      replace HQ := Lib.hid (HQ.out.below hb)
      clear hb
      go_upto_region 6 with (fail)
      rw [← HW.out]
      clear HW
      have b00 := HY.out.cell 0
      have b01 := HY.out.cell 1
      have b10 := HZ.out.cell 0
      have b11 := HZ.out.cell 1
      go_wp2_with fail
      clear b00 b01 b10 b11
      refine (sameD jx fs _ _ _ _ _ _ _ _ _ _ _ HP.out HQ.out HN.out.1 HN.out.2).mono ?_
      rintro e w7 ⟨rfl, hb⟩
      replace HB := Lib.hid (HB.out.trans (hb.mono HB.out.size))
      replace HO := Lib.hid (HO.out.below hb)
      replace HX := Lib.hid (HX.out.below hb HX.out.lt)
      replace HP := Lib.hid (HP.out.below hb)
      replace HY := Lib.hid (HY.out.below hb HY.out.lt)
      replace HQ := Lib.hid (HQ.out.below hb)
      replace HZ := Lib.hid (HZ.out.below hb HZ.out.lt)
      clear hb
      have b0 := HY.out.cell 0
      have b1 := HY.out.cell 1
      go_wp2_with fail
      go_ret
      exact ⟨rfl, HB.out⟩
  · have k0 : (1048576 : Int) < (n : Int) := by omega
    clear hcr
    go_enter Try.func6, Try.ntmps6
    go_wp2_with fail
    go_ret
    exact ⟨rfl, Below.refl _ _⟩
end Go.Proofs.Ytibglmcpbbikdaa
