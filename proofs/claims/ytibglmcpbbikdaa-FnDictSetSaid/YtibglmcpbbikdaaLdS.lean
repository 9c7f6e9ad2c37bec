/- The law on DictSet. -/
import Derived.Test.YtibglmcpbbikdaaDdl
import Derived.Test.YtibglmcpbbikdaaKx
import Derived.Deep.RegionHeld3
namespace Go.Proofs.Ytibglmcpbbikdaa
open Go.RowKit
set_option maxRecDepth 20000 in
set_option maxHeartbeats 8000000 in
theorem fnDictSet_walk (a : Option Addr) (n cap : Nat) (zs : List Int) (w : World) (h : (a = none ∧ n = 0 ∧ cap = 0 ∧ zs = []) ∨ ∃ x, a = some x ∧ n ≤ cap ∧ cap ≤ maxLen ∧ zs.length = cap ∧ (∀ i, i < zs.length → w.cell? (x.add i) = some (.int .u8 (zs.getD i 0))) ∧ ∀ n ∈ zs, (Lit.int .u8 n).wf = true) :
    Calls Try.prog 7 #[.slice a n cap] w fun e w' => e = .returned (.bool true) ∧ Below w.heap.size w w' := by
  have hcr := cr_of h
  have hcap : n ≤ 9223372036854775807 := by
    rcases h with ⟨_, rfl, _⟩ | ⟨x, _, h1, h2, _⟩
    · omega
    · unfold maxLen at h2; omega
  clear h
  by_cases h0 : n ≤ 1048576
  · have k0 : (n : Int) ≤ 1048576 := by omega
    have HC := Lib.hid (dDictSet w a n cap hcr)
    clear hcr
    go_enter Try.func7, Try.ntmps7
    go_wp2_with fail
    refine (HC.out).mono ?_
    rintro e w1 ⟨ix, es, g1, c1, a2, c2, key, val, rfl, hd, hks, hvz, ho, hb⟩
    have HB := Lib.hid hb
    have HO := Lib.hid ho
    have HD := Lib.hid hd
    clear HC ho hd
    have HK := Lib.hid (show key.size ≤ 1048576 by omega)
    clear hks
    clear hb
    obtain ⟨w2, hw⟩ : ∃ x, x = w1.alloc (Obj.cells #[.slice (some ⟨g1, 0, none⟩) ix.length c1, .slice a2 es.length c2] 26) := ⟨_, rfl⟩
    have hb : Below w1.heap.size w1 w2 := by rw [hw]; exact (Below.refl _ _).alloc (Nat.le_refl _) _
    have HX := Lib.hid (show Blk w2 w1.heap.size 26 #[.slice (some ⟨g1, 0, none⟩) ix.length c1, .slice a2 es.length c2] from by rw [hw]; exact Blk.newest w1 _ _)
    have HW := Lib.hid hw
    clear hw
    replace HB := Lib.hid (HB.out.trans (hb.mono HB.out.size))
    replace HO := Lib.hid (HO.out.below hb)
    clear hb
    go_upto_region 4 with (fail)
    rw [← HW.out]
    clear HW
    obtain ⟨⟨⟨jx, fs⟩, ok⟩, hst⟩ : ∃ R, stV ix es key val = R := ⟨_, rfl⟩
    have HST := Lib.hid hst
    have HLN := Lib.hid (show jx.length ≤ 1048576 ∧ fs.length ≤ 1048576 by have h9 := stV_len (ix := ix) (es := es) (key := key) (val := val); rw [hst] at h9; exact ⟨by have h8 : jx.length ≤ 128 := h9.1; omega, by have h8 : fs.length ≤ 200 := h9.2; omega⟩)
    clear hst
    cases ok with
    | false =>
      have HN := Lib.hid (show jx.length ≤ 1048576 ∧ fs.length ≤ 1048576 from HLN.out)
      have b00 := HX.out.cell 0
      have b01 := HX.out.cell 1
      go_wp2_with fail
      clear b00 b01
      refine (iSetX ix es g1 c1 a2 c2 key val _ _ HO.out HD.out HK.out HST.out).mono ?_
      rintro e w3 ⟨q1, d1, p2, d2, rfl, ho, hb⟩
      replace HB := Lib.hid (HB.out.trans (hb.mono HB.out.size))
      replace HO := Lib.hid (HO.out.below hb)
      replace HX := Lib.hid (HX.out.below hb HX.out.lt)
      have HP := Lib.hid ho
      clear ho
      clear hb
      obtain ⟨w4, hw⟩ : ∃ x, x = w3.alloc (Obj.cells #[.slice q1 jx.length d1, .slice p2 fs.length d2] 26) := ⟨_, rfl⟩
      have hb : Below w3.heap.size w3 w4 := by rw [hw]; exact (Below.refl _ _).alloc (Nat.le_refl _) _
      have HY := Lib.hid (show Blk w4 w3.heap.size 26 #[.slice q1 jx.length d1, .slice p2 fs.length d2] from by rw [hw]; exact Blk.newest w3 _ _)
      have HW := Lib.hid hw
      clear hw
      replace HB := Lib.hid (HB.out.trans (hb.mono HB.out.size))
      replace HO := Lib.hid (HO.out.below hb)
      replace HX := Lib.hid (HX.out.below hb HX.out.lt)
      replace HP := Lib.hid (HP.out.below hb)
      clear hb
      go_upto_region 5 with (fail)
      rw [← HW.out]
      clear HW
      have b00 := HX.out.cell 0
      have b01 := HX.out.cell 1
      go_wp2_with fail
      clear b00 b01
      refine (sSetX ix es g1 c1 a2 c2 key val _ _ HO.out HD.out HK.out HST.out).mono ?_
      rintro e w5 ⟨q3, d3, p4, d4, rfl, ho, hb⟩
      replace HB := Lib.hid (HB.out.trans (hb.mono HB.out.size))
      replace HO := Lib.hid (HO.out.below hb)
      replace HX := Lib.hid (HX.out.below hb HX.out.lt)
      replace HP := Lib.hid (HP.out.below hb)
      replace HY := Lib.hid (HY.out.below hb HY.out.lt)
      have HQ := Lib.hid ho
      clear ho
      clear hb
      obtain ⟨w6, hw⟩ : ∃ x, x = w5.alloc (Obj.cells #[.slice q3 jx.length d3, .slice p4 fs.length d4] 26) := ⟨_, rfl⟩
      have hb : Below w5.heap.size w5 w6 := by rw [hw]; exact (Below.refl _ _).alloc (Nat.le_refl _) _
      have HZ := Lib.hid (show Blk w6 w5.heap.size 26 #[.slice q3 jx.length d3, .slice p4 fs.length d4] from by rw [hw]; exact Blk.newest w5 _ _)
      have HW := Lib.hid hw
      clear hw
      replace HB := Lib.hid (HB.out.trans (hb.mono HB.out.size))
      replace HO := Lib.hid (HO.out.below hb)
      replace HX := Lib.hid (HX.out.below hb HX.out.lt)
      replace HP := Lib.hid (HP.out.below hb)
      replace HY := Lib.hid (HY.out.below hb HY.out.lt)
      replace HQ := Lib.hid (HQ.out.below hb)
      clear hb
      go_upto_region 6 with (fail)
      rw [← HW.out]
      clear HW
      have b00 := HY.out.cell 0
      have b01 := HY.out.cell 1
      have b10 := HZ.out.cell 0
      have b11 := HZ.out.cell 1
      go_wp2_with fail
      clear b00 b01 b10 b11
      refine (sameD jx fs _ _ _ _ _ _ _ _ _ _ _ HP.out HQ.out HN.out.1 HN.out.2).mono ?_
      rintro e w7 ⟨rfl, hb⟩
      replace HB := Lib.hid (HB.out.trans (hb.mono HB.out.size))
      replace HO := Lib.hid (HO.out.below hb)
      replace HX := Lib.hid (HX.out.below hb HX.out.lt)
      replace HP := Lib.hid (HP.out.below hb)
      replace HY := Lib.hid (HY.out.below hb HY.out.lt)
      replace HQ := Lib.hid (HQ.out.below hb)
      replace HZ := Lib.hid (HZ.out.below hb HZ.out.lt)
      clear hb
      go_wp2_with fail
      go_ret
      exact ⟨rfl, HB.out⟩
    | true =>
      obtain ⟨hdo, hkb, hov, hcc⟩ := set_is (ix := ix) (es := es) (key := key) (val := val) (by rw [HST.out])
      obtain ⟨r1, _, r3, r4, r5⟩ := set_ok hdo hkb hov hcc
      rw [HST.out] at r1 r3 r4 r5
      have HJ := Lib.hid (show DOk jx fs from r1)
      have HGT := Lib.hid (get_mem r1 ((r3 key val).2 (.inl ⟨rfl, rfl⟩)))
      have HK0 := Lib.hid (show dkV ix es = kyL es by unfold dkV; rw [if_pos (dok_yes hdo)])
      have HK1 := Lib.hid (show dkV jx fs = kyL fs by unfold dkV; rw [if_pos (dok_yes r1)])
      have HL := Lib.hid (show (kyL es).length ≤ 40 ∧ (kyL fs).length ≤ 40 by rw [ky_len, ky_len]; exact ⟨hdo.2.1, r1.2.1⟩)
      have HR4 := Lib.hid r4
      have HR5 := Lib.hid r5
      have HDB := Lib.hid (dok_yes r1)
      clear hdo hkb hov hcc r1 r3 r4 r5
      have b00 := HX.out.cell 0
      have b01 := HX.out.cell 1
      go_wp2_with fail
      clear b00 b01
      refine (iSet ix es g1 c1 a2 c2 key val _ _ HO.out HD.out HK.out HST.out (by have := (dm_of HJ.out).1; omega)).mono ?_
      rintro e w3 ⟨q1, d1, p2, d2, rfl, ho, hb⟩
      replace HB := Lib.hid (HB.out.trans (hb.mono HB.out.size))
      replace HO := Lib.hid (HO.out.below hb)
      replace HX := Lib.hid (HX.out.below hb HX.out.lt)
      have HP := Lib.hid ho
      clear ho
      clear hb
      obtain ⟨w4, hw⟩ : ∃ x, x = w3.alloc (Obj.cells #[.slice (some ⟨q1, 0, none⟩) jx.length d1, .slice p2 fs.length d2] 26) := ⟨_, rfl⟩
      have hb : Below w3.heap.size w3 w4 := by rw [hw]; exact (Below.refl _ _).alloc (Nat.le_refl _) _
      have HY := Lib.hid (show Blk w4 w3.heap.size 26 #[.slice (some ⟨q1, 0, none⟩) jx.length d1, .slice p2 fs.length d2] from by rw [hw]; exact Blk.newest w3 _ _)
      have HW := Lib.hid hw
      clear hw
      replace HB := Lib.hid (HB.out.trans (hb.mono HB.out.size))
      replace HO := Lib.hid (HO.out.below hb)
      replace HX := Lib.hid (HX.out.below hb HX.out.lt)
      replace HP := Lib.hid (HP.out.below hb)
      clear hb
      go_upto_region 5 with (fail)
      rw [← HW.out]
      clear HW
      have b00 := HX.out.cell 0
      have b01 := HX.out.cell 1
      go_wp2_with fail
      clear b00 b01
      refine (sSet ix es g1 c1 a2 c2 key val _ _ HO.out HD.out HK.out HST.out (by have := (dm_of HJ.out).1; omega)).mono ?_
      rintro e w5 ⟨q3, d3, p4, d4, rfl, ho, hb⟩
      replace HB := Lib.hid (HB.out.trans (hb.mono HB.out.size))
      replace HO := Lib.hid (HO.out.below hb)
      replace HX := Lib.hid (HX.out.below hb HX.out.lt)
      replace HP := Lib.hid (HP.out.below hb)
      replace HY := Lib.hid (HY.out.below hb HY.out.lt)
      have HQ := Lib.hid ho
      clear ho
      clear hb
      obtain ⟨w6, hw⟩ : ∃ x, x = w5.alloc (Obj.cells #[.slice (some ⟨q3, 0, none⟩) jx.length d3, .slice p4 fs.length d4] 26) := ⟨_, rfl⟩
      have hb : Below w5.heap.size w5 w6 := by rw [hw]; exact (Below.refl _ _).alloc (Nat.le_refl _) _
      have HZ := Lib.hid (show Blk w6 w5.heap.size 26 #[.slice (some ⟨q3, 0, none⟩) jx.length d3, .slice p4 fs.length d4] from by rw [hw]; exact Blk.newest w5 _ _)
      have HW := Lib.hid hw
      clear hw
      replace HB := Lib.hid (HB.out.trans (hb.mono HB.out.size))
      replace HO := Lib.hid (HO.out.below hb)
      replace HX := Lib.hid (HX.out.below hb HX.out.lt)
      replace HP := Lib.hid (HP.out.below hb)
      replace HY := Lib.hid (HY.out.below hb HY.out.lt)
      replace HQ := Lib.hid (HQ.out.below hb)
      clear hb
      go_upto_region 6 with (fail)
      rw [← HW.out]
      clear HW
      have b00 := HY.out.cell 0
      have b01 := HY.out.cell 1
      have b10 := HZ.out.cell 0
      have b11 := HZ.out.cell 1
      go_wp2_with fail
      clear b00 b01 b10 b11
      refine (sameD jx fs _ _ _ _ _ _ _ _ _ _ _ HP.out.od HQ.out.od (by have := (dm_of HJ.out).2.1; omega) (by have := (dm_of HJ.out).2.2.1; omega)).mono ?_
      rintro e w7 ⟨rfl, hb⟩
      replace HB := Lib.hid (HB.out.trans (hb.mono HB.out.size))
      replace HO := Lib.hid (HO.out.below hb)
      replace HX := Lib.hid (HX.out.below hb HX.out.lt)
      replace HP := Lib.hid (HP.out.below hb)
      replace HY := Lib.hid (HY.out.below hb HY.out.lt)
      replace HQ := Lib.hid (HQ.out.below hb)
      replace HZ := Lib.hid (HZ.out.below hb HZ.out.lt)
      clear hb
      have b00 := HY.out.cell 0
      have b01 := HY.out.cell 1
      go_wp2_with fail
      clear b00 b01
      refine (iGet jx fs q1 d1 p2 d2 key _ _ HP.out (dm_of HJ.out) HK.out HGT.out).mono ?_
      rintro e w8 ⟨rfl, hb⟩
      replace HB := Lib.hid (HB.out.trans (hb.mono HB.out.size))
      replace HO := Lib.hid (HO.out.below hb)
      replace HX := Lib.hid (HX.out.below hb HX.out.lt)
      replace HP := Lib.hid (HP.out.below hb)
      replace HY := Lib.hid (HY.out.below hb HY.out.lt)
      replace HQ := Lib.hid (HQ.out.below hb)
      replace HZ := Lib.hid (HZ.out.below hb HZ.out.lt)
      clear hb
      have b00 := HX.out.cell 0
      have b01 := HX.out.cell 1
      go_wp2_with fail
      clear b00 b01
      have HP8 := Lib.hid HP.out
      have HY8 := Lib.hid HY.out
      have HB8 := Lib.hid HB.out
      refine (iKeys ix es g1 c1 a2 c2 _ _ HO.out HD.out HK0.out).mono ?_
      rintro e w9 ⟨v1, rfl, hl1, hb⟩
      replace HB := Lib.hid (HB.out.trans (hb.mono HB.out.size))
      replace HO := Lib.hid (HO.out.below hb)
      replace HX := Lib.hid (HX.out.below hb HX.out.lt)
      replace HP := Lib.hid (HP.out.below hb)
      replace HY := Lib.hid (HY.out.below hb HY.out.lt)
      replace HQ := Lib.hid (HQ.out.below hb)
      replace HZ := Lib.hid (HZ.out.below hb HZ.out.lt)
      have HV1 := Lib.hid hl1
      have HBS := Lib.hid hb
      have HL1 := Lib.hid (fun k hk => (hl1.lt k hk).2)
      clear hl1
      clear hb
      have b00 := HY.out.cell 0
      have b01 := HY.out.cell 1
      go_wp2_with fail
      clear b00 b01
      refine (iKeys jx fs q1 d1 p2 d2 _ _ HP.out (dm_of HJ.out) HK1.out).mono ?_
      rintro e w10 ⟨v2, rfl, hl2, hb⟩
      replace HB := Lib.hid (HB.out.trans (hb.mono HB.out.size))
      replace HO := Lib.hid (HO.out.below hb)
      replace HX := Lib.hid (HX.out.below hb HX.out.lt)
      replace HP := Lib.hid (HP.out.below hb)
      replace HY := Lib.hid (HY.out.below hb HY.out.lt)
      replace HQ := Lib.hid (HQ.out.below hb)
      replace HZ := Lib.hid (HZ.out.below hb HZ.out.lt)
      replace HV1 := Lib.hid (HV1.out.below hb)
      replace HBS := Lib.hid (HBS.out.trans (hb.mono HBS.out.size))
      have HV2 := Lib.hid hl2
      clear hl2
      clear hb
      by_cases hm : key ∈ kyL es
      · have HM := Lib.hid hm
        clear hm
        go_wp2_with fail
        refine (isOne_is (kyL es) key true (by simp [HM.out]) v1 _ HV1.out.rd (by have := HL.out.1; omega)).mono ?_
        rintro e w11 ⟨rfl, rfl⟩
        have b0 := HY.out.cell 0
        have b1 := HY.out.cell 1
        go_wp2_with fail
        clear b0 b1
        refine (iOk jx fs q1 d1 p2 d2 _ _ HP.out (dm_of HJ.out) HDB.out).mono ?_
        rintro e w12 ⟨rfl, hb⟩
        replace HB := Lib.hid (HB.out.trans (hb.mono HB.out.size))
        replace HO := Lib.hid (HO.out.below hb)
        replace HX := Lib.hid (HX.out.below hb HX.out.lt)
        replace HP := Lib.hid (HP.out.below hb)
        replace HY := Lib.hid (HY.out.below hb HY.out.lt)
        replace HQ := Lib.hid (HQ.out.below hb)
        replace HZ := Lib.hid (HZ.out.below hb HZ.out.lt)
        replace HV1 := Lib.hid (HV1.out.below hb)
        replace HBS := Lib.hid (HBS.out.trans (hb.mono HBS.out.size))
        replace HV2 := Lib.hid (HV2.out.below hb)
        clear hb
        go_wp2_with fail
        have HE := Lib.hid (HR4.out HM.out).1
        have HV3 := Lib.hid (show OwT _ _ v2 (kyL es) by rw [← HE.out]; exact HV2.out)
        refine (sameTexts_rd (kyL es) v1 v2 _ HV1.out.rd HV3.out.rd (by have := HL.out.1; omega)).mono ?_
        rintro e w13 ⟨rfl, hb⟩
        replace HB := Lib.hid (HB.out.trans (hb.mono HB.out.size))
        replace HO := Lib.hid (HO.out.below hb)
        replace HX := Lib.hid (HX.out.below hb HX.out.lt)
        replace HP := Lib.hid (HP.out.below hb)
        replace HY := Lib.hid (HY.out.below hb HY.out.lt)
        replace HQ := Lib.hid (HQ.out.below hb)
        replace HZ := Lib.hid (HZ.out.below hb HZ.out.lt)
        replace HV1 := Lib.hid (HV1.out.below hb)
        replace HBS := Lib.hid (HBS.out.trans (hb.mono HBS.out.size))
        replace HV2 := Lib.hid (HV2.out.below hb)
        clear hb
        go_wp2_with fail
        go_ret
        exact ⟨rfl, HB.out⟩
      · have HM := Lib.hid hm
        clear hm
        go_wp2_with fail
        refine (isOne_is (kyL es) key false (by simp [HM.out]) v1 _ HV1.out.rd (by have := HL.out.1; omega)).mono ?_
        rintro e w11 ⟨rfl, rfl⟩
        go_wp2_with (first | (refine appS rfl (.tmp 67) (.tmp 69) 29 9 (.string ⟨#[]⟩) 16 rfl Try.underlying29 (by kernel_rfl) rfl (by decide) w10 w8 (.string key) rfl w8.heap.size _ (tv (kyL es)) rfl rfl HV1.out rfl ?_ HBS.out.size HBS.out ?_; (rw [tv_len]; have := HL.out; omega); intro v4 w12 ho4 hb4 hg4; have HP9 := Lib.hid (HP8.out.below hb4); have HY9 := Lib.hid (HY8.out.below hb4 HY8.out.lt); have HB9 := Lib.hid (HB8.out.trans (hb4.mono HB8.out.size)); have HV4 := Lib.hid (owT_app ho4); have HV9 := Lib.hid (HV2.out.grown hg4 (own_apart HV2.out HL1.out)); have b0 := HY9.out.cell 0; have b1 := HY9.out.cell 1; clear ho4 hb4 hg4))
        refine (iOk jx fs q1 d1 p2 d2 _ _ HP9.out (dm_of HJ.out) HDB.out).mono ?_
        rintro e w13 ⟨rfl, hb⟩
        replace HB9 := Lib.hid (HB9.out.trans (hb.mono HB9.out.size))
        replace HP9 := Lib.hid (HP9.out.below hb)
        replace HY9 := Lib.hid (HY9.out.below hb HY9.out.lt)
        replace HV4 := Lib.hid (HV4.out.below hb)
        replace HV9 := Lib.hid (HV9.out.below hb)
        clear hb
        go_wp2_with fail
        have HE := Lib.hid (HR5.out HM.out)
        have HV3 := Lib.hid (show OwT _ _ v2 (kyL es ++ [key]) by rw [← HE.out]; exact HV9.out)
        refine (sameTexts_rd (kyL es ++ [key]) v4 v2 _ HV4.out.rd HV3.out.rd (by have := HL.out.1; simp; omega)).mono ?_
        rintro e w14 ⟨rfl, hb⟩
        replace HB9 := Lib.hid (HB9.out.trans (hb.mono HB9.out.size))
        replace HP9 := Lib.hid (HP9.out.below hb)
        replace HY9 := Lib.hid (HY9.out.below hb HY9.out.lt)
        replace HV4 := Lib.hid (HV4.out.below hb)
        replace HV9 := Lib.hid (HV9.out.below hb)
        clear hb
        go_wp2_with fail
        go_ret
        exact ⟨rfl, HB9.out⟩
  · have k0 : (1048576 : Int) < (n : Int) := by omega
    clear hcr
    go_enter Try.func7, Try.ntmps7
    go_wp2_with fail
    go_ret
    exact ⟨rfl, Below.refl _ _⟩
end Go.Proofs.Ytibglmcpbbikdaa
