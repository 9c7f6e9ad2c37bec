/- The law on dropping what was set. -/
import Derived.Test.YtibglmcpbbikdaaDdl
import Derived.Test.YtibglmcpbbikdaaKx
import Derived.Deep.RegionHeld3
namespace Go.Proofs.Ytibglmcpbbikdaa
open Go.RowKit
theorem ky_undo {L : List ByteArray} {key : ByteArray} (h : key ∉ L) : (L ++ [key]).filter (fun x => !decide (x = key)) = L := by
  rw [List.filter_append]
  have h1 : L.filter (fun x => !decide (x = key)) = L := by
    rw [List.filter_eq_self]
    intro a ha
    have : a ≠ key := by rintro rfl; exact h ha
    simp [this]
  rw [h1]
  simp
set_option maxRecDepth 20000 in
set_option maxHeartbeats 8000000 in
theorem fnDictUndone_walk (a : Option Addr) (n cap : Nat) (zs : List Int) (w : World) (h : (a = none ∧ n = 0 ∧ cap = 0 ∧ zs = []) ∨ ∃ x, a = some x ∧ n ≤ cap ∧ cap ≤ maxLen ∧ zs.length = cap ∧ (∀ i, i < zs.length → w.cell? (x.add i) = some (.int .u8 (zs.getD i 0))) ∧ ∀ n ∈ zs, (Lit.int .u8 n).wf = true) :
    Calls Try.prog 14 #[.slice a n cap] w fun e w' => e = .returned (.bool true) ∧ Below w.heap.size w w' := by
  have hcr := cr_of h
  have hcap : n ≤ 9223372036854775807 := by
    rcases h with ⟨_, rfl, _⟩ | ⟨x, _, h1, h2, _⟩
    · omega
    · unfold maxLen at h2; omega
  clear h
  by_cases h0 : n ≤ 1048576
  · have k0 : (n : Int) ≤ 1048576 := by omega
    have HC := Lib.hid (dDictSet w a n cap hcr)
    clear hcr
    go_enter Try.func14, Try.ntmps14
    go_wp2_with fail
    refine (HC.out).mono ?_
    rintro e w1 ⟨ix, es, g1, c1, a2, c2, key, val, rfl, hd, hks, hvz, ho, hb⟩
    have HB := Lib.hid hb
    have HO := Lib.hid ho
    have HD := Lib.hid hd
    clear HC ho hd
    have HK := Lib.hid (show key.size ≤ 1048576 by omega)
    clear hks
    clear hb
    obtain ⟨w2, hw⟩ : ∃ x, x = w1.alloc (Obj.cells #[.slice (some ⟨g1, 0, none⟩) ix.length c1, .slice a2 es.length c2] 26) := ⟨_, rfl⟩
    have hb : Below w1.heap.size w1 w2 := by rw [hw]; exact (Below.refl _ _).alloc (Nat.le_refl _) _
    have HX := Lib.hid (show Blk w2 w1.heap.size 26 #[.slice (some ⟨g1, 0, none⟩) ix.length c1, .slice a2 es.length c2] from by rw [hw]; exact Blk.newest w1 _ _)
    have HW := Lib.hid hw
    clear hw
    replace HB := Lib.hid (HB.out.trans (hb.mono HB.out.size))
    replace HO := Lib.hid (HO.out.below hb)
    clear hb
    go_upto_region 4 with (fail)
    rw [← HW.out]
    clear HW
    obtain ⟨⟨⟨jx, fs⟩, ok⟩, hst⟩ : ∃ R, stV ix es key val = R := ⟨_, rfl⟩
    have HST := Lib.hid hst
    have HLN := Lib.hid (show jx.length ≤ 1048576 ∧ fs.length ≤ 1048576 by have h9 := stV_len (ix := ix) (es := es) (key := key) (val := val); rw [hst] at h9; exact ⟨by have h8 : jx.length ≤ 128 := h9.1; omega, by have h8 : fs.length ≤ 200 := h9.2; omega⟩)
    clear hst
    obtain ⟨v, th, hg⟩ : ∃ v th, getV ix es key = (v, th) := ⟨_, _, rfl⟩
    have HG := Lib.hid hg
    clear hg
    cases ok with
    | false =>
      have b00 := HX.out.cell 0
      have b01 := HX.out.cell 1
      go_wp2_with fail
      clear b00 b01
      refine (iSetX ix es g1 c1 a2 c2 key val _ _ HO.out HD.out HK.out HST.out).mono ?_
      rintro e w3 ⟨q1, d1, p2, d2, rfl, ho, hb⟩
      replace HB := Lib.hid (HB.out.trans (hb.mono HB.out.size))
      replace HO := Lib.hid (HO.out.below hb)
      replace HX := Lib.hid (HX.out.below hb HX.out.lt)
      have HP := Lib.hid ho
      clear ho
      clear hb
      obtain ⟨w4, hw⟩ : ∃ x, x = w3.alloc (Obj.cells #[.slice q1 jx.length d1, .slice p2 fs.length d2] 26) := ⟨_, rfl⟩
      have hb : Below w3.heap.size w3 w4 := by rw [hw]; exact (Below.refl _ _).alloc (Nat.le_refl _) _
      have HY := Lib.hid (show Blk w4 w3.heap.size 26 #[.slice q1 jx.length d1, .slice p2 fs.length d2] from by rw [hw]; exact Blk.newest w3 _ _)
      have HW := Lib.hid hw
      clear hw
      replace HB := Lib.hid (HB.out.trans (hb.mono HB.out.size))
      replace HO := Lib.hid (HO.out.below hb)
      replace HX := Lib.hid (HX.out.below hb HX.out.lt)
      replace HP := Lib.hid (HP.out.below hb)
      clear hb
      go_upto_region 5 with (fail)
      rw [← HW.out]
      clear HW
      have b00 := HX.out.cell 0
      have b01 := HX.out.cell 1
      go_wp2_with fail
      clear b00 b01
      refine (sSetX ix es g1 c1 a2 c2 key val _ _ HO.out HD.out HK.out HST.out).mono ?_
      rintro e w5 ⟨q3, d3, p4, d4, rfl, ho, hb⟩
      replace HB := Lib.hid (HB.out.trans (hb.mono HB.out.size))
      replace HO := Lib.hid (HO.out.below hb)
      replace HX := Lib.hid (HX.out.below hb HX.out.lt)
      replace HP := Lib.hid (HP.out.below hb)
      replace HY := Lib.hid (HY.out.below hb HY.out.lt)
      have HQ := Lib.hid ho
      clear ho
      clear hb
      obtain ⟨w6, hw⟩ : ∃ x, x = w5.alloc (Obj.cells #[.slice q3 jx.length d3, .slice p4 fs.length d4] 26) := ⟨_, rfl⟩
      have hb : Below w5.heap.size w5 w6 := by rw [hw]; exact (Below.refl _ _).alloc (Nat.le_refl _) _
      have HZ := Lib.hid (show Blk w6 w5.heap.size 26 #[.slice q3 jx.length d3, .slice p4 fs.length d4] from by rw [hw]; exact Blk.newest w5 _ _)
      have HW := Lib.hid hw
      clear hw
      replace HB := Lib.hid (HB.out.trans (hb.mono HB.out.size))
      replace HO := Lib.hid (HO.out.below hb)
      replace HX := Lib.hid (HX.out.below hb HX.out.lt)
      replace HP := Lib.hid (HP.out.below hb)
      replace HY := Lib.hid (HY.out.below hb HY.out.lt)
      replace HQ := Lib.hid (HQ.out.below hb)
      clear hb
      go_upto_region 6 with (fail)
      rw [← HW.out]
      clear HW
      have b00 := HY.out.cell 0
      have b01 := HY.out.cell 1
      have b10 := HZ.out.cell 0
      have b11 := HZ.out.cell 1
      go_wp2_with fail
      clear b00 b01 b10 b11
      refine (sameD jx fs _ _ _ _ _ _ _ _ _ _ _ HP.out HQ.out HLN.out.1 HLN.out.2).mono ?_
      rintro e w7 ⟨rfl, hb⟩
      replace HB := Lib.hid (HB.out.trans (hb.mono HB.out.size))
      replace HO := Lib.hid (HO.out.below hb)
      replace HX := Lib.hid (HX.out.below hb HX.out.lt)
      replace HP := Lib.hid (HP.out.below hb)
      replace HY := Lib.hid (HY.out.below hb HY.out.lt)
      replace HQ := Lib.hid (HQ.out.below hb)
      replace HZ := Lib.hid (HZ.out.below hb HZ.out.lt)
      clear hb
      have b00 := HX.out.cell 0
      have b01 := HX.out.cell 1
      go_wp2_with fail
      clear b00 b01
      refine (iGet ix es g1 c1 a2 c2 key _ _ HO.out HD.out HK.out HG.out).mono ?_
      rintro e w8 ⟨rfl, hb⟩
      replace HB := Lib.hid (HB.out.trans (hb.mono HB.out.size))
      replace HO := Lib.hid (HO.out.below hb)
      replace HX := Lib.hid (HX.out.below hb HX.out.lt)
      replace HP := Lib.hid (HP.out.below hb)
      replace HY := Lib.hid (HY.out.below hb HY.out.lt)
      replace HQ := Lib.hid (HQ.out.below hb)
      replace HZ := Lib.hid (HZ.out.below hb HZ.out.lt)
      clear hb
      go_wp2_with fail
      go_ret
      exact ⟨rfl, HB.out⟩
    | true =>
      obtain ⟨hdo, hkb, hov, hcc⟩ := set_is (ix := ix) (es := es) (key := key) (val := val) (by rw [HST.out])
      obtain ⟨r1, _, r3, r4, r5⟩ := set_ok hdo hkb hov hcc
      rw [HST.out] at r1 r3 r4 r5
      have HJ := Lib.hid (show DOk jx fs from r1)
      have HDO := Lib.hid hdo
      have HR3 := Lib.hid r3
      have HR5 := Lib.hid r5
      clear hdo hkb hov hcc r1 r3 r4 r5
      have b00 := HX.out.cell 0
      have b01 := HX.out.cell 1
      go_wp2_with fail
      clear b00 b01
      refine (iSet ix es g1 c1 a2 c2 key val _ _ HO.out HD.out HK.out HST.out (by have := (dm_of HJ.out).1; omega)).mono ?_
      rintro e w3 ⟨q1, d1, p2, d2, rfl, ho, hb⟩
      replace HB := Lib.hid (HB.out.trans (hb.mono HB.out.size))
      replace HO := Lib.hid (HO.out.below hb)
      replace HX := Lib.hid (HX.out.below hb HX.out.lt)
      have HP := Lib.hid ho
      clear ho
      clear hb
      obtain ⟨w4, hw⟩ : ∃ x, x = w3.alloc (Obj.cells #[.slice (some ⟨q1, 0, none⟩) jx.length d1, .slice p2 fs.length d2] 26) := ⟨_, rfl⟩
      have hb : Below w3.heap.size w3 w4 := by rw [hw]; exact (Below.refl _ _).alloc (Nat.le_refl _) _
      have HY := Lib.hid (show Blk w4 w3.heap.size 26 #[.slice (some ⟨q1, 0, none⟩) jx.length d1, .slice p2 fs.length d2] from by rw [hw]; exact Blk.newest w3 _ _)
      have HW := Lib.hid hw
      clear hw
      replace HB := Lib.hid (HB.out.trans (hb.mono HB.out.size))
      replace HO := Lib.hid (HO.out.below hb)
      replace HX := Lib.hid (HX.out.below hb HX.out.lt)
      replace HP := Lib.hid (HP.out.below hb)
      clear hb
      go_upto_region 5 with (fail)
      rw [← HW.out]
      clear HW
      have b00 := HX.out.cell 0
      have b01 := HX.out.cell 1
      go_wp2_with fail
      clear b00 b01
      refine (sSet ix es g1 c1 a2 c2 key val _ _ HO.out HD.out HK.out HST.out (by have := (dm_of HJ.out).1; omega)).mono ?_
      rintro e w5 ⟨q3, d3, p4, d4, rfl, ho, hb⟩
      replace HB := Lib.hid (HB.out.trans (hb.mono HB.out.size))
      replace HO := Lib.hid (HO.out.below hb)
      replace HX := Lib.hid (HX.out.below hb HX.out.lt)
      replace HP := Lib.hid (HP.out.below hb)
      replace HY := Lib.hid (HY.out.below hb HY.out.lt)
      have HQ := Lib.hid ho
      clear ho
      clear hb
      obtain ⟨w6, hw⟩ : ∃ x, x = w5.alloc (Obj.cells #[.slice (some ⟨q3, 0, none⟩) jx.length d3, .slice p4 fs.length d4] 26) := ⟨_, rfl⟩
      have hb : Below w5.heap.size w5 w6 := by rw [hw]; exact (Below.refl _ _).alloc (Nat.le_refl _) _
      have HZ := Lib.hid (show Blk w6 w5.heap.size 26 #[.slice (some ⟨q3, 0, none⟩) jx.length d3, .slice p4 fs.length d4] from by rw [hw]; exact Blk.newest w5 _ _)
      have HW := Lib.hid hw
      clear hw
      replace HB := Lib.hid (HB.out.trans (hb.mono HB.out.size))
      replace HO := Lib.hid (HO.out.below hb)
      replace HX := Lib.hid (HX.out.below hb HX.out.lt)
      replace HP := Lib.hid (HP.out.below hb)
      replace HY := Lib.hid (HY.out.below hb HY.out.lt)
      replace HQ := Lib.hid (HQ.out.below hb)
      clear hb
      go_upto_region 6 with (fail)
      rw [← HW.out]
      clear HW
      have b00 := HY.out.cell 0
      have b01 := HY.out.cell 1
      have b10 := HZ.out.cell 0
      have b11 := HZ.out.cell 1
      go_wp2_with fail
      clear b00 b01 b10 b11
      refine (sameD jx fs _ _ _ _ _ _ _ _ _ _ _ HP.out.od HQ.out.od (by have := (dm_of HJ.out).2.1; omega) (by have := (dm_of HJ.out).2.2.1; omega)).mono ?_
      rintro e w7 ⟨rfl, hb⟩
      replace HB := Lib.hid (HB.out.trans (hb.mono HB.out.size))
      replace HO := Lib.hid (HO.out.below hb)
      replace HX := Lib.hid (HX.out.below hb HX.out.lt)
      replace HP := Lib.hid (HP.out.below hb)
      replace HY := Lib.hid (HY.out.below hb HY.out.lt)
      replace HQ := Lib.hid (HQ.out.below hb)
      replace HZ := Lib.hid (HZ.out.below hb HZ.out.lt)
      clear hb
      have b00 := HX.out.cell 0
      have b01 := HX.out.cell 1
      go_wp2_with fail
      clear b00 b01
      refine (iGet ix es g1 c1 a2 c2 key _ _ HO.out HD.out HK.out HG.out).mono ?_
      rintro e w8 ⟨rfl, hb⟩
      replace HB := Lib.hid (HB.out.trans (hb.mono HB.out.size))
      replace HO := Lib.hid (HO.out.below hb)
      replace HX := Lib.hid (HX.out.below hb HX.out.lt)
      replace HP := Lib.hid (HP.out.below hb)
      replace HY := Lib.hid (HY.out.below hb HY.out.lt)
      replace HQ := Lib.hid (HQ.out.below hb)
      replace HZ := Lib.hid (HZ.out.below hb HZ.out.lt)
      clear hb
      cases th with
      | true =>
        go_wp2_with fail
        go_ret
        exact ⟨rfl, HB.out⟩
      | false =>
        have hnk : key ∉ kyL es := get_false (by rw [HG.out]) HDO.out
        have h5 : kyL fs = kyL es ++ [key] := HR5.out hnk
        obtain ⟨s1, s2, s3, s4, s5⟩ := drop_ok (key := key) HJ.out (by rw [h5]; simp)
        obtain ⟨⟨⟨kx, gs⟩, ok2⟩, hst2⟩ : ∃ R, drV jx fs key = R := ⟨_, rfl⟩
        rw [hst2] at s1 s2 s3 s4 s5
        have HST2 := Lib.hid (show drV jx fs key = ((kx, gs), true) by rw [hst2]; exact congrArg _ s2)
        have HJ2 := Lib.hid (show DOk kx gs from s1)
        have hky : kyL gs = kyL es := by rw [show kyL gs = _ from s4, h5]; exact ky_undo hnk
        have HK0 := Lib.hid (show dkV ix es = kyL es by unfold dkV; rw [if_pos (dok_yes HDO.out)])
        have HK1 := Lib.hid (show dkV kx gs = kyL es by unfold dkV; rw [if_pos (dok_yes HJ2.out)]; exact hky)
        have HL := Lib.hid (show (kyL es).length ≤ 1048576 by rw [ky_len]; have := HDO.out.2.1; omega)
        have HSM := Lib.hid (show sameB kx gs ix es = true from same_of HJ2.out HDO.out (by rw [← ky_len, ← ky_len, hky]) (fun k v h9 => by
          obtain ⟨n1, n2⟩ := (s5 k v).1 h9
          rcases (HR3.out k v).1 n2 with ⟨n3, _⟩ | ⟨_, n4⟩
          · exact absurd n3 n1
          · exact n4))
        clear hnk h5 s1 s2 s3 s4 s5 hst2 hky HR3 HR5 HG
        have b00 := HY.out.cell 0
        have b01 := HY.out.cell 1
        go_wp2_with fail
        clear b00 b01
        refine (iDrop jx fs q1 d1 p2 d2 key _ _ HP.out (dm_of HJ.out) HK.out HST2.out (by have := (dm_of HJ2.out).1; omega)).mono ?_
        rintro e w9 ⟨q5, d5, p6, d6, rfl, ho, hb⟩
        replace HB := Lib.hid (HB.out.trans (hb.mono HB.out.size))
        replace HO := Lib.hid (HO.out.below hb)
        replace HX := Lib.hid (HX.out.below hb HX.out.lt)
        replace HP := Lib.hid (HP.out.below hb)
        replace HY := Lib.hid (HY.out.below hb HY.out.lt)
        replace HQ := Lib.hid (HQ.out.below hb)
        replace HZ := Lib.hid (HZ.out.below hb HZ.out.lt)
        have HR := Lib.hid ho
        clear ho
        clear hb
        obtain ⟨w10, hw⟩ : ∃ x, x = w9.alloc (Obj.cells #[.slice (some ⟨q5, 0, none⟩) kx.length d5, .slice p6 gs.length d6] 26) := ⟨_, rfl⟩
        have hb : Below w9.heap.size w9 w10 := by rw [hw]; exact (Below.refl _ _).alloc (Nat.le_refl _) _
        have HU := Lib.hid (show Blk w10 w9.heap.size 26 #[.slice (some ⟨q5, 0, none⟩) kx.length d5, .slice p6 gs.length d6] from by rw [hw]; exact Blk.newest w9 _ _)
        have HW := Lib.hid hw
        clear hw
        replace HB := Lib.hid (HB.out.trans (hb.mono HB.out.size))
        replace HO := Lib.hid (HO.out.below hb)
        replace HX := Lib.hid (HX.out.below hb HX.out.lt)
        replace HP := Lib.hid (HP.out.below hb)
        replace HY := Lib.hid (HY.out.below hb HY.out.lt)
        replace HQ := Lib.hid (HQ.out.below hb)
        replace HZ := Lib.hid (HZ.out.below hb HZ.out.lt)
        replace HR := Lib.hid (HR.out.below hb)
        clear hb
        go_upto_region 12 with (fail)
        rw [← HW.out]
        clear HW
        skip
        have hb := (Below.refl w10.heap.size w10).drew
        replace HB := Lib.hid (HB.out.trans (hb.mono HB.out.size))
        replace HO := Lib.hid (HO.out.below hb)
        replace HX := Lib.hid (HX.out.below hb HX.out.lt)
        replace HP := Lib.hid (HP.out.below hb)
        replace HY := Lib.hid (HY.out.below hb HY.out.lt)
        replace HQ := Lib.hid (HQ.out.below hb)
        replace HZ := Lib.hid (HZ.out.below hb HZ.out.lt)
        replace HR := Lib.hid (HR.out.below hb)
        replace HU := Lib.hid (HU.out.below hb HU.out.lt)
        clear hb
        go_region_held3 (fun w' => w'.cell? ⟨w1.heap.size, 0, none⟩ = some (.slice (some ⟨g1, 0, none⟩) ix.length c1) ∧ w'.cell? ⟨w1.heap.size, 1, none⟩ = some (.slice a2 es.length c2) ∧ w'.cell? ⟨w9.heap.size, 0, none⟩ = some (.slice (some ⟨q5, 0, none⟩) kx.length d5) ∧ w'.cell? ⟨w9.heap.size, 1, none⟩ = some (.slice p6 gs.length d6))
          (first | exact ⟨HX.out.cell 0, HX.out.cell 1, HU.out.cell 0, HU.out.cell 1⟩)
          (first | (go_at_call 21; refine (iSame kx gs q5 d5 p6 d6 ix es g1 c1 a2 c2 _ _ _ HR.out (dm_of HJ2.out) HO.out HD.out HSM.out).mono ?_; rintro e w11 ⟨rfl, hb⟩; replace HB := Lib.hid (HB.out.trans (hb.mono HB.out.size)); replace HO := Lib.hid (HO.out.below hb); replace HX := Lib.hid (HX.out.below hb HX.out.lt); replace HP := Lib.hid (HP.out.below hb); replace HY := Lib.hid (HY.out.below hb HY.out.lt); replace HQ := Lib.hid (HQ.out.below hb); replace HZ := Lib.hid (HZ.out.below hb HZ.out.lt); replace HR := Lib.hid (HR.out.below hb); replace HU := Lib.hid (HU.out.below hb HU.out.lt); clear hb) | (go_at_call_of 19 (Value.agg #[.slice (some ⟨q5, 0, none⟩) kx.length d5, .slice p6 gs.length d6]); refine (iKeys kx gs q5 d5 p6 d6 _ _ HR.out (dm_of HJ2.out) HK1.out).mono ?_; rintro e w12 ⟨v1, rfl, hl1, hb⟩; replace HB := Lib.hid (HB.out.trans (hb.mono HB.out.size)); replace HO := Lib.hid (HO.out.below hb); replace HX := Lib.hid (HX.out.below hb HX.out.lt); replace HP := Lib.hid (HP.out.below hb); replace HY := Lib.hid (HY.out.below hb HY.out.lt); replace HQ := Lib.hid (HQ.out.below hb); replace HZ := Lib.hid (HZ.out.below hb HZ.out.lt); replace HR := Lib.hid (HR.out.below hb); replace HU := Lib.hid (HU.out.below hb HU.out.lt); have HV1 := Lib.hid hl1; clear hb hl1) | (go_at_call_of 19 (Value.agg #[.slice (some ⟨g1, 0, none⟩) ix.length c1, .slice a2 es.length c2]); refine (iKeys ix es g1 c1 a2 c2 _ _ HO.out HD.out HK0.out).mono ?_; rintro e w13 ⟨v2, rfl, hl2, hb⟩; replace HB := Lib.hid (HB.out.trans (hb.mono HB.out.size)); replace HO := Lib.hid (HO.out.below hb); replace HX := Lib.hid (HX.out.below hb HX.out.lt); replace HP := Lib.hid (HP.out.below hb); replace HY := Lib.hid (HY.out.below hb HY.out.lt); replace HQ := Lib.hid (HQ.out.below hb); replace HZ := Lib.hid (HZ.out.below hb HZ.out.lt); replace HR := Lib.hid (HR.out.below hb); replace HU := Lib.hid (HU.out.below hb HU.out.lt); replace HV1 := Lib.hid (HV1.out.below hb); have HV2 := Lib.hid hl2; clear hb hl2) | (go_at_call 35; refine (sameTexts_rd (kyL es) v1 v2 _ HV1.out.rd HV2.out.rd HL.out).mono ?_; rintro e w14 ⟨rfl, hb⟩; replace HB := Lib.hid (HB.out.trans (hb.mono HB.out.size)); replace HO := Lib.hid (HO.out.below hb); replace HX := Lib.hid (HX.out.below hb HX.out.lt); replace HP := Lib.hid (HP.out.below hb); replace HY := Lib.hid (HY.out.below hb HY.out.lt); replace HQ := Lib.hid (HQ.out.below hb); replace HZ := Lib.hid (HZ.out.below hb HZ.out.lt); replace HR := Lib.hid (HR.out.below hb); replace HU := Lib.hid (HU.out.below hb HU.out.lt); replace HV1 := Lib.hid (HV1.out.below hb); replace HV2 := Lib.hid (HV2.out.below hb); clear hb))
        all_goals (try go_wp2_with fail)
        all_goals go_ret
        all_goals exact ⟨rfl, HB.out⟩
  · have k0 : (1048576 : Int) < (n : Int) := by omega
    clear hcr
    go_enter Try.func14, Try.ntmps14
    go_wp2_with fail
    go_ret
    exact ⟨rfl, Below.refl _ _⟩
end Go.Proofs.Ytibglmcpbbikdaa
