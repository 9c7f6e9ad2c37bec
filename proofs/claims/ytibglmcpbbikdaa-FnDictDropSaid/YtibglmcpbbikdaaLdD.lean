/- The law on DictDrop. -/
import Derived.Test.YtibglmcpbbikdaaDdl
import Derived.Test.YtibglmcpbbikdaaKx
import Derived.Deep.RegionHeld3
namespace Go.Proofs.Ytibglmcpbbikdaa
open Go.RowKit
set_option maxRecDepth 20000 in
set_option maxHeartbeats 8000000 in
theorem fnDictDrop_walk (a : Option Addr) (n cap : Nat) (zs : List Int) (w : World) (h : (a = none ∧ n = 0 ∧ cap = 0 ∧ zs = []) ∨ ∃ x, a = some x ∧ n ≤ cap ∧ cap ≤ maxLen ∧ zs.length = cap ∧ (∀ i, i < zs.length → w.cell? (x.add i) = some (.int .u8 (zs.getD i 0))) ∧ ∀ n ∈ zs, (Lit.int .u8 n).wf = true) :
    Calls Try.prog 8 #[.slice a n cap] w fun e w' => e = .returned (.bool true) ∧ Below w.heap.size w w' := by
  have hcr := cr_of h
  have hcap : n ≤ 9223372036854775807 := by
    rcases h with ⟨_, rfl, _⟩ | ⟨x, _, h1, h2, _⟩
    · omega
    · unfold maxLen at h2; omega
  clear h
  by_cases h0 : n ≤ 1048576
  · have k0 : (n : Int) ≤ 1048576 := by omega
    have HC := Lib.hid (dDictDrop w a n cap hcr)
    clear hcr
    go_enter Try.func8, Try.ntmps8
    go_wp2_with fail
    refine (HC.out).mono ?_
    rintro e w1 ⟨ix, es, g1, c1, a2, c2, key, rfl, hd, hks, ho, hb⟩
    have HB := Lib.hid hb
    have HO := Lib.hid ho
    have HD := Lib.hid hd
    clear HC ho hd
    have HK := Lib.hid (show key.size ≤ 1048576 by omega)
    clear hks
    clear hb
    obtain ⟨w2, hw⟩ : ∃ x, x = w1.alloc (Obj.cells #[.slice (some ⟨g1, 0, none⟩) ix.length c1, .slice a2 es.length c2] 26) := ⟨_, rfl⟩
    have hb : Below w1.heap.size w1 w2 := by rw [hw]; exact (Below.refl _ _).alloc (Nat.le_refl _) _
    have HX := Lib.hid (show Blk w2 w1.heap.size 26 #[.slice (some ⟨g1, 0, none⟩) ix.length c1, .slice a2 es.length c2] from by rw [hw]; exact Blk.newest w1 _ _)
    have HW := Lib.hid hw
    clear hw
    replace HB := Lib.hid (HB.out.trans (hb.mono HB.out.size))
    replace HO := Lib.hid (HO.out.below hb)
    clear hb
    go_upto_region 4 with (fail)
    rw [← HW.out]
    clear HW
    obtain ⟨⟨⟨jx, fs⟩, ok⟩, hst⟩ : ∃ R, drV ix es key = R := ⟨_, rfl⟩
    have HST := Lib.hid hst
    have HLN := Lib.hid (show jx.length ≤ 1048576 ∧ fs.length ≤ 1048576 by have h9 := drV_le (ix := ix) (es := es) (key := key); rw [hst] at h9; exact ⟨by have := h9.1; have := HD.out.2.1; show jx.length ≤ _; have h8 : jx.length ≤ ix.length := h9.1; omega, by have h8 : fs.length ≤ es.length := h9.2; have := HD.out.2.2.1; omega⟩)
    clear hst
    cases ok with
    | false =>
      have HN := Lib.hid (show jx.length ≤ 1048576 ∧ fs.length ≤ 1048576 from HLN.out)
      have b00 := HX.out.cell 0
      have b01 := HX.out.cell 1
      go_wp2_with fail
      clear b00 b01
      refine (iDropX ix es g1 c1 a2 c2 key _ _ HO.out HD.out HK.out HST.out).mono ?_
      rintro e w3 ⟨q1, d1, p2, d2, rfl, ho, hb⟩
      replace HB := Lib.hid (HB.out.trans (hb.mono HB.out.size))
      replace HO := Lib.hid (HO.out.below hb)
      replace HX := Lib.hid (HX.out.below hb HX.out.lt)
      have HP := Lib.hid ho
      clear ho
      clear hb
      obtain ⟨w4, hw⟩ : ∃ x, x = w3.alloc (Obj.cells #[.slice q1 jx.length d1, .slice p2 fs.length d2] 26) := ⟨_, rfl⟩
      have hb : Below w3.heap.size w3 w4 := by rw [hw]; exact (Below.refl _ _).alloc (Nat.le_refl _) _
      have HY := Lib.hid (show Blk w4 w3.heap.size 26 #[.slice q1 jx.length d1, .slice p2 fs.length d2] from by rw [hw]; exact Blk.newest w3 _ _)
      have HW := Lib.hid hw
      clear hw
      replace HB := Lib.hid (HB.out.trans (hb.mono HB.out.size))
      replace HO := Lib.hid (HO.out.below hb)
      replace HX := Lib.hid (HX.out.below hb HX.out.lt)
      replace HP := Lib.hid (HP.out.below hb)
      clear hb
      go_upto_region 5 with (fail)
      rw [← HW.out]
      clear HW
      have b00 := HX.out.cell 0
      have b01 := HX.out.cell 1
      go_wp2_with fail
      clear b00 b01
      refine (sDropX ix es g1 c1 a2 c2 key _ _ HO.out HD.out HK.out HST.out).mono ?_
      rintro e w5 ⟨q3, d3, p4, d4, rfl, ho, hb⟩
      replace HB := Lib.hid (HB.out.trans (hb.mono HB.out.size))
      replace HO := Lib.hid (HO.out.below hb)
      replace HX := Lib.hid (HX.out.below hb HX.out.lt)
      replace HP := Lib.hid (HP.out.below hb)
      replace HY := Lib.hid (HY.out.below hb HY.out.lt)
      have HQ := Lib.hid ho
      clear ho
      clear hb
      obtain ⟨w6, hw⟩ : ∃ x, x = w5.alloc (Obj.cells #[.slice q3 jx.length d3, .slice p4 fs.length d4] 26) := ⟨_, rfl⟩
      have hb : Below w5.heap.size w5 w6 := by rw [hw]; exact (Below.refl _ _).alloc (Nat.le_refl _) _
      have HZ := Lib.hid (show Blk w6 w5.heap.size 26 #[.slice q3 jx.length d3, .slice p4 fs.length d4] from by rw [hw]; exact Blk.newest w5 _ _)
      have HW := Lib.hid hw
      clear hw
      replace HB := Lib.hid (HB.out.trans (hb.mono HB.out.size))
      replace HO := Lib.hid (HO.out.below hb)
      replace HX := Lib.hid (HX.out.below hb HX.out.lt)
      replace HP := Lib.hid (HP.out.below hb)
      replace HY := Lib.hid (HY.out.below hb HY.out.lt)
      replace HQ := Lib.hid (HQ.out.below hb)
      clear hb
      go_upto_region 6 with (fail)
      rw [← HW.out]
      clear HW
      have b00 := HY.out.cell 0
      have b01 := HY.out.cell 1
      have b10 := HZ.out.cell 0
      have b11 := HZ.out.cell 1
      go_wp2_with fail
      clear b00 b01 b10 b11
      refine (sameD jx fs _ _ _ _ _ _ _ _ _ _ _ HP.out HQ.out HN.out.1 HN.out.2).mono ?_
      rintro e w7 ⟨rfl, hb⟩
      replace HB := Lib.hid (HB.out.trans (hb.mono HB.out.size))
      replace HO := Lib.hid (HO.out.below hb)
      replace HX := Lib.hid (HX.out.below hb HX.out.lt)
      replace HP := Lib.hid (HP.out.below hb)
      replace HY := Lib.hid (HY.out.below hb HY.out.lt)
      replace HQ := Lib.hid (HQ.out.below hb)
      replace HZ := Lib.hid (HZ.out.below hb HZ.out.lt)
      clear hb
      go_wp2_with fail
      go_ret
      exact ⟨rfl, HB.out⟩
    | true =>
      obtain ⟨hdo, hkb, hky⟩ := drop_is (ix := ix) (es := es) (key := key) (by rw [HST.out])
      obtain ⟨r1, _, r3, r4, r5⟩ := drop_ok hdo hky
      rw [HST.out] at r1 r3 r4 r5
      have hnk : key ∉ kyL fs := by rw [show kyL fs = _ from r4]; simp
      have hn40 : liveN fs ≠ 40 := by have h8 : liveN fs + 1 = liveN es := r3; have := hdo.2.1; omega
      obtain ⟨s1, s2, s3, _, s5⟩ := set_ok (val := 1) r1 hkb (by decide) (.inr hn40)
      obtain ⟨⟨⟨kx, gs⟩, ok2⟩, hst2⟩ : ∃ R, stV jx fs key 1 = R := ⟨_, rfl⟩
      rw [show stV (jx, fs).1 (jx, fs).2 key 1 = _ from hst2] at s1 s2 s3 s5
      have HST2 := Lib.hid (show stV jx fs key 1 = ((kx, gs), true) by rw [hst2]; exact congrArg _ s2)
      have HJ := Lib.hid (show DOk jx fs from r1)
      have HJ2 := Lib.hid (show DOk kx gs from s1)
      have HGT := Lib.hid (get_not HJ.out hnk)
      have HK0 := Lib.hid (show dkV ix es = kyL es by unfold dkV; rw [if_pos (dok_yes hdo)])
      have HK1 := Lib.hid (show dkV kx gs = kyL fs ++ [key] by unfold dkV; rw [if_pos (dok_yes HJ2.out)]; exact s5 hnk)
      have HDB := Lib.hid (dok_yes HJ.out)
      have HLL := Lib.hid (show (kyL fs ++ [key]).length = (kyL es).length ∧ (kyL es).length ≤ 40 ∧ 0 < (kyL es).length by rw [List.length_append, ky_len, ky_len]; have h8 : liveN fs + 1 = liveN es := r3; have := hdo.2.1; exact ⟨by simpa using h8, by omega, by omega⟩)
      clear hdo hkb hky r1 r3 r4 r5 hnk hn40 s1 s2 s3 s5 hst2
      have b00 := HX.out.cell 0
      have b01 := HX.out.cell 1
      go_wp2_with fail
      clear b00 b01
      refine (iDrop ix es g1 c1 a2 c2 key _ _ HO.out HD.out HK.out HST.out (by have := (dm_of HJ.out).1; omega)).mono ?_
      rintro e w3 ⟨q1, d1, p2, d2, rfl, ho, hb⟩
      replace HB := Lib.hid (HB.out.trans (hb.mono HB.out.size))
      replace HO := Lib.hid (HO.out.below hb)
      replace HX := Lib.hid (HX.out.below hb HX.out.lt)
      have HP := Lib.hid ho
      clear ho
      clear hb
      obtain ⟨w4, hw⟩ : ∃ x, x = w3.alloc (Obj.cells #[.slice (some ⟨q1, 0, none⟩) jx.length d1, .slice p2 fs.length d2] 26) := ⟨_, rfl⟩
      have hb : Below w3.heap.size w3 w4 := by rw [hw]; exact (Below.refl _ _).alloc (Nat.le_refl _) _
      have HY := Lib.hid (show Blk w4 w3.heap.size 26 #[.slice (some ⟨q1, 0, none⟩) jx.length d1, .slice p2 fs.length d2] from by rw [hw]; exact Blk.newest w3 _ _)
      have HW := Lib.hid hw
      clear hw
      replace HB := Lib.hid (HB.out.trans (hb.mono HB.out.size))
      replace HO := Lib.hid (HO.out.below hb)
      replace HX := Lib.hid (HX.out.below hb HX.out.lt)
      replace HP := Lib.hid (HP.out.below hb)
      clear hb
      go_upto_region 5 with (fail)
      rw [← HW.out]
      clear HW
      have b00 := HX.out.cell 0
      have b01 := HX.out.cell 1
      go_wp2_with fail
      clear b00 b01
      refine (sDrop ix es g1 c1 a2 c2 key _ _ HO.out HD.out HK.out HST.out (by have := (dm_of HJ.out).1; omega)).mono ?_
      rintro e w5 ⟨q3, d3, p4, d4, rfl, ho, hb⟩
      replace HB := Lib.hid (HB.out.trans (hb.mono HB.out.size))
      replace HO := Lib.hid (HO.out.below hb)
      replace HX := Lib.hid (HX.out.below hb HX.out.lt)
      replace HP := Lib.hid (HP.out.below hb)
      replace HY := Lib.hid (HY.out.below hb HY.out.lt)
      have HQ := Lib.hid ho
      clear ho
      clear hb
      obtain ⟨w6, hw⟩ : ∃ x, x = w5.alloc (Obj.cells #[.slice (some ⟨q3, 0, none⟩) jx.length d3, .slice p4 fs.length d4] 26) := ⟨_, rfl⟩
      have hb : Below w5.heap.size w5 w6 := by rw [hw]; exact (Below.refl _ _).alloc (Nat.le_refl _) _
      have HZ := Lib.hid (show Blk w6 w5.heap.size 26 #[.slice (some ⟨q3, 0, none⟩) jx.length d3, .slice p4 fs.length d4] from by rw [hw]; exact Blk.newest w5 _ _)
      have HW := Lib.hid hw
      clear hw
      replace HB := Lib.hid (HB.out.trans (hb.mono HB.out.size))
      replace HO := Lib.hid (HO.out.below hb)
      replace HX := Lib.hid (HX.out.below hb HX.out.lt)
      replace HP := Lib.hid (HP.out.below hb)
      replace HY := Lib.hid (HY.out.below hb HY.out.lt)
      replace HQ := Lib.hid (HQ.out.below hb)
      clear hb
      go_upto_region 6 with (fail)
      rw [← HW.out]
      clear HW
      have b00 := HY.out.cell 0
      have b01 := HY.out.cell 1
      have b10 := HZ.out.cell 0
      have b11 := HZ.out.cell 1
      go_wp2_with fail
      clear b00 b01 b10 b11
      refine (sameD jx fs _ _ _ _ _ _ _ _ _ _ _ HP.out.od HQ.out.od (by have := (dm_of HJ.out).2.1; omega) (by have := (dm_of HJ.out).2.2.1; omega)).mono ?_
      rintro e w7 ⟨rfl, hb⟩
      replace HB := Lib.hid (HB.out.trans (hb.mono HB.out.size))
      replace HO := Lib.hid (HO.out.below hb)
      replace HX := Lib.hid (HX.out.below hb HX.out.lt)
      replace HP := Lib.hid (HP.out.below hb)
      replace HY := Lib.hid (HY.out.below hb HY.out.lt)
      replace HQ := Lib.hid (HQ.out.below hb)
      replace HZ := Lib.hid (HZ.out.below hb HZ.out.lt)
      clear hb
      have b00 := HY.out.cell 0
      have b01 := HY.out.cell 1
      go_wp2_with fail
      clear b00 b01
      refine (iGet jx fs q1 d1 p2 d2 key _ _ HP.out (dm_of HJ.out) HK.out HGT.out).mono ?_
      rintro e w8 ⟨rfl, hb⟩
      replace HB := Lib.hid (HB.out.trans (hb.mono HB.out.size))
      replace HO := Lib.hid (HO.out.below hb)
      replace HX := Lib.hid (HX.out.below hb HX.out.lt)
      replace HP := Lib.hid (HP.out.below hb)
      replace HY := Lib.hid (HY.out.below hb HY.out.lt)
      replace HQ := Lib.hid (HQ.out.below hb)
      replace HZ := Lib.hid (HZ.out.below hb HZ.out.lt)
      clear hb
      have b00 := HY.out.cell 0
      have b01 := HY.out.cell 1
      go_wp2_with fail
      clear b00 b01
      refine (iSet jx fs q1 d1 p2 d2 key 1 _ _ HP.out (dm_of HJ.out) HK.out HST2.out (by have := (dm_of HJ2.out).1; omega)).mono ?_
      rintro e w9 ⟨q5, d5, p6, d6, rfl, ho, hb⟩
      replace HB := Lib.hid (HB.out.trans (hb.mono HB.out.size))
      replace HO := Lib.hid (HO.out.below hb)
      replace HX := Lib.hid (HX.out.below hb HX.out.lt)
      replace HP := Lib.hid (HP.out.below hb)
      replace HY := Lib.hid (HY.out.below hb HY.out.lt)
      replace HQ := Lib.hid (HQ.out.below hb)
      replace HZ := Lib.hid (HZ.out.below hb HZ.out.lt)
      have HR := Lib.hid ho
      clear ho
      clear hb
      obtain ⟨w10, hw⟩ : ∃ x, x = w9.alloc (Obj.cells #[.slice (some ⟨q5, 0, none⟩) kx.length d5, .slice p6 gs.length d6] 26) := ⟨_, rfl⟩
      have hb : Below w9.heap.size w9 w10 := by rw [hw]; exact (Below.refl _ _).alloc (Nat.le_refl _) _
      have HW3 := Lib.hid (show Blk w10 w9.heap.size 26 #[.slice (some ⟨q5, 0, none⟩) kx.length d5, .slice p6 gs.length d6] from by rw [hw]; exact Blk.newest w9 _ _)
      have HW := Lib.hid hw
      clear hw
      replace HB := Lib.hid (HB.out.trans (hb.mono HB.out.size))
      replace HO := Lib.hid (HO.out.below hb)
      replace HX := Lib.hid (HX.out.below hb HX.out.lt)
      replace HP := Lib.hid (HP.out.below hb)
      replace HY := Lib.hid (HY.out.below hb HY.out.lt)
      replace HQ := Lib.hid (HQ.out.below hb)
      replace HZ := Lib.hid (HZ.out.below hb HZ.out.lt)
      replace HR := Lib.hid (HR.out.below hb)
      clear hb
      go_upto_region 11 with (fail)
      rw [← HW.out]
      clear HW
      have b00 := HW3.out.cell 0
      have b01 := HW3.out.cell 1
      go_wp2_with fail
      clear b00 b01
      refine (iKeys kx gs q5 d5 p6 d6 _ _ HR.out (dm_of HJ2.out) HK1.out).mono ?_
      rintro e w11 ⟨v1, rfl, hl1, hb⟩
      replace HB := Lib.hid (HB.out.trans (hb.mono HB.out.size))
      replace HO := Lib.hid (HO.out.below hb)
      replace HX := Lib.hid (HX.out.below hb HX.out.lt)
      replace HP := Lib.hid (HP.out.below hb)
      replace HY := Lib.hid (HY.out.below hb HY.out.lt)
      replace HQ := Lib.hid (HQ.out.below hb)
      replace HZ := Lib.hid (HZ.out.below hb HZ.out.lt)
      replace HR := Lib.hid (HR.out.below hb)
      replace HW3 := Lib.hid (HW3.out.below hb HW3.out.lt)
      have HV1 := Lib.hid hl1
      clear hl1
      clear hb
      have b0 := HY.out.cell 0
      have b1 := HY.out.cell 1
      go_wp2_with fail
      refine (iOk jx fs q1 d1 p2 d2 _ _ HP.out (dm_of HJ.out) HDB.out).mono ?_
      rintro e w12 ⟨rfl, hb⟩
      replace HB := Lib.hid (HB.out.trans (hb.mono HB.out.size))
      replace HO := Lib.hid (HO.out.below hb)
      replace HX := Lib.hid (HX.out.below hb HX.out.lt)
      replace HP := Lib.hid (HP.out.below hb)
      replace HY := Lib.hid (HY.out.below hb HY.out.lt)
      replace HQ := Lib.hid (HQ.out.below hb)
      replace HZ := Lib.hid (HZ.out.below hb HZ.out.lt)
      replace HR := Lib.hid (HR.out.below hb)
      replace HW3 := Lib.hid (HW3.out.below hb HW3.out.lt)
      replace HV1 := Lib.hid (HV1.out.below hb)
      clear hb
      obtain ⟨va, vc, rfl, hvc, _, hva⟩ := HV1.out.rd.sub
      obtain ⟨lk, hlk⟩ : ∃ x, x + 1 = (kyL fs ++ [key]).length := ⟨(kyL fs).length, by simp⟩
      have HLK := Lib.hid (show (kyL es).length = lk + 1 by have := HLL.out.1; omega)
      have hl40 : lk ≤ 40 := by have := HLL.out.1; have := HLL.out.2.1; omega
      obtain ⟨xk, rfl, hcell⟩ := hva lk key (by rw [List.getElem?_append_right (by simp at hlk; omega), show lk - (kyL fs).length = 0 by simp at hlk; omega]; rfl)
      rw [← hlk]
      rw [← hlk] at hvc
      clear hva hlk b0 b1
      have c0 := HX.out.cell 0
      have c1' := HX.out.cell 1
      go_wp2_with fail
      refine (iKeys ix es g1 c1 a2 c2 _ _ HO.out HD.out HK0.out).mono ?_
      rintro e w13 ⟨v2, rfl, hl2, hb⟩
      replace HB := Lib.hid (HB.out.trans (hb.mono HB.out.size))
      replace HO := Lib.hid (HO.out.below hb)
      replace HX := Lib.hid (HX.out.below hb HX.out.lt)
      replace HP := Lib.hid (HP.out.below hb)
      replace HY := Lib.hid (HY.out.below hb HY.out.lt)
      replace HQ := Lib.hid (HQ.out.below hb)
      replace HZ := Lib.hid (HZ.out.below hb HZ.out.lt)
      replace HR := Lib.hid (HR.out.below hb)
      replace HW3 := Lib.hid (HW3.out.below hb HW3.out.lt)
      clear hb
      obtain ⟨va2, vc2, rfl, _⟩ := hl2.rd.sub
      rw [HLK.out]
      clear hl2 hcell
      go_wp2_with fail
      go_ret
      exact ⟨rfl, HB.out⟩
  · have k0 : (1048576 : Int) < (n : Int) := by omega
    clear hcr
    go_enter Try.func8, Try.ntmps8
    go_wp2_with fail
    go_ret
    exact ⟨rfl, Below.refl _ _⟩
end Go.Proofs.Ytibglmcpbbikdaa
