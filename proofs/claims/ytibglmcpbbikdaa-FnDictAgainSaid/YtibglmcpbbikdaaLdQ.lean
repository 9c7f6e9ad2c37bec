/- The law on setting again. -/
import Derived.Test.YtibglmcpbbikdaaDdl
import Derived.Test.YtibglmcpbbikdaaKx
import Derived.Deep.RegionHeld3
import Derived.Test.YtibglmcpbbikdaaDag
namespace Go.Proofs.Ytibglmcpbbikdaa
open Go.RowKit
set_option maxRecDepth 20000 in
set_option maxHeartbeats 8000000 in
theorem fnDictAgain_walk (a : Option Addr) (n cap : Nat) (zs : List Int) (w : World) (h : (a = none ∧ n = 0 ∧ cap = 0 ∧ zs = []) ∨ ∃ x, a = some x ∧ n ≤ cap ∧ cap ≤ maxLen ∧ zs.length = cap ∧ (∀ i, i < zs.length → w.cell? (x.add i) = some (.int .u8 (zs.getD i 0))) ∧ ∀ n ∈ zs, (Lit.int .u8 n).wf = true) :
    Calls Try.prog 15 #[.slice a n cap] w fun e w' => e = .returned (.bool true) ∧ Below w.heap.size w w' := by
  have hcr := cr_of h
  have hcap : n ≤ 9223372036854775807 := by
    rcases h with ⟨_, rfl, _⟩ | ⟨x, _, h1, h2, _⟩
    · omega
    · unfold maxLen at h2; omega
  clear h
  by_cases h0 : n ≤ 1048576
  · have k0 : (n : Int) ≤ 1048576 := by omega
    have HC := Lib.hid (dDictSet w a n cap hcr)
    clear hcr
    go_enter Try.func15, Try.ntmps15
    go_wp2_with fail
    refine (HC.out).mono ?_
    rintro e w1 ⟨ix, es, g1, c1, a2, c2, key, val, rfl, hd, hks, hvz, ho, hb⟩
    have HB := Lib.hid hb
    have HO := Lib.hid ho
    have HD := Lib.hid hd
    clear HC ho hd
    have HK := Lib.hid (show key.size ≤ 1048576 by omega)
    clear hks
    clear hb
    obtain ⟨w2, hw⟩ : ∃ x, x = w1.alloc (Obj.cells #[.slice (some ⟨g1, 0, none⟩) ix.length c1, .slice a2 es.length c2] 26) := ⟨_, rfl⟩
    have hb : Below w1.heap.size w1 w2 := by rw [hw]; exact (Below.refl _ _).alloc (Nat.le_refl _) _
    have HX := Lib.hid (show Blk w2 w1.heap.size 26 #[.slice (some ⟨g1, 0, none⟩) ix.length c1, .slice a2 es.length c2] from by rw [hw]; exact Blk.newest w1 _ _)
    have HW := Lib.hid hw
    clear hw
    replace HB := Lib.hid (HB.out.trans (hb.mono HB.out.size))
    replace HO := Lib.hid (HO.out.below hb)
    clear hb
    go_upto_region 4 with (fail)
    rw [← HW.out]
    clear HW
    obtain ⟨⟨⟨jx, fs⟩, ok⟩, hst⟩ : ∃ R, stV ix es key val = R := ⟨_, rfl⟩
    have HST := Lib.hid hst
    have HLN := Lib.hid (show jx.length ≤ 1048576 ∧ fs.length ≤ 1048576 by have h9 := stV_len (ix := ix) (es := es) (key := key) (val := val); rw [hst] at h9; exact ⟨by have h8 : jx.length ≤ 128 := h9.1; omega, by have h8 : fs.length ≤ 200 := h9.2; omega⟩)
    clear hst
    cases ok with
    | false =>
      have HN := Lib.hid (show jx.length ≤ 1048576 ∧ fs.length ≤ 1048576 from HLN.out)
      have b00 := HX.out.cell 0
      have b01 := HX.out.cell 1
      go_wp2_with fail
      clear b00 b01
      refine (iSetX ix es g1 c1 a2 c2 key val _ _ HO.out HD.out HK.out HST.out).mono ?_
      rintro e w3 ⟨q1, d1, p2, d2, rfl, ho, hb⟩
      replace HB := Lib.hid (HB.out.trans (hb.mono HB.out.size))
      replace HO := Lib.hid (HO.out.below hb)
      replace HX := Lib.hid (HX.out.below hb HX.out.lt)
      have HP := Lib.hid ho
      clear ho
      clear hb
      obtain ⟨w4, hw⟩ : ∃ x, x = w3.alloc (Obj.cells #[.slice q1 jx.length d1, .slice p2 fs.length d2] 26) := ⟨_, rfl⟩
      have hb : Below w3.heap.size w3 w4 := by rw [hw]; exact (Below.refl _ _).alloc (Nat.le_refl _) _
      have HY := Lib.hid (show Blk w4 w3.heap.size 26 #[.slice q1 jx.length d1, .slice p2 fs.length d2] from by rw [hw]; exact Blk.newest w3 _ _)
      have HW := Lib.hid hw
      clear hw
      replace HB := Lib.hid (HB.out.trans (hb.mono HB.out.size))
      replace HO := Lib.hid (HO.out.below hb)
      replace HX := Lib.hid (HX.out.below hb HX.out.lt)
      replace HP := Lib.hid (HP.out.below hb)
      clear hb
      go_upto_region 5 with (fail)
      rw [← HW.out]
      clear HW
      have b00 := HX.out.cell 0
      have b01 := HX.out.cell 1
      go_wp2_with fail
      clear b00 b01
      refine (sSetX ix es g1 c1 a2 c2 key val _ _ HO.out HD.out HK.out HST.out).mono ?_
      rintro e w5 ⟨q3, d3, p4, d4, rfl, ho, hb⟩
      replace HB := Lib.hid (HB.out.trans (hb.mono HB.out.size))
      replace HO := Lib.hid (HO.out.below hb)
      replace HX := Lib.hid (HX.out.below hb HX.out.lt)
      replace HP := Lib.hid (HP.out.below hb)
      replace HY := Lib.hid (HY.out.below hb HY.out.lt)
      have HQ := Lib.hid ho
      clear ho
      clear hb
      obtain ⟨w6, hw⟩ : ∃ x, x = w5.alloc (Obj.cells #[.slice q3 jx.length d3, .slice p4 fs.length d4] 26) := ⟨_, rfl⟩
      have hb : Below w5.heap.size w5 w6 := by rw [hw]; exact (Below.refl _ _).alloc (Nat.le_refl _) _
      have HZ := Lib.hid (show Blk w6 w5.heap.size 26 #[.slice q3 jx.length d3, .slice p4 fs.length d4] from by rw [hw]; exact Blk.newest w5 _ _)
      have HW := Lib.hid hw
      clear hw
      replace HB := Lib.hid (HB.out.trans (hb.mono HB.out.size))
      replace HO := Lib.hid (HO.out.below hb)
      replace HX := Lib.hid (HX.out.below hb HX.out.lt)
      replace HP := Lib.hid (HP.out.below hb)
      replace HY := Lib.hid (HY.out.below hb HY.out.lt)
      replace HQ := Lib.hid (HQ.out.below hb)
      clear hb
      go_upto_region 6 with (fail)
      rw [← HW.out]
      clear HW
      have b00 := HY.out.cell 0
      have b01 := HY.out.cell 1
      have b10 := HZ.out.cell 0
      have b11 := HZ.out.cell 1
      go_wp2_with fail
      clear b00 b01 b10 b11
      refine (sameD jx fs _ _ _ _ _ _ _ _ _ _ _ HP.out HQ.out HN.out.1 HN.out.2).mono ?_
      rintro e w7 ⟨rfl, hb⟩
      replace HB := Lib.hid (HB.out.trans (hb.mono HB.out.size))
      replace HO := Lib.hid (HO.out.below hb)
      replace HX := Lib.hid (HX.out.below hb HX.out.lt)
      replace HP := Lib.hid (HP.out.below hb)
      replace HY := Lib.hid (HY.out.below hb HY.out.lt)
      replace HQ := Lib.hid (HQ.out.below hb)
      replace HZ := Lib.hid (HZ.out.below hb HZ.out.lt)
      clear hb
      go_wp2_with fail
      go_ret
      exact ⟨rfl, HB.out⟩
    | true =>
      obtain ⟨hdo, hkb, hov, hcc⟩ := set_is (ix := ix) (es := es) (key := key) (val := val) (by rw [HST.out])
      obtain ⟨r1, _, r3, r4, r5⟩ := set_ok hdo hkb hov hcc
      rw [HST.out] at r1 r3 r4 r5
      have HJ := Lib.hid (show DOk jx fs from r1)
      have HIN := Lib.hid (show key ∈ kyL fs from ky_of_kv ((r3 key val).2 (.inl ⟨rfl, rfl⟩)))
      have HKB := Lib.hid hkb
      obtain ⟨k1, k2⟩ := okV_b hov
      have hwr : IntKind.i64.wrap (val + 1) = val + 1 := by rw [IntKind.wrap_i64]; omega
      have HK2 := Lib.hid (show dkV jx fs = kyL fs by unfold dkV; rw [if_pos (dok_yes HJ.out)])
      have HL := Lib.hid (show (kyL fs).length ≤ 1048576 by rw [ky_len]; have := HJ.out.2.1; omega)
      clear hdo hkb hov hcc r1 r3 r4 r5
      have b00 := HX.out.cell 0
      have b01 := HX.out.cell 1
      go_wp2_with fail
      clear b00 b01
      refine (iSet ix es g1 c1 a2 c2 key val _ _ HO.out HD.out HK.out HST.out (by have := (dm_of HJ.out).1; omega)).mono ?_
      rintro e w3 ⟨q1, d1, p2, d2, rfl, ho, hb⟩
      replace HB := Lib.hid (HB.out.trans (hb.mono HB.out.size))
      replace HO := Lib.hid (HO.out.below hb)
      replace HX := Lib.hid (HX.out.below hb HX.out.lt)
      have HP := Lib.hid ho
      clear ho
      clear hb
      obtain ⟨w4, hw⟩ : ∃ x, x = w3.alloc (Obj.cells #[.slice (some ⟨q1, 0, none⟩) jx.length d1, .slice p2 fs.length d2] 26) := ⟨_, rfl⟩
      have hb : Below w3.heap.size w3 w4 := by rw [hw]; exact (Below.refl _ _).alloc (Nat.le_refl _) _
      have HY := Lib.hid (show Blk w4 w3.heap.size 26 #[.slice (some ⟨q1, 0, none⟩) jx.length d1, .slice p2 fs.length d2] from by rw [hw]; exact Blk.newest w3 _ _)
      have HW := Lib.hid hw
      clear hw
      replace HB := Lib.hid (HB.out.trans (hb.mono HB.out.size))
      replace HO := Lib.hid (HO.out.below hb)
      replace HX := Lib.hid (HX.out.below hb HX.out.lt)
      replace HP := Lib.hid (HP.out.below hb)
      clear hb
      go_upto_region 5 with (fail)
      rw [← HW.out]
      clear HW
      have b00 := HX.out.cell 0
      have b01 := HX.out.cell 1
      go_wp2_with fail
      clear b00 b01
      refine (sSet ix es g1 c1 a2 c2 key val _ _ HO.out HD.out HK.out HST.out (by have := (dm_of HJ.out).1; omega)).mono ?_
      rintro e w5 ⟨q3, d3, p4, d4, rfl, ho, hb⟩
      replace HB := Lib.hid (HB.out.trans (hb.mono HB.out.size))
      replace HO := Lib.hid (HO.out.below hb)
      replace HX := Lib.hid (HX.out.below hb HX.out.lt)
      replace HP := Lib.hid (HP.out.below hb)
      replace HY := Lib.hid (HY.out.below hb HY.out.lt)
      have HQ := Lib.hid ho
      clear ho
      clear hb
      obtain ⟨w6, hw⟩ : ∃ x, x = w5.alloc (Obj.cells #[.slice (some ⟨q3, 0, none⟩) jx.length d3, .slice p4 fs.length d4] 26) := ⟨_, rfl⟩
      have hb : Below w5.heap.size w5 w6 := by rw [hw]; exact (Below.refl _ _).alloc (Nat.le_refl _) _
      have HZ := Lib.hid (show Blk w6 w5.heap.size 26 #[.slice (some ⟨q3, 0, none⟩) jx.length d3, .slice p4 fs.length d4] from by rw [hw]; exact Blk.newest w5 _ _)
      have HW := Lib.hid hw
      clear hw
      replace HB := Lib.hid (HB.out.trans (hb.mono HB.out.size))
      replace HO := Lib.hid (HO.out.below hb)
      replace HX := Lib.hid (HX.out.below hb HX.out.lt)
      replace HP := Lib.hid (HP.out.below hb)
      replace HY := Lib.hid (HY.out.below hb HY.out.lt)
      replace HQ := Lib.hid (HQ.out.below hb)
      clear hb
      go_upto_region 6 with (fail)
      rw [← HW.out]
      clear HW
      have b00 := HY.out.cell 0
      have b01 := HY.out.cell 1
      have b10 := HZ.out.cell 0
      have b11 := HZ.out.cell 1
      go_wp2_with fail
      clear b00 b01 b10 b11
      refine (sameD jx fs _ _ _ _ _ _ _ _ _ _ _ HP.out.od HQ.out.od (by have := (dm_of HJ.out).2.1; omega) (by have := (dm_of HJ.out).2.2.1; omega)).mono ?_
      rintro e w7 ⟨rfl, hb⟩
      replace HB := Lib.hid (HB.out.trans (hb.mono HB.out.size))
      replace HO := Lib.hid (HO.out.below hb)
      replace HX := Lib.hid (HX.out.below hb HX.out.lt)
      replace HP := Lib.hid (HP.out.below hb)
      replace HY := Lib.hid (HY.out.below hb HY.out.lt)
      replace HQ := Lib.hid (HQ.out.below hb)
      replace HZ := Lib.hid (HZ.out.below hb HZ.out.lt)
      clear hb
      obtain ⟨ok2, hov⟩ : ∃ b, okV (val + 1) = b := ⟨_, rfl⟩
      cases ok2 with
      | false =>
        have hgt : decide ((1000000 : Int) < val + 1) = true := decide_eq_true (by unfold okV at hov; have h9 := of_decide_eq_false hov; omega)
        have HOV := Lib.hid hov
        clear hov
        have b00 := HY.out.cell 0
        have b01 := HY.out.cell 1
        go_wp2_with fail
        clear b00 b01
        refine (iSetBig jx.length fs.length key (val + 1) q1 d1 d2 p2 _ HKB.out HOV.out HK.out).mono ?_
        rintro e w8 ⟨rfl, hb⟩
        replace HB := Lib.hid (HB.out.trans (hb.mono HB.out.size))
        replace HO := Lib.hid (HO.out.below hb)
        replace HX := Lib.hid (HX.out.below hb HX.out.lt)
        replace HP := Lib.hid (HP.out.below hb)
        replace HY := Lib.hid (HY.out.below hb HY.out.lt)
        replace HQ := Lib.hid (HQ.out.below hb)
        replace HZ := Lib.hid (HZ.out.below hb HZ.out.lt)
        clear hb
        obtain ⟨w9, hw⟩ : ∃ x, x = w8.alloc (Obj.cells #[.slice none 0 0, .slice none 0 0] 26) := ⟨_, rfl⟩
        have hb : Below w8.heap.size w8 w9 := by rw [hw]; exact (Below.refl _ _).alloc (Nat.le_refl _) _
        have HU := Lib.hid (show Blk w9 w8.heap.size 26 #[.slice none 0 0, .slice none 0 0] from by rw [hw]; exact Blk.newest w8 _ _)
        have HW := Lib.hid hw
        clear hw
        replace HB := Lib.hid (HB.out.trans (hb.mono HB.out.size))
        replace HO := Lib.hid (HO.out.below hb)
        replace HX := Lib.hid (HX.out.below hb HX.out.lt)
        replace HP := Lib.hid (HP.out.below hb)
        replace HY := Lib.hid (HY.out.below hb HY.out.lt)
        replace HQ := Lib.hid (HQ.out.below hb)
        replace HZ := Lib.hid (HZ.out.below hb HZ.out.lt)
        clear hb
        go_upto_region 11 with (fail)
        rw [← HW.out]
        clear HW
        have b00 := HU.out.cell 0
        have b01 := HU.out.cell 1
        go_wp2_with fail
        clear b00 b01
        refine (iGet_nil key _ HKB.out HK.out).mono ?_
        rintro e w10 ⟨rfl, hb⟩
        replace HB := Lib.hid (HB.out.trans (hb.mono HB.out.size))
        replace HO := Lib.hid (HO.out.below hb)
        replace HX := Lib.hid (HX.out.below hb HX.out.lt)
        replace HP := Lib.hid (HP.out.below hb)
        replace HY := Lib.hid (HY.out.below hb HY.out.lt)
        replace HQ := Lib.hid (HQ.out.below hb)
        replace HZ := Lib.hid (HZ.out.below hb HZ.out.lt)
        replace HU := Lib.hid (HU.out.below hb HU.out.lt)
        clear hb
        go_upto_region 12 with (fail)
        go_region
        all_goals (try go_wp2_with fail)
        all_goals go_ret
        all_goals exact ⟨rfl, below_drewN' HB.out⟩
      | true =>
        obtain ⟨gs, s1, s2, s3, s4, s5⟩ := set_old HJ.out hov HIN.out
        have HST2 := Lib.hid s1
        have HJ2 := Lib.hid s2
        have HGT := Lib.hid (get_mem s2 ((s5 key (val + 1)).2 (.inl ⟨rfl, rfl⟩)))
        have HK1 := Lib.hid (show dkV jx gs = kyL fs by unfold dkV; rw [if_pos (dok_yes s2)]; exact s3)
        have hle : ((gs.length : Int) == (fs.length : Int)) = true := by rw [s4]; simp
        clear hov s1 s2 s3 s4 s5
        have b00 := HY.out.cell 0
        have b01 := HY.out.cell 1
        go_wp2_with fail
        clear b00 b01
        refine (iSet jx fs q1 d1 p2 d2 key (val + 1) _ _ HP.out (dm_of HJ.out) HK.out HST2.out (by have := (dm_of HJ.out).1; omega)).mono ?_
        rintro e w8 ⟨q5, d5, p6, d6, rfl, ho, hb⟩
        replace HB := Lib.hid (HB.out.trans (hb.mono HB.out.size))
        replace HO := Lib.hid (HO.out.below hb)
        replace HX := Lib.hid (HX.out.below hb HX.out.lt)
        replace HP := Lib.hid (HP.out.below hb)
        replace HY := Lib.hid (HY.out.below hb HY.out.lt)
        replace HQ := Lib.hid (HQ.out.below hb)
        replace HZ := Lib.hid (HZ.out.below hb HZ.out.lt)
        have HR := Lib.hid ho
        clear ho
        clear hb
        obtain ⟨w9, hw⟩ : ∃ x, x = w8.alloc (Obj.cells #[.slice (some ⟨q5, 0, none⟩) jx.length d5, .slice p6 gs.length d6] 26) := ⟨_, rfl⟩
        have hb : Below w8.heap.size w8 w9 := by rw [hw]; exact (Below.refl _ _).alloc (Nat.le_refl _) _
        have HU := Lib.hid (show Blk w9 w8.heap.size 26 #[.slice (some ⟨q5, 0, none⟩) jx.length d5, .slice p6 gs.length d6] from by rw [hw]; exact Blk.newest w8 _ _)
        have HW := Lib.hid hw
        clear hw
        replace HB := Lib.hid (HB.out.trans (hb.mono HB.out.size))
        replace HO := Lib.hid (HO.out.below hb)
        replace HX := Lib.hid (HX.out.below hb HX.out.lt)
        replace HP := Lib.hid (HP.out.below hb)
        replace HY := Lib.hid (HY.out.below hb HY.out.lt)
        replace HQ := Lib.hid (HQ.out.below hb)
        replace HZ := Lib.hid (HZ.out.below hb HZ.out.lt)
        replace HR := Lib.hid (HR.out.below hb)
        clear hb
        go_upto_region 11 with (fail)
        rw [← HW.out]
        clear HW
        have b00 := HU.out.cell 0
        have b01 := HU.out.cell 1
        go_wp2_with fail
        clear b00 b01
        refine (iGet jx gs q5 d5 p6 d6 key _ _ HR.out (dm_of HJ2.out) HK.out HGT.out).mono ?_
        rintro e w10 ⟨rfl, hb⟩
        replace HB := Lib.hid (HB.out.trans (hb.mono HB.out.size))
        replace HO := Lib.hid (HO.out.below hb)
        replace HX := Lib.hid (HX.out.below hb HX.out.lt)
        replace HP := Lib.hid (HP.out.below hb)
        replace HY := Lib.hid (HY.out.below hb HY.out.lt)
        replace HQ := Lib.hid (HQ.out.below hb)
        replace HZ := Lib.hid (HZ.out.below hb HZ.out.lt)
        replace HR := Lib.hid (HR.out.below hb)
        replace HU := Lib.hid (HU.out.below hb HU.out.lt)
        clear hb
        go_upto_region 12 with (fail)
        have hb := (Below.refl w10.heap.size w10).drew
        replace HB := Lib.hid (HB.out.trans (hb.mono HB.out.size))
        replace HO := Lib.hid (HO.out.below hb)
        replace HX := Lib.hid (HX.out.below hb HX.out.lt)
        replace HP := Lib.hid (HP.out.below hb)
        replace HY := Lib.hid (HY.out.below hb HY.out.lt)
        replace HQ := Lib.hid (HQ.out.below hb)
        replace HZ := Lib.hid (HZ.out.below hb HZ.out.lt)
        replace HR := Lib.hid (HR.out.below hb)
        replace HU := Lib.hid (HU.out.below hb HU.out.lt)
        clear hb
        refine wp_region_held_drew (S := fun w' => w'.cell? ⟨w3.heap.size, 0, none⟩ = some (.slice (some ⟨q1, 0, none⟩) jx.length d1) ∧ w'.cell? ⟨w3.heap.size, 1, none⟩ = some (.slice p2 fs.length d2) ∧ w'.cell? ⟨w8.heap.size, 0, none⟩ = some (.slice (some ⟨q5, 0, none⟩) jx.length d5) ∧ w'.cell? ⟨w8.heap.size, 1, none⟩ = some (.slice p6 gs.length d6)) (by kernel_rfl) ⟨HY.out.cell 0, HY.out.cell 1, HU.out.cell 0, HU.out.cell 1⟩ fun hHeld => ?_
        refine held_want 0 (v := ?_) rfl (by rfl) (by kernel_rfl) (by kernel_rfl) (by kernel_rfl) (fun _ _ _ h => h) ?hy (by assumption) ?_
        case hy => (intro w hSw; (try dsimp only at hSw); unfold Puts; go_simp; first | done | with_reducible rfl)
        (try simp only [Act.put, List.setIfInBounds_toArray, List.set_cons_zero, List.set_cons_succ])
        refine held_want 1 (v := ?_) rfl (by rfl) (by kernel_rfl) (by kernel_rfl) (by kernel_rfl) (fun _ _ _ h => h) ?hy (by assumption) ?_
        case hy => (intro w hSw; (try dsimp only at hSw); unfold Puts; go_simp; first | done | with_reducible rfl)
        (try simp only [Act.put, List.setIfInBounds_toArray, List.set_cons_zero, List.set_cons_succ])
        refine held_want 2 (v := ?_) rfl (by rfl) (by kernel_rfl) (by kernel_rfl) (by kernel_rfl) (fun _ _ _ h => h) ?hy (by assumption) ?_
        case hy => (intro w hSw; (try dsimp only at hSw); unfold Puts; go_simp; first | done | with_reducible rfl)
        (try simp only [Act.put, List.setIfInBounds_toArray, List.set_cons_zero, List.set_cons_succ])
        refine held_skip 3 rfl (by rfl) (by kernel_rfl) (by kernel_rfl) (by kernel_rfl) (fun _ _ _ h => h) (by assumption) ?_
        (try simp only [Act.put, List.setIfInBounds_toArray, List.set_cons_zero, List.set_cons_succ])
        refine held_skip 4 rfl (by rfl) (by kernel_rfl) (by kernel_rfl) (by kernel_rfl) (fun _ _ _ h => h) (by assumption) ?_
        (try simp only [Act.put, List.setIfInBounds_toArray, List.set_cons_zero, List.set_cons_succ])
        refine held_skip 5 rfl (by rfl) (by kernel_rfl) (by kernel_rfl) (by kernel_rfl) (fun _ _ _ h => h) (by assumption) ?_
        (try simp only [Act.put, List.setIfInBounds_toArray, List.set_cons_zero, List.set_cons_succ])
        refine held_want 6 (v := ?_) rfl (by rfl) (by kernel_rfl) (by kernel_rfl) (by kernel_rfl) (fun _ _ _ h => h) ?hy (by assumption) ?_
        case hy => (intro w hSw; (try dsimp only at hSw); unfold Puts; go_simp; first | done | with_reducible rfl)
        (try simp only [Act.put, List.setIfInBounds_toArray, List.set_cons_zero, List.set_cons_succ])
        refine held_want 7 (v := ?_) rfl (by rfl) (by kernel_rfl) (by kernel_rfl) (by kernel_rfl) (fun _ _ _ h => h) ?hy (by assumption) ?_
        case hy => (intro w hSw; (try dsimp only at hSw); unfold Puts; go_simp; first | done | with_reducible rfl)
        (try simp only [Act.put, List.setIfInBounds_toArray, List.set_cons_zero, List.set_cons_succ])
        refine held_want 8 (v := ?_) rfl (by rfl) (by kernel_rfl) (by kernel_rfl) (by kernel_rfl) (fun _ _ _ h => h) ?hy (by assumption) ?_
        case hy => (intro w hSw; (try dsimp only at hSw); unfold Puts; go_simp; first | done | with_reducible rfl)
        (try simp only [Act.put, List.setIfInBounds_toArray, List.set_cons_zero, List.set_cons_succ])
        refine held_want 9 (v := ?_) rfl (by rfl) (by kernel_rfl) (by kernel_rfl) (by kernel_rfl) (fun _ _ _ h => h) ?hy (by assumption) ?_
        case hy => (intro w hSw; (try dsimp only at hSw); unfold Puts; go_simp; first | done | with_reducible rfl)
        (try simp only [Act.put, List.setIfInBounds_toArray, List.set_cons_zero, List.set_cons_succ])
        refine held_want 10 (v := ?_) rfl (by rfl) (by kernel_rfl) (by kernel_rfl) (by kernel_rfl) (fun _ _ _ h => h) ?hy (by assumption) ?_
        case hy => (intro w hSw; (try dsimp only at hSw); unfold Puts; go_simp; first | done | with_reducible rfl)
        (try simp only [Act.put, List.setIfInBounds_toArray, List.set_cons_zero, List.set_cons_succ])
        refine held_want 11 (v := ?_) rfl (by rfl) (by kernel_rfl) (by kernel_rfl) (by kernel_rfl) (fun _ _ _ h => h) ?hy (by assumption) ?_
        case hy => (intro w hSw; (try dsimp only at hSw); unfold Puts; go_simp; first | done | with_reducible rfl)
        (try simp only [Act.put, List.setIfInBounds_toArray, List.set_cons_zero, List.set_cons_succ])
        refine held_want 12 (v := ?_) rfl (by rfl) (by kernel_rfl) (by kernel_rfl) (by kernel_rfl) (fun _ _ _ h => h) ?hy (by assumption) ?_
        case hy => (intro w hSw; (try dsimp only at hSw); unfold Puts; go_simp; first | done | with_reducible rfl)
        (try simp only [Act.put, List.setIfInBounds_toArray, List.set_cons_zero, List.set_cons_succ])
        refine held_want 13 (v := ?_) rfl (by rfl) (by kernel_rfl) (by kernel_rfl) (by kernel_rfl) (fun _ _ _ h => h) ?hy (by assumption) ?_
        case hy => (intro w hSw; (try dsimp only at hSw); unfold Puts; go_simp; first | done | with_reducible rfl)
        (try simp only [Act.put, List.setIfInBounds_toArray, List.set_cons_zero, List.set_cons_succ])
        refine held_want 14 (v := ?_) rfl (by rfl) (by kernel_rfl) (by kernel_rfl) (by kernel_rfl) (fun _ _ _ h => h) ?hy (by assumption) ?_
        case hy => (intro w hSw; (try dsimp only at hSw); unfold Puts; go_simp; first | done | with_reducible rfl)
        (try simp only [Act.put, List.setIfInBounds_toArray, List.set_cons_zero, List.set_cons_succ])
        refine held_want 15 (v := ?_) rfl (by rfl) (by kernel_rfl) (by kernel_rfl) (by kernel_rfl) (fun _ _ _ h => h) ?hy (by assumption) ?_
        case hy => (intro w hSw; (try dsimp only at hSw); unfold Puts; go_simp; first | done | with_reducible rfl)
        (try simp only [Act.put, List.setIfInBounds_toArray, List.set_cons_zero, List.set_cons_succ])
        refine held_want 16 (v := ?_) rfl (by rfl) (by kernel_rfl) (by kernel_rfl) (by kernel_rfl) (fun _ _ _ h => h) ?hy (by assumption) ?_
        case hy => (intro w hSw; (try dsimp only at hSw); unfold Puts; go_simp; first | done | with_reducible rfl)
        (try simp only [Act.put, List.setIfInBounds_toArray, List.set_cons_zero, List.set_cons_succ])
        refine held_want 17 (v := ?_) rfl (by rfl) (by kernel_rfl) (by kernel_rfl) (by kernel_rfl) (fun _ _ _ h => h) ?hy (by assumption) ?_
        case hy => (intro w hSw; (try dsimp only at hSw); unfold Puts; go_simp; first | done | with_reducible rfl)
        (try simp only [Act.put, List.setIfInBounds_toArray, List.set_cons_zero, List.set_cons_succ])
        refine held_want 18 (v := ?_) rfl (by rfl) (by kernel_rfl) (by kernel_rfl) (by kernel_rfl) (fun _ _ _ h => h) ?hy (by assumption) ?_
        case hy => (intro w hSw; (try dsimp only at hSw); unfold Puts; go_simp; first | done | with_reducible rfl)
        (try simp only [Act.put, List.setIfInBounds_toArray, List.set_cons_zero, List.set_cons_succ])
        refine held_want 19 (v := ?_) rfl (by rfl) (by kernel_rfl) (by kernel_rfl) (by kernel_rfl) (fun _ _ _ h => h) ?hy (by assumption) ?_
        case hy => (intro w hSw; (try dsimp only at hSw); unfold Puts; go_simp; first | done | with_reducible rfl)
        (try simp only [Act.put, List.setIfInBounds_toArray, List.set_cons_zero, List.set_cons_succ])
        refine held_want 21 (v := ?_) rfl (by rfl) (by kernel_rfl) (by kernel_rfl) (by kernel_rfl) (fun _ _ _ h => h) ?hy (by assumption) ?_
        case hy => (intro w hSw; (try dsimp only at hSw); unfold Puts; go_simp; first | done | with_reducible rfl)
        (try simp only [Act.put, List.setIfInBounds_toArray, List.set_cons_zero, List.set_cons_succ])
        refine wpAnyH_ready (rs := [20]) (by kernel_rfl) (by simp) ?_
        refine AllReadyH.cons (by rw [List.getElem?_toArray]; exact rfl) (fun K hK => ?_) AllReadyH.nil
        go_simp
        refine (iKeys jx gs q5 d5 p6 d6 _ _ HR.out (dm_of HJ2.out) HK1.out).mono ?_
        rintro e w11 ⟨v1, rfl, hl1, hb⟩
        replace HB := Lib.hid (HB.out.trans (hb.mono HB.out.size))
        replace HO := Lib.hid (HO.out.below hb)
        replace HX := Lib.hid (HX.out.below hb HX.out.lt)
        replace HP := Lib.hid (HP.out.below hb)
        replace HY := Lib.hid (HY.out.below hb HY.out.lt)
        replace HQ := Lib.hid (HQ.out.below hb)
        replace HZ := Lib.hid (HZ.out.below hb HZ.out.lt)
        replace HR := Lib.hid (HR.out.below hb)
        replace HU := Lib.hid (HU.out.below hb HU.out.lt)
        have HV1 := Lib.hid hl1
        clear hb hl1
        (try go_wp2_with fail)
        refine hK.out _ _ ⟨HY.out.cell 0, HY.out.cell 1, HU.out.cell 0, HU.out.cell 1⟩ (fun hHeld => ?_)
        clear hK K
        (try simp only [Act.put, List.setIfInBounds_toArray, List.set_cons_zero, List.set_cons_succ])
        refine wpAnyH_ready (rs := [22]) (by kernel_rfl) (by simp) ?_
        refine AllReadyH.cons (by rw [List.getElem?_toArray]; exact rfl) (fun K hK => ?_) AllReadyH.nil
        go_simp
        refine (iKeys jx fs q1 d1 p2 d2 _ _ HP.out (dm_of HJ.out) HK2.out).mono ?_
        rintro e w12 ⟨v2, rfl, hl2, hb⟩
        replace HB := Lib.hid (HB.out.trans (hb.mono HB.out.size))
        replace HO := Lib.hid (HO.out.below hb)
        replace HX := Lib.hid (HX.out.below hb HX.out.lt)
        replace HP := Lib.hid (HP.out.below hb)
        replace HY := Lib.hid (HY.out.below hb HY.out.lt)
        replace HQ := Lib.hid (HQ.out.below hb)
        replace HZ := Lib.hid (HZ.out.below hb HZ.out.lt)
        replace HR := Lib.hid (HR.out.below hb)
        replace HU := Lib.hid (HU.out.below hb HU.out.lt)
        replace HV1 := Lib.hid (HV1.out.below hb)
        have HV2 := Lib.hid hl2
        clear hb hl2
        (try go_wp2_with fail)
        refine hK.out _ _ ⟨HY.out.cell 0, HY.out.cell 1, HU.out.cell 0, HU.out.cell 1⟩ (fun hHeld => ?_)
        clear hK K
        (try simp only [Act.put, List.setIfInBounds_toArray, List.set_cons_zero, List.set_cons_succ])
        refine wpAnyH_ready (rs := [23]) (by kernel_rfl) (by simp) ?_
        refine AllReadyH.cons (by rw [List.getElem?_toArray]; exact rfl) (fun K hK => ?_) AllReadyH.nil
        go_simp
        refine (sameTexts_rd (kyL fs) v1 v2 _ HV1.out.rd HV2.out.rd HL.out).mono ?_
        rintro e w13 ⟨rfl, hb⟩
        replace HB := Lib.hid (HB.out.trans (hb.mono HB.out.size))
        replace HO := Lib.hid (HO.out.below hb)
        replace HX := Lib.hid (HX.out.below hb HX.out.lt)
        replace HP := Lib.hid (HP.out.below hb)
        replace HY := Lib.hid (HY.out.below hb HY.out.lt)
        replace HQ := Lib.hid (HQ.out.below hb)
        replace HZ := Lib.hid (HZ.out.below hb HZ.out.lt)
        replace HR := Lib.hid (HR.out.below hb)
        replace HU := Lib.hid (HU.out.below hb HU.out.lt)
        replace HV1 := Lib.hid (HV1.out.below hb)
        replace HV2 := Lib.hid (HV2.out.below hb)
        clear hb
        (try go_wp2_with fail)
        refine hK.out _ _ ⟨HY.out.cell 0, HY.out.cell 1, HU.out.cell 0, HU.out.cell 1⟩ (fun hHeld => ?_)
        clear hK K
        (try simp only [Act.put, List.setIfInBounds_toArray, List.set_cons_zero, List.set_cons_succ])
        refine held_want 24 (v := ?_) rfl (by rfl) (by kernel_rfl) (by kernel_rfl) (by kernel_rfl) (fun _ _ _ h => h) ?hy (by assumption) ?_
        case hy => (intro w hSw; (try dsimp only at hSw); unfold Puts; go_simp; first | done | with_reducible rfl)
        (try simp only [Act.put, List.setIfInBounds_toArray, List.set_cons_zero, List.set_cons_succ])
        refine held_want 25 (v := ?_) rfl (by rfl) (by kernel_rfl) (by kernel_rfl) (by kernel_rfl) (fun _ _ _ h => h) ?hy (by assumption) ?_
        case hy => (intro w hSw; (try dsimp only at hSw); unfold Puts; go_simp; first | done | with_reducible rfl)
        (try simp only [Act.put, List.setIfInBounds_toArray, List.set_cons_zero, List.set_cons_succ])
        refine held_want 26 (v := ?_) rfl (by rfl) (by kernel_rfl) (by kernel_rfl) (by kernel_rfl) (fun _ _ _ h => h) ?hy (by assumption) ?_
        case hy => (intro w hSw; (try dsimp only at hSw); unfold Puts; go_simp; first | done | with_reducible rfl)
        (try simp only [Act.put, List.setIfInBounds_toArray, List.set_cons_zero, List.set_cons_succ])
        refine held_want 27 (v := ?_) rfl (by rfl) (by kernel_rfl) (by kernel_rfl) (by kernel_rfl) (fun _ _ _ h => h) ?hy (by assumption) ?_
        case hy => (intro w hSw; (try dsimp only at hSw); unfold Puts; go_simp; first | done | with_reducible rfl)
        (try simp only [Act.put, List.setIfInBounds_toArray, List.set_cons_zero, List.set_cons_succ])
        refine held_want 28 (v := ?_) rfl (by rfl) (by kernel_rfl) (by kernel_rfl) (by kernel_rfl) (fun _ _ _ h => h) ?hy (by assumption) ?_
        case hy => (intro w hSw; (try dsimp only at hSw); unfold Puts; go_simp; first | done | with_reducible rfl)
        (try simp only [Act.put, List.setIfInBounds_toArray, List.set_cons_zero, List.set_cons_succ])
        refine held_want 29 (v := ?_) rfl (by rfl) (by kernel_rfl) (by kernel_rfl) (by kernel_rfl) (fun _ _ _ h => h) ?hy (by assumption) ?_
        case hy => (intro w hSw; (try dsimp only at hSw); unfold Puts; go_simp; first | done | with_reducible rfl)
        (try simp only [Act.put, List.setIfInBounds_toArray, List.set_cons_zero, List.set_cons_succ])
        refine held_want 30 (v := ?_) rfl (by rfl) (by kernel_rfl) (by kernel_rfl) (by kernel_rfl) (fun _ _ _ h => h) ?hy (by assumption) ?_
        case hy => (intro w hSw; (try dsimp only at hSw); unfold Puts; go_simp; first | done | with_reducible rfl)
        (try simp only [Act.put, List.setIfInBounds_toArray, List.set_cons_zero, List.set_cons_succ])
        refine held_want 31 (v := ?_) rfl (by rfl) (by kernel_rfl) (by kernel_rfl) (by kernel_rfl) (fun _ _ _ h => h) ?hy (by assumption) ?_
        case hy => (intro w hSw; (try dsimp only at hSw); unfold Puts; go_simp; first | done | with_reducible rfl)
        (try simp only [Act.put, List.setIfInBounds_toArray, List.set_cons_zero, List.set_cons_succ])
        refine held_want 32 (v := ?_) rfl (by rfl) (by kernel_rfl) (by kernel_rfl) (by kernel_rfl) (fun _ _ _ h => h) ?hy (by assumption) ?_
        case hy => (intro w hSw; (try dsimp only at hSw); unfold Puts; go_simp; first | done | with_reducible rfl)
        (try simp only [Act.put, List.setIfInBounds_toArray, List.set_cons_zero, List.set_cons_succ])
        refine held_want 33 (v := ?_) rfl (by rfl) (by kernel_rfl) (by kernel_rfl) (by kernel_rfl) (fun _ _ _ h => h) ?hy (by assumption) ?_
        case hy => (intro w hSw; (try dsimp only at hSw); unfold Puts; go_simp; first | done | with_reducible rfl)
        (try simp only [Act.put, List.setIfInBounds_toArray, List.set_cons_zero, List.set_cons_succ])
        refine held_want 34 (v := ?_) rfl (by rfl) (by kernel_rfl) (by kernel_rfl) (by kernel_rfl) (fun _ _ _ h => h) ?hy (by assumption) ?_
        case hy => (intro w hSw; (try dsimp only at hSw); unfold Puts; go_simp; first | done | with_reducible rfl)
        (try simp only [Act.put, List.setIfInBounds_toArray, List.set_cons_zero, List.set_cons_succ])
        refine held_want 35 (v := ?_) rfl (by rfl) (by kernel_rfl) (by kernel_rfl) (by kernel_rfl) (fun _ _ _ h => h) ?hy (by assumption) ?_
        case hy => (intro w hSw; (try dsimp only at hSw); unfold Puts; go_simp; first | done | with_reducible rfl)
        (try simp only [Act.put, List.setIfInBounds_toArray, List.set_cons_zero, List.set_cons_succ])
        refine wpAnyH_done (by kernel_rfl) ?_ _
        (try go_wp2_with fail)
        go_ret
        exact ⟨rfl, HB.out⟩
  · have k0 : (1048576 : Int) < (n : Int) := by omega
    clear hcr
    go_enter Try.func15, Try.ntmps15
    go_wp2_with fail
    go_ret
    exact ⟨rfl, Below.refl _ _⟩
end Go.Proofs.Ytibglmcpbbikdaa
