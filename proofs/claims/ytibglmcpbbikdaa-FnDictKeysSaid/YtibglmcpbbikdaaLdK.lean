/- The law on DictKeys. -/
import Derived.Test.YtibglmcpbbikdaaDdl
import Derived.Test.YtibglmcpbbikdaaKx
import Derived.Deep.RegionHeld3
import Derived.Test.YtibglmcpbbikdaaKz
namespace Go.Proofs.Ytibglmcpbbikdaa
open Go.RowKit
set_option maxRecDepth 20000 in
set_option maxHeartbeats 8000000 in
theorem fnDictKeys_walk (a : Option Addr) (n cap : Nat) (zs : List Int) (w : World) (h : (a = none ∧ n = 0 ∧ cap = 0 ∧ zs = []) ∨ ∃ x, a = some x ∧ n ≤ cap ∧ cap ≤ maxLen ∧ zs.length = cap ∧ (∀ i, i < zs.length → w.cell? (x.add i) = some (.int .u8 (zs.getD i 0))) ∧ ∀ n ∈ zs, (Lit.int .u8 n).wf = true) :
    Calls Try.prog 9 #[.slice a n cap] w fun e w' => e = .returned (.bool true) ∧ Below w.heap.size w w' := by
  have hcr := cr_of h
  have hcap : n ≤ 9223372036854775807 := by
    rcases h with ⟨_, rfl, _⟩ | ⟨x, _, h1, h2, _⟩
    · omega
    · unfold maxLen at h2; omega
  clear h
  by_cases h0 : n ≤ 1048576
  · have k0 : (n : Int) ≤ 1048576 := by omega
    have HC := Lib.hid (dDictKeys w a n cap hcr)
    clear hcr
    go_enter Try.func9, Try.ntmps9
    go_wp2_with fail
    refine (HC.out).mono ?_
    rintro e w1 ⟨ix, es, g1, c1, a2, c2, rfl, hd, ho, hb⟩
    have HB := Lib.hid hb
    have HO := Lib.hid ho
    have HD := Lib.hid hd
    clear HC ho hd
    clear hb
    obtain ⟨w2, hw⟩ : ∃ x, x = w1.alloc (Obj.cells #[.slice (some ⟨g1, 0, none⟩) ix.length c1, .slice a2 es.length c2] 26) := ⟨_, rfl⟩
    have hb : Below w1.heap.size w1 w2 := by rw [hw]; exact (Below.refl _ _).alloc (Nat.le_refl _) _
    have HX := Lib.hid (show Blk w2 w1.heap.size 26 #[.slice (some ⟨g1, 0, none⟩) ix.length c1, .slice a2 es.length c2] from by rw [hw]; exact Blk.newest w1 _ _)
    have HW := Lib.hid hw
    clear hw
    replace HB := Lib.hid (HB.out.trans (hb.mono HB.out.size))
    replace HO := Lib.hid (HO.out.below hb)
    clear hb
    go_upto_region 4 with (fail)
    rw [← HW.out]
    clear HW
    obtain ⟨ks, hks⟩ : ∃ x, dkV ix es = x := ⟨_, rfl⟩
    have HK0 := Lib.hid hks
    have HLE := Lib.hid (show ks.length ≤ 1048576 by rw [← hks]; exact dkV_len (by have := HD.out.2.2.1; omega))
    clear hks
    have b00 := HX.out.cell 0
    have b01 := HX.out.cell 1
    go_wp2_with fail
    clear b00 b01
    refine (iKeys ix es g1 c1 a2 c2 _ _ HO.out HD.out HK0.out).mono ?_
    rintro e w3 ⟨v1, rfl, hl1, hb⟩
    replace HB := Lib.hid (HB.out.trans (hb.mono HB.out.size))
    replace HO := Lib.hid (HO.out.below hb)
    replace HX := Lib.hid (HX.out.below hb HX.out.lt)
    have HV1 := Lib.hid hl1
    clear hl1
    clear hb
    have b00 := HX.out.cell 0
    have b01 := HX.out.cell 1
    go_wp2_with fail
    clear b00 b01
    refine (sKeys ix es g1 c1 a2 c2 _ _ HO.out HD.out HK0.out).mono ?_
    rintro e w4 ⟨v2, rfl, hl2, hb⟩
    replace HB := Lib.hid (HB.out.trans (hb.mono HB.out.size))
    replace HO := Lib.hid (HO.out.below hb)
    replace HX := Lib.hid (HX.out.below hb HX.out.lt)
    replace HV1 := Lib.hid (HV1.out.below hb)
    have HV2 := Lib.hid hl2
    clear hl2
    clear hb
    go_wp2_with fail
    refine (sameTexts_rd ks v1 v2 _ HV1.out.rd HV2.out.rd HLE.out).mono ?_
    rintro e w5 ⟨rfl, hb⟩
    replace HB := Lib.hid (HB.out.trans (hb.mono HB.out.size))
    replace HO := Lib.hid (HO.out.below hb)
    replace HX := Lib.hid (HX.out.below hb HX.out.lt)
    replace HV1 := Lib.hid (HV1.out.below hb)
    replace HV2 := Lib.hid (HV2.out.below hb)
    clear hb
    obtain ⟨va, vc, rfl, hvc, _, _⟩ := HV1.out.rd.sub
    obtain ⟨lk, hlk⟩ : ∃ x, x = (ks).length := ⟨_, rfl⟩
    have HLK := Lib.hid hlk
    rw [← hlk] at hvc
    rw [← hlk]
    by_cases hz0 : lk = 0
    · have hz : ((lk : Int) == 0) = true := beq_iff_eq.2 (by omega)
      clear hlk hz0
      go_wp2_with fail
      go_ret
      exact ⟨rfl, HB.out⟩
    · have hz : ((lk : Int) == 0) = false := beq_eq_false_iff_ne.2 (by omega)
      have hdo : DOk ix es := by
        apply Classical.byContradiction
        intro h9
        have h8 := HK0.out
        unfold dkV at h8
        rw [dok_no h9] at h8
        exact hz0 (by rw [hlk, ← h8]; rfl)
      have HJO := Lib.hid hdo
      have HKY := Lib.hid (show ks = kyL es by have h8 := HK0.out; unfold dkV at h8; rw [if_pos (dok_yes hdo)] at h8; exact h8.symm)
      have hl40 : lk ≤ 40 := by rw [hlk, HKY.out, ky_len]; exact hdo.2.1
      clear hdo hz0 hlk
      go_wp2_with fail
      go_loopw [7] (fun i wr => ∃ k : Nat, k ≤ lk ∧ i = .int .i64 (k : Int) ∧ Hid (Below w.heap.size w wr) ∧ Hid (OwD wr w.heap.size ix es g1 c1 a2 c2) ∧ Hid (Blk wr w1.heap.size 26 #[.slice (some ⟨g1, 0, none⟩) ix.length c1, .slice a2 es.length c2]) ∧ Hid (OwT wr w2.heap.size (.slice va ks.length vc) ks)) (fun i _ => lk - (intOf i).toNat)
      case atStart => exact ⟨0, by omega, rfl, HB, HO, HX, HV1⟩
      case round =>
        obtain ⟨k, hk, rfl, HB, HO, HX, HV1⟩ := hrel
        by_cases hlt : k < lk
        · skip
          obtain ⟨s, hs⟩ : ∃ s, (ks)[k]? = some s := ⟨(ks)[k]'(by have := HLK.out; omega), List.getElem?_eq_getElem _⟩
          obtain ⟨xk, hxa, hcell⟩ := rdT_at HV1.out.rd k s hs
          subst hxa
          have HCL := Lib.hid (fun w' (hb : Below wr.heap.size wr w') => show w'.cell? (xk.add k) = some (.string s) by rw [hb.cell (World.block_lt_of_cell? _ _ hcell)]; exact hcell)
          have HSM := Lib.hid (List.mem_of_getElem? hs)
          have HSK := Lib.hid hs
          have k1 : (k : Int) < (lk : Int) := by omega
          have k0 : 0 ≤ (k : Int) := by omega
          clear hs hcell
          have HBW := Lib.hid (Below.refl wr.heap.size wr)
          obtain ⟨u, hu⟩ := kv_of_ky (show s ∈ kyL es from HKY.out ▸ HSM.out)
          have HG := Lib.hid (get_mem HJO.out hu)
          have HKS := Lib.hid (key_le HJO.out (show s ∈ kyL es from HKY.out ▸ HSM.out))
          clear hu
          have HNT := Lib.hid (nodup_take (show ks.Nodup by rw [HKY.out]; exact once_nodup (once_of HJO.out)) HSK.out)
          have HKL := Lib.hid (show k ≤ ks.length by have := HLK.out; omega)
          have k2 : (k : Int) ≤ (vc : Int) := by omega
          have k3 : k ≤ vc := by omega
          go_wp2_with fail
          skip
          have hb := (Below.refl wr.heap.size wr).drew
          replace HB := Lib.hid (HB.out.trans (hb.mono HB.out.size))
          replace HO := Lib.hid (HO.out.below hb)
          replace HX := Lib.hid (HX.out.below hb HX.out.lt)
          replace HV1 := Lib.hid (HV1.out.below hb)
          replace HBW := Lib.hid (HBW.out.trans (hb.mono HBW.out.size))
          clear hb
          go_region_held3 (fun w' => w'.cell? ⟨w1.heap.size, 0, none⟩ = some (.slice (some ⟨g1, 0, none⟩) ix.length c1) ∧ w'.cell? ⟨w1.heap.size, 1, none⟩ = some (.slice a2 es.length c2) ∧ w'.cell? (xk.add k) = some (.string s))
            (first | exact ⟨HX.out.cell 0, HX.out.cell 1, HCL.out _ HBW.out⟩)
            (first | (go_at_call 20; refine (iGet ix es g1 c1 a2 c2 s _ _ HO.out HD.out HKS.out HG.out).mono ?_; rintro e w6 ⟨rfl, hb⟩; replace HB := Lib.hid (HB.out.trans (hb.mono HB.out.size)); replace HO := Lib.hid (HO.out.below hb); replace HX := Lib.hid (HX.out.below hb HX.out.lt); replace HV1 := Lib.hid (HV1.out.below hb); replace HBW := Lib.hid (HBW.out.trans (hb.mono HBW.out.size)); clear hb))
          go_upto_region 13 with (fail)
          skip
          have hb := (Below.refl w6.heap.size w6).drew
          replace HB := Lib.hid (HB.out.trans (hb.mono HB.out.size))
          replace HO := Lib.hid (HO.out.below hb)
          replace HX := Lib.hid (HX.out.below hb HX.out.lt)
          replace HV1 := Lib.hid (HV1.out.below hb)
          replace HBW := Lib.hid (HBW.out.trans (hb.mono HBW.out.size))
          clear hb
          go_region_held3 (fun w' => w'.cell? ⟨w1.heap.size, 0, none⟩ = some (.slice (some ⟨g1, 0, none⟩) ix.length c1) ∧ w'.cell? ⟨w1.heap.size, 1, none⟩ = some (.slice a2 es.length c2) ∧ w'.cell? (xk.add k) = some (.string s))
            (first | exact ⟨HX.out.cell 0, HX.out.cell 1, HCL.out _ HBW.out⟩)
            (first | (go_at_call 31; refine (isOneB (ks.take k) s false (by simp [HNT.out]) (.slice (some xk) k vc) _ (rdT_take HV1.out.rd HKL.out) (by rw [List.length_take]; have := HLE.out; omega)).mono ?_; rintro e w7 ⟨rfl, hb⟩; replace HB := Lib.hid (HB.out.trans (hb.mono HB.out.size)); replace HO := Lib.hid (HO.out.below hb); replace HX := Lib.hid (HX.out.below hb HX.out.lt); replace HV1 := Lib.hid (HV1.out.below hb); replace HBW := Lib.hid (HBW.out.trans (hb.mono HBW.out.size)); clear hb))
          go_wp2_with fail
          go_roundw
          case rel => exact ⟨k + 1, by omega, by go_num, HB, HO, HX, HV1⟩
          case measure => simp [intOf]; try omega
        · obtain rfl : k = lk := by omega
          clear hlt
          have hl4 : (k : Int) ≤ 40 := by omega
          go_wp2_with fail
          go_ret
          exact ⟨rfl, HB.out⟩
  · have k0 : (1048576 : Int) < (n : Int) := by omega
    clear hcr
    go_enter Try.func9, Try.ntmps9
    go_wp2_with fail
    go_ret
    exact ⟨rfl, Below.refl _ _⟩
end Go.Proofs.Ytibglmcpbbikdaa
