/- The law on DictOk. -/
import Derived.Test.YtibglmcpbbikdaaDdl
import Derived.Test.YtibglmcpbbikdaaKx
import Derived.Deep.RegionHeld3
import Derived.Test.YtibglmcpbbikdaaKz
namespace Go.Proofs.Ytibglmcpbbikdaa
open Go.RowKit
set_option maxRecDepth 20000 in
set_option maxHeartbeats 8000000 in
theorem fnDictOk_walk (a : Option Addr) (n cap : Nat) (zs : List Int) (w : World) (h : (a = none ∧ n = 0 ∧ cap = 0 ∧ zs = []) ∨ ∃ x, a = some x ∧ n ≤ cap ∧ cap ≤ maxLen ∧ zs.length = cap ∧ (∀ i, i < zs.length → w.cell? (x.add i) = some (.int .u8 (zs.getD i 0))) ∧ ∀ n ∈ zs, (Lit.int .u8 n).wf = true) :
    Calls Try.prog 3 #[.slice a n cap] w fun e w' => e = .returned (.bool true) ∧ Below w.heap.size w w' := by
  have hcr := cr_of h
  have hcap : n ≤ 9223372036854775807 := by
    rcases h with ⟨_, rfl, _⟩ | ⟨x, _, h1, h2, _⟩
    · omega
    · unfold maxLen at h2; omega
  clear h
  by_cases h0 : n ≤ 1048576
  · have k0 : (n : Int) ≤ 1048576 := by omega
    have HC := Lib.hid (dDictOk w a n cap hcr)
    clear hcr
    go_enter Try.func3, Try.ntmps3
    go_wp2_with fail
    refine (HC.out).mono ?_
    rintro e w1 ⟨ix, es, g1, c1, a2, c2, rfl, hd, ho, hb⟩
    have HB := Lib.hid hb
    have HO := Lib.hid ho
    have HD := Lib.hid hd
    clear HC ho hd
    clear hb
    obtain ⟨w2, hw⟩ : ∃ x, x = w1.alloc (Obj.cells #[.slice (some ⟨g1, 0, none⟩) ix.length c1, .slice a2 es.length c2] 26) := ⟨_, rfl⟩
    have hb : Below w1.heap.size w1 w2 := by rw [hw]; exact (Below.refl _ _).alloc (Nat.le_refl _) _
    have HX := Lib.hid (show Blk w2 w1.heap.size 26 #[.slice (some ⟨g1, 0, none⟩) ix.length c1, .slice a2 es.length c2] from by rw [hw]; exact Blk.newest w1 _ _)
    have HW := Lib.hid hw
    clear hw
    replace HB := Lib.hid (HB.out.trans (hb.mono HB.out.size))
    replace HO := Lib.hid (HO.out.below hb)
    clear hb
    go_upto_region 4 with (fail)
    rw [← HW.out]
    clear HW
    obtain ⟨ok, hok⟩ : ∃ b, dokB ix es = b := ⟨_, rfl⟩
    have HOK := Lib.hid hok
    clear hok
    have b00 := HX.out.cell 0
    have b01 := HX.out.cell 1
    go_wp2_with fail
    clear b00 b01
    refine (iOk ix es g1 c1 a2 c2 _ _ HO.out HD.out HOK.out).mono ?_
    rintro e w3 ⟨rfl, hb⟩
    replace HB := Lib.hid (HB.out.trans (hb.mono HB.out.size))
    replace HO := Lib.hid (HO.out.below hb)
    replace HX := Lib.hid (HX.out.below hb HX.out.lt)
    clear hb
    have b00 := HX.out.cell 0
    have b01 := HX.out.cell 1
    go_wp2_with fail
    clear b00 b01
    refine (sOk ix es g1 c1 a2 c2 _ _ HO.out HD.out HOK.out).mono ?_
    rintro e w4 ⟨rfl, hb⟩
    replace HB := Lib.hid (HB.out.trans (hb.mono HB.out.size))
    replace HO := Lib.hid (HO.out.below hb)
    replace HX := Lib.hid (HX.out.below hb HX.out.lt)
    clear hb
    cases ok with
    | false =>
      go_wp2_with fail
      go_ret
      exact ⟨rfl, HB.out⟩
    | true =>
      have HJO := Lib.hid (dok_of HOK.out)
      have HK0 := Lib.hid (show dkV ix es = kyL es by unfold dkV; rw [if_pos HOK.out])
      have b00 := HX.out.cell 0
      have b01 := HX.out.cell 1
      go_wp2_with fail
      clear b00 b01
      refine (iKeys ix es g1 c1 a2 c2 _ _ HO.out HD.out HK0.out).mono ?_
      rintro e w5 ⟨v1, rfl, hl1, hb⟩
      replace HB := Lib.hid (HB.out.trans (hb.mono HB.out.size))
      replace HO := Lib.hid (HO.out.below hb)
      replace HX := Lib.hid (HX.out.below hb HX.out.lt)
      have HV1 := Lib.hid hl1
      clear hl1
      clear hb
      obtain ⟨va, vc, rfl, hvc, _, _⟩ := HV1.out.rd.sub
      obtain ⟨lk, hlk⟩ : ∃ x, x = (kyL es).length := ⟨_, rfl⟩
      have HLK := Lib.hid hlk
      rw [← hlk] at hvc
      rw [← hlk]
      have hl40 : lk ≤ 40 := by rw [hlk, ky_len]; exact HJO.out.2.1
      clear hlk
      go_wp2_with fail
      go_loopw [8] (fun i wr => ∃ k : Nat, k ≤ lk ∧ i = .int .i64 (k : Int) ∧ Hid (Below w.heap.size w wr) ∧ Hid (OwD wr w.heap.size ix es g1 c1 a2 c2) ∧ Hid (Blk wr w1.heap.size 26 #[.slice (some ⟨g1, 0, none⟩) ix.length c1, .slice a2 es.length c2]) ∧ Hid (OwT wr w4.heap.size (.slice va (kyL es).length vc) (kyL es))) (fun i _ => lk - (intOf i).toNat)
      case atStart => exact ⟨0, by omega, rfl, HB, HO, HX, HV1⟩
      case round =>
        obtain ⟨k, hk, rfl, HB, HO, HX, HV1⟩ := hrel
        by_cases hlt : k < lk
        · skip
          obtain ⟨s, hs⟩ : ∃ s, (kyL es)[k]? = some s := ⟨(kyL es)[k]'(by have := HLK.out; omega), List.getElem?_eq_getElem _⟩
          obtain ⟨xk, hxa, hcell⟩ := rdT_at HV1.out.rd k s hs
          subst hxa
          have HCL := Lib.hid (fun w' (hb : Below wr.heap.size wr w') => show w'.cell? (xk.add k) = some (.string s) by rw [hb.cell (World.block_lt_of_cell? _ _ hcell)]; exact hcell)
          have HSM := Lib.hid (List.mem_of_getElem? hs)
          have HSK := Lib.hid hs
          have k1 : (k : Int) < (lk : Int) := by omega
          have k0 : 0 ≤ (k : Int) := by omega
          clear hs hcell
          have HBW := Lib.hid (Below.refl wr.heap.size wr)
          obtain ⟨u, hu⟩ := kv_of_ky HSM.out
          have HG := Lib.hid (get_mem HJO.out hu)
          have HKS := Lib.hid (key_le HJO.out HSM.out)
          clear hu
          go_wp2_with fail
          skip
          have hb := (Below.refl wr.heap.size wr).drew
          replace HB := Lib.hid (HB.out.trans (hb.mono HB.out.size))
          replace HO := Lib.hid (HO.out.below hb)
          replace HX := Lib.hid (HX.out.below hb HX.out.lt)
          replace HV1 := Lib.hid (HV1.out.below hb)
          replace HBW := Lib.hid (HBW.out.trans (hb.mono HBW.out.size))
          clear hb
          go_region_held3 (fun w' => w'.cell? ⟨w1.heap.size, 0, none⟩ = some (.slice (some ⟨g1, 0, none⟩) ix.length c1) ∧ w'.cell? ⟨w1.heap.size, 1, none⟩ = some (.slice a2 es.length c2) ∧ w'.cell? (xk.add k) = some (.string s))
            (first | exact ⟨HX.out.cell 0, HX.out.cell 1, HCL.out _ HBW.out⟩)
            (first | (go_at_call 20; refine (iGet ix es g1 c1 a2 c2 s _ _ HO.out HD.out HKS.out HG.out).mono ?_; rintro e w6 ⟨rfl, hb⟩; replace HB := Lib.hid (HB.out.trans (hb.mono HB.out.size)); replace HO := Lib.hid (HO.out.below hb); replace HX := Lib.hid (HX.out.below hb HX.out.lt); replace HV1 := Lib.hid (HV1.out.below hb); replace HBW := Lib.hid (HBW.out.trans (hb.mono HBW.out.size)); clear hb))
          go_wp2_with fail
          go_roundw
          case rel => exact ⟨k + 1, by omega, by go_num, HB, HO, HX, HV1⟩
          case measure => simp [intOf]; try omega
        · obtain rfl : k = lk := by omega
          clear hlt
          obtain ⟨r1, r2⟩ := pack_ok HJO.out
          obtain ⟨⟨jx, fs⟩, hst⟩ : ∃ R, pkV ix es = R := ⟨_, rfl⟩
          rw [hst] at r1 r2
          have HST := Lib.hid hst
          have HJ := Lib.hid (show DOk jx fs from r1)
          have HDB := Lib.hid (show dokB jx fs = true from dok_yes r1)
          have HSM := Lib.hid (show sameB ix es jx fs = true from same_of HJO.out r1 (by show _ = liveN fs; rw [show fs = _ from r2, liveN_live]) (fun k v h9 => by rw [show fs = _ from r2, kv_live]; exact h9))
          clear r1 r2 hst
          go_upto_region 16 with (fail)
          have HMK := Lib.hid True.intro
          skip
          have hb := (Below.refl wr.heap.size wr).drew
          replace HB := Lib.hid (HB.out.trans (hb.mono HB.out.size))
          replace HO := Lib.hid (HO.out.below hb)
          replace HX := Lib.hid (HX.out.below hb HX.out.lt)
          replace HV1 := Lib.hid (HV1.out.below hb)
          clear hb
          go_region_held3 (fun w' => w'.cell? ⟨w1.heap.size, 0, none⟩ = some (.slice (some ⟨g1, 0, none⟩) ix.length c1) ∧ w'.cell? ⟨w1.heap.size, 1, none⟩ = some (.slice a2 es.length c2))
            (first | exact ⟨HX.out.cell 0, HX.out.cell 1⟩)
            (first | (clear HMK; go_at_call 22; refine (iPack ix es g1 c1 a2 c2 _ _ HO.out HD.out HST.out (by have := (dm_of HJ.out).1; omega)).mono ?_; rintro e w6 ⟨q1, d1, p2, d2, rfl, ho5, hb⟩; replace HB := Lib.hid (HB.out.trans (hb.mono HB.out.size)); replace HO := Lib.hid (HO.out.below hb); replace HX := Lib.hid (HX.out.below hb HX.out.lt); replace HV1 := Lib.hid (HV1.out.below hb); have HP := Lib.hid ho5; clear hb ho5) | (go_at_call 21; refine (iSame ix es g1 c1 a2 c2 jx fs q1 d1 p2 d2 _ _ _ HO.out HD.out HP.out (dm_of HJ.out) HSM.out).mono ?_; rintro e w7 ⟨rfl, hb⟩; replace HB := Lib.hid (HB.out.trans (hb.mono HB.out.size)); replace HO := Lib.hid (HO.out.below hb); replace HX := Lib.hid (HX.out.below hb HX.out.lt); replace HV1 := Lib.hid (HV1.out.below hb); replace HP := Lib.hid (HP.out.below hb); clear hb) | (go_at_call 22; refine (iPack ix es g1 c1 a2 c2 _ _ HO.out HD.out HST.out (by have := (dm_of HJ.out).1; omega)).mono ?_; rintro e w8 ⟨q3, d3, p4, d4, rfl, ho6, hb⟩; replace HB := Lib.hid (HB.out.trans (hb.mono HB.out.size)); replace HO := Lib.hid (HO.out.below hb); replace HX := Lib.hid (HX.out.below hb HX.out.lt); replace HV1 := Lib.hid (HV1.out.below hb); replace HP := Lib.hid (HP.out.below hb); have HQ := Lib.hid ho6; clear hb ho6) | (go_at_call 17; refine (iOk jx fs q3 d3 p4 d4 _ _ HQ.out (dm_of HJ.out) HDB.out).mono ?_; rintro e w9 ⟨rfl, hb⟩; replace HB := Lib.hid (HB.out.trans (hb.mono HB.out.size)); replace HO := Lib.hid (HO.out.below hb); replace HX := Lib.hid (HX.out.below hb HX.out.lt); replace HV1 := Lib.hid (HV1.out.below hb); replace HP := Lib.hid (HP.out.below hb); replace HQ := Lib.hid (HQ.out.below hb); clear hb))
          all_goals (try go_wp2_with fail)
          all_goals go_ret
          all_goals exact ⟨rfl, HB.out⟩
  · have k0 : (1048576 : Int) < (n : Int) := by omega
    clear hcr
    go_enter Try.func3, Try.ntmps3
    go_wp2_with fail
    go_ret
    exact ⟨rfl, Below.refl _ _⟩
end Go.Proofs.Ytibglmcpbbikdaa
