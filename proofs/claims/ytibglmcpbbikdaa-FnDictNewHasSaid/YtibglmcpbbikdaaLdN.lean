/- The law on DictNew. -/
import Derived.Test.YtibglmcpbbikdaaDdl
import Derived.Test.YtibglmcpbbikdaaKx
import Derived.Deep.RegionHeld3
import Derived.Test.YtibglmcpbbikdaaDnx
namespace Go.Proofs.Ytibglmcpbbikdaa
open Go.RowKit
set_option maxRecDepth 20000 in
set_option maxHeartbeats 8000000 in
theorem fnDictNewHas_walk (a : Option Addr) (n cap : Nat) (zs : List Int) (w : World) (h : (a = none ∧ n = 0 ∧ cap = 0 ∧ zs = []) ∨ ∃ x, a = some x ∧ n ≤ cap ∧ cap ≤ maxLen ∧ zs.length = cap ∧ (∀ i, i < zs.length → w.cell? (x.add i) = some (.int .u8 (zs.getD i 0))) ∧ ∀ n ∈ zs, (Lit.int .u8 n).wf = true) :
    Calls Try.prog 11 #[.slice a n cap] w fun e w' => e = .returned (.bool true) ∧ Below w.heap.size w w' := by
  have hcr := cr_of h
  have hcap : n ≤ 9223372036854775807 := by
    rcases h with ⟨_, rfl, _⟩ | ⟨x, _, h1, h2, _⟩
    · omega
    · unfold maxLen at h2; omega
  clear h
  by_cases h0 : n ≤ 1048576
  · have k0 : (n : Int) ≤ 1048576 := by omega
    have HCR := Lib.hid hcr
    clear hcr
    go_enter Try.func11, Try.ntmps11
    go_wp2_with fail
    obtain ⟨nx, hnx⟩ : ∃ x : List Int, x = List.replicate 8 (-1) := ⟨_, rfl⟩
    obtain ⟨ne, hne⟩ : ∃ x : List Ent, x = [] := ⟨_, rfl⟩
    have HJ := Lib.hid (show DOk nx ne by rw [hnx, hne]; exact new_ok)
    have HNX := Lib.hid hnx
    have HNE := Lib.hid hne
    clear hnx hne
    refine (iNew nx ne HNX.out HNE.out _).mono ?_
    rintro e w1 ⟨q1, rfl, ho, hb⟩
    replace HCR := Lib.hid (cr_below HCR.out hb)
    have HB := Lib.hid hb
    have HO := Lib.hid ho
    clear ho
    clear hb
    obtain ⟨w2, hw⟩ : ∃ x, x = w1.alloc (Obj.cells #[.slice (some ⟨q1, 0, none⟩) nx.length 8, .slice none ne.length 0] 26) := ⟨_, rfl⟩
    have hb : Below w1.heap.size w1 w2 := by rw [hw]; exact (Below.refl _ _).alloc (Nat.le_refl _) _
    have HX := Lib.hid (show Blk w2 w1.heap.size 26 #[.slice (some ⟨q1, 0, none⟩) nx.length 8, .slice none ne.length 0] from by rw [hw]; exact Blk.newest w1 _ _)
    have HW := Lib.hid hw
    clear hw
    replace HCR := Lib.hid (cr_below HCR.out hb)
    replace HB := Lib.hid (HB.out.trans (hb.mono HB.out.size))
    replace HO := Lib.hid (HO.out.below hb)
    clear hb
    go_upto_region 4 with (fail)
    rw [← HW.out]
    clear HW
    go_wp2_with fail
    refine (dDictGet w2 a n cap HCR.out).mono ?_
    rintro e w3 ⟨jx9, fs9, q9, d9, p9, e9, key, rfl, _, hko, _, hb⟩
    replace HCR := Lib.hid (cr_below HCR.out hb)
    replace HB := Lib.hid (HB.out.trans (hb.mono HB.out.size))
    replace HO := Lib.hid (HO.out.below hb)
    replace HX := Lib.hid (HX.out.below hb HX.out.lt)
    have HK := Lib.hid (show key.size ≤ 1048576 by omega)
    clear hko
    clear hb
    obtain ⟨w4, hw⟩ : ∃ x, x = w3.alloc (Obj.cells #[.slice (some ⟨q9, 0, none⟩) jx9.length d9, .slice p9 fs9.length e9] 26) := ⟨_, rfl⟩
    have hb : Below w3.heap.size w3 w4 := by rw [hw]; exact (Below.refl _ _).alloc (Nat.le_refl _) _
    have H9 := Lib.hid (show Blk w4 w3.heap.size 26 #[.slice (some ⟨q9, 0, none⟩) jx9.length d9, .slice p9 fs9.length e9] from by rw [hw]; exact Blk.newest w3 _ _)
    have HW := Lib.hid hw
    clear hw
    replace HCR := Lib.hid (cr_below HCR.out hb)
    replace HB := Lib.hid (HB.out.trans (hb.mono HB.out.size))
    replace HO := Lib.hid (HO.out.below hb)
    replace HX := Lib.hid (HX.out.below hb HX.out.lt)
    clear hb
    go_upto_region 5 with (fail)
    rw [← HW.out]
    clear HW
    have hky : kyL ne = [] := by rw [HNE.out]; rfl
    have HG := Lib.hid (get_not (key := key) HJ.out (by rw [hky]; simp))
    obtain ⟨ks, hks⟩ : ∃ x : List ByteArray, x = [] := ⟨_, rfl⟩
    have HK0 := Lib.hid (show dkV nx ne = ks by unfold dkV; rw [if_pos (dok_yes HJ.out), hky, hks])
    have hz : ((ks.length : Int) == 0) = true := by rw [hks]; rfl
    have HDB := Lib.hid (dok_yes HJ.out)
    clear hky hks
    have b00 := HX.out.cell 0
    have b01 := HX.out.cell 1
    go_wp2_with fail
    clear b00 b01
    refine (iGet nx ne q1 8 none 0 key _ _ HO.out (dm_of HJ.out) HK.out HG.out).mono ?_
    rintro e w5 ⟨rfl, hb⟩
    replace HCR := Lib.hid (cr_below HCR.out hb)
    replace HB := Lib.hid (HB.out.trans (hb.mono HB.out.size))
    replace HO := Lib.hid (HO.out.below hb)
    replace HX := Lib.hid (HX.out.below hb HX.out.lt)
    replace H9 := Lib.hid (H9.out.below hb H9.out.lt)
    clear hb
    go_upto_region 6 with (fail)
    skip
    have hb := (Below.refl w5.heap.size w5).drew
    replace HCR := Lib.hid (cr_below HCR.out hb)
    replace HB := Lib.hid (HB.out.trans (hb.mono HB.out.size))
    replace HO := Lib.hid (HO.out.below hb)
    replace HX := Lib.hid (HX.out.below hb HX.out.lt)
    replace H9 := Lib.hid (H9.out.below hb H9.out.lt)
    clear hb
    go_region_held3 (fun w' => w'.cell? ⟨w1.heap.size, 0, none⟩ = some (.slice (some ⟨q1, 0, none⟩) nx.length 8) ∧ w'.cell? ⟨w1.heap.size, 1, none⟩ = some (.slice none ne.length 0))
      (first | exact ⟨HX.out.cell 0, HX.out.cell 1⟩)
      (first | (go_at_call 17; refine (iOk nx ne q1 8 none 0 _ _ HO.out (dm_of HJ.out) HDB.out).mono ?_; rintro e w6 ⟨rfl, hb⟩; replace HCR := Lib.hid (cr_below HCR.out hb); replace HB := Lib.hid (HB.out.trans (hb.mono HB.out.size)); replace HO := Lib.hid (HO.out.below hb); replace HX := Lib.hid (HX.out.below hb HX.out.lt); replace H9 := Lib.hid (H9.out.below hb H9.out.lt); clear hb) | (go_at_call 46; refine (sNew nx ne HNX.out HNE.out _).mono ?_; rintro e w7 ⟨q3, c3, rfl, ho3, hb⟩; replace HCR := Lib.hid (cr_below HCR.out hb); replace HB := Lib.hid (HB.out.trans (hb.mono HB.out.size)); replace HO := Lib.hid (HO.out.below hb); replace HX := Lib.hid (HX.out.below hb HX.out.lt); replace H9 := Lib.hid (H9.out.below hb H9.out.lt); have HS3 := Lib.hid ho3; clear hb ho3) | (go_at_call 34; refine (sameD nx ne _ _ _ _ _ _ _ _ _ _ _ HO.out.od HS3.out.od (by have := (dm_of HJ.out).2.1; omega) (by have := (dm_of HJ.out).2.2.1; omega)).mono ?_; rintro e w8 ⟨rfl, hb⟩; replace HCR := Lib.hid (cr_below HCR.out hb); replace HB := Lib.hid (HB.out.trans (hb.mono HB.out.size)); replace HO := Lib.hid (HO.out.below hb); replace HX := Lib.hid (HX.out.below hb HX.out.lt); replace H9 := Lib.hid (H9.out.below hb H9.out.lt); replace HS3 := Lib.hid (HS3.out.below hb); clear hb) | (go_at_call 19; refine (iKeys nx ne q1 8 none 0 _ _ HO.out (dm_of HJ.out) HK0.out).mono ?_; rintro e w9 ⟨v1, rfl, hl1, hb⟩; replace HCR := Lib.hid (cr_below HCR.out hb); replace HB := Lib.hid (HB.out.trans (hb.mono HB.out.size)); replace HO := Lib.hid (HO.out.below hb); replace HX := Lib.hid (HX.out.below hb HX.out.lt); replace H9 := Lib.hid (H9.out.below hb H9.out.lt); replace HS3 := Lib.hid (HS3.out.below hb); obtain ⟨va, vc, rfl, _⟩ := hl1.rd.sub; clear hl1; clear hb))
    all_goals (try go_wp2_with fail)
    all_goals go_ret
    all_goals exact ⟨rfl, HB.out⟩
  · have k0 : (1048576 : Int) < (n : Int) := by omega
    clear hcr
    go_enter Try.func11, Try.ntmps11
    go_wp2_with fail
    go_ret
    exact ⟨rfl, Below.refl _ _⟩
end Go.Proofs.Ytibglmcpbbikdaa
