/- The law on the order of a dictionary. -/
import Derived.Test.YtibglmcpbbikdaaDdl
import Derived.Test.YtibglmcpbbikdaaKx
import Derived.Deep.RegionHeld3
import Derived.Test.YtibglmcpbbikdaaDny
namespace Go.Proofs.Ytibglmcpbbikdaa
open Go.RowKit
set_option maxRecDepth 20000 in
set_option maxHeartbeats 8000000 in
theorem fnDictOrder_walk (a : Option Addr) (n cap : Nat) (zs : List Int) (w : World) (h : (a = none ∧ n = 0 ∧ cap = 0 ∧ zs = []) ∨ ∃ x, a = some x ∧ n ≤ cap ∧ cap ≤ maxLen ∧ zs.length = cap ∧ (∀ i, i < zs.length → w.cell? (x.add i) = some (.int .u8 (zs.getD i 0))) ∧ ∀ n ∈ zs, (Lit.int .u8 n).wf = true) :
    Calls Try.prog 12 #[.slice a n cap] w fun e w' => e = .returned (.bool true) ∧ Below w.heap.size w w' := by
  have hcr := cr_of h
  have hcap : n ≤ 9223372036854775807 := by
    rcases h with ⟨_, rfl, _⟩ | ⟨x, _, h1, h2, _⟩
    · omega
    · unfold maxLen at h2; omega
  clear h
  by_cases h0 : n ≤ 1048576
  · have k0 : (n : Int) ≤ 1048576 := by omega
    have HC := Lib.hid (dDictKeys w a n cap hcr)
    clear hcr
    go_enter Try.func12, Try.ntmps12
    go_wp2_with fail
    refine (HC.out).mono ?_
    rintro e w1 ⟨ix, es, g1, c1, a2, c2, rfl, hd, ho, hb⟩
    have HB := Lib.hid hb
    have HO := Lib.hid ho
    have HD := Lib.hid hd
    clear HC ho hd
    clear hb
    obtain ⟨w2, hw⟩ : ∃ x, x = w1.alloc (Obj.cells #[.slice (some ⟨g1, 0, none⟩) ix.length c1, .slice a2 es.length c2] 26) := ⟨_, rfl⟩
    have hb : Below w1.heap.size w1 w2 := by rw [hw]; exact (Below.refl _ _).alloc (Nat.le_refl _) _
    have HX := Lib.hid (show Blk w2 w1.heap.size 26 #[.slice (some ⟨g1, 0, none⟩) ix.length c1, .slice a2 es.length c2] from by rw [hw]; exact Blk.newest w1 _ _)
    have HW := Lib.hid hw
    clear hw
    replace HB := Lib.hid (HB.out.trans (hb.mono HB.out.size))
    replace HO := Lib.hid (HO.out.below hb)
    clear hb
    go_upto_region 4 with (fail)
    rw [← HW.out]
    clear HW
    obtain ⟨ks, hks⟩ : ∃ x, dkV ix es = x := ⟨_, rfl⟩
    have HK0 := Lib.hid hks
    have HLE := Lib.hid (show ks.length ≤ 1048576 by rw [← hks]; exact dkV_len (by have := HD.out.2.2.1; omega))
    clear hks
    have b00 := HX.out.cell 0
    have b01 := HX.out.cell 1
    go_wp2_with fail
    clear b00 b01
    refine (iKeys ix es g1 c1 a2 c2 _ _ HO.out HD.out HK0.out).mono ?_
    rintro e w3 ⟨v1, rfl, hl1, hb⟩
    replace HB := Lib.hid (HB.out.trans (hb.mono HB.out.size))
    replace HO := Lib.hid (HO.out.below hb)
    replace HX := Lib.hid (HX.out.below hb HX.out.lt)
    have HV1 := Lib.hid hl1
    clear hl1
    clear hb
    obtain ⟨va, vc, rfl, hvc, _, _⟩ := HV1.out.rd.sub
    obtain ⟨lk, hlk⟩ : ∃ x, x = (ks).length := ⟨_, rfl⟩
    have HLK := Lib.hid hlk
    rw [← hlk] at hvc
    rw [← hlk]
    have HJO := Lib.hid (show 0 < lk → DOk ix es ∧ ks = kyL es from fun h9 => by
      have h8 := HK0.out
      unfold dkV at h8
      by_cases hdo : DOk ix es
      · rw [if_pos (dok_yes hdo)] at h8
        exact ⟨hdo, h8.symm⟩
      · rw [dok_no hdo] at h8
        have h7 : ks = [] := h8.symm
        rw [hlk, h7] at h9
        exact absurd h9 (by simp))
    have hl40 : lk ≤ 40 := by
      by_cases h9 : 0 < lk
      · rw [hlk, (HJO.out h9).2, ky_len]; exact (HJO.out h9).1.2.1
      · omega
    clear hlk
    obtain ⟨nx, hnx⟩ : ∃ x : List Int, x = List.replicate 8 (-1) := ⟨_, rfl⟩
    obtain ⟨ne, hne⟩ : ∃ x : List Ent, x = [] := ⟨_, rfl⟩
    have HJN := Lib.hid (show DOk nx ne ∧ kyL ne = ks.take 0 ∧ ∀ key v, (key, v) ∈ kv ne → (key, v) ∈ kv es by rw [hnx, hne]; exact ⟨new_ok, by simp [kyL], fun _ _ h => by simp [kv] at h⟩)
    have HNX := Lib.hid hnx
    have HNE := Lib.hid hne
    clear hnx hne
    go_wp2_with fail
    have HBW0 := Lib.hid HB.out.size
    refine (iNew nx ne HNX.out HNE.out _).mono ?_
    rintro e w4 ⟨q0, rfl, ho, hb⟩
    replace HB := Lib.hid (HB.out.trans (hb.mono HB.out.size))
    replace HO := Lib.hid (HO.out.below hb)
    replace HX := Lib.hid (HX.out.below hb HX.out.lt)
    replace HV1 := Lib.hid (HV1.out.below hb)
    have HP := Lib.hid ho
    clear ho
    clear hb
    have HQ0 := Lib.hid (show q0 ≠ w4.heap.size by have := HP.out.lt1.2; omega)
    have HLT := Lib.hid (show w.heap.size ≤ w4.heap.size ∧ g1 < w4.heap.size ∧ (∀ q, a2 = some ⟨q, 0, none⟩ → q < w4.heap.size) ∧ w1.heap.size < w4.heap.size ∧ (∀ q, (Value.slice va ks.length vc).ownBlock = some q → q < w4.heap.size) from ⟨HB.out.size, HO.out.lt1.2, fun q hq => by subst hq; exact HO.out.lt2.2, HX.out.lt, fun q hq => (HV1.out.lt q hq).2⟩)
    obtain ⟨w5, hw⟩ : ∃ x, x = w4.alloc (Obj.cells #[.slice (some ⟨q0, 0, none⟩) nx.length 8, .slice none ne.length 0] 26) := ⟨_, rfl⟩
    have hb : Below w4.heap.size w4 w5 := by rw [hw]; exact (Below.refl _ _).alloc (Nat.le_refl _) _
    have HY := Lib.hid (show Blk w5 w4.heap.size 26 #[.slice (some ⟨q0, 0, none⟩) nx.length 8, .slice none ne.length 0] from by rw [hw]; exact Blk.newest w4 _ _)
    have HW := Lib.hid hw
    clear hw
    replace HB := Lib.hid (HB.out.trans (hb.mono HB.out.size))
    replace HO := Lib.hid (HO.out.below hb)
    replace HX := Lib.hid (HX.out.below hb HX.out.lt)
    replace HV1 := Lib.hid (HV1.out.below hb)
    replace HP := Lib.hid (HP.out.below hb)
    clear hb
    go_upto_region 6 with (fail)
    rw [← HW.out]
    clear HW
    go_wp2_with fail
    go_loopw [6] (fun i wr => ∃ k : Nat, k ≤ lk ∧ i = .int .i64 (k : Int) ∧ Hid (Below w.heap.size w wr) ∧ Hid (OwD wr w.heap.size ix es g1 c1 a2 c2) ∧ Hid (Blk wr w1.heap.size 26 #[.slice (some ⟨g1, 0, none⟩) ix.length c1, .slice a2 es.length c2]) ∧ Hid (OwT wr w2.heap.size (.slice va ks.length vc) ks) ∧ ∃ jx fs q1 d1 p2 d2, Hid (DOk jx fs ∧ kyL fs = ks.take k ∧ ∀ key v, (key, v) ∈ kv fs → (key, v) ∈ kv es) ∧ Hid (OwD wr w.heap.size jx fs q1 d1 p2 d2 ∧ q1 ≠ w4.heap.size ∧ (∀ q, p2 = some ⟨q, 0, none⟩ → q ≠ w4.heap.size)) ∧ Hid (Blk wr w4.heap.size 26 #[.slice (some ⟨q1, 0, none⟩) jx.length d1, .slice p2 fs.length d2])) (fun i _ => lk - (intOf i).toNat)
    case atStart => exact ⟨0, by omega, rfl, HB, HO, HX, HV1, nx, ne, q0, 8, none, 0, HJN, Lib.hid ⟨HP.out.wide HBW0.out, HQ0.out, fun q hq => by cases hq⟩, HY⟩
    case round =>
      obtain ⟨k, hk, rfl, HB, HO, HX, HV1, jx, fs, q1, d1, p2, d2, HJ, HPQ, HY⟩ := hrel
      have HP := Lib.hid HPQ.out.1
      have HPN := Lib.hid HPQ.out.2
      clear HPQ
      by_cases hlt : k < lk
      · skip
        obtain ⟨s, hs⟩ : ∃ s, (ks)[k]? = some s := ⟨(ks)[k]'(by have := HLK.out; omega), List.getElem?_eq_getElem _⟩
        obtain ⟨xk, hxa, hcell⟩ := rdT_at HV1.out.rd k s hs
        subst hxa
        have HCL := Lib.hid (fun w' (hb : Below wr.heap.size wr w') => show w'.cell? (xk.add k) = some (.string s) by rw [hb.cell (World.block_lt_of_cell? _ _ hcell)]; exact hcell)
        have HSM := Lib.hid (List.mem_of_getElem? hs)
        have HSK := Lib.hid hs
        have k1 : (k : Int) < (lk : Int) := by omega
        have k0 : 0 ≤ (k : Int) := by omega
        clear hs hcell
        have HBW := Lib.hid (Below.refl wr.heap.size wr)
        obtain ⟨hdo, hkk⟩ := HJO.out (by omega)
        obtain ⟨u, hu⟩ := kv_of_ky (show s ∈ kyL es from hkk ▸ HSM.out)
        have HG := Lib.hid (get_mem hdo hu)
        have HKS := Lib.hid (key_le hdo (show s ∈ kyL es from hkk ▸ HSM.out))
        have hnt := nodup_take (show ks.Nodup by rw [hkk]; exact once_nodup (once_of hdo)) HSK.out
        have hlf : liveN fs = k := by rw [← ky_len, HJ.out.2.1, List.length_take]; have := HLK.out; omega
        obtain ⟨r1, r2, r3, r4⟩ := set_new (val := u) HJ.out.1 (key_ok hdo (show s ∈ kyL es from hkk ▸ HSM.out)) (val_ok hdo hu) (show s ∉ kyL fs by rw [HJ.out.2.1]; exact hnt) (by omega)
        obtain ⟨⟨⟨kx, gs⟩, ok⟩, hst⟩ : ∃ R, stV jx fs s u = R := ⟨_, rfl⟩
        rw [hst] at r1 r2 r3 r4
        have HST := Lib.hid (show stV jx fs s u = ((kx, gs), true) by rw [hst]; exact congrArg _ r2)
        have HJ2 := Lib.hid (show DOk kx gs ∧ kyL gs = ks.take (k + 1) ∧ ∀ key v, (key, v) ∈ kv gs → (key, v) ∈ kv es from ⟨r1, by
          rw [show kyL gs = _ from r4, HJ.out.2.1, List.take_add_one, HSK.out]; rfl, fun key v h9 => by
          rw [show kv gs = _ from r3, List.mem_append, List.mem_singleton] at h9
          rcases h9 with h9 | h9
          · exact HJ.out.2.2 key v h9
          · rw [h9]; exact hu⟩)
        clear hdo hkk hu hnt hlf r1 r2 r3 r4 hst
        go_wp2_with fail
        skip
        have hb := (Below.refl wr.heap.size wr).drew
        replace HB := Lib.hid (HB.out.trans (hb.mono HB.out.size))
        replace HO := Lib.hid (HO.out.below hb)
        replace HX := Lib.hid (HX.out.below hb HX.out.lt)
        replace HV1 := Lib.hid (HV1.out.below hb)
        replace HP := Lib.hid (HP.out.below hb)
        replace HY := Lib.hid (HY.out.below hb HY.out.lt)
        replace HBW := Lib.hid (HBW.out.trans (hb.mono HBW.out.size))
        clear hb
        go_region_held3 (fun w' => w'.cell? ⟨w1.heap.size, 0, none⟩ = some (.slice (some ⟨g1, 0, none⟩) ix.length c1) ∧ w'.cell? ⟨w1.heap.size, 1, none⟩ = some (.slice a2 es.length c2) ∧ w'.cell? (xk.add k) = some (.string s))
          (first | exact ⟨HX.out.cell 0, HX.out.cell 1, HCL.out _ HBW.out⟩)
          (first | (go_at_call 20; refine (iGet ix es g1 c1 a2 c2 s _ _ HO.out HD.out HKS.out HG.out).mono ?_; rintro e w6 ⟨rfl, hb⟩; replace HB := Lib.hid (HB.out.trans (hb.mono HB.out.size)); replace HO := Lib.hid (HO.out.below hb); replace HX := Lib.hid (HX.out.below hb HX.out.lt); replace HV1 := Lib.hid (HV1.out.below hb); replace HP := Lib.hid (HP.out.below hb); replace HY := Lib.hid (HY.out.below hb HY.out.lt); replace HBW := Lib.hid (HBW.out.trans (hb.mono HBW.out.size)); clear hb))
        go_upto_region 10 with (fail)
        have HSS := Lib.hid (fun w' (hb : Below w6.heap.size w6 w') => show w'.cell? ⟨w4.heap.size, 0, none⟩ = some (.slice (some ⟨q1, 0, none⟩) jx.length d1) ∧ w'.cell? ⟨w4.heap.size, 1, none⟩ = some (.slice p2 fs.length d2) ∧ w'.cell? (xk.add k) = some (.string s) from ⟨(HY.out.below hb HY.out.lt).cell 0, (HY.out.below hb HY.out.lt).cell 1, HCL.out _ (HBW.out.trans (hb.mono HBW.out.size))⟩)
        have HBD0 := Lib.hid ((Below.refl w6.heap.size w6).drew)
        have HBD := Lib.hid (fun o => ((Below.refl w6.heap.size w6).drew).alloc (Nat.le_refl _) o)
        have HSD0 := Lib.hid (HSS.out _ HBD0.out)
        have HSD := Lib.hid (fun o => HSS.out _ (HBD.out o))
        have HSg := Lib.hid (show ∀ W, Below w6.heap.size w6 W → Calls Try.prog 37 #[.agg #[.slice (some ⟨q1, 0, none⟩) jx.length d1, .slice p2 fs.length d2], .string s, .int .i64 u] W (fun e w9 => ∃ q7 d7 p8 d8, e = .returned (.tuple #[.agg #[.slice (some ⟨q7, 0, none⟩) kx.length d7, .slice p8 gs.length d8], .bool true]) ∧ OwD w9 W.heap.size kx gs q7 d7 p8 d8 ∧ Below w6.heap.size w6 w9 ∧ w6.heap.size ≤ W.heap.size ∧ ∀ (b : Nat) (T : TypeId) (cs : Array Value), Blk W b T cs → Blk w9 b T cs) from by
          intro W hW
          refine (iSet jx fs q1 d1 p2 d2 s u _ W (HP.out.below hW) (dm_of HJ.out.1) HKS.out HST.out (by have := (dm_of HJ2.out.1).1; omega)).mono ?_
          rintro e w9 ⟨q7, d7, p8, d8, rfl, ho, hb⟩
          exact ⟨q7, d7, p8, d8, rfl, ho, hW.trans (hb.mono hW.size), hW.size, fun b T cs h9 => h9.below hb h9.lt⟩)
        go_cut [9, 10] (fun s9 s10 wx => s10 = .bool true ∧ ∃ tb : Nat, s9 = .pointer (some ⟨tb, 0, none⟩) ∧ Hid (∃ q7 d7 p8 d8, Below w6.heap.size w6 wx ∧ w6.heap.size ≤ tb ∧ OwD wx w6.heap.size kx gs q7 d7 p8 d8 ∧ Blk wx tb 26 #[.slice (some ⟨q7, 0, none⟩) kx.length d7, .slice p8 gs.length d8]))
        case first =>
          go_region_held3 (fun w' => w'.cell? ⟨w4.heap.size, 0, none⟩ = some (.slice (some ⟨q1, 0, none⟩) jx.length d1) ∧ w'.cell? ⟨w4.heap.size, 1, none⟩ = some (.slice p2 fs.length d2) ∧ w'.cell? (xk.add k) = some (.string s))
            (first | exact HSD0.out | exact HSD.out _ | exact HS9.out | exact HS9a.out _ | exact HS9z.out _ _ _ | exact HS9s.out _ _)
            ((go_at_call 37; refine (HSg.out _ ?hw).mono ?_; (case hw => first | exact HBD0.out | exact HBD.out _); rintro e w9 ⟨q7, d7, p8, d8, rfl, ho9, hb9, hwl, hbk⟩; have HO9 := Lib.hid ho9; have HB9 := Lib.hid hb9; have HWL := Lib.hid hwl; have HS9 := Lib.hid (HSS.out _ hb9); have HS9a := Lib.hid (fun o => HSS.out _ (hb9.alloc hb9.size o)); have HS9z := Lib.hid (fun o u v => HSS.out _ (((hb9.alloc hb9.size o).setCell (p := ⟨w9.heap.size, 0, none⟩) hb9.size u).setCell (p := ⟨w9.heap.size, 1, none⟩) hb9.size v)); have HS9s := Lib.hid (fun u v => HSS.out _ ((hb9.setCell (p := ⟨w6.heap.size, 0, none⟩) (Nat.le_refl _) u).setCell (p := ⟨w6.heap.size, 1, none⟩) (Nat.le_refl _) v)); (first | (have HX2 := Lib.hid (show Blk w9 w6.heap.size 26 #[.slice none 0 0, .slice none 0 0] from hbk _ _ _ (Blk.newest w6.drew _ _)); have x0 := HX2.out.cell 0; have x1 := HX2.out.cell 1; have f0 := HX2.out.free 0; have f1 := HX2.out.free 1) | skip); clear ho9 hb9 hwl hbk))
          all_goals (try go_wp2)
          all_goals go_meet
          all_goals first | exact ⟨rfl, _, rfl, Lib.hid ⟨q7, d7, p8, d8, HB9.out.alloc HB9.out.size _, HB9.out.size, (HO9.out.below ((Below.refl _ w9).alloc (Nat.le_refl _) _)).wide HWL.out, Blk.newest w9 _ _⟩⟩ | exact ⟨rfl, _, rfl, Lib.hid ⟨q7, d7, p8, d8, (HB9.out.setCell (p := ⟨w6.heap.size, 0, none⟩) (Nat.le_refl _) _).setCell (p := ⟨w6.heap.size, 1, none⟩) (Nat.le_refl _) _, Nat.le_refl _, (own_off2 HO9.out (by simp)).wide HWL.out, two_set HX2.out _ _⟩⟩
        case rest =>
          obtain ⟨rfl, tb, rfl, hcx⟩ := hcut
          obtain ⟨q7, d7, p8, d8, hb, htb, ho7, hx7⟩ := hcx.out
          have HYL := Lib.hid (show w4.heap.size < w6.heap.size from HY.out.lt)
          have HBS6 := Lib.hid HB.out.size
          replace HB := Lib.hid (HB.out.trans (hb.mono HB.out.size))
          replace HO := Lib.hid (HO.out.below hb)
          replace HX := Lib.hid (HX.out.below hb HX.out.lt)
          replace HV1 := Lib.hid (HV1.out.below hb)
          replace HY := Lib.hid (HY.out.below hb HY.out.lt)
          have HO7 := Lib.hid ho7
          have HX7 := Lib.hid hx7
          clear hb ho7 hx7 hcx
          have x0 := HX7.out.cell 0
          have x1 := HX7.out.cell 1
          have y0 := HY.out.cell 0
          have y1 := HY.out.cell 1
          have f0 := HY.out.free 0
          have f1 := HY.out.free 1
          go_wp2_with fail
          have HBn := Lib.hid ((HB.out.setCell (p := ⟨w4.heap.size, 0, none⟩) HLT.out.1 (.slice (some ⟨q7, 0, none⟩) kx.length d7)).setCell (p := ⟨w4.heap.size, 1, none⟩) HLT.out.1 (.slice p8 gs.length d8))
          have HOn := Lib.hid ((HO.out.setOff (i := 0) (u := .slice (some ⟨q7, 0, none⟩) kx.length d7) (show g1 ≠ w4.heap.size by have := HLT.out.2.1; omega) (fun q hq => by have := HLT.out.2.2.1 q hq; omega)).setOff (i := 1) (u := .slice p8 gs.length d8) (show g1 ≠ w4.heap.size by have := HLT.out.2.1; omega) (fun q hq => by have := HLT.out.2.2.1 q hq; omega))
          have HXn := Lib.hid ((HX.out.setOff (g' := w4.heap.size) (i := 0) (v := .slice (some ⟨q7, 0, none⟩) kx.length d7) (by have := HLT.out.2.2.2.1; omega)).setOff (g' := w4.heap.size) (i := 1) (v := .slice p8 gs.length d8) (by have := HLT.out.2.2.2.1; omega))
          have HVn := Lib.hid (owT_off (owT_off HV1.out (x := w4.heap.size) (i := 0) (u := .slice (some ⟨q7, 0, none⟩) kx.length d7) HLT.out.2.2.2.2) (x := w4.heap.size) (i := 1) (u := .slice p8 gs.length d8) HLT.out.2.2.2.2)
          have HQn := Lib.hid (show q7 ≠ w4.heap.size ∧ (∀ q, p8 = some ⟨q, 0, none⟩ → q ≠ w4.heap.size) from ⟨by have := HO7.out.lt1.1; have := HYL.out; omega, fun q hq => by subst hq; have := HO7.out.lt2.1; have := HYL.out; omega⟩)
          have HPn := Lib.hid (((HO7.out.setOff (i := 0) (u := .slice (some ⟨q7, 0, none⟩) kx.length d7) HQn.out.1 HQn.out.2).setOff (i := 1) (u := .slice p8 gs.length d8) HQn.out.1 HQn.out.2).wide HBS6.out)
          have HYn := Lib.hid (two_set HY.out (.slice (some ⟨q7, 0, none⟩) kx.length d7) (.slice p8 gs.length d8))
          go_roundw
          case rel => exact ⟨k + 1, by omega, by go_num, HBn, HOn, HXn, HVn, kx, gs, q7, d7, p8, d8, HJ2, Lib.hid ⟨HPn.out, HQn.out.1, HQn.out.2⟩, HYn⟩
          case measure => simp [intOf]; try omega
      · obtain rfl : k = lk := by omega
        clear hlt
        obtain ⟨ok, hok⟩ : ∃ b, dokB ix es = b := ⟨_, rfl⟩
        have htk : kyL fs = ks := by rw [HJ.out.2.1]; exact List.take_of_length_le (by have := HLK.out; omega)
        have HK1 := Lib.hid (show dkV jx fs = ks by unfold dkV; rw [if_pos (dok_yes HJ.out.1), htk])
        have HSM := Lib.hid (show sameB jx fs ix es = ok by
          by_cases hdo : DOk ix es
          · rw [← hok, dok_yes hdo]
            have hk9 : ks = kyL es := by have h8 := HK0.out; unfold dkV at h8; rw [if_pos (dok_yes hdo)] at h8; exact h8.symm
            exact same_of HJ.out.1 hdo (by rw [← ky_len, ← ky_len, htk, hk9]) HJ.out.2.2
          · rw [← hok, dok_no hdo]; exact same_no hdo)
        have HOK := Lib.hid hok
        clear hok htk
        go_upto_region 14 with (fail)
        have HMK := Lib.hid True.intro
        skip
        have hb := (Below.refl wr.heap.size wr).drew
        replace HB := Lib.hid (HB.out.trans (hb.mono HB.out.size))
        replace HO := Lib.hid (HO.out.below hb)
        replace HX := Lib.hid (HX.out.below hb HX.out.lt)
        replace HV1 := Lib.hid (HV1.out.below hb)
        replace HP := Lib.hid (HP.out.below hb)
        replace HY := Lib.hid (HY.out.below hb HY.out.lt)
        clear hb
        go_region_held3 (fun w' => w'.cell? ⟨w1.heap.size, 0, none⟩ = some (.slice (some ⟨g1, 0, none⟩) ix.length c1) ∧ w'.cell? ⟨w1.heap.size, 1, none⟩ = some (.slice a2 es.length c2) ∧ w'.cell? ⟨w4.heap.size, 0, none⟩ = some (.slice (some ⟨q1, 0, none⟩) jx.length d1) ∧ w'.cell? ⟨w4.heap.size, 1, none⟩ = some (.slice p2 fs.length d2))
          (first | exact ⟨HX.out.cell 0, HX.out.cell 1, HY.out.cell 0, HY.out.cell 1⟩)
          (first | (go_at_call 18; refine (sOk ix es g1 c1 a2 c2 _ _ HO.out HD.out HOK.out).mono ?_; rintro e w6 ⟨rfl, hb⟩; replace HB := Lib.hid (HB.out.trans (hb.mono HB.out.size)); replace HO := Lib.hid (HO.out.below hb); replace HX := Lib.hid (HX.out.below hb HX.out.lt); replace HV1 := Lib.hid (HV1.out.below hb); replace HP := Lib.hid (HP.out.below hb); replace HY := Lib.hid (HY.out.below hb HY.out.lt); clear hb) | (clear HMK; go_at_call 17; refine (iOk ix es g1 c1 a2 c2 _ _ HO.out HD.out HOK.out).mono ?_; rintro e w7 ⟨rfl, hb⟩; replace HB := Lib.hid (HB.out.trans (hb.mono HB.out.size)); replace HO := Lib.hid (HO.out.below hb); replace HX := Lib.hid (HX.out.below hb HX.out.lt); replace HV1 := Lib.hid (HV1.out.below hb); replace HP := Lib.hid (HP.out.below hb); replace HY := Lib.hid (HY.out.below hb HY.out.lt); clear hb) | (go_at_call 19; refine (iKeys jx fs q1 d1 p2 d2 _ _ HP.out (dm_of HJ.out.1) HK1.out).mono ?_; rintro e w8 ⟨v2, rfl, hl2, hb⟩; replace HB := Lib.hid (HB.out.trans (hb.mono HB.out.size)); replace HO := Lib.hid (HO.out.below hb); replace HX := Lib.hid (HX.out.below hb HX.out.lt); replace HV1 := Lib.hid (HV1.out.below hb); replace HP := Lib.hid (HP.out.below hb); replace HY := Lib.hid (HY.out.below hb HY.out.lt); have HV2 := Lib.hid hl2; clear hb hl2) | (go_at_call 35; refine (sameTexts_rd ks v2 _ _ HV2.out.rd (show RdT _ (.slice va k vc) ks from by have h9 := HV1.out.rd; rw [← HLK.out] at h9; exact h9) HLE.out).mono ?_; rintro e w9 ⟨rfl, hb⟩; replace HB := Lib.hid (HB.out.trans (hb.mono HB.out.size)); replace HO := Lib.hid (HO.out.below hb); replace HX := Lib.hid (HX.out.below hb HX.out.lt); replace HV1 := Lib.hid (HV1.out.below hb); replace HP := Lib.hid (HP.out.below hb); replace HY := Lib.hid (HY.out.below hb HY.out.lt); replace HV2 := Lib.hid (HV2.out.below hb); clear hb) | (go_at_call 21; refine (iSame jx fs q1 d1 p2 d2 ix es g1 c1 a2 c2 _ _ _ HP.out (dm_of HJ.out.1) HO.out HD.out HSM.out).mono ?_; rintro e w10 ⟨rfl, hb⟩; replace HB := Lib.hid (HB.out.trans (hb.mono HB.out.size)); replace HO := Lib.hid (HO.out.below hb); replace HX := Lib.hid (HX.out.below hb HX.out.lt); replace HV1 := Lib.hid (HV1.out.below hb); replace HP := Lib.hid (HP.out.below hb); replace HY := Lib.hid (HY.out.below hb HY.out.lt); replace HV2 := Lib.hid (HV2.out.below hb); clear hb) | (go_at_call 17; refine (iOk ix es g1 c1 a2 c2 _ _ HO.out HD.out HOK.out).mono ?_; rintro e w11 ⟨rfl, hb⟩; replace HB := Lib.hid (HB.out.trans (hb.mono HB.out.size)); replace HO := Lib.hid (HO.out.below hb); replace HX := Lib.hid (HX.out.below hb HX.out.lt); replace HV1 := Lib.hid (HV1.out.below hb); replace HP := Lib.hid (HP.out.below hb); replace HY := Lib.hid (HY.out.below hb HY.out.lt); replace HV2 := Lib.hid (HV2.out.below hb); clear hb))
        all_goals (try go_wp2_with fail)
        all_goals go_ret
        all_goals exact ⟨rfl, HB.out⟩
  · have k0 : (1048576 : Int) < (n : Int) := by omega
    clear hcr
    go_enter Try.func12, Try.ntmps12
    go_wp2_with fail
    go_ret
    exact ⟨rfl, Below.refl _ _⟩
end Go.Proofs.Ytibglmcpbbikdaa
