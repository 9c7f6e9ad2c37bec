/- The law on DictProbes. -/
import Derived.Test.YtibglmcpbbikdaaDdl
import Derived.Test.YtibglmcpbbikdaaKx
import Derived.Test.YtibglmcpbbikdaaKz
namespace Go.Proofs.Ytibglmcpbbikdaa
open Go.RowKit
theorem prb_facts (ix : List Int) (es : List Ent) (key : ByteArray) : prV ix es key = [] ∨ ∃ (m h T : Nat) (p v : Int) (ok : Bool), m = ix.length ∧ 8 ≤ m ∧ m ≤ 128 ∧ h < 65536 ∧ T ≤ 1000 ∧ (prV ix es key).length = T + 1 ∧ (∀ k, k ≤ T → (prV ix es key)[k]? = some ((pr m h k).1 : Int)) ∧ (∀ k, k < T → ∃ n : Int, ix[(pr m h k).1]? = some n ∧ n ≠ -1) ∧ ix[(pr m h T).1]? = some p ∧ getV ix es key = (v, ok) ∧ (p == -1) = !ok ∧ hashV key = (h : Int) := by
  cases hb : (keyB key && dokB ix es) with
  | false => exact .inl (prV_no hb)
  | true =>
    rw [Bool.and_eq_true] at hb
    obtain ⟨hkb, hdo⟩ := hb
    have hd := dok_of hdo
    have hf := fst_ok (key := key) hd.1 (hsh_lt key.data.toList)
    have hm : 8 ≤ ix.length ∧ ix.length ≤ 128 := by have := slotN_mem hd.1.1; simp at this; omega
    have hpr : prV ix es key = (List.range (fstT ix es key (hsh key.data.toList) + 1)).map fun t => ((pr ix.length (hsh key.data.toList) t).1 : Int) := by unfold prV; rw [if_pos (by rw [hkb, hdo]; rfl)]
    have hv : hashV key = (hsh key.data.toList : Int) := by unfold hashV; rw [if_pos (by unfold keyB at hkb; simpa using hkb)]
    have hg : ∃ (v : Int) (ok : Bool), getV ix es key = (v, ok) ∧ (plc ix es key (hsh key.data.toList) == -1) = !ok := by
      rw [getV_yes hkb hdo]
      rcases plc_in (key := key) hd.1 (hsh_lt key.data.toList) with hp | ⟨k, hp, _⟩
      · rw [hp]; exact ⟨0, false, rfl, rfl⟩
      · rw [hp, if_neg (by omega)]; exact ⟨_, true, rfl, beq_eq_false_iff_ne.2 (by omega)⟩
    obtain ⟨v, ok, hg1, hg2⟩ := hg
    refine .inr ⟨_, _, _, _, v, ok, rfl, hm.1, hm.2, hsh_lt _, hf.1, by rw [hpr]; simp, fun k hk => ?_, fun k hk => ?_, hf.2.2.2, hg1, hg2, hv⟩
    · rw [hpr, List.getElem?_map, List.getElem?_range (by omega)]; rfl
    · have hlt : (pr ix.length (hsh key.data.toList) k).1 < ix.length := pr_lt (by omega) k
      refine ⟨_, List.getElem?_eq_getElem hlt, fun h9 => ?_⟩
      have h8 := hf.2.2.1 k hk
      rw [endB_neg (by rw [List.getElem?_eq_getElem hlt, h9])] at h8
      cases h8
set_option maxRecDepth 20000 in
set_option maxHeartbeats 8000000 in
theorem fnDictProbes_walk (a : Option Addr) (n cap : Nat) (zs : List Int) (w : World) (h : (a = none ∧ n = 0 ∧ cap = 0 ∧ zs = []) ∨ ∃ x, a = some x ∧ n ≤ cap ∧ cap ≤ maxLen ∧ zs.length = cap ∧ (∀ i, i < zs.length → w.cell? (x.add i) = some (.int .u8 (zs.getD i 0))) ∧ ∀ n ∈ zs, (Lit.int .u8 n).wf = true) :
    Calls Try.prog 4 #[.slice a n cap] w fun e w' => e = .returned (.bool true) ∧ Below w.heap.size w w' := by
  have hcr := cr_of h
  have hcap : n ≤ 9223372036854775807 := by
    rcases h with ⟨_, rfl, _⟩ | ⟨x, _, h1, h2, _⟩
    · omega
    · unfold maxLen at h2; omega
  clear h
  by_cases h0 : n ≤ 1048576
  · have k0 : (n : Int) ≤ 1048576 := by omega
    have HC := Lib.hid (dDictProbes w a n cap hcr)
    clear hcr
    go_enter Try.func4, Try.ntmps4
    go_wp2_with fail
    refine (HC.out).mono ?_
    rintro e w1 ⟨ix, es, g1, c1, a2, c2, key, rfl, hd, hks, ho, hb⟩
    have HB := Lib.hid hb
    have HO := Lib.hid ho
    have HD := Lib.hid hd
    clear HC ho hd
    have HK := Lib.hid (show key.size ≤ 1048576 by omega)
    clear hks
    clear hb
    obtain ⟨w2, hw⟩ : ∃ x, x = w1.alloc (Obj.cells #[.slice (some ⟨g1, 0, none⟩) ix.length c1, .slice a2 es.length c2] 26) := ⟨_, rfl⟩
    have hb : Below w1.heap.size w1 w2 := by rw [hw]; exact (Below.refl _ _).alloc (Nat.le_refl _) _
    have HX := Lib.hid (show Blk w2 w1.heap.size 26 #[.slice (some ⟨g1, 0, none⟩) ix.length c1, .slice a2 es.length c2] from by rw [hw]; exact Blk.newest w1 _ _)
    have HW := Lib.hid hw
    clear hw
    replace HB := Lib.hid (HB.out.trans (hb.mono HB.out.size))
    replace HO := Lib.hid (HO.out.below hb)
    clear hb
    go_upto_region 4 with (fail)
    rw [← HW.out]
    clear HW
    have hpf := prb_facts ix es key
    obtain ⟨is, his⟩ : ∃ x, prV ix es key = x := ⟨_, rfl⟩
    have HIS := Lib.hid his
    rw [his] at hpf
    have HPF := Lib.hid hpf
    have HIL := Lib.hid (show is.length ≤ 1048576 by rcases hpf with h9 | ⟨m, h, T, p, v, ok, _, _, _, _, h8, h9, _⟩ <;> rw [h9] <;> simp <;> omega)
    clear his hpf
    have b00 := HX.out.cell 0
    have b01 := HX.out.cell 1
    go_wp2_with fail
    clear b00 b01
    refine (iProbes ix es g1 c1 a2 c2 key _ _ HO.out HD.out HK.out).mono ?_
    rintro e w3 ⟨v1, rfl, hl1, hb⟩
    replace HB := Lib.hid (HB.out.trans (hb.mono HB.out.size))
    replace HO := Lib.hid (HO.out.below hb)
    replace HX := Lib.hid (HX.out.below hb HX.out.lt)
    rw [HIS.out] at hl1
    have HV1 := Lib.hid hl1
    clear hl1
    clear hb
    have b00 := HX.out.cell 0
    have b01 := HX.out.cell 1
    go_wp2_with fail
    clear b00 b01
    refine (sProbes ix es g1 c1 a2 c2 key _ _ HO.out HD.out HK.out).mono ?_
    rintro e w4 ⟨v2, rfl, hl2, hb⟩
    replace HB := Lib.hid (HB.out.trans (hb.mono HB.out.size))
    replace HO := Lib.hid (HO.out.below hb)
    replace HX := Lib.hid (HX.out.below hb HX.out.lt)
    replace HV1 := Lib.hid (HV1.out.below hb)
    rw [HIS.out] at hl2
    have HV2 := Lib.hid hl2
    clear hl2
    clear hb
    go_wp2_with fail
    refine (sameInts_rd is v1 v2 _ HV1.out.rd HV2.out.rd HIL.out).mono ?_
    rintro e w5 ⟨rfl, hb⟩
    replace HB := Lib.hid (HB.out.trans (hb.mono HB.out.size))
    replace HO := Lib.hid (HO.out.below hb)
    replace HX := Lib.hid (HX.out.below hb HX.out.lt)
    replace HV1 := Lib.hid (HV1.out.below hb)
    replace HV2 := Lib.hid (HV2.out.below hb)
    clear hb
    clear HV2
    rcases HPF.out with hz | ⟨m, h, T, p, v, ok, hm, hm8, hm128, hh, hT, hlen, hat, hbf, hp, hg, hok, hha⟩
    · subst hz
      obtain ⟨va, vc, rfl, _, _, _⟩ := HV1.out.rd.sub
      go_wp2_with fail
      go_ret
      exact ⟨rfl, HB.out⟩
    · have HM := Lib.hid hm
      have HAT := Lib.hid hat
      have HBF := Lib.hid hbf
      have HPP := Lib.hid hp
      have HG := Lib.hid hg
      have HOK := Lib.hid hok
      have HHA := Lib.hid hha
      have hm0 : ¬ (m : Int) = 0 := by omega
      have HQ := Lib.hid (fun t => And.intro (rest_eq m h t) (slot_eq m h t))
      have HPL := Lib.hid (fun t => (show (pr m h t).1 < m from pr_lt (by omega) t))
      have HRL := Lib.hid (fun t => (rest_le hh t : (pr m h t).2 < 65536))
      obtain ⟨va, vc, rfl, hvc, _, _⟩ := HV1.out.rd.sub
      have HLN := Lib.hid hlen
      rw [hlen] at hvc
      rw [hlen]
      have HV1 := Lib.hid (show OwI w5 w2.heap.size (.slice va (T + 1) vc) is by have h9 := HV1.out; rw [hlen] at h9; exact h9)
      clear hm hat hbf hp hg hok hha hlen HPF HIL HIS
      have HX := Lib.hid (show Blk w5 w1.heap.size 26 #[.slice (some ⟨g1, 0, none⟩) m c1, .slice a2 es.length c2] by have h9 := HX.out; rw [← HM.out] at h9; exact h9)
      have b00 := HX.out.cell 0
      have b01 := HX.out.cell 1
      go_wp2_with fail
      clear b00 b01
      have h9 := iGet ix es g1 c1 a2 c2 key _ _ HO.out HD.out HK.out HG.out
      rw [← HM.out] at h9
      refine h9.mono ?_
      rintro e w6 ⟨rfl, hb⟩
      clear h9
      replace HB := Lib.hid (HB.out.trans (hb.mono HB.out.size))
      replace HO := Lib.hid (HO.out.below hb)
      replace HX := Lib.hid (HX.out.below hb HX.out.lt)
      replace HV1 := Lib.hid (HV1.out.below hb)
      clear hb
      go_wp2_with fail
      have h9 := implHash_any key w6 (by have := HK.out; omega)
      rw [HHA.out] at h9
      refine h9.mono ?_
      rintro e w9 ⟨rfl, rfl⟩
      clear h9
      have e0 := first_eq m h
      have p0 := HPL.out 0
      obtain ⟨s0, hs0⟩ : ∃ x, x = (pr m h 0).1 := ⟨_, rfl⟩
      rw [← hs0] at e0 p0
      have HS0 := Lib.hid hs0
      clear hs0
      have b00 := HX.out.cell 0
      have b01 := HX.out.cell 1
      go_wp2_with fail
      clear b00 b01
      go_loopw [10, 11, 12] (fun r a i wr => ∃ k : Nat, k ≤ T + 1 ∧ r = .int .i64 ((pr m h k).2 : Int) ∧ a = .int .i64 ((pr m h k).1 : Int) ∧ i = .int .i64 (k : Int) ∧ Hid (Below w.heap.size w wr) ∧ Hid (OwD wr w.heap.size ix es g1 c1 a2 c2) ∧ Hid (Blk wr w1.heap.size 26 #[.slice (some ⟨g1, 0, none⟩) m c1, .slice a2 es.length c2]) ∧ Hid (OwI wr w2.heap.size (.slice va (T + 1) vc) is)) (fun _ _ i _ => T + 1 - (intOf i).toNat)
      case atStart => exact ⟨0, by omega, rfl, by rw [← HS0.out], rfl, HB, HO, HX, HV1⟩
      case round =>
        obtain ⟨k, hk, rfl, rfl, rfl, HB, HO, HX, HV1⟩ := hrel
        have b00 := HX.out.cell 0
        have b01 := HX.out.cell 1
        by_cases hlt : k < T + 1
        · obtain ⟨xk, hxa, hcell⟩ := rdI_at HV1.out.rd k _ (HAT.out k (by omega))
          subst hxa
          obtain ⟨q1, q2⟩ := HQ.out k
          have p1 := HPL.out k
          have p2 := HPL.out (k + 1)
          have r1 := HRL.out k
          have r2 := HRL.out (k + 1)
          have hbf : k < T → ∃ n : Int, wr.cell? ⟨g1, (pr m h k).1, none⟩ = some (.int .i64 n) ∧ (n == -1) = false := fun h9 => by
            obtain ⟨n, h8, h7⟩ := HBF.out k h9
            exact ⟨n, HO.out.tb.2.1 _ _ h8, beq_eq_false_iff_ne.2 h7⟩
          obtain ⟨s', hs'⟩ : ∃ s', s' = (pr m h (k + 1)).1 := ⟨_, rfl⟩
          obtain ⟨r', hr'⟩ : ∃ r', r' = (pr m h (k + 1)).2 := ⟨_, rfl⟩
          have HS' := Lib.hid hs'
          have HR' := Lib.hid hr'
          rw [← hs', ← hr'] at q2
          rw [← hr'] at q1
          rw [← hs'] at p2
          rw [← hr'] at r2
          clear hs' hr'
          generalize (pr m h k).1 = s at *
          generalize (pr m h k).2 = r at *
          have k1 : 0 ≤ 5 * (s : Int) + (r' : Int) + 1 := by omega
          have k2 : 5 * (s : Int) + (r' : Int) + 1 ≤ 100000 := by omega
          have k3 : (k : Int) < (T : Int) + 1 := by omega
          by_cases hkT : k < T
          · skip
            obtain ⟨n, hn, hne⟩ := hbf hkT
            have k4 : (k : Int) < (T : Int) := by omega
            clear hbf
            go_wp2_with fail
            go_roundw
            case rel => exact ⟨k + 1, by omega, by rw [HR'.out], by rw [HS'.out], by go_num, HB, HO, HX, HV1⟩
            case measure => simp [intOf]; try omega
          · skip
            have k4 : ¬ (k : Int) < (T : Int) := by omega
            clear hbf
            go_wp2_with fail
            go_roundw
            case rel => exact ⟨k + 1, by omega, by rw [HR'.out], by rw [HS'.out], by go_num, HB, HO, HX, HV1⟩
            case measure => simp [intOf]; try omega
        · obtain rfl : k = T + 1 := by omega
          obtain ⟨xk, hxa, hcell⟩ := rdI_at HV1.out.rd T _ (HAT.out T (by omega))
          subst hxa
          have hn := HO.out.tb.2.1 _ _ HPP.out
          have p1 := HPL.out T
          have hok := HOK.out
          generalize (pr m h T).1 = s at *
          clear hlt hk
          go_wp2_with fail
          go_region
          all_goals (try go_wp2_with fail)
          all_goals go_ret
          all_goals exact ⟨by cases ok <;> simp_all, below_drewN' HB.out⟩
  · have k0 : (1048576 : Int) < (n : Int) := by omega
    clear hcr
    go_enter Try.func4, Try.ntmps4
    go_wp2_with fail
    go_ret
    exact ⟨rfl, Below.refl _ _⟩
end Go.Proofs.Ytibglmcpbbikdaa
