/- The law on setting two keys. -/
import Derived.Test.YtibglmcpbbikdaaDdl
import Derived.Test.YtibglmcpbbikdaaKx
import Derived.Deep.RegionHeld3
namespace Go.Proofs.Ytibglmcpbbikdaa
open Go.RowKit
theorem apart_all {ix jx ux kx lx : List Int} {es fs us gs hs : List Ent} {key oth : ByteArray} {val : Int} {ok3 ok4 : Bool} (_ : DOk ix es) (hkb : keyB key = true) (hov : okV val = true) (hcc : key ∈ kyL es ∨ liveN es ≠ 40) (hko : keyB oth = true) (hcc2 : oth ∈ kyL es ∨ liveN es ≠ 40) (hne : ¬ key = oth) (hJ : DOk jx fs) (hU : DOk ux us)
    (r3 : ∀ k v, (k, v) ∈ kv fs ↔ (k = key ∧ v = val) ∨ (k ≠ key ∧ (k, v) ∈ kv es)) (r4 : key ∈ kyL es → kyL fs = kyL es ∧ fs.length = es.length) (r5 : key ∉ kyL es → kyL fs = kyL es ++ [key])
    (u3 : ∀ k v, (k, v) ∈ kv us ↔ (k = oth ∧ v = 7) ∨ (k ≠ oth ∧ (k, v) ∈ kv es)) (u4 : oth ∈ kyL es → kyL us = kyL es ∧ us.length = es.length) (u5 : oth ∉ kyL es → kyL us = kyL es ++ [oth])
    (h3 : stV jx fs oth 7 = ((kx, gs), ok3)) (h4 : stV ux us key val = ((lx, hs), ok4)) :
    ok3 = ok4 ∧ (ok3 = true → DOk kx gs ∧ DOk lx hs ∧ sameB kx gs lx hs = true) := by
  have m1 : oth ∈ kyL fs ↔ oth ∈ kyL es := by
    by_cases hm : key ∈ kyL es
    · rw [(r4 hm).1]
    · rw [r5 hm]; simp [Ne.symm hne]
  have m2 : key ∈ kyL us ↔ key ∈ kyL es := by
    by_cases hm : oth ∈ kyL es
    · rw [(u4 hm).1]
    · rw [u5 hm]; simp [hne]
  have n1 : key ∈ kyL es → liveN fs = liveN es := fun hm => by rw [← ky_len, (r4 hm).1, ky_len]
  have n2 : key ∉ kyL es → liveN fs = liveN es + 1 := fun hm => by rw [← ky_len, r5 hm, List.length_append, ky_len]; rfl
  have n3 : oth ∈ kyL es → liveN us = liveN es := fun hm => by rw [← ky_len, (u4 hm).1, ky_len]
  have n4 : oth ∉ kyL es → liveN us = liveN es + 1 := fun hm => by rw [← ky_len, u5 hm, List.length_append, ky_len]; rfl
  have b1 := hJ.2.1
  have b2 := hU.2.1
  by_cases hc : oth ∈ kyL fs ∨ liveN fs ≠ 40
  · have hc4 : key ∈ kyL us ∨ liveN us ≠ 40 := by
      by_cases k1 : key ∈ kyL es
      · exact .inl (m2.2 k1)
      · refine .inr fun h9 => ?_
        by_cases k2 : oth ∈ kyL es
        · have := n3 k2
          rcases hcc with h8 | h8
          · exact k1 h8
          · omega
        · have e1 := n4 k2
          have e2 := n2 k1
          rcases hc with h8 | h8
          · exact k2 (m1.1 h8)
          · omega
    obtain ⟨s1, s2, s3, s4, s5⟩ := set_ok (val := 7) hJ hko (by decide) hc
    obtain ⟨t1, t2, t3, t4, t5⟩ := set_ok (val := val) hU hkb hov hc4
    rw [h3] at s1 s2 s3 s4 s5
    rw [h4] at t1 t2 t3 t4 t5
    have hs3 : ok3 = true := s2
    have ht3 : ok4 = true := t2
    refine ⟨by rw [hs3, ht3], fun _ => ⟨s1, t1, same_of s1 t1 ?_ fun k v h9 => ?_⟩⟩
    · show liveN gs = liveN hs
      have a1 : oth ∈ kyL fs → liveN gs = liveN fs := fun hm => by rw [← ky_len, show kyL gs = _ from (s4 hm).1, ky_len]
      have a2 : oth ∉ kyL fs → liveN gs = liveN fs + 1 := fun hm => by rw [← ky_len, show kyL gs = _ from s5 hm, List.length_append, ky_len]; rfl
      have a3 : key ∈ kyL us → liveN hs = liveN us := fun hm => by rw [← ky_len, show kyL hs = _ from (t4 hm).1, ky_len]
      have a4 : key ∉ kyL us → liveN hs = liveN us + 1 := fun hm => by rw [← ky_len, show kyL hs = _ from t5 hm, List.length_append, ky_len]; rfl
      by_cases k1 : key ∈ kyL es <;> by_cases k2 : oth ∈ kyL es
      · rw [a1 (m1.2 k2), a3 (m2.2 k1), n1 k1, n3 k2]
      · rw [a2 (fun h => k2 (m1.1 h)), a3 (m2.2 k1), n1 k1, n4 k2]
      · rw [a1 (m1.2 k2), a4 (fun h => k1 (m2.1 h)), n2 k1, n3 k2]
      · rw [a2 (fun h => k2 (m1.1 h)), a4 (fun h => k1 (m2.1 h)), n2 k1, n4 k2]
    · refine (t3 k v).2 ?_
      rcases (s3 k v).1 h9 with ⟨e1, e2⟩ | ⟨e1, e2⟩
      · exact .inr ⟨fun h => hne (h.symm.trans e1), (u3 k v).2 (.inl ⟨e1, e2⟩)⟩
      · rcases (r3 k v).1 e2 with ⟨f1, f2⟩ | ⟨f1, f2⟩
        · exact .inl ⟨f1, f2⟩
        · exact .inr ⟨f1, (u3 k v).2 (.inr ⟨e1, f2⟩)⟩
  · have k2 : oth ∉ kyL fs := fun h => hc (.inl h)
    have k3 : liveN fs = 40 := Classical.byContradiction fun h => hc (.inr h)
    have k4 : oth ∉ kyL es := fun h => k2 (m1.2 h)
    have k5 : liveN es ≠ 40 := hcc2.resolve_left k4
    have k1 : key ∉ kyL es := fun h => k5 (by rw [← n1 h]; exact k3)
    have e4 := n4 k4
    have e2 := n2 k1
    have f1 := set_full (val := 7) hJ hko (by decide) k2 k3
    have f2 := set_full (val := val) hU hkb hov (fun h => k1 (m2.1 h)) (by omega)
    rw [h3] at f1
    rw [h4] at f2
    injection f1 with _ f1
    injection f2 with _ f2
    subst f1; subst f2
    exact ⟨rfl, fun h => by cases h⟩
set_option maxRecDepth 20000 in
set_option maxHeartbeats 8000000 in
theorem fnDictApart_walk (a : Option Addr) (n cap : Nat) (zs : List Int) (w : World) (h : (a = none ∧ n = 0 ∧ cap = 0 ∧ zs = []) ∨ ∃ x, a = some x ∧ n ≤ cap ∧ cap ≤ maxLen ∧ zs.length = cap ∧ (∀ i, i < zs.length → w.cell? (x.add i) = some (.int .u8 (zs.getD i 0))) ∧ ∀ n ∈ zs, (Lit.int .u8 n).wf = true) :
    Calls Try.prog 13 #[.slice a n cap] w fun e w' => e = .returned (.bool true) ∧ Below w.heap.size w w' := by
  have hcr := cr_of h
  have hcap : n ≤ 9223372036854775807 := by
    rcases h with ⟨_, rfl, _⟩ | ⟨x, _, h1, h2, _⟩
    · omega
    · unfold maxLen at h2; omega
  clear h
  by_cases h0 : n ≤ 1048576
  · have k0 : (n : Int) ≤ 1048576 := by omega
    have HC := Lib.hid (dDictSet w a n cap hcr)
    have HCR := Lib.hid hcr
    clear hcr
    go_enter Try.func13, Try.ntmps13
    go_wp2_with fail
    refine (HC.out).mono ?_
    rintro e w1 ⟨ix, es, g1, c1, a2, c2, key, val, rfl, hd, hks, hvz, ho, hb⟩
    replace HCR := Lib.hid (cr_below HCR.out hb)
    have HB := Lib.hid hb
    have HO := Lib.hid ho
    have HD := Lib.hid hd
    clear HC ho hd
    have HK := Lib.hid (show key.size ≤ 1048576 by omega)
    clear hks
    clear hb
    obtain ⟨w2, hw⟩ : ∃ x, x = w1.alloc (Obj.cells #[.slice (some ⟨g1, 0, none⟩) ix.length c1, .slice a2 es.length c2] 26) := ⟨_, rfl⟩
    have hb : Below w1.heap.size w1 w2 := by rw [hw]; exact (Below.refl _ _).alloc (Nat.le_refl _) _
    have HX := Lib.hid (show Blk w2 w1.heap.size 26 #[.slice (some ⟨g1, 0, none⟩) ix.length c1, .slice a2 es.length c2] from by rw [hw]; exact Blk.newest w1 _ _)
    have HW := Lib.hid hw
    clear hw
    replace HCR := Lib.hid (cr_below HCR.out hb)
    replace HB := Lib.hid (HB.out.trans (hb.mono HB.out.size))
    replace HO := Lib.hid (HO.out.below hb)
    clear hb
    go_upto_region 4 with (fail)
    rw [← HW.out]
    clear HW
    go_wp2_with fail
    refine (half_any w2 a n cap HCR.out (by omega)).mono ?_
    rintro e wq ⟨rfl, a9, n9, cap9, rfl, hcr9⟩
    have HC9 := Lib.hid hcr9
    clear hcr9
    go_wp2_with fail
    refine (dDictGet w2 a9 n9 cap9 HC9.out).mono ?_
    rintro e w3 ⟨jx9, fs9, q9, d9, p9, e9, oth, rfl, _, hko, _, hb⟩
    replace HCR := Lib.hid (cr_below HCR.out hb)
    replace HB := Lib.hid (HB.out.trans (hb.mono HB.out.size))
    replace HO := Lib.hid (HO.out.below hb)
    replace HX := Lib.hid (HX.out.below hb HX.out.lt)
    replace HC9 := Lib.hid (cr_below HC9.out hb)
    have HKO := Lib.hid (show oth.size ≤ 1048576 by omega)
    clear hko
    clear hb
    obtain ⟨w4, hw⟩ : ∃ x, x = w3.alloc (Obj.cells #[.slice (some ⟨q9, 0, none⟩) jx9.length d9, .slice p9 fs9.length e9] 26) := ⟨_, rfl⟩
    have hb : Below w3.heap.size w3 w4 := by rw [hw]; exact (Below.refl _ _).alloc (Nat.le_refl _) _
    have H9 := Lib.hid (show Blk w4 w3.heap.size 26 #[.slice (some ⟨q9, 0, none⟩) jx9.length d9, .slice p9 fs9.length e9] from by rw [hw]; exact Blk.newest w3 _ _)
    have HW := Lib.hid hw
    clear hw
    replace HCR := Lib.hid (cr_below HCR.out hb)
    replace HB := Lib.hid (HB.out.trans (hb.mono HB.out.size))
    replace HO := Lib.hid (HO.out.below hb)
    replace HX := Lib.hid (HX.out.below hb HX.out.lt)
    replace HC9 := Lib.hid (cr_below HC9.out hb)
    clear hb
    go_upto_region 5 with (fail)
    rw [← HW.out]
    clear HW
    obtain ⟨⟨⟨jx, fs⟩, ok⟩, hst⟩ : ∃ R, stV ix es key val = R := ⟨_, rfl⟩
    have HST := Lib.hid hst
    have HLN := Lib.hid (show jx.length ≤ 1048576 ∧ fs.length ≤ 1048576 by have h9 := stV_len (ix := ix) (es := es) (key := key) (val := val); rw [hst] at h9; exact ⟨by have h8 : jx.length ≤ 128 := h9.1; omega, by have h8 : fs.length ≤ 200 := h9.2; omega⟩)
    clear hst
    obtain ⟨⟨⟨ux, us⟩, ok2⟩, hst2⟩ : ∃ R, stV ix es oth 7 = R := ⟨_, rfl⟩
    have HST2 := Lib.hid hst2
    clear hst2
    cases ok with
    | false =>
      have b00 := HX.out.cell 0
      have b01 := HX.out.cell 1
      go_wp2_with fail
      clear b00 b01
      refine (iSetX ix es g1 c1 a2 c2 key val _ _ HO.out HD.out HK.out HST.out).mono ?_
      rintro e w5 ⟨q1, d1, p2, d2, rfl, ho, hb⟩
      replace HCR := Lib.hid (cr_below HCR.out hb)
      replace HB := Lib.hid (HB.out.trans (hb.mono HB.out.size))
      replace HO := Lib.hid (HO.out.below hb)
      replace HX := Lib.hid (HX.out.below hb HX.out.lt)
      replace HC9 := Lib.hid (cr_below HC9.out hb)
      replace H9 := Lib.hid (H9.out.below hb H9.out.lt)
      have HP := Lib.hid ho
      clear ho
      clear hb
      obtain ⟨w6, hw⟩ : ∃ x, x = w5.alloc (Obj.cells #[.slice q1 jx.length d1, .slice p2 fs.length d2] 26) := ⟨_, rfl⟩
      have hb : Below w5.heap.size w5 w6 := by rw [hw]; exact (Below.refl _ _).alloc (Nat.le_refl _) _
      have HY := Lib.hid (show Blk w6 w5.heap.size 26 #[.slice q1 jx.length d1, .slice p2 fs.length d2] from by rw [hw]; exact Blk.newest w5 _ _)
      have HW := Lib.hid hw
      clear hw
      replace HCR := Lib.hid (cr_below HCR.out hb)
      replace HB := Lib.hid (HB.out.trans (hb.mono HB.out.size))
      replace HO := Lib.hid (HO.out.below hb)
      replace HX := Lib.hid (HX.out.below hb HX.out.lt)
      replace HC9 := Lib.hid (cr_below HC9.out hb)
      replace H9 := Lib.hid (H9.out.below hb H9.out.lt)
      replace HP := Lib.hid (HP.out.below hb)
      clear hb
      go_upto_region 6 with (fail)
      rw [← HW.out]
      clear HW
      have b00 := HX.out.cell 0
      have b01 := HX.out.cell 1
      go_wp2_with fail
      clear b00 b01
      refine (sSetX ix es g1 c1 a2 c2 key val _ _ HO.out HD.out HK.out HST.out).mono ?_
      rintro e w7 ⟨q3, d3, p4, d4, rfl, ho, hb⟩
      replace HCR := Lib.hid (cr_below HCR.out hb)
      replace HB := Lib.hid (HB.out.trans (hb.mono HB.out.size))
      replace HO := Lib.hid (HO.out.below hb)
      replace HX := Lib.hid (HX.out.below hb HX.out.lt)
      replace HC9 := Lib.hid (cr_below HC9.out hb)
      replace H9 := Lib.hid (H9.out.below hb H9.out.lt)
      replace HP := Lib.hid (HP.out.below hb)
      replace HY := Lib.hid (HY.out.below hb HY.out.lt)
      have HQ := Lib.hid ho
      clear ho
      clear hb
      obtain ⟨w8, hw⟩ : ∃ x, x = w7.alloc (Obj.cells #[.slice q3 jx.length d3, .slice p4 fs.length d4] 26) := ⟨_, rfl⟩
      have hb : Below w7.heap.size w7 w8 := by rw [hw]; exact (Below.refl _ _).alloc (Nat.le_refl _) _
      have HZ := Lib.hid (show Blk w8 w7.heap.size 26 #[.slice q3 jx.length d3, .slice p4 fs.length d4] from by rw [hw]; exact Blk.newest w7 _ _)
      have HW := Lib.hid hw
      clear hw
      replace HCR := Lib.hid (cr_below HCR.out hb)
      replace HB := Lib.hid (HB.out.trans (hb.mono HB.out.size))
      replace HO := Lib.hid (HO.out.below hb)
      replace HX := Lib.hid (HX.out.below hb HX.out.lt)
      replace HC9 := Lib.hid (cr_below HC9.out hb)
      replace H9 := Lib.hid (H9.out.below hb H9.out.lt)
      replace HP := Lib.hid (HP.out.below hb)
      replace HY := Lib.hid (HY.out.below hb HY.out.lt)
      replace HQ := Lib.hid (HQ.out.below hb)
      clear hb
      go_upto_region 7 with (fail)
      rw [← HW.out]
      clear HW
      have b00 := HY.out.cell 0
      have b01 := HY.out.cell 1
      have b10 := HZ.out.cell 0
      have b11 := HZ.out.cell 1
      go_wp2_with fail
      clear b00 b01 b10 b11
      refine (sameD jx fs _ _ _ _ _ _ _ _ _ _ _ HP.out HQ.out HLN.out.1 HLN.out.2).mono ?_
      rintro e w9 ⟨rfl, hb⟩
      replace HCR := Lib.hid (cr_below HCR.out hb)
      replace HB := Lib.hid (HB.out.trans (hb.mono HB.out.size))
      replace HO := Lib.hid (HO.out.below hb)
      replace HX := Lib.hid (HX.out.below hb HX.out.lt)
      replace HC9 := Lib.hid (cr_below HC9.out hb)
      replace H9 := Lib.hid (H9.out.below hb H9.out.lt)
      replace HP := Lib.hid (HP.out.below hb)
      replace HY := Lib.hid (HY.out.below hb HY.out.lt)
      replace HQ := Lib.hid (HQ.out.below hb)
      replace HZ := Lib.hid (HZ.out.below hb HZ.out.lt)
      clear hb
      have b00 := HX.out.cell 0
      have b01 := HX.out.cell 1
      go_wp2_with fail
      clear b00 b01
      refine (iSetX ix es g1 c1 a2 c2 oth 7 _ _ HO.out HD.out HKO.out HST2.out).mono ?_
      rintro e w10 ⟨q5, d5, p6, d6, rfl, ho, hb⟩
      replace HCR := Lib.hid (cr_below HCR.out hb)
      replace HB := Lib.hid (HB.out.trans (hb.mono HB.out.size))
      replace HO := Lib.hid (HO.out.below hb)
      replace HX := Lib.hid (HX.out.below hb HX.out.lt)
      replace HC9 := Lib.hid (cr_below HC9.out hb)
      replace H9 := Lib.hid (H9.out.below hb H9.out.lt)
      replace HP := Lib.hid (HP.out.below hb)
      replace HY := Lib.hid (HY.out.below hb HY.out.lt)
      replace HQ := Lib.hid (HQ.out.below hb)
      replace HZ := Lib.hid (HZ.out.below hb HZ.out.lt)
      have HR := Lib.hid ho
      clear ho
      clear hb
      obtain ⟨w11, hw⟩ : ∃ x, x = w10.alloc (Obj.cells #[.slice q5 ux.length d5, .slice p6 us.length d6] 26) := ⟨_, rfl⟩
      have hb : Below w10.heap.size w10 w11 := by rw [hw]; exact (Below.refl _ _).alloc (Nat.le_refl _) _
      have HV := Lib.hid (show Blk w11 w10.heap.size 26 #[.slice q5 ux.length d5, .slice p6 us.length d6] from by rw [hw]; exact Blk.newest w10 _ _)
      have HW := Lib.hid hw
      clear hw
      replace HCR := Lib.hid (cr_below HCR.out hb)
      replace HB := Lib.hid (HB.out.trans (hb.mono HB.out.size))
      replace HO := Lib.hid (HO.out.below hb)
      replace HX := Lib.hid (HX.out.below hb HX.out.lt)
      replace HC9 := Lib.hid (cr_below HC9.out hb)
      replace H9 := Lib.hid (H9.out.below hb H9.out.lt)
      replace HP := Lib.hid (HP.out.below hb)
      replace HY := Lib.hid (HY.out.below hb HY.out.lt)
      replace HQ := Lib.hid (HQ.out.below hb)
      replace HZ := Lib.hid (HZ.out.below hb HZ.out.lt)
      replace HR := Lib.hid (HR.out.below hb)
      clear hb
      go_upto_region 10 with (fail)
      rw [← HW.out]
      clear HW
      go_wp2_with fail
      go_ret
      exact ⟨rfl, HB.out⟩
    | true =>
      obtain ⟨hdo, hkb, hov, hcc⟩ := set_is (ix := ix) (es := es) (key := key) (val := val) (by rw [HST.out])
      obtain ⟨r1, _, r3, r4, r5⟩ := set_ok hdo hkb hov hcc
      rw [HST.out] at r1 r3 r4 r5
      have HJ := Lib.hid (show DOk jx fs from r1)
      have HS1 := Lib.hid (And.intro hdo (And.intro hkb (And.intro hov hcc)))
      have HR3 := Lib.hid r3
      have HR4 := Lib.hid r4
      have HR5 := Lib.hid r5
      clear hdo hkb hov hcc r1 r3 r4 r5
      have b00 := HX.out.cell 0
      have b01 := HX.out.cell 1
      go_wp2_with fail
      clear b00 b01
      refine (iSet ix es g1 c1 a2 c2 key val _ _ HO.out HD.out HK.out HST.out (by have := (dm_of HJ.out).1; omega)).mono ?_
      rintro e w5 ⟨q1, d1, p2, d2, rfl, ho, hb⟩
      replace HCR := Lib.hid (cr_below HCR.out hb)
      replace HB := Lib.hid (HB.out.trans (hb.mono HB.out.size))
      replace HO := Lib.hid (HO.out.below hb)
      replace HX := Lib.hid (HX.out.below hb HX.out.lt)
      replace HC9 := Lib.hid (cr_below HC9.out hb)
      replace H9 := Lib.hid (H9.out.below hb H9.out.lt)
      have HP := Lib.hid ho
      clear ho
      clear hb
      obtain ⟨w6, hw⟩ : ∃ x, x = w5.alloc (Obj.cells #[.slice (some ⟨q1, 0, none⟩) jx.length d1, .slice p2 fs.length d2] 26) := ⟨_, rfl⟩
      have hb : Below w5.heap.size w5 w6 := by rw [hw]; exact (Below.refl _ _).alloc (Nat.le_refl _) _
      have HY := Lib.hid (show Blk w6 w5.heap.size 26 #[.slice (some ⟨q1, 0, none⟩) jx.length d1, .slice p2 fs.length d2] from by rw [hw]; exact Blk.newest w5 _ _)
      have HW := Lib.hid hw
      clear hw
      replace HCR := Lib.hid (cr_below HCR.out hb)
      replace HB := Lib.hid (HB.out.trans (hb.mono HB.out.size))
      replace HO := Lib.hid (HO.out.below hb)
      replace HX := Lib.hid (HX.out.below hb HX.out.lt)
      replace HC9 := Lib.hid (cr_below HC9.out hb)
      replace H9 := Lib.hid (H9.out.below hb H9.out.lt)
      replace HP := Lib.hid (HP.out.below hb)
      clear hb
      go_upto_region 6 with (fail)
      rw [← HW.out]
      clear HW
      have b00 := HX.out.cell 0
      have b01 := HX.out.cell 1
      go_wp2_with fail
      clear b00 b01
      refine (sSet ix es g1 c1 a2 c2 key val _ _ HO.out HD.out HK.out HST.out (by have := (dm_of HJ.out).1; omega)).mono ?_
      rintro e w7 ⟨q3, d3, p4, d4, rfl, ho, hb⟩
      replace HCR := Lib.hid (cr_below HCR.out hb)
      replace HB := Lib.hid (HB.out.trans (hb.mono HB.out.size))
      replace HO := Lib.hid (HO.out.below hb)
      replace HX := Lib.hid (HX.out.below hb HX.out.lt)
      replace HC9 := Lib.hid (cr_below HC9.out hb)
      replace H9 := Lib.hid (H9.out.below hb H9.out.lt)
      replace HP := Lib.hid (HP.out.below hb)
      replace HY := Lib.hid (HY.out.below hb HY.out.lt)
      have HQ := Lib.hid ho
      clear ho
      clear hb
      obtain ⟨w8, hw⟩ : ∃ x, x = w7.alloc (Obj.cells #[.slice (some ⟨q3, 0, none⟩) jx.length d3, .slice p4 fs.length d4] 26) := ⟨_, rfl⟩
      have hb : Below w7.heap.size w7 w8 := by rw [hw]; exact (Below.refl _ _).alloc (Nat.le_refl _) _
      have HZ := Lib.hid (show Blk w8 w7.heap.size 26 #[.slice (some ⟨q3, 0, none⟩) jx.length d3, .slice p4 fs.length d4] from by rw [hw]; exact Blk.newest w7 _ _)
      have HW := Lib.hid hw
      clear hw
      replace HCR := Lib.hid (cr_below HCR.out hb)
      replace HB := Lib.hid (HB.out.trans (hb.mono HB.out.size))
      replace HO := Lib.hid (HO.out.below hb)
      replace HX := Lib.hid (HX.out.below hb HX.out.lt)
      replace HC9 := Lib.hid (cr_below HC9.out hb)
      replace H9 := Lib.hid (H9.out.below hb H9.out.lt)
      replace HP := Lib.hid (HP.out.below hb)
      replace HY := Lib.hid (HY.out.below hb HY.out.lt)
      replace HQ := Lib.hid (HQ.out.below hb)
      clear hb
      go_upto_region 7 with (fail)
      rw [← HW.out]
      clear HW
      have b00 := HY.out.cell 0
      have b01 := HY.out.cell 1
      have b10 := HZ.out.cell 0
      have b11 := HZ.out.cell 1
      go_wp2_with fail
      clear b00 b01 b10 b11
      refine (sameD jx fs _ _ _ _ _ _ _ _ _ _ _ HP.out.od HQ.out.od (by have := (dm_of HJ.out).2.1; omega) (by have := (dm_of HJ.out).2.2.1; omega)).mono ?_
      rintro e w9 ⟨rfl, hb⟩
      replace HCR := Lib.hid (cr_below HCR.out hb)
      replace HB := Lib.hid (HB.out.trans (hb.mono HB.out.size))
      replace HO := Lib.hid (HO.out.below hb)
      replace HX := Lib.hid (HX.out.below hb HX.out.lt)
      replace HC9 := Lib.hid (cr_below HC9.out hb)
      replace H9 := Lib.hid (H9.out.below hb H9.out.lt)
      replace HP := Lib.hid (HP.out.below hb)
      replace HY := Lib.hid (HY.out.below hb HY.out.lt)
      replace HQ := Lib.hid (HQ.out.below hb)
      replace HZ := Lib.hid (HZ.out.below hb HZ.out.lt)
      clear hb
      cases ok2 with
      | false =>
        have b00 := HX.out.cell 0
        have b01 := HX.out.cell 1
        go_wp2_with fail
        clear b00 b01
        refine (iSetX ix es g1 c1 a2 c2 oth 7 _ _ HO.out HD.out HKO.out HST2.out).mono ?_
        rintro e w10 ⟨q5, d5, p6, d6, rfl, ho, hb⟩
        replace HCR := Lib.hid (cr_below HCR.out hb)
        replace HB := Lib.hid (HB.out.trans (hb.mono HB.out.size))
        replace HO := Lib.hid (HO.out.below hb)
        replace HX := Lib.hid (HX.out.below hb HX.out.lt)
        replace HC9 := Lib.hid (cr_below HC9.out hb)
        replace H9 := Lib.hid (H9.out.below hb H9.out.lt)
        replace HP := Lib.hid (HP.out.below hb)
        replace HY := Lib.hid (HY.out.below hb HY.out.lt)
        replace HQ := Lib.hid (HQ.out.below hb)
        replace HZ := Lib.hid (HZ.out.below hb HZ.out.lt)
        have HR := Lib.hid ho
        clear ho
        clear hb
        obtain ⟨w11, hw⟩ : ∃ x, x = w10.alloc (Obj.cells #[.slice q5 ux.length d5, .slice p6 us.length d6] 26) := ⟨_, rfl⟩
        have hb : Below w10.heap.size w10 w11 := by rw [hw]; exact (Below.refl _ _).alloc (Nat.le_refl _) _
        have HV := Lib.hid (show Blk w11 w10.heap.size 26 #[.slice q5 ux.length d5, .slice p6 us.length d6] from by rw [hw]; exact Blk.newest w10 _ _)
        have HW := Lib.hid hw
        clear hw
        replace HCR := Lib.hid (cr_below HCR.out hb)
        replace HB := Lib.hid (HB.out.trans (hb.mono HB.out.size))
        replace HO := Lib.hid (HO.out.below hb)
        replace HX := Lib.hid (HX.out.below hb HX.out.lt)
        replace HC9 := Lib.hid (cr_below HC9.out hb)
        replace H9 := Lib.hid (H9.out.below hb H9.out.lt)
        replace HP := Lib.hid (HP.out.below hb)
        replace HY := Lib.hid (HY.out.below hb HY.out.lt)
        replace HQ := Lib.hid (HQ.out.below hb)
        replace HZ := Lib.hid (HZ.out.below hb HZ.out.lt)
        replace HR := Lib.hid (HR.out.below hb)
        clear hb
        go_upto_region 10 with (fail)
        rw [← HW.out]
        clear HW
        go_wp2_with fail
        go_ret
        exact ⟨rfl, HB.out⟩
      | true =>
        obtain ⟨hdo, hko, hov, hcc⟩ := set_is (ix := ix) (es := es) (key := oth) (val := 7) (by rw [HST2.out])
        obtain ⟨r1, _, r3, r4, r5⟩ := set_ok hdo hko hov hcc
        rw [HST2.out] at r1 r3 r4 r5
        have HU := Lib.hid (show DOk ux us from r1)
        have HS2 := Lib.hid (And.intro hko hcc)
        have HU3 := Lib.hid r3
        have HU4 := Lib.hid r4
        have HU5 := Lib.hid r5
        clear hdo hko hov hcc r1 r3 r4 r5
        have b00 := HX.out.cell 0
        have b01 := HX.out.cell 1
        go_wp2_with fail
        clear b00 b01
        refine (iSet ix es g1 c1 a2 c2 oth 7 _ _ HO.out HD.out HKO.out HST2.out (by have := (dm_of HU.out).1; omega)).mono ?_
        rintro e w10 ⟨q5, d5, p6, d6, rfl, ho, hb⟩
        replace HCR := Lib.hid (cr_below HCR.out hb)
        replace HB := Lib.hid (HB.out.trans (hb.mono HB.out.size))
        replace HO := Lib.hid (HO.out.below hb)
        replace HX := Lib.hid (HX.out.below hb HX.out.lt)
        replace HC9 := Lib.hid (cr_below HC9.out hb)
        replace H9 := Lib.hid (H9.out.below hb H9.out.lt)
        replace HP := Lib.hid (HP.out.below hb)
        replace HY := Lib.hid (HY.out.below hb HY.out.lt)
        replace HQ := Lib.hid (HQ.out.below hb)
        replace HZ := Lib.hid (HZ.out.below hb HZ.out.lt)
        have HR := Lib.hid ho
        clear ho
        clear hb
        obtain ⟨w11, hw⟩ : ∃ x, x = w10.alloc (Obj.cells #[.slice (some ⟨q5, 0, none⟩) ux.length d5, .slice p6 us.length d6] 26) := ⟨_, rfl⟩
        have hb : Below w10.heap.size w10 w11 := by rw [hw]; exact (Below.refl _ _).alloc (Nat.le_refl _) _
        have HV := Lib.hid (show Blk w11 w10.heap.size 26 #[.slice (some ⟨q5, 0, none⟩) ux.length d5, .slice p6 us.length d6] from by rw [hw]; exact Blk.newest w10 _ _)
        have HW := Lib.hid hw
        clear hw
        replace HCR := Lib.hid (cr_below HCR.out hb)
        replace HB := Lib.hid (HB.out.trans (hb.mono HB.out.size))
        replace HO := Lib.hid (HO.out.below hb)
        replace HX := Lib.hid (HX.out.below hb HX.out.lt)
        replace HC9 := Lib.hid (cr_below HC9.out hb)
        replace H9 := Lib.hid (H9.out.below hb H9.out.lt)
        replace HP := Lib.hid (HP.out.below hb)
        replace HY := Lib.hid (HY.out.below hb HY.out.lt)
        replace HQ := Lib.hid (HQ.out.below hb)
        replace HZ := Lib.hid (HZ.out.below hb HZ.out.lt)
        replace HR := Lib.hid (HR.out.below hb)
        clear hb
        go_upto_region 10 with (fail)
        rw [← HW.out]
        clear HW
        by_cases hkk : key = oth
        · subst hkk
          go_wp2_with fail
          go_ret
          exact ⟨rfl, HB.out⟩
        · have hne : (key.toList == oth.toList) = false := beq_eq_false_iff_ne.2 fun h => hkk (by rw [ByteArray.toList_eq, ByteArray.toList_eq] at h; exact ByteArray.ext (Array.toList_inj.1 h))
          have HNE := Lib.hid hkk
          clear hkk
          obtain ⟨⟨⟨kx, gs⟩, ok3⟩, hst3⟩ : ∃ R, stV jx fs oth 7 = R := ⟨_, rfl⟩
          have HST3 := Lib.hid hst3
          clear hst3
          obtain ⟨⟨⟨lx, hs⟩, ok4⟩, hst4⟩ : ∃ R, stV ux us key val = R := ⟨_, rfl⟩
          have HST4 := Lib.hid hst4
          clear hst4
          have HF := Lib.hid (apart_all HS1.out.1 HS1.out.2.1 HS1.out.2.2.1 HS1.out.2.2.2 HS2.out.1 HS2.out.2 HNE.out HJ.out HU.out HR3.out HR4.out HR5.out HU3.out HU4.out HU5.out HST3.out HST4.out)
          obtain rfl : ok3 = ok4 := HF.out.1
          cases ok3 with
          | false =>
            have b00 := HY.out.cell 0
            have b01 := HY.out.cell 1
            go_wp2_with fail
            clear b00 b01
            refine (iSetX jx fs q1 d1 p2 d2 oth 7 _ _ HP.out (dm_of HJ.out) HKO.out HST3.out).mono ?_
            rintro e w12 ⟨q7, d7, p8, d8, rfl, ho, hb⟩
            replace HCR := Lib.hid (cr_below HCR.out hb)
            replace HB := Lib.hid (HB.out.trans (hb.mono HB.out.size))
            replace HO := Lib.hid (HO.out.below hb)
            replace HX := Lib.hid (HX.out.below hb HX.out.lt)
            replace HC9 := Lib.hid (cr_below HC9.out hb)
            replace H9 := Lib.hid (H9.out.below hb H9.out.lt)
            replace HP := Lib.hid (HP.out.below hb)
            replace HY := Lib.hid (HY.out.below hb HY.out.lt)
            replace HQ := Lib.hid (HQ.out.below hb)
            replace HZ := Lib.hid (HZ.out.below hb HZ.out.lt)
            replace HR := Lib.hid (HR.out.below hb)
            replace HV := Lib.hid (HV.out.below hb HV.out.lt)
            clear ho
            clear hb
            obtain ⟨w13, hw⟩ : ∃ x, x = w12.alloc (Obj.cells #[.slice q7 kx.length d7, .slice p8 gs.length d8] 26) := ⟨_, rfl⟩
            have hb : Below w12.heap.size w12 w13 := by rw [hw]; exact (Below.refl _ _).alloc (Nat.le_refl _) _
            have HA := Lib.hid (show Blk w13 w12.heap.size 26 #[.slice q7 kx.length d7, .slice p8 gs.length d8] from by rw [hw]; exact Blk.newest w12 _ _)
            have HW := Lib.hid hw
            clear hw
            replace HCR := Lib.hid (cr_below HCR.out hb)
            replace HB := Lib.hid (HB.out.trans (hb.mono HB.out.size))
            replace HO := Lib.hid (HO.out.below hb)
            replace HX := Lib.hid (HX.out.below hb HX.out.lt)
            replace HC9 := Lib.hid (cr_below HC9.out hb)
            replace H9 := Lib.hid (H9.out.below hb H9.out.lt)
            replace HP := Lib.hid (HP.out.below hb)
            replace HY := Lib.hid (HY.out.below hb HY.out.lt)
            replace HQ := Lib.hid (HQ.out.below hb)
            replace HZ := Lib.hid (HZ.out.below hb HZ.out.lt)
            replace HR := Lib.hid (HR.out.below hb)
            replace HV := Lib.hid (HV.out.below hb HV.out.lt)
            clear hb
            go_upto_region 13 with (fail)
            rw [← HW.out]
            clear HW
            have b00 := HV.out.cell 0
            have b01 := HV.out.cell 1
            go_wp2_with fail
            clear b00 b01
            refine (iSetX ux us q5 d5 p6 d6 key val _ _ HR.out (dm_of HU.out) HK.out HST4.out).mono ?_
            rintro e w14 ⟨qa, da, pb, db, rfl, ho, hb⟩
            replace HCR := Lib.hid (cr_below HCR.out hb)
            replace HB := Lib.hid (HB.out.trans (hb.mono HB.out.size))
            replace HO := Lib.hid (HO.out.below hb)
            replace HX := Lib.hid (HX.out.below hb HX.out.lt)
            replace HC9 := Lib.hid (cr_below HC9.out hb)
            replace H9 := Lib.hid (H9.out.below hb H9.out.lt)
            replace HP := Lib.hid (HP.out.below hb)
            replace HY := Lib.hid (HY.out.below hb HY.out.lt)
            replace HQ := Lib.hid (HQ.out.below hb)
            replace HZ := Lib.hid (HZ.out.below hb HZ.out.lt)
            replace HR := Lib.hid (HR.out.below hb)
            replace HV := Lib.hid (HV.out.below hb HV.out.lt)
            replace HA := Lib.hid (HA.out.below hb HA.out.lt)
            clear ho
            clear hb
            obtain ⟨w15, hw⟩ : ∃ x, x = w14.alloc (Obj.cells #[.slice qa lx.length da, .slice pb hs.length db] 26) := ⟨_, rfl⟩
            have hb : Below w14.heap.size w14 w15 := by rw [hw]; exact (Below.refl _ _).alloc (Nat.le_refl _) _
            have HE := Lib.hid (show Blk w15 w14.heap.size 26 #[.slice qa lx.length da, .slice pb hs.length db] from by rw [hw]; exact Blk.newest w14 _ _)
            have HW := Lib.hid hw
            clear hw
            replace HCR := Lib.hid (cr_below HCR.out hb)
            replace HB := Lib.hid (HB.out.trans (hb.mono HB.out.size))
            replace HO := Lib.hid (HO.out.below hb)
            replace HX := Lib.hid (HX.out.below hb HX.out.lt)
            replace HC9 := Lib.hid (cr_below HC9.out hb)
            replace H9 := Lib.hid (H9.out.below hb H9.out.lt)
            replace HP := Lib.hid (HP.out.below hb)
            replace HY := Lib.hid (HY.out.below hb HY.out.lt)
            replace HQ := Lib.hid (HQ.out.below hb)
            replace HZ := Lib.hid (HZ.out.below hb HZ.out.lt)
            replace HR := Lib.hid (HR.out.below hb)
            replace HV := Lib.hid (HV.out.below hb HV.out.lt)
            replace HA := Lib.hid (HA.out.below hb HA.out.lt)
            clear hb
            go_upto_region 14 with (fail)
            rw [← HW.out]
            clear HW
            go_wp2_with fail
            go_ret
            exact ⟨rfl, HB.out⟩
          | true =>
            obtain ⟨ha, hb9, hsm⟩ := HF.out.2 rfl
            have HJK := Lib.hid ha
            have HJL := Lib.hid hb9
            have HSM := Lib.hid hsm
            clear ha hb9 hsm
            have b00 := HY.out.cell 0
            have b01 := HY.out.cell 1
            go_wp2_with fail
            clear b00 b01
            refine (iSet jx fs q1 d1 p2 d2 oth 7 _ _ HP.out (dm_of HJ.out) HKO.out HST3.out (by have := (dm_of HJK.out).1; omega)).mono ?_
            rintro e w12 ⟨q7, d7, p8, d8, rfl, ho, hb⟩
            replace HCR := Lib.hid (cr_below HCR.out hb)
            replace HB := Lib.hid (HB.out.trans (hb.mono HB.out.size))
            replace HO := Lib.hid (HO.out.below hb)
            replace HX := Lib.hid (HX.out.below hb HX.out.lt)
            replace HC9 := Lib.hid (cr_below HC9.out hb)
            replace H9 := Lib.hid (H9.out.below hb H9.out.lt)
            replace HP := Lib.hid (HP.out.below hb)
            replace HY := Lib.hid (HY.out.below hb HY.out.lt)
            replace HQ := Lib.hid (HQ.out.below hb)
            replace HZ := Lib.hid (HZ.out.below hb HZ.out.lt)
            replace HR := Lib.hid (HR.out.below hb)
            replace HV := Lib.hid (HV.out.below hb HV.out.lt)
            have HA9 := Lib.hid ho
            clear ho
            clear hb
            obtain ⟨w13, hw⟩ : ∃ x, x = w12.alloc (Obj.cells #[.slice (some ⟨q7, 0, none⟩) kx.length d7, .slice p8 gs.length d8] 26) := ⟨_, rfl⟩
            have hb : Below w12.heap.size w12 w13 := by rw [hw]; exact (Below.refl _ _).alloc (Nat.le_refl _) _
            have HA := Lib.hid (show Blk w13 w12.heap.size 26 #[.slice (some ⟨q7, 0, none⟩) kx.length d7, .slice p8 gs.length d8] from by rw [hw]; exact Blk.newest w12 _ _)
            have HW := Lib.hid hw
            clear hw
            replace HCR := Lib.hid (cr_below HCR.out hb)
            replace HB := Lib.hid (HB.out.trans (hb.mono HB.out.size))
            replace HO := Lib.hid (HO.out.below hb)
            replace HX := Lib.hid (HX.out.below hb HX.out.lt)
            replace HC9 := Lib.hid (cr_below HC9.out hb)
            replace H9 := Lib.hid (H9.out.below hb H9.out.lt)
            replace HP := Lib.hid (HP.out.below hb)
            replace HY := Lib.hid (HY.out.below hb HY.out.lt)
            replace HQ := Lib.hid (HQ.out.below hb)
            replace HZ := Lib.hid (HZ.out.below hb HZ.out.lt)
            replace HR := Lib.hid (HR.out.below hb)
            replace HV := Lib.hid (HV.out.below hb HV.out.lt)
            replace HA9 := Lib.hid (HA9.out.below hb)
            clear hb
            go_upto_region 13 with (fail)
            rw [← HW.out]
            clear HW
            have b00 := HV.out.cell 0
            have b01 := HV.out.cell 1
            go_wp2_with fail
            clear b00 b01
            refine (iSet ux us q5 d5 p6 d6 key val _ _ HR.out (dm_of HU.out) HK.out HST4.out (by have := (dm_of HJL.out).1; omega)).mono ?_
            rintro e w14 ⟨qa, da, pb, db, rfl, ho, hb⟩
            replace HCR := Lib.hid (cr_below HCR.out hb)
            replace HB := Lib.hid (HB.out.trans (hb.mono HB.out.size))
            replace HO := Lib.hid (HO.out.below hb)
            replace HX := Lib.hid (HX.out.below hb HX.out.lt)
            replace HC9 := Lib.hid (cr_below HC9.out hb)
            replace H9 := Lib.hid (H9.out.below hb H9.out.lt)
            replace HP := Lib.hid (HP.out.below hb)
            replace HY := Lib.hid (HY.out.below hb HY.out.lt)
            replace HQ := Lib.hid (HQ.out.below hb)
            replace HZ := Lib.hid (HZ.out.below hb HZ.out.lt)
            replace HR := Lib.hid (HR.out.below hb)
            replace HV := Lib.hid (HV.out.below hb HV.out.lt)
            replace HA9 := Lib.hid (HA9.out.below hb)
            replace HA := Lib.hid (HA.out.below hb HA.out.lt)
            have HE9 := Lib.hid ho
            clear ho
            clear hb
            obtain ⟨w15, hw⟩ : ∃ x, x = w14.alloc (Obj.cells #[.slice (some ⟨qa, 0, none⟩) lx.length da, .slice pb hs.length db] 26) := ⟨_, rfl⟩
            have hb : Below w14.heap.size w14 w15 := by rw [hw]; exact (Below.refl _ _).alloc (Nat.le_refl _) _
            have HE := Lib.hid (show Blk w15 w14.heap.size 26 #[.slice (some ⟨qa, 0, none⟩) lx.length da, .slice pb hs.length db] from by rw [hw]; exact Blk.newest w14 _ _)
            have HW := Lib.hid hw
            clear hw
            replace HCR := Lib.hid (cr_below HCR.out hb)
            replace HB := Lib.hid (HB.out.trans (hb.mono HB.out.size))
            replace HO := Lib.hid (HO.out.below hb)
            replace HX := Lib.hid (HX.out.below hb HX.out.lt)
            replace HC9 := Lib.hid (cr_below HC9.out hb)
            replace H9 := Lib.hid (H9.out.below hb H9.out.lt)
            replace HP := Lib.hid (HP.out.below hb)
            replace HY := Lib.hid (HY.out.below hb HY.out.lt)
            replace HQ := Lib.hid (HQ.out.below hb)
            replace HZ := Lib.hid (HZ.out.below hb HZ.out.lt)
            replace HR := Lib.hid (HR.out.below hb)
            replace HV := Lib.hid (HV.out.below hb HV.out.lt)
            replace HA9 := Lib.hid (HA9.out.below hb)
            replace HA := Lib.hid (HA.out.below hb HA.out.lt)
            replace HE9 := Lib.hid (HE9.out.below hb)
            clear hb
            go_upto_region 14 with (fail)
            rw [← HW.out]
            clear HW
            have b00 := HA.out.cell 0
            have b01 := HA.out.cell 1
            have b10 := HE.out.cell 0
            have b11 := HE.out.cell 1
            go_wp2_with fail
            clear b00 b01 b10 b11
            refine (iSame kx gs q7 d7 p8 d8 lx hs qa da pb db _ _ _ HA9.out (dm_of HJK.out) HE9.out (dm_of HJL.out) HSM.out).mono ?_
            rintro e w16 ⟨rfl, hb⟩
            replace HCR := Lib.hid (cr_below HCR.out hb)
            replace HB := Lib.hid (HB.out.trans (hb.mono HB.out.size))
            replace HO := Lib.hid (HO.out.below hb)
            replace HX := Lib.hid (HX.out.below hb HX.out.lt)
            replace HC9 := Lib.hid (cr_below HC9.out hb)
            replace H9 := Lib.hid (H9.out.below hb H9.out.lt)
            replace HP := Lib.hid (HP.out.below hb)
            replace HY := Lib.hid (HY.out.below hb HY.out.lt)
            replace HQ := Lib.hid (HQ.out.below hb)
            replace HZ := Lib.hid (HZ.out.below hb HZ.out.lt)
            replace HR := Lib.hid (HR.out.below hb)
            replace HV := Lib.hid (HV.out.below hb HV.out.lt)
            replace HA9 := Lib.hid (HA9.out.below hb)
            replace HA := Lib.hid (HA.out.below hb HA.out.lt)
            replace HE9 := Lib.hid (HE9.out.below hb)
            replace HE := Lib.hid (HE.out.below hb HE.out.lt)
            clear hb
            go_wp2_with fail
            go_ret
            exact ⟨rfl, HB.out⟩
  · have k0 : (1048576 : Int) < (n : Int) := by omega
    clear hcr
    go_enter Try.func13, Try.ntmps13
    go_wp2_with fail
    go_ret
    exact ⟨rfl, Below.refl _ _⟩
end Go.Proofs.Ytibglmcpbbikdaa
