/- The exact law on DictOk. -/
import Derived.Test.YtplpgcbdbmfffaaDeC
import Derived.Test.YtplpgcbdbmfffaaDok3
namespace Go.Proofs.Ytplpgcbdbmfffaa
open Go.RowKit
theorem specDictOk_any (ix : List Int) (es : List Ent) (g c1 c2 : Nat) (a : Option Addr) (w : World) (h : Tb w g ix a es) (hl : es.length ≤ 1048576) (hm : ix.length ≤ 1048576) (hks : KeysS es) :
    Calls Try.prog 23 #[.agg #[.slice (some ⟨g, 0, none⟩) ix.length c1, .slice a es.length c2]] w fun e w' => e = .returned (.bool (dokB ix es)) ∧ Below w.heap.size w w' := by
  have H := Lib.hid (fun o => validDict_any ix es g c1 c2 a (w.alloc o) (h.below ((Below.refl _ _).alloc (Nat.le_refl _) _)) hl hm hks)
  clear h
  go_enter Try.func23, Try.ntmps23
  go_wp2_with fail
  refine (H.out _).mono ?_
  rintro e w' ⟨rfl, hb⟩
  have HB := Lib.hid (((Below.refl _ w).alloc (Nat.le_refl _) _).trans (hb.mono (by simp)))
  clear hb
  go_wp2_with fail
  go_ret
  exact ⟨rfl, HB.out⟩
/-- What the law asks of a dictionary's size. -/
theorem sz_of {m n k : Nat} (h : ¬ szV 1048576 (m + (n + k)) < 0) : m ≤ 1048576 ∧ n ≤ 1048576 ∧ k ≤ 1048576 := by
  unfold szV at h
  split at h
  · omega
  · exact absurd (by decide) h
theorem keys_of {es : List Ent} (h : ksz es ≤ 1048576) : KeysS es := fun _ he => Nat.le_trans (ksz_mem he) h
set_option maxRecDepth 20000 in
set_option maxHeartbeats 4000000 in
theorem exactDictOk_walk (ix : List Int) (es : List Ent) (a0 a1 : Option Addr) (c0 c1 : Nat) (w : World) (h0 : RsI w a0 c0 ix) (h1 : RsE w a1 c1 es) (hk : KeyM es) (hc0 : c0 ≤ maxLen) (hc1 : c1 ≤ maxLen) :
    Calls Try.prog 5 #[.agg #[.slice a0 ix.length c0, .slice a1 es.length c1]] w fun e w' => e = .returned (.bool true) ∧ Below w.heap.size w w' := by
  obtain ⟨w1, hw1⟩ : ∃ w1, w1 = w.alloc (Obj.cells #[.slice a0 ix.length c0, .slice a1 es.length c1] 34) := ⟨_, rfl⟩
  have HB1 := Lib.hid (show Below w.heap.size w w1 from by rw [hw1]; exact (Below.refl _ _).alloc (Nat.le_refl _) _)
  have hsz : w1.heap.size = w.heap.size + 1 := by rw [hw1]; simp
  have HX1 := Lib.hid (show Blk w1 w.heap.size _ #[.slice a0 ix.length c0, .slice a1 es.length c1] from by rw [hw1]; exact Blk.newest w _ _)
  have HSz := Lib.hid (szDict_any ix es a0 a1 c0 c1 1048576 w1 (h1.below HB1.out) hk (by omega) (by omega) (Nat.le_trans h0.1 hc0) hc1)
  have hr1 : szV 1048576 (ix.length + (es.length + ksz es)) ≤ 1048576 := by unfold szV; split <;> omega
  have HW1 := Lib.hid hw1
  clear hw1
  by_cases hr : szV 1048576 (ix.length + (es.length + ksz es)) < 0
  · have hr0 : -1 ≤ szV 1048576 (ix.length + (es.length + ksz es)) := by unfold szV; split <;> omega
    generalize szV 1048576 (ix.length + (es.length + ksz es)) = r at *
    clear h0 h1 hk
    generalize ix.length = m at *
    generalize es.length = ne at *
    go_enter Try.func5, Try.ntmps5
    go_wp2_with fail
    rw [← HW1.out]
    refine HSz.out.mono ?_
    rintro e w2 ⟨rfl, hb2⟩
    have HB2 := Lib.hid (HB1.out.trans (hb2.mono HB1.out.size))
    clear hb2
    go_wp2_with fail
    go_ret
    exact ⟨rfl, HB2.out⟩
  · obtain ⟨hm, hl, hs⟩ := sz_of hr
    have hks := keys_of hs
    have hr0 : 0 ≤ szV 1048576 (ix.length + (es.length + ksz es)) := by omega
    have HTo := Lib.hid (fun w' (hb : Below w.heap.size w w') => toDict_any ix es a0 a1 c0 c1 w' (h0.below hb) (h1.below hb) hm hl)
    have HO1 := Lib.hid (fun g g2 w' h => specDictOk_any ix es g ix.length es.length (some ⟨g2, 0, none⟩) w' h hl hm hks)
    have HO2 := Lib.hid (fun g g2 w' h => dictOk_any ix es g ix.length es.length (some ⟨g2, 0, none⟩) w' h hl hm hks)
    have HEq := Lib.hid (fun g1 g2 q1 q2 w' h1 h2 he1 he2 => eqDict_same ix es g1 g2 q1 q2 ix.length ix.length es.length es.length w' h1 h2 hm hl he1 he2)
    have HTb := Lib.hid (fun (w w' : World) (g1 g2 : Nat) h1 h2 => (DiP.tb (ix := ix) (es := es) (w := w) (w' := w') (g1 := g1) (g2 := g2) h1 h2))
    unfold DiP at HTo
    generalize szV 1048576 (ix.length + (es.length + ksz es)) = r at *
    generalize dokB ix es = bb at *
    clear h0 h1 hk hks hs
    have HEK := Lib.hid (fun (w' : World) (g : Nat) (h : EnK w' g es.length es es.length) => h.en)
    generalize ix.length = m at *
    generalize es.length = ne at *
    go_enter Try.func5, Try.ntmps5
    go_wp2_with fail
    rw [← HW1.out]
    refine HSz.out.mono ?_
    rintro e w2 ⟨rfl, hb2⟩
    have HB2 := Lib.hid (HB1.out.trans (hb2.mono HB1.out.size))
    have HX2 := Lib.hid (HX1.out.below hb2 (by omega))
    clear hb2
    have b0 := HX2.out.cell 0
    have b1 := HX2.out.cell 1
    go_wp2_with fail
    refine (HTo.out _ HB2.out).mono ?_
    rintro e w3 ⟨g1, g2, rfl, hg1, hg12, hb3, ho3, he3⟩
    have HT3 := Lib.hid (HTb.out _ _ _ _ ho3 he3)
    have HB3 := Lib.hid (HB2.out.trans (hb3.mono HB2.out.size))
    have HX3 := Lib.hid (HX2.out.below hb3 HX2.out.lt)
    clear hg1 hg12 hb3 ho3 he3 b0 b1
    go_wp2_with fail
    refine (HO1.out _ _ _ HT3.out).mono ?_
    rintro e w4 ⟨rfl, hb4⟩
    have HB4 := Lib.hid (HB3.out.trans (hb4.mono HB3.out.size))
    have HX4 := Lib.hid (HX3.out.below hb4 HX3.out.lt)
    clear hb4
    have b0 := HX4.out.cell 0
    have b1 := HX4.out.cell 1
    go_wp2_with fail
    refine (HTo.out _ HB4.out).mono ?_
    rintro e w5 ⟨g3, g4, rfl, hg3, hg34, hb5, ho5, he5⟩
    have HT5 := Lib.hid (HTb.out _ _ _ _ ho5 he5)
    have HE5 := Lib.hid (HEK.out _ _ he5)
    have HB5 := Lib.hid (HB4.out.trans (hb5.mono HB4.out.size))
    have HX5 := Lib.hid (HX4.out.below hb5 HX4.out.lt)
    clear hg3 hg34 hb5 ho5 he5 b0 b1
    go_wp2_with fail
    obtain ⟨w6, hw6⟩ : ∃ w6, w6 = w5.alloc (Obj.cells #[.slice (some ⟨g3, 0, none⟩) m m, .slice (some ⟨g4, 0, none⟩) ne ne] 27) := ⟨_, rfl⟩
    have hb6 : Below w5.heap.size w5 w6 := by rw [hw6]; exact (Below.refl _ _).alloc (Nat.le_refl _) _
    have HT6 := Lib.hid (HT5.out.below hb6)
    have HE6 := Lib.hid (HE5.out.below hb6 HE5.out.1)
    have HB6 := Lib.hid (HB5.out.trans (hb6.mono HB5.out.size))
    have HX6 := Lib.hid (HX5.out.below hb6 HX5.out.lt)
    have HY6 := Lib.hid (show Blk w6 w5.heap.size _ #[.slice (some ⟨g3, 0, none⟩) m m, .slice (some ⟨g4, 0, none⟩) ne ne] from by rw [hw6]; exact Blk.newest w5 _ _)
    rw [← hw6]
    clear hb6 hw6
    refine (HO2.out _ _ _ HT6.out).mono ?_
    rintro e w7 ⟨rfl, hb7⟩
    have HT7 := Lib.hid (HT6.out.below hb7)
    have HE7 := Lib.hid (HE6.out.below hb7 HE6.out.1)
    have HB7 := Lib.hid (HB6.out.trans (hb7.mono HB6.out.size))
    have HX7 := Lib.hid (HX6.out.below hb7 HX6.out.lt)
    have HY7 := Lib.hid (HY6.out.below hb7 HY6.out.lt)
    clear hb7
    have b0 := HX7.out.cell 0
    have b1 := HX7.out.cell 1
    have d0 := HY7.out.cell 0
    have d1 := HY7.out.cell 1
    have hbb : (!bb == bb) = false := by simp
    have hbb2 : (bb != bb) = false := by simp
    go_wp2_with fail
    go_region_with (first | (refine (HTo.out _ (by first | exact HB7.out | exact below_drewN' HB7.out)).mono ?_; rintro e w8 ⟨g5, g6, rfl, hg5, hg56, hb8, ho8, he8⟩; have HB8 := Lib.hid (show Below w7.heap.size w7 w8 from (by first | exact hb8 | exact ((Below.refl _ w7).drew).trans hb8 | exact (below_drewN' (Below.refl _ w7)).trans hb8)); have HT8 := Lib.hid (HTb.out _ _ _ _ ho8 he8); have HE8 := Lib.hid (HEK.out _ _ he8); have HY8 := Lib.hid (HY7.out.below HB8.out HY7.out.lt); have p0 := HY8.out.cell 0; have p1 := HY8.out.cell 1; clear hg5 hg56 hb8 ho8 he8) | (refine (HEq.out _ _ _ _ _ (HT7.out.below HB8.out) HT8.out (HE7.out.below HB8.out HE7.out.1) HE8.out).mono ?_; rintro e w9 ⟨rfl, hb9⟩; have HB9 := Lib.hid hb9; clear hb9))
    all_goals (try go_wp2)
    all_goals go_ret
    all_goals exact ⟨rfl, HB7.out.trans ((show Below w7.heap.size w7 _ from HB8.out.trans ((by first | exact HB9.out | exact ((Below.refl _ w8).drew).trans HB9.out | exact (below_drewN' (Below.refl _ w8)).trans HB9.out : Below w8.heap.size w8 _).mono HB8.out.size)).mono HB7.out.size)⟩
end Go.Proofs.Ytplpgcbdbmfffaa
