/- The model's order of digits. -/
import Derived.Test.YtckmpenlpkhnfabTrim
import Derived.Test.YtckmpenlpkhnfabCmp
namespace Go.Proofs.Ytckmpenlpkhnfab
open Go.RowKit
theorem cmpN_of_lt {a b : Nat} (h : a < b) : cmpN a b = -1 := by unfold cmpN; rw [if_neg (by omega), if_pos h]
theorem cmpN_of_gt {a b : Nat} (h : b < a) : cmpN a b = 1 := by unfold cmpN; rw [if_neg (by omega), if_neg (by omega)]
theorem eq_high {a b : Nat} (h : nd a = nd b) (j : Nat) (hj : nd a ≤ j) : dg a j = dg b j := by
  rw [dg_high_zero (nd_lt a) hj, dg_high_zero (nd_lt b) (by omega)]
set_option maxHeartbeats 1000000 in
theorem compare_any (a b : Nat) (va vb : Value) (w : World) (ha : Rd w 0 va (D a)) (hb : Rd w 0 vb (D b)) (sa : a < 10 ^ 80) (sb : b < 10 ^ 80) :
    Calls Try.prog 65 #[va, vb] w fun e w' => e = .returned (.int .i64 (cmpN a b)) ∧ Below w.heap.size w w' := by
  have na := nd_le_of sa
  have nb := nd_le_of sb
  have HSA := Lib.hid sa
  have HSB := Lib.hid sb
  clear sa sb
  obtain ⟨g1, cap1, rfl, _, hg1, hc1, hr1⟩ := ha
  obtain ⟨g2, cap2, rfl, _, hg2, hc2, hr2⟩ := hb
  rw [D_len] at hc1 hc2 ⊢
  rw [D_len]
  have HR1 := Lib.hid hr1
  have HR2 := Lib.hid hr2
  have HG1 := Lib.hid hg1
  have HG2 := Lib.hid hg2
  clear hr1 hr2 hg1 hg2
  by_cases hne : nd a = nd b
  · have hz : ((nd a : Int) != (nd b : Int)) = false := by rw [hne]; simp
    have HH := Lib.hid (fun j (hj : nd a ≤ j) => eq_high hne j hj)
    have HNE := Lib.hid hne
    have hlb : nd a ≤ nd b := by omega
    clear hne
    go_enter Try.func65, Try.ntmps65
    go_wp2
    go_loopw [5] (fun i wr => ∃ k : Nat, k ≤ nd a ∧ i = .int .i64 ((k : Int) - 1) ∧ Hid (Below w.heap.size w wr ∧ ∀ j, k ≤ j → j < 80 → dg a j = dg b j)) (fun i _ => (intOf i + 1).toNat)
    case atStart => exact ⟨nd a, Nat.le_refl _, rfl, Lib.hid ⟨Below.refl _ _, fun j hj _ => HH.out j hj⟩⟩
    case round =>
      obtain ⟨k, hk, rfl, HI⟩ := hrel
      cases k with
      | zero =>
        have HV := Lib.hid (show cmpN a b = 0 by
          have : a = b := eq_of_dg 80 a b HSA.out HSB.out (fun i hi => HI.out.2 i (by omega) hi)
          subst this; unfold cmpN; rw [if_pos rfl])
        go_wp2
        go_ret
        exact ⟨by rw [HV.out]; rfl, HI.out.1⟩
      | succ k =>
        have c1 : wr.cell? ⟨g1, k, none⟩ = some (.int .i64 (dg a k)) := by rw [HI.out.1.cell (p := ⟨g1, k, none⟩) HG1.out]; exact HR1.out k _ (D_get a k (by omega))
        have c2 : wr.cell? ⟨g2, k, none⟩ = some (.int .i64 (dg b k)) := by rw [HI.out.1.cell (p := ⟨g2, k, none⟩) HG2.out]; exact HR2.out k _ (D_get b k (by omega))
        have la := dg_lt a k
        have lb := dg_lt b k
        have hkk : ((k + 1 : Nat) : Int) - 1 = (k : Int) := by omega
        rw [hkk]
        by_cases he : dg a k = dg b k
        · have he1 : ((dg a k : Int) != (dg b k : Int)) = false := by rw [he]; simp
          have HI2 := Lib.hid (show ∀ j, k ≤ j → j < 80 → dg a j = dg b j from fun j h1 h2 => by
            by_cases hj : j = k
            · subst hj; exact he
            · exact HI.out.2 j (by omega) h2)
          clear he
          go_wp2
          go_quiet (fail)
          go_wp2
          go_roundw
          case rel => exact ⟨k, by omega, by go_num, Lib.hid ⟨below_drewN' HI.out.1, HI2.out⟩⟩
          case measure => simp [intOf]; try omega
        · have he1 : ((dg a k : Int) != (dg b k : Int)) = true := by rw [bne, beq_eq_false_iff_ne.2 (by omega)]; rfl
          have ht := cmp_told a b k (by omega) HSA.out HSB.out HI.out.2 he
          by_cases hl : dg a k < dg b k
          · have HV := Lib.hid (cmpN_of_lt (ht.1 hl))
            clear ht he
            go_wp2
            go_quiet (fail)
            go_wp2
            go_quiet (fail)
            go_wp2
            go_ret
            exact ⟨by rw [HV.out]; rfl, below_drewN' (below_drewN' HI.out.1)⟩
          · have HV := Lib.hid (cmpN_of_gt (ht.2 (by omega)))
            have hl2 : dg b k ≤ dg a k := by omega
            clear ht he hl
            go_wp2
            go_quiet (fail)
            go_wp2
            go_quiet (fail)
            go_wp2
            go_ret
            exact ⟨by rw [HV.out]; rfl, below_drewN' (below_drewN' HI.out.1)⟩
  · have hz : ((nd a : Int) != (nd b : Int)) = true := by rw [bne, beq_eq_false_iff_ne.2 (by omega)]; rfl
    by_cases hl : nd a < nd b
    · have HV := Lib.hid (cmpN_of_lt (nd_mono_lt hl))
      clear hne
      go_enter Try.func65, Try.ntmps65
      go_wp2
      go_ret
      exact ⟨by rw [HV.out]; rfl, Below.refl _ _⟩
    · have HV := Lib.hid (cmpN_of_gt (nd_mono_lt (m := b) (n := a) (by omega)))
      have hl2 : nd b < nd a := by omega
      clear hne hl
      go_enter Try.func65, Try.ntmps65
      go_wp2
      go_ret
      exact ⟨by rw [HV.out]; rfl, Below.refl _ _⟩
end Go.Proofs.Ytckmpenlpkhnfab
