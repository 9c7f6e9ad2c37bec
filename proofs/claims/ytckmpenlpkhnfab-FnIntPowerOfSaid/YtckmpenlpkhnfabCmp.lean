/- impl.compareDigits: the order of two numbers below 10^80. -/
import Derived.Test.YtckmpenlpkhnfabEql
namespace Go.Proofs.Ytckmpenlpkhnfab
open Go.RowKit
/-- Less, equal, greater. -/
def cmpN (m n : Nat) : Int := if m = n then 0 else if m < n then -1 else 1
theorem cmp_high (m n : Nat) : ∀ (k i : Nat), i + k = 80 → m < 10 ^ 80 → n < 10 ^ 80 → (∀ j, i ≤ j → j < 80 → dg m j = dg n j) → m / 10 ^ i = n / 10 ^ i
  | 0, i, h, hm, hn, _ => by
    obtain rfl : i = 80 := by omega
    rw [Nat.div_eq_of_lt hm, Nat.div_eq_of_lt hn]
  | k + 1, i, h, hm, hn, he => by
    have ih := cmp_high m n k (i + 1) (by omega) hm hn (fun j h1 h2 => he j (by omega) h2)
    have hd := he i (Nat.le_refl _) (by omega)
    unfold dg at hd
    rw [Nat.pow_succ, ← Nat.div_div_eq_div_mul, ← Nat.div_div_eq_div_mul] at ih
    omega
/-- All digits above place i the same, and those there not: they tell the order. -/
theorem cmp_told (m n i : Nat) (hi : i < 80) (hm : m < 10 ^ 80) (hn : n < 10 ^ 80) (he : ∀ j, i + 1 ≤ j → j < 80 → dg m j = dg n j) (_hd : dg m i ≠ dg n i) : (dg m i < dg n i → m < n) ∧ (dg n i < dg m i → n < m) := by
  have h1 := cmp_high m n (79 - i) (i + 1) (by omega) hm hn he
  rw [Nat.pow_succ, ← Nat.div_div_eq_div_mul, ← Nat.div_div_eq_div_mul] at h1
  unfold dg at *
  constructor
  · intro h
    rcases Nat.lt_or_ge m n with h2 | h2
    · exact h2
    · have := Nat.div_le_div_right (c := 10 ^ i) h2; omega
  · intro h
    rcases Nat.lt_or_ge n m with h2 | h2
    · exact h2
    · have := Nat.div_le_div_right (c := 10 ^ i) h2; omega
theorem cmp_some (m n : Nat) (hm : m < 10 ^ 80) (hn : n < 10 ^ 80) (h : m ≠ n) : ∃ i, i < 80 ∧ dg m i ≠ dg n i := by
  refine Classical.byContradiction fun hc => h (eq_of_dg 80 m n hm hn fun i hi => Classical.byContradiction fun h2 => hc ⟨i, hi, h2⟩)
def CmpInv (w wr : World) (m n i : Nat) : Prop := Below w.heap.size w wr ∧ Blk wr w.heap.size 41 (row80 m) ∧ Blk wr (w.heap.size + 1) 41 (row80 n) ∧ (∀ j, i + 1 ≤ j → j < 80 → dg m j = dg n j)
theorem cmp_start (w : World) (m n : Nat) : CmpInv w ((w.alloc (Obj.cells (row80 m) 41)).alloc (Obj.cells (row80 n) 41)) m n 79 :=
  ⟨((Below.refl _ _).alloc (Nat.le_refl _) _).alloc (by simp) _, (Blk.new _ _ _ rfl).alloc _, Blk.new _ _ _ (by simp), fun j h1 h2 => by omega⟩
theorem cmp_more {w wr : World} {m n i q : Nat} (h : CmpInv w wr m n (i + 1)) (he : dg m (i + 1) = dg n (i + 1)) : CmpInv w (wr.drewN q) m n i :=
  ⟨below_drewN' h.1, h.2.1.drewN q, h.2.2.1.drewN q, fun j h1 h2 => by
    by_cases hj : j = i + 1
    · subst hj; exact he
    · exact h.2.2.2 j (by omega) h2⟩
set_option maxHeartbeats 400000 in
theorem cmp_any (m n : Nat) (w : World) (hm : m < 10 ^ 80) (hn : n < 10 ^ 80) :
    Calls Try.prog 51 #[.agg (row80 m), .agg (row80 n)] w fun e w' => e = .returned (.int .i64 (cmpN m n)) ∧ Below w.heap.size w w' := by
  have hb0 := cmp_start w m n
  have HB0 := Lib.hid hb0
  have Hm := Lib.hid hm
  have Hn := Lib.hid hn
  clear hb0 hm hn
  by_cases hmn : m = n
  · have hd : decide (m = n) = true := by simpa using hmn
    have hdc : cmpN m n = 0 := by simp [cmpN, hmn]
    have Hd := Lib.hid hd
    have Hdc := Lib.hid hdc
    clear hd hdc hmn
    go_enter Try.func51, Try.ntmps51
    go_wp2_with (first | (refine ld80 rfl _ rfl _ 0 rfl (HB0.out.2.1.lies) ?_) | (refine ld80 rfl _ rfl _ 0 rfl (HB0.out.2.2.1.lies) ?_) | (refine eq80 rfl _ _ _ rfl rfl rfl Hm.out Hn.out ?_; rw [Hd.out]))
    go_ret
    exact ⟨by rw [Hdc.out]; rfl, HB0.out.1⟩
  · have hd : decide (m = n) = false := by simpa using hmn
    obtain ⟨p, hp, hpd⟩ := cmp_some m n Hm.out Hn.out hmn
    have Hd := Lib.hid hd
    have Hmn := Lib.hid hmn
    have Hpd := Lib.hid hpd
    clear hd hmn hpd
    go_enter Try.func51, Try.ntmps51
    go_wp2_with (first | (refine ld80 rfl _ rfl _ 0 rfl (HB0.out.2.1.lies) ?_) | (refine ld80 rfl _ rfl _ 0 rfl (HB0.out.2.2.1.lies) ?_) | (refine eq80 rfl _ _ _ rfl rfl rfl Hm.out Hn.out ?_; rw [Hd.out]))
    go_loopw [5] (fun i wr => ∃ k : Nat, k < 80 ∧ p ≤ k ∧ i = .int .i64 k ∧ CmpInv w wr m n k) (fun i _ => (intOf i).toNat)
    case atStart => exact ⟨79, by omega, by omega, rfl, HB0.out⟩
    case round =>
      obtain ⟨k, hk, hpk, rfl, hI⟩ := hrel
      have c2 : wr.cell? ⟨w.heap.size, k, none⟩ = some (.int .u8 (dg m k)) := by rw [hI.2.1.cell, row80_get _ _ hk]
      have c3 : wr.cell? ⟨w.heap.size + 1, k, none⟩ = some (.int .u8 (dg n k)) := by rw [hI.2.2.1.cell, row80_get _ _ hk]
      have HI := Lib.hid hI
      clear hI
      by_cases he : dg m k = dg n k
      · have hkp : p < k := by
          rcases Nat.lt_or_ge p k with h | h
          · exact h
          · obtain rfl : p = k := by omega
            exact absurd he Hpd.out
        obtain ⟨k, rfl⟩ : ∃ k', k = k' + 1 := ⟨k - 1, by omega⟩
        have he1 : ((dg m (k + 1) : Int) == (dg n (k + 1) : Int)) = true := beq_iff_eq.2 (by omega)
        have He := Lib.hid he
        clear he
        go_wp2
        go_quiet (fail)
        go_wp2
        go_roundw
        case rel => exact ⟨k, by omega, by omega, by go_num, cmp_more HI.out He.out⟩
        case measure => simp [intOf]
      · have he1 : ((dg m k : Int) == (dg n k : Int)) = false := beq_eq_false_iff_ne.2 (by omega)
        have ht := cmp_told m n k hk Hm.out Hn.out HI.out.2.2.2 he
        have hb : Below w.heap.size w wr := HI.out.1
        have HT := Lib.hid ht
        have HB := Lib.hid hb
        have Hne := Lib.hid he
        clear he ht hb
        by_cases hl : dg m k < dg n k
        · have hv : cmpN m n = -1 := by unfold cmpN; rw [if_neg Hmn.out, if_pos (HT.out.1 hl)]
          have Hv := Lib.hid hv
          clear hv
          go_wp2
          go_quiet (fail)
          go_wp2
          go_quiet (fail)
          go_wp2
          go_ret
          exact ⟨by rw [Hv.out]; rfl, below_drewN' (below_drewN' HB.out)⟩
        · have hv : cmpN m n = 1 := by
            have h2 := HT.out.2 (by have := Hne.out; omega)
            unfold cmpN; rw [if_neg Hmn.out, if_neg (by omega)]
          have Hv := Lib.hid hv
          clear hv
          go_wp2
          go_quiet (fail)
          go_wp2
          go_quiet (fail)
          go_wp2
          go_ret
          exact ⟨by rw [Hv.out]; rfl, below_drewN' (below_drewN' HB.out)⟩
end Go.Proofs.Ytckmpenlpkhnfab
