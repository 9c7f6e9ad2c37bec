/- Texts of integers: what is written is an integer and reads as the number; what is an integer is written so. -/
import Derived.Test.YtckmpenlpkhnfabMSum
namespace Go.Proofs.Ytckmpenlpkhnfab
open Go.RowKit
theorem dch_dig {d : Nat} (h : d < 10) : digB (dch d) = true := by rw [digB_iff, dch_toNat h]; omega
theorem loD_all (n k : Nat) : (loD n k).all digB = true := by
  induction k with
  | zero => rfl
  | succ k ih => rw [loD_succ, List.all_cons, ih, dch_dig (dg_lt n k)]; rfl
theorem loD_val (n k : Nat) : valD (loD n k) = n % 10 ^ k := by
  induction k with
  | zero => simp [loD, dgl, valD, Nat.mod_one]
  | succ k ih => rw [loD_succ, valD_cons, ih, loD_len, dch_toNat (dg_lt n k), mod_succ_dg]; rw [Nat.add_sub_cancel_left, Nat.add_comm]
theorem loD_congr {m n k : Nat} (h : ∀ i, i < k → dg m i = dg n i) : loD m k = loD n k := by unfold loD; rw [dgl_congr h]
/-- A list of digits is the list of its number's digits. -/
theorem loD_of : ∀ (d : List UInt8), d.all digB = true → loD (valD d) d.length = d
  | [], _ => rfl
  | c :: d, h => by
    rw [List.all_cons, Bool.and_eq_true, digB_iff] at h
    have ih := loD_of d h.2
    have hlt := valD_lt d h.2
    have e : valD (c :: d) = valD d + (c.toNat - 48) * 10 ^ d.length := by rw [valD_cons, Nat.add_comm]
    rw [List.length_cons, loD_succ, e]
    have e1 : dg (valD d + (c.toNat - 48) * 10 ^ d.length) d.length = c.toNat - 48 := by
      rw [dg_high _ _ _ _ hlt (Nat.le_refl _), Nat.sub_self]
      unfold dg; simp; omega
    have e2 : loD (valD d + (c.toNat - 48) * 10 ^ d.length) d.length = loD (valD d) d.length := loD_congr fun i hi => dg_low _ _ _ _ hi
    rw [e1, e2, ih]
    congr 1
    apply UInt8.toNat_inj.1
    rw [dch_toNat (by omega)]
    omega
theorem fmtN_pos {n : Nat} (h : n ≠ 0) : fmtN n = dch (dg n (nd n - 1)) :: loD n (nd n - 1) ∧ dg n (nd n - 1) ≠ 0 := by
  have h1 : nd n = (nd n - 1) + 1 := by rw [nd_pos h]; rfl
  constructor
  · rw [← loD_end h]
    conv => lhs; rw [h1]
    rw [loD_succ]
  · intro h0
    have h2 := nd_lt n
    rw [h1] at h2
    have h3 := dg_zero_lt h2 h0
    have h4 := nd_le h
    omega
theorem fmtN_facts (n : Nat) (h : n < 10 ^ 40) : 1 ≤ (fmtN n).length ∧ (fmtN n).length ≤ 40 ∧ (fmtN n).all digB = true ∧ valD (fmtN n) = n ∧ ((fmtN n).head? = some 48 → n = 0 ∧ (fmtN n).length = 1) ∧ (fmtN n).head? ≠ some 45 := by
  by_cases h0 : n = 0
  · subst h0
    have e : fmtN 0 = [48] := by unfold fmtN; rw [if_pos rfl]
    rw [e]
    refine ⟨by simp, by simp, by decide, by decide, fun _ => ⟨rfl, rfl⟩, by decide⟩
  · have hl : (fmtN n).length = nd n := by rw [← loD_end h0, loD_len]
    obtain ⟨e1, e2⟩ := fmtN_pos h0
    have hd := dg_lt n (nd n - 1)
    refine ⟨by rw [hl, nd_pos h0]; omega, by rw [hl]; exact nd_le_of h, by rw [← loD_end h0]; exact loD_all _ _, by rw [← loD_end h0, loD_val, Nat.mod_eq_of_lt (nd_lt n)], ?_, ?_⟩
    · intro hh
      rw [e1] at hh
      simp only [List.head?_cons, Option.some.injEq] at hh
      have := congrArg UInt8.toNat hh
      rw [dch_toNat hd] at this
      have h48 : (48 : UInt8).toNat = 48 := rfl
      omega
    · intro hh
      rw [e1] at hh
      simp only [List.head?_cons, Option.some.injEq] at hh
      have := congrArg UInt8.toNat hh
      rw [dch_toNat hd] at this
      have h45 : (45 : UInt8).toNat = 45 := rfl
      omega
theorem fmtZ_nonneg {z : Int} (h : 0 ≤ z) : fmtZ z = fmtN z.natAbs := by
  have : ¬ z < 0 := by omega
  unfold fmtZ fmtI; simp [this]
theorem fmtZ_neg {z : Int} (h : z < 0) : fmtZ z = 45 :: fmtN z.natAbs := by unfold fmtZ fmtI; simp [h]
theorem okI_fmtZ {z : Int} (h : z.natAbs < 10 ^ 40) : okI (fmtZ z) = true ∧ rz (fmtZ z) = z := by
  obtain ⟨f1, f2, f3, f4, f5, f6⟩ := fmtN_facts z.natAbs h
  by_cases hz : z < 0
  · have hn : isNeg (fmtZ z) = true := by rw [fmtZ_neg hz]; rfl
    have hb : bodyOf (fmtZ z) = fmtN z.natAbs := by unfold bodyOf; rw [if_pos hn, fmtZ_neg hz]; rfl
    have hk : okI (fmtZ z) = true := by
      unfold okI bodyOk
      rw [hn, hb, f3]
      have : ¬ (fmtN z.natAbs).head? = some 48 := fun hh => by have := (f5 hh).1; omega
      simp [f1, f2, this]
    refine ⟨hk, ?_⟩
    unfold rz numI
    rw [if_pos hk, hn, hb, f4]
    simp [sgn]; omega
  · have hf := fmtZ_nonneg (z := z) (by omega)
    have hn : isNeg (fmtZ z) = false := by rw [hf]; unfold isNeg; simpa using f6
    have hb : bodyOf (fmtZ z) = fmtN z.natAbs := by unfold bodyOf; rw [hn, hf]; rfl
    have hk : okI (fmtZ z) = true := by
      unfold okI bodyOk
      rw [hn, hb, f3]
      by_cases hh : (fmtN z.natAbs).head? = some 48
      · have := (f5 hh).2
        simp [this]
      · simp [f1, f2, hh]
    refine ⟨hk, ?_⟩
    unfold rz numI
    rw [if_pos hk, hn, hb, f4]
    simp [sgn]; omega
/-- A text that is an integer is the text of its number. -/
theorem body_fmt {neg : Bool} {d : List UInt8} (h : bodyOk neg d = true) : fmtN (valD d) = d := by
  unfold bodyOk at h
  simp only [Bool.and_eq_true, decide_eq_true_eq] at h
  obtain ⟨⟨⟨h1, h2⟩, h3⟩, h4⟩ := h
  have hl := loD_of d h4
  cases d with
  | nil => simp at h1
  | cons c d =>
    rw [List.all_cons, Bool.and_eq_true, digB_iff] at h4
    have hlt := valD_lt d h4.2
    have e : valD (c :: d) = valD d + (c.toNat - 48) * 10 ^ d.length := by rw [valD_cons, Nat.add_comm]
    by_cases hc : c = 48
    · subst hc
      have hd : d = [] := by
        simp at h3
        cases d with
        | nil => rfl
        | cons x y => simp at h3
      subst hd
      have : valD [48] = 0 := by decide
      rw [this]; unfold fmtN; rw [if_pos rfl]
    · have hcn : c.toNat ≠ 48 := fun e => hc (UInt8.toNat_inj.1 e)
      have hge : 1 * 10 ^ d.length ≤ (c.toNat - 48) * 10 ^ d.length := Nat.mul_le_mul_right _ (by omega)
      have hp := ten_pos d.length
      have hup : valD (c :: d) < 10 ^ (d.length + 1) := by
        have := valD_lt (c :: d) (by rw [List.all_cons, h4.2, (digB_iff c).2 h4.1]; rfl)
        simpa using this
      have hnd : nd (valD (c :: d)) = d.length + 1 := nd_eq hup (Or.inr (by rw [Nat.add_sub_cancel]; omega))
      have hne : valD (c :: d) ≠ 0 := by omega
      rw [← loD_end hne, hnd]
      exact hl
theorem fmtZ_rz {l : List UInt8} (h : okI l = true) : fmtZ (rz l) = l := by
  obtain ⟨e1, e2⟩ := isNeg_rz h
  have hb := body_fmt (show bodyOk (isNeg l) (bodyOf l) = true from h)
  unfold fmtZ fmtI
  rw [e1, e2, hb]
  cases hn : isNeg l with
  | false => unfold bodyOf; rw [hn]; rfl
  | true =>
    unfold bodyOf
    rw [hn]
    unfold isNeg at hn
    cases l with
    | nil => simp at hn
    | cons c d => simp at hn; subst hn; rfl
end Go.Proofs.Ytckmpenlpkhnfab
