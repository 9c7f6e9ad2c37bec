/- The model's sums: fitting, addInts, negInt. -/
import Derived.Test.YtckmpenlpkhnfabMInt
import Derived.Test.YtckmpenlpkhnfabMLess
import Derived.Test.YtckmpenlpkhnfabMCmp
namespace Go.Proofs.Ytckmpenlpkhnfab
open Go.RowKit
/-! What an integer's text is made of. -/
theorem isNeg_rz {l : List UInt8} (h : okI l = true) : decide (rz l < 0) = isNeg l ∧ (rz l).natAbs = valD (bodyOf l) := by
  have hz : rz l = sgn (isNeg l) (valD (bodyOf l)) := by unfold rz; rw [if_pos h]; rfl
  refine ⟨?_, by rw [hz, sgn_abs]⟩
  rw [hz]
  cases hn : isNeg l with
  | false => simp [sgn]
  | true =>
    have hp : 0 < valD (bodyOf l) := by
      unfold okI bodyOk at h
      rw [hn] at h
      simp only [Bool.and_eq_true, decide_eq_true_eq, Bool.true_or, Bool.and_true, Bool.not_eq_true', decide_eq_false_iff_not] at h
      obtain ⟨⟨⟨h1, _⟩, h2⟩, h3⟩ := h
      cases hb : bodyOf l with
      | nil => rw [hb] at h1; simp at h1
      | cons c d =>
        rw [hb] at h2 h3
        rw [List.all_cons, Bool.and_eq_true, digB_iff] at h3
        have hc : c.toNat ≠ 48 := fun e => h2 (by simp; exact UInt8.toNat_inj.1 e)
        rw [valD_cons]
        have : 1 * 10 ^ d.length ≤ (c.toNat - 48) * 10 ^ d.length := Nat.mul_le_mul_right _ (by omega)
        have := ten_pos d.length
        omega
    simp [sgn]; omega
theorem okI_size {s : ByteArray} (h : okI s.data.toList = true) : s.size ≤ 100 ∧ 0 < s.size := by
  unfold okI bodyOk at h
  simp only [Bool.and_eq_true, decide_eq_true_eq] at h
  obtain ⟨⟨⟨h1, h2⟩, _⟩, _⟩ := h
  unfold bodyOf at h1 h2
  have hl : s.data.toList.length = s.size := rfl
  split at h1
  · rename_i hn
    rw [if_pos hn] at h2
    rw [List.length_tail, hl] at h1 h2
    omega
  · rename_i hn
    rw [if_neg hn] at h2
    rw [hl] at h1 h2
    omega
theorem okI_all {l : List UInt8} (h : okI l = true) : (bodyOf l).all digB = true := by
  unfold okI bodyOk at h
  simp only [Bool.and_eq_true] at h
  exact h.2
theorem digits_any (s : ByteArray) (w : World) (hok : okI s.data.toList = true) :
    Calls Try.prog 64 #[.string s] w (DgP w (rz s.data.toList).natAbs (decide (rz s.data.toList < 0))) := by
  obtain ⟨e1, e2⟩ := isNeg_rz hok
  obtain ⟨h1, h0⟩ := okI_size hok
  have ha := okI_all hok
  have hh := head_data s h0
  rw [e1, e2]
  cases hn : isNeg s.data.toList with
  | false =>
    have hb : bodyOf s.data.toList = s.data.toList.drop 0 := by unfold bodyOf; rw [hn]; rfl
    rw [hb] at ha ⊢
    have h45 : ((s[0].toNat : Int) == 45) = false := by
      rw [beq_eq_false_iff_ne]
      intro h
      have h2 : s[0].toNat = (45 : UInt8).toNat := by
        have h3 : s[0].toNat = 45 := by omega
        rw [h3]; rfl
      have this : s[0] = 45 := UInt8.toNat_inj.1 h2
      unfold isNeg at hn
      rw [hh, this] at hn
      simp at hn
    exact digits_pos s w h1 h0 h45 ha
  | true =>
    have hb : bodyOf s.data.toList = s.data.toList.drop 1 := by unfold bodyOf; rw [hn, if_pos rfl, List.drop_one]
    rw [hb] at ha ⊢
    have h45 : ((s[0].toNat : Int) == 45) = true := by
      unfold isNeg at hn
      rw [hh] at hn
      simp at hn
      rw [hn]; rfl
    exact digits_neg s w h1 h0 h45 ha
set_option maxHeartbeats 400000 in
theorem fit_any (n : Nat) (neg : Bool) (v : Value) (w : World) (h : Rd w 0 v (D n)) (hn : n < 10 ^ 80) :
    Calls Try.prog 71 #[v, .bool neg] w fun e w' => e = .returned (outI (sgn neg n)) ∧ Below w.heap.size w w' := by
  have h80 := nd_le_of hn
  have HT := Lib.hid (trimmed_any n (nd n) v w 0 h (nd_lt n) (by omega))
  have HI := Lib.hid (fun (w1 : World) (hb : Below w.heap.size w w1) => integer_any n (nd n) neg v w1 (h.below hb) (nd_lt n) (by omega))
  clear h
  by_cases h40 : n < 10 ^ 40
  · have hle := nd_le_of h40
    have HO := Lib.hid (show outI (sgn neg n) = .tuple #[txV (sgn neg n), .bool true] by unfold outI; rw [sgn_abs, if_pos h40]; rfl)
    rw [HO.out]
    generalize txV (sgn neg n) = tx at HI
    clear h40 hn
    go_enter Try.func71, Try.ntmps71
    go_wp2_with (first | (go_at_call 67; refine HT.out.mono ?_; rintro e w1 ⟨u, rfl, ⟨g, cap, rfl, _, hg, hc, hr⟩, hb1⟩; have HB1 := Lib.hid hb1; rw [D_len]; clear hb1 hr hg hc) | (go_at_call 68; refine (HI.out _ HB1.out).mono ?_; rintro e w2 ⟨rfl, hb2⟩; have HB2 := Lib.hid (HB1.out.trans (hb2.mono HB1.out.size)); clear hb2))
    go_ret2
    exact ⟨rfl, HB2.out⟩
  · have hgt : 40 < nd n := by
      rcases Nat.lt_or_ge 40 (nd n) with h1 | h1
      · exact h1
      · have h2 := Nat.lt_of_lt_of_le (nd_lt n) (Nat.pow_le_pow_right (n := 10) (by decide) h1)
        omega
    have HO := Lib.hid (show outI (sgn neg n) = .tuple #[.string ⟨#[]⟩, .bool false] by unfold outI; rw [sgn_abs, if_neg h40]; rfl)
    rw [HO.out]
    clear h40 hn
    go_enter Try.func71, Try.ntmps71
    go_wp2_with (first | (go_at_call 67; refine HT.out.mono ?_; rintro e w1 ⟨u, rfl, ⟨g, cap, rfl, _, hg, hc, hr⟩, hb1⟩; have HB1 := Lib.hid hb1; rw [D_len]; clear hb1 hr hg hc))
    go_ret2
    exact ⟨rfl, HB1.out⟩
end Go.Proofs.Ytckmpenlpkhnfab
