/- The laws on products, quotients, remainders and orders. -/
import Derived.Test.YtckmpenlpkhnfabLawsD
import Derived.Test.YtckmpenlpkhnfabLaws2
namespace Go.Proofs.Ytckmpenlpkhnfab
open Go.RowKit
/-! Quotients rounded down, and their rests. -/
theorem qr_spec {x y : Int} (h : y ≠ 0) : x = qI x y * y + rI x y ∧ (0 < y → 0 ≤ rI x y ∧ rI x y < y) ∧ (y < 0 → y < rI x y ∧ rI x y ≤ 0) := by
  have hx := sgn_self x
  have hy := sgn_self y
  have hn : 0 < y.natAbs := by omega
  have hd := Nat.div_add_mod x.natAbs y.natAbs
  have hm := Nat.mod_lt x.natAbs hn
  unfold qI rI dq dr
  by_cases h1 : x < 0 <;> by_cases h2 : y < 0
  · have ex : x = -(x.natAbs : Int) := by omega
    have ey : y = -(y.natAbs : Int) := by omega
    simp only [h1, h2, decide_true, bne_self_eq_false, ne_eq, not_true, false_and, if_false, sgn, Bool.false_eq_true, if_true]
    generalize x.natAbs = m at *
    generalize y.natAbs = n at *
    have hd2 : ((n * (m / n) + m % n : Nat) : Int) = (m : Int) := by rw [hd]
    rw [Int.natCast_add, Int.natCast_mul] at hd2
    refine ⟨?_, fun h3 => by first | omega | exact h3.elim, fun h4 => by first | omega | exact h4.elim⟩
    rw [ex, ey, Int.mul_neg, Int.mul_comm]
    omega
  · have ex : x = -(x.natAbs : Int) := by omega
    have ey : y = (y.natAbs : Int) := by omega
    by_cases hz : x.natAbs % y.natAbs = 0
    · simp only [h1, h2, decide_true, decide_false, ne_eq, Bool.true_eq_false, not_false_eq_true, hz, not_true, and_false, if_false, sgn, Bool.false_eq_true, if_true, Bool.bne_false]
      generalize x.natAbs = m at *
      generalize y.natAbs = n at *
      have hd2 : ((n * (m / n) + m % n : Nat) : Int) = (m : Int) := by rw [hd]
      rw [Int.natCast_add, Int.natCast_mul] at hd2
      refine ⟨?_, fun h3 => by first | omega | exact h3.elim, fun h4 => by first | omega | exact h4.elim⟩
      rw [ex, ey, Int.neg_mul, Int.mul_comm]
      omega
    · simp only [h1, h2, decide_true, decide_false, ne_eq, Bool.true_eq_false, not_false_eq_true, hz, and_self, if_false, sgn, Bool.false_eq_true, if_true, Bool.bne_false]
      generalize x.natAbs = m at *
      generalize y.natAbs = n at *
      have hd2 : ((n * (m / n) + m % n : Nat) : Int) = (m : Int) := by rw [hd]
      rw [Int.natCast_add, Int.natCast_mul] at hd2
      refine ⟨?_, fun h3 => by first | omega | exact h3.elim, fun h4 => by first | omega | exact h4.elim⟩
      rw [ex, ey, Int.neg_mul, Int.natCast_add, Int.add_mul, Int.mul_comm, Int.ofNat_sub (by omega)]
      omega
  · have ex : x = (x.natAbs : Int) := by omega
    have ey : y = -(y.natAbs : Int) := by omega
    by_cases hz : x.natAbs % y.natAbs = 0
    · simp only [h1, h2, decide_true, decide_false, ne_eq, Bool.false_eq_true, not_false_eq_true, hz, not_true, and_false, if_false, sgn, if_true, Bool.false_bne]
      generalize x.natAbs = m at *
      generalize y.natAbs = n at *
      have hd2 : ((n * (m / n) + m % n : Nat) : Int) = (m : Int) := by rw [hd]
      rw [Int.natCast_add, Int.natCast_mul] at hd2
      refine ⟨?_, fun h3 => by first | omega | exact h3.elim, fun h4 => by first | omega | exact h4.elim⟩
      rw [ex, ey, Int.neg_mul_neg, Int.mul_comm]
      omega
    · simp only [h1, h2, decide_true, decide_false, ne_eq, Bool.false_eq_true, not_false_eq_true, hz, and_self, sgn, if_true, Bool.false_bne]
      generalize x.natAbs = m at *
      generalize y.natAbs = n at *
      have hd2 : ((n * (m / n) + m % n : Nat) : Int) = (m : Int) := by rw [hd]
      rw [Int.natCast_add, Int.natCast_mul] at hd2
      refine ⟨?_, fun h3 => by first | omega | exact h3.elim, fun h4 => by first | omega | exact h4.elim⟩
      rw [ex, ey, Int.neg_mul_neg, Int.natCast_add, Int.add_mul, Int.mul_comm, Int.ofNat_sub (by omega)]
      omega
  · have ex : x = (x.natAbs : Int) := by omega
    have ey : y = (y.natAbs : Int) := by omega
    simp only [h1, h2, decide_false, bne_self_eq_false, ne_eq, not_true, false_and, if_false, sgn, Bool.false_eq_true]
    generalize x.natAbs = m at *
    generalize y.natAbs = n at *
    have hd2 : ((n * (m / n) + m % n : Nat) : Int) = (m : Int) := by rw [hd]
    rw [Int.natCast_add, Int.natCast_mul] at hd2
    refine ⟨?_, fun h3 => by first | omega | exact h3.elim, fun h4 => by first | omega | exact h4.elim⟩
    rw [ex, ey, Int.mul_comm]
    omega
theorem qr_unique {x y q r : Int} (h : y ≠ 0) (e : x = q * y + r) (hp : 0 < y → 0 ≤ r ∧ r < y) (hn : y < 0 → y < r ∧ r ≤ 0) : qI x y = q ∧ rI x y = r := by
  obtain ⟨e2, hp2, hn2⟩ := qr_spec (x := x) h
  generalize qI x y = p at *
  generalize rI x y = t at *
  have e3 : (q - p) * y = t - r := by rw [Int.sub_mul]; omega
  have h4 : (t - r).natAbs < y.natAbs := by
    rcases Int.lt_or_gt_of_ne h with h5 | h5
    · have := hn h5; have := hn2 h5; omega
    · have := hp h5; have := hp2 h5; omega
  have h6 : t - r = 0 := Int.eq_zero_of_dvd_of_natAbs_lt_natAbs ⟨q - p, by rw [← e3, Int.mul_comm]⟩ h4
  rw [h6] at e3
  rcases Int.mul_eq_zero.1 e3 with h7 | h7
  · exact ⟨by omega, by omega⟩
  · exact absurd h7 h
theorem qr_mul {x y : Int} (h : y ≠ 0) : qI (x * y) y = x ∧ rI (x * y) y = 0 := qr_unique h (by omega) (fun h1 => by omega) (fun h1 => by omega)
theorem rI_idem {x y : Int} (h : y ≠ 0) : rI (rI x y) y = rI x y :=
  (qr_unique h (q := 0) (by omega) (qr_spec h).2.1 (qr_spec h).2.2).2
theorem qI_b {x y : Int} (hx : x.natAbs < 10 ^ 40) (h0 : y ≠ 0) : (qI x y).natAbs < 10 ^ 40 := by
  unfold qI; rw [sgn_abs]; exact dq_lt hx (by omega)
theorem rI_b {x y : Int} (hy : y.natAbs < 10 ^ 40) (h0 : y ≠ 0) : (rI x y).natAbs < 10 ^ 40 := by
  unfold rI; rw [sgn_abs]; have := dr_lt (p := decide (x < 0)) (q := decide (y < 0)) (m := x.natAbs) (n := y.natAbs) (by omega); omega
section
variable {a b : List UInt8}
theorem mulV_ok (h1 : okI a = true) (h2 : okI b = true) (hs : (rz a * rz b).natAbs < 10 ^ 40) : mulV a b = .tuple #[.string ⟨(fmtZ (rz a * rz b)).toArray⟩, .bool true] := by
  unfold mulV; rw [h1, h2]; exact out_ok' hs
theorem mulV_no (h : ¬ (okI a = true ∧ okI b = true ∧ (rz a * rz b).natAbs < 10 ^ 40)) : mulV a b = .tuple #[.string ⟨#[]⟩, .bool false] := by
  unfold mulV
  cases h1 : okI a with
  | false => rfl
  | true =>
    cases h2 : okI b with
    | false => rfl
    | true =>
      rw [Bool.and_self, if_pos rfl]
      exact out_no' fun hs => h ⟨h1, h2, hs⟩
theorem divV_ok (h1 : okI a = true) (h2 : okI b = true) (h0 : rz b ≠ 0) : divV a b = .tuple #[.string ⟨(fmtZ (qI (rz a) (rz b))).toArray⟩, .bool true] := by
  unfold divV; rw [h1, h2, Bool.and_self, if_pos rfl, if_neg h0]; exact out_ok' (qI_b okI_lt h0)
theorem modV_ok (h1 : okI a = true) (h2 : okI b = true) (h0 : rz b ≠ 0) : modV a b = .tuple #[.string ⟨(fmtZ (rI (rz a) (rz b))).toArray⟩, .bool true] := by
  unfold modV; rw [h1, h2, Bool.and_self, if_pos rfl, if_neg h0]; exact out_ok' (rI_b okI_lt h0)
theorem divV_no (h : ¬ (okI a = true ∧ okI b = true ∧ rz b ≠ 0)) : divV a b = .tuple #[.string ⟨#[]⟩, .bool false] := by
  unfold divV
  cases h1 : okI a with
  | false => rfl
  | true =>
    cases h2 : okI b with
    | false => rfl
    | true =>
      rw [Bool.and_self, if_pos rfl, if_pos (Decidable.byContradiction fun h3 => h ⟨h1, h2, h3⟩)]; rfl
theorem modV_no (h : ¬ (okI a = true ∧ okI b = true ∧ rz b ≠ 0)) : modV a b = .tuple #[.string ⟨#[]⟩, .bool false] := by
  unfold modV
  cases h1 : okI a with
  | false => rfl
  | true =>
    cases h2 : okI b with
    | false => rfl
    | true =>
      rw [Bool.and_self, if_pos rfl, if_pos (Decidable.byContradiction fun h3 => h ⟨h1, h2, h3⟩)]; rfl
theorem cmpV_ok (h1 : okI a = true) (h2 : okI b = true) : cmpV a b = .int .i64 (cmpZ (rz a) (rz b)) := by
  unfold cmpV; rw [h1, h2]; rfl
theorem cmpV_no (h : ¬ (okI a = true ∧ okI b = true)) : cmpV a b = .int .i64 (-2) := by
  unfold cmpV
  cases h1 : okI a with
  | false => rfl
  | true =>
    cases h2 : okI b with
    | false => rfl
    | true => exact absurd ⟨h1, h2⟩ h
end
theorem cz_eq {x y : Int} (h : x = y) : cmpZ x y = 0 := if_pos h
theorem cz_lt {x y : Int} (h : x < y) : cmpZ x y = -1 := by unfold cmpZ; rw [if_neg (by omega), if_pos h]
theorem cz_gt {x y : Int} (h : y < x) : cmpZ x y = 1 := by unfold cmpZ; rw [if_neg (by omega), if_neg (by omega)]
theorem rz0 : rz [48] = 0 := by decide
theorem ok0 : okI [48] = true := by decide
theorem fmt0 : fmtZ 0 = [48] := rfl
theorem is0 {m : List UInt8} (h : okI m = true) (hz : rz m = 0) : m = [48] := by rw [← fmtZ_rz h, hz]; rfl
theorem iMul (a b : List UInt8) (w : World) : Calls Try.prog 16 #[.string ⟨a.toArray⟩, .string ⟨b.toArray⟩] w fun e w' => e = .returned (mulV a b) ∧ Below w.heap.size w w' := by
  have h := intMul_any ⟨a.toArray⟩ ⟨b.toArray⟩ w
  rw [dl, dl] at h; exact h
theorem sMul (a b : List UInt8) (w : World) (ha : a.length ≤ 50000) (hb : b.length ≤ 50000) : Calls Try.prog 17 #[.string ⟨a.toArray⟩, .string ⟨b.toArray⟩] w fun e w' => e = .returned (mulV a b) ∧ Below w.heap.size w w' := by
  have h := specMul_any ⟨a.toArray⟩ ⟨b.toArray⟩ w (by rw [sz]; omega) (by rw [sz]; omega)
  rw [dl, dl] at h; exact h
theorem iDiv (a b : List UInt8) (w : World) : Calls Try.prog 18 #[.string ⟨a.toArray⟩, .string ⟨b.toArray⟩] w fun e w' => e = .returned (divV a b) ∧ Below w.heap.size w w' := by
  have h := intDiv_any ⟨a.toArray⟩ ⟨b.toArray⟩ w
  rw [dl, dl] at h; exact h
theorem sDiv (a b : List UInt8) (w : World) (ha : a.length ≤ 50000) (hb : b.length ≤ 50000) : Calls Try.prog 21 #[.string ⟨a.toArray⟩, .string ⟨b.toArray⟩] w fun e w' => e = .returned (divV a b) ∧ Below w.heap.size w w' := by
  have h := specDiv_any ⟨a.toArray⟩ ⟨b.toArray⟩ w (by rw [sz]; omega) (by rw [sz]; omega)
  rw [dl, dl] at h; exact h
theorem iMod (a b : List UInt8) (w : World) : Calls Try.prog 19 #[.string ⟨a.toArray⟩, .string ⟨b.toArray⟩] w fun e w' => e = .returned (modV a b) ∧ Below w.heap.size w w' := by
  have h := intMod_any ⟨a.toArray⟩ ⟨b.toArray⟩ w
  rw [dl, dl] at h; exact h
theorem sMod (a b : List UInt8) (w : World) (ha : a.length ≤ 50000) (hb : b.length ≤ 50000) : Calls Try.prog 24 #[.string ⟨a.toArray⟩, .string ⟨b.toArray⟩] w fun e w' => e = .returned (modV a b) ∧ Below w.heap.size w w' := by
  have h := specMod_any ⟨a.toArray⟩ ⟨b.toArray⟩ w (by rw [sz]; omega) (by rw [sz]; omega)
  rw [dl, dl] at h; exact h
theorem iCmp (a b : List UInt8) (w : World) : Calls Try.prog 25 #[.string ⟨a.toArray⟩, .string ⟨b.toArray⟩] w fun e w' => e = .returned (cmpV a b) ∧ Below w.heap.size w w' := by
  have h := intCmp_any ⟨a.toArray⟩ ⟨b.toArray⟩ w
  rw [dl, dl] at h; exact h
theorem sCmp (a b : List UInt8) (w : World) (ha : a.length ≤ 50000) (hb : b.length ≤ 50000) : Calls Try.prog 30 #[.string ⟨a.toArray⟩, .string ⟨b.toArray⟩] w fun e w' => e = .returned (cmpV a b) ∧ Below w.heap.size w w' := by
  have h := specCmp_any ⟨a.toArray⟩ ⟨b.toArray⟩ w (by rw [sz]; omega) (by rw [sz]; omega)
  rw [dl, dl] at h; exact h
set_option maxHeartbeats 1000000 in
theorem dIntMul (w : World) (a : Option Addr) (n cap : Nat) (h : Cr w a n cap) : Calls Try.prog 15 #[.slice a n cap] w (D2P w) := by
  have HN := Lib.hid (newRnd_any w a n cap h)
  clear h
  go_enter Try.func15, Try.ntmps15
  go_wp2_with fail
  refine HN.out.mono ?_
  rintro e w1 ⟨rfl, hb1, m, hr1⟩
  have HB1 := Lib.hid hb1
  have HR1 := Lib.hid hr1
  clear hb1 hr1
  go_wp2_with fail
  refine (integer_draw w1 w.heap.size m cap 0 a HR1.out (by decide)).mono ?_
  rintro e w2 ⟨⟨l, rfl, hl⟩, hg2, k2, hk2, hr2⟩
  have HB2 := Lib.hid (below_row HB1.out hg2 (Nat.le_refl _))
  have HR2 := Lib.hid hr2
  have HL := Lib.hid hl
  clear hl hg2 hr2
  go_wp2_with fail
  refine (pick_any w2 w.heap.size a m cap k2 6 HR2.out (by omega) (by decide)).mono ?_
  rintro e w3 ⟨s, rfl, _, hg3, k3, hk3, hr3⟩
  have HB3 := Lib.hid (below_row HB2.out hg3 (Nat.le_refl _))
  have HR3 := Lib.hid hr3
  clear hg3 hr3
  by_cases hs : s = 0
  · subst hs
    go_wp2_with fail
    go_ret2
    exact ⟨l, l, rfl, HL.out, HL.out, HB3.out⟩
  · have hsf : ((s : Int) == 0) = false := beq_eq_false_iff_ne.2 (by omega)
    clear hs
    go_wp2_with fail
    refine (integer_draw w3 w.heap.size m cap k3 a HR3.out (by omega)).mono ?_
    rintro e w4 ⟨⟨l2, rfl, hl2⟩, hg4, k4, hk4, hr4⟩
    have HB4 := Lib.hid (below_row HB3.out hg4 (Nat.le_refl _))
    have HL2 := Lib.hid hl2
    clear hl2 hg4 hr4
    go_wp2_with fail
    go_ret2
    exact ⟨l, l2, rfl, HL.out, HL2.out, HB4.out⟩
set_option maxHeartbeats 1000000 in
theorem dIntDiv (w : World) (a : Option Addr) (n cap : Nat) (h : Cr w a n cap) : Calls Try.prog 20 #[.slice a n cap] w (D2P w) := by
  have HN := Lib.hid (newRnd_any w a n cap h)
  clear h
  go_enter Try.func20, Try.ntmps20
  go_wp2_with fail
  refine HN.out.mono ?_
  rintro e w1 ⟨rfl, hb1, m, hr1⟩
  have HB1 := Lib.hid hb1
  have HR1 := Lib.hid hr1
  clear hb1 hr1
  go_wp2_with fail
  refine (integer_draw w1 w.heap.size m cap 0 a HR1.out (by decide)).mono ?_
  rintro e w2 ⟨⟨l, rfl, hl⟩, hg2, k2, hk2, hr2⟩
  have HB2 := Lib.hid (below_row HB1.out hg2 (Nat.le_refl _))
  have HR2 := Lib.hid hr2
  have HL := Lib.hid hl
  clear hl hg2 hr2
  go_wp2_with fail
  refine (pick_any w2 w.heap.size a m cap k2 6 HR2.out (by omega) (by decide)).mono ?_
  rintro e w3 ⟨s, rfl, _, hg3, k3, hk3, hr3⟩
  have HB3 := Lib.hid (below_row HB2.out hg3 (Nat.le_refl _))
  have HR3 := Lib.hid hr3
  clear hg3 hr3
  by_cases hs : s = 0
  · subst hs
    go_wp2_with fail
    go_ret2
    exact ⟨l, l, rfl, HL.out, HL.out, HB3.out⟩
  · have hsf : ((s : Int) == 0) = false := beq_eq_false_iff_ne.2 (by omega)
    clear hs
    go_wp2_with fail
    refine (integer_draw w3 w.heap.size m cap k3 a HR3.out (by omega)).mono ?_
    rintro e w4 ⟨⟨l2, rfl, hl2⟩, hg4, k4, hk4, hr4⟩
    have HB4 := Lib.hid (below_row HB3.out hg4 (Nat.le_refl _))
    have HL2 := Lib.hid hl2
    clear hl2 hg4 hr4
    go_wp2_with fail
    go_ret2
    exact ⟨l, l2, rfl, HL.out, HL2.out, HB4.out⟩
set_option maxHeartbeats 1000000 in
theorem dIntMod (w : World) (a : Option Addr) (n cap : Nat) (h : Cr w a n cap) : Calls Try.prog 23 #[.slice a n cap] w (D2P w) := by
  have HN := Lib.hid (newRnd_any w a n cap h)
  clear h
  go_enter Try.func23, Try.ntmps23
  go_wp2_with fail
  refine HN.out.mono ?_
  rintro e w1 ⟨rfl, hb1, m, hr1⟩
  have HB1 := Lib.hid hb1
  have HR1 := Lib.hid hr1
  clear hb1 hr1
  go_wp2_with fail
  refine (integer_draw w1 w.heap.size m cap 0 a HR1.out (by decide)).mono ?_
  rintro e w2 ⟨⟨l, rfl, hl⟩, hg2, k2, hk2, hr2⟩
  have HB2 := Lib.hid (below_row HB1.out hg2 (Nat.le_refl _))
  have HR2 := Lib.hid hr2
  have HL := Lib.hid hl
  clear hl hg2 hr2
  go_wp2_with fail
  refine (pick_any w2 w.heap.size a m cap k2 6 HR2.out (by omega) (by decide)).mono ?_
  rintro e w3 ⟨s, rfl, _, hg3, k3, hk3, hr3⟩
  have HB3 := Lib.hid (below_row HB2.out hg3 (Nat.le_refl _))
  have HR3 := Lib.hid hr3
  clear hg3 hr3
  by_cases hs : s = 0
  · subst hs
    go_wp2_with fail
    go_ret2
    exact ⟨l, l, rfl, HL.out, HL.out, HB3.out⟩
  · have hsf : ((s : Int) == 0) = false := beq_eq_false_iff_ne.2 (by omega)
    clear hs
    go_wp2_with fail
    refine (integer_draw w3 w.heap.size m cap k3 a HR3.out (by omega)).mono ?_
    rintro e w4 ⟨⟨l2, rfl, hl2⟩, hg4, k4, hk4, hr4⟩
    have HB4 := Lib.hid (below_row HB3.out hg4 (Nat.le_refl _))
    have HL2 := Lib.hid hl2
    clear hl2 hg4 hr4
    go_wp2_with fail
    go_ret2
    exact ⟨l, l2, rfl, HL.out, HL2.out, HB4.out⟩
set_option maxHeartbeats 1000000 in
theorem dIntCmp (w : World) (a : Option Addr) (n cap : Nat) (h : Cr w a n cap) : Calls Try.prog 29 #[.slice a n cap] w (D2P w) := by
  have HN := Lib.hid (newRnd_any w a n cap h)
  clear h
  go_enter Try.func29, Try.ntmps29
  go_wp2_with fail
  refine HN.out.mono ?_
  rintro e w1 ⟨rfl, hb1, m, hr1⟩
  have HB1 := Lib.hid hb1
  have HR1 := Lib.hid hr1
  clear hb1 hr1
  go_wp2_with fail
  refine (integer_draw w1 w.heap.size m cap 0 a HR1.out (by decide)).mono ?_
  rintro e w2 ⟨⟨l, rfl, hl⟩, hg2, k2, hk2, hr2⟩
  have HB2 := Lib.hid (below_row HB1.out hg2 (Nat.le_refl _))
  have HR2 := Lib.hid hr2
  have HL := Lib.hid hl
  clear hl hg2 hr2
  go_wp2_with fail
  refine (pick_any w2 w.heap.size a m cap k2 6 HR2.out (by omega) (by decide)).mono ?_
  rintro e w3 ⟨s, rfl, _, hg3, k3, hk3, hr3⟩
  have HB3 := Lib.hid (below_row HB2.out hg3 (Nat.le_refl _))
  have HR3 := Lib.hid hr3
  clear hg3 hr3
  by_cases hs : s = 0
  · subst hs
    go_wp2_with fail
    go_ret2
    exact ⟨l, l, rfl, HL.out, HL.out, HB3.out⟩
  · have hsf : ((s : Int) == 0) = false := beq_eq_false_iff_ne.2 (by omega)
    clear hs
    go_wp2_with fail
    refine (integer_draw w3 w.heap.size m cap k3 a HR3.out (by omega)).mono ?_
    rintro e w4 ⟨⟨l2, rfl, hl2⟩, hg4, k4, hk4, hr4⟩
    have HB4 := Lib.hid (below_row HB3.out hg4 (Nat.le_refl _))
    have HL2 := Lib.hid hl2
    clear hl2 hg4 hr4
    go_wp2_with fail
    go_ret2
    exact ⟨l, l2, rfl, HL.out, HL2.out, HB4.out⟩
end Go.Proofs.Ytckmpenlpkhnfab
