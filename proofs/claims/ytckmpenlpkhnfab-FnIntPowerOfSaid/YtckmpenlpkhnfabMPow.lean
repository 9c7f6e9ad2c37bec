/- The model's powers. -/
import Derived.Test.YtckmpenlpkhnfabMDv
import Derived.Test.YtckmpenlpkhnfabFns5
namespace Go.Proofs.Ytckmpenlpkhnfab
open Go.RowKit
theorem fmtZ_one : fmtZ 1 = [49] := by
  rw [fmtZ_nonneg (by decide)]
  unfold fmtN
  rw [if_neg (by decide), show (1 : Int).natAbs = 1 from rfl, D_one]; rfl
theorem tx_one : txV 1 = .string ⟨#[49]⟩ := by unfold txV; rw [fmtZ_one]
theorem tx_of {s : ByteArray} (h : okI s.data.toList = true) : Value.string s = txV (rz s.data.toList) := by
  unfold txV; rw [fmtZ_rz h]
theorem mulI_tx {p y : Int} (hp : p.natAbs < 10 ^ 40) (hy : y.natAbs < 10 ^ 40) (w : World) : Calls Try.prog 46 #[txV p, txV y] w fun e w' => e = .returned (outI (p * y)) ∧ Below w.heap.size w w' := by
  obtain ⟨p1, p2⟩ := okI_fmtZ hp
  obtain ⟨y1, y2⟩ := okI_fmtZ hy
  have h := mulInts_any ⟨(fmtZ p).toArray⟩ ⟨(fmtZ y).toArray⟩ w p1 y1
  have e1 : rz (⟨(fmtZ p).toArray⟩ : ByteArray).data.toList = p := p2
  have e2 : rz (⟨(fmtZ y).toArray⟩ : ByteArray).data.toList = y := y2
  rw [e1, e2] at h
  exact h
theorem out_ok {z : Int} (h : z.natAbs < 10 ^ 40) : outI z = .tuple #[txV z, .bool true] := by unfold outI; rw [if_pos h]; rfl
theorem out_no {z : Int} (h : ¬ z.natAbs < 10 ^ 40) : outI z = .tuple #[.string ⟨#[]⟩, .bool false] := by unfold outI; rw [if_neg h]; rfl
/-- What holds while a power is made: p times y to the k is the power. -/
def PoI (x : Int) (n : Nat) (p y : Int) (k : Nat) : Prop := p.natAbs < 10 ^ 40 ∧ y.natAbs < 10 ^ 40 ∧ p * y ^ k = x ^ n ∧ (y ≠ 0 → p ≠ 0)
theorem po_odd {x p y : Int} {n k : Nat} (h : PoI x n p y k) (hk : k % 2 = 1) : (p * y) * (y * y) ^ (k / 2) = x ^ n := by
  have e : k = 2 * (k / 2) + 1 := by omega
  rw [← h.2.2.1]
  conv => rhs; rw [e]
  rw [Int.pow_succ, Int.pow_mul, show y ^ 2 = y * y by rw [Int.pow_succ, Int.pow_succ, Int.pow_zero, Int.one_mul]]
  rw [Int.mul_assoc, Int.mul_comm y]
theorem po_even {x p y : Int} {n k : Nat} (h : PoI x n p y k) (hk : ¬ k % 2 = 1) : p * (y * y) ^ (k / 2) = x ^ n := by
  have e : k = 2 * (k / 2) := by omega
  rw [← h.2.2.1]
  conv => rhs; rw [e]
  rw [Int.pow_mul, show y ^ 2 = y * y by rw [Int.pow_succ, Int.pow_succ, Int.pow_zero, Int.one_mul]]
theorem nz_mul {a b : Int} (ha : a ≠ 0) (hb : b ≠ 0) : a * b ≠ 0 := Int.mul_ne_zero ha hb
theorem nz_pow {a : Int} (ha : a ≠ 0) : ∀ k, a ^ k ≠ 0
  | 0 => by simp
  | k + 1 => by rw [Int.pow_succ]; exact nz_mul (nz_pow ha k) ha
theorem big_of {a b : Int} (h : ¬ a.natAbs < 10 ^ 40) (hb : b ≠ 0) : ¬ (a * b).natAbs < 10 ^ 40 := by
  rw [Int.natAbs_mul]
  have : a.natAbs * 1 ≤ a.natAbs * b.natAbs := Nat.mul_le_mul_left _ (by omega)
  omega
theorem nz_of_big {a b : Int} (h : ¬ (a * b).natAbs < 10 ^ 40) : a ≠ 0 ∧ b ≠ 0 := by
  constructor
  · rintro rfl; simp at h
  · rintro rfl; simp at h
theorem po_big1 {x p y : Int} {n k : Nat} (h : PoI x n p y k) (hk : k % 2 = 1) (hb : ¬ (p * y).natAbs < 10 ^ 40) : ¬ (x ^ n).natAbs < 10 ^ 40 := by
  rw [← po_odd h hk]
  obtain ⟨_, hy⟩ := nz_of_big hb
  exact big_of hb (nz_pow (nz_mul hy hy) _)
theorem big_pow {a : Int} (h : ¬ a.natAbs < 10 ^ 40) : ∀ k, 0 < k → ∃ b, a ^ k = a * b ∧ b ≠ 0
  | k + 1, _ => ⟨a ^ k, by rw [Int.pow_succ, Int.mul_comm], nz_pow (by rintro rfl; simp at h) k⟩
theorem po_big2 {x p y : Int} {n k : Nat} (hpy : p * (y * y) ^ k = x ^ n) (hp : p ≠ 0) (hk : 0 < k) (hb : ¬ (y * y).natAbs < 10 ^ 40) : ¬ (x ^ n).natAbs < 10 ^ 40 := by
  rw [← hpy]
  obtain ⟨b, e, hb0⟩ := big_pow hb k hk
  rw [e, Int.mul_comm, Int.mul_assoc]
  exact big_of hb (nz_mul hb0 hp)
set_option maxHeartbeats 4000000 in
theorem powInts_any (s : ByteArray) (n : Nat) (w : World) (h1 : okI s.data.toList = true) (hn : n ≤ 200) :
    Calls Try.prog 60 #[.string s, .int .i64 n] w fun e w' => e = .returned (outI ((rz s.data.toList) ^ n)) ∧ Below w.heap.size w w' := by
  have H0 := Lib.hid (show PoI (rz s.data.toList) n 1 (rz s.data.toList) n from ⟨by decide, okI_lt, Int.one_mul _, fun _ => by decide⟩)
  rw [tx_of h1]
  generalize rz s.data.toList = x at *
  have HT1 := Lib.hid tx_one
  have HO1 := Lib.hid (fun (h : (x ^ n).natAbs < 10 ^ 40) => out_ok h)
  have HO2 := Lib.hid (fun (h : ¬ (x ^ n).natAbs < 10 ^ 40) => out_no h)
  have HXP : ∀ z, Hid (x ^ n = z → outI (x ^ n) = outI z) := fun z => Lib.hid (fun h => by rw [h])
  have HXP := Lib.hid HXP
  clear h1
  generalize hov : outI (x ^ n) = ov at *
  go_enter Try.func60, Try.ntmps60
  go_wp2
  go_loopw [0, 1, 6] (fun av iv ov wr => ∃ (y p : Int) (k : Nat), k ≤ 200 ∧ av = txV y ∧ iv = .int .i64 k ∧ ov = txV p ∧ Hid (PoI x n p y k ∧ Below w.heap.size w wr)) (fun _ i _ _ => (intOf i).toNat)
  case atStart => exact ⟨x, 1, n, hn, rfl, rfl, HT1.out.symm, Lib.hid ⟨H0.out, Below.refl _ _⟩⟩
  case round =>
    obtain ⟨y, p, k, hk, rfl, rfl, rfl, HI⟩ := hrel
    have HM1 := Lib.hid (fun w => mulI_tx HI.out.1.1 HI.out.1.2.1 w)
    have HM2 := Lib.hid (fun w => mulI_tx HI.out.1.2.1 HI.out.1.2.1 w)
    have HB := Lib.hid HI.out.2
    by_cases h0 : k = 0
    · have HE := Lib.hid (show ov = .tuple #[txV p, .bool true] by
        have h := HI.out.1
        subst h0
        have e : x ^ n = p := by rw [← h.2.2.1, Int.pow_zero, Int.mul_one]
        rw [← hov, e]
        exact out_ok h.1)
      subst h0
      go_wp2
      go_ret2
      exact ⟨by rw [HE.out]; rfl, HB.out⟩
    · have hk0 : 0 < k := by omega
      clear h0
      by_cases hm : k % 2 = 1
      · skip
        have hme : ((k : Int) % 2 == 1) = true := beq_iff_eq.2 (by omega)
        by_cases hs : (p * y).natAbs < 10 ^ 40
        · have HS := Lib.hid (out_ok hs)
          by_cases hh : 0 < k / 2
          · by_cases hq : (y * y).natAbs < 10 ^ 40
            · skip
              have HQ := Lib.hid (out_ok hq)
              have HN := Lib.hid (show PoI x n (p * y) (y * y) (k / 2) from ⟨hs, hq, po_odd HI.out.1 hm, (fun h => nz_mul (HI.out.1.2.2.2 (fun e => h (by rw [e]; rfl))) (fun e => h (by rw [e]; rfl)))⟩)
              clear hq hs hm
              go_wp2_with fail
              refine (HM1.out _).mono ?_
              rintro e w3 ⟨rfl, hb⟩
              rw [HS.out]
              have HBw3 := Lib.hid (HB.out.trans (hb.mono HB.out.size))
              clear hb
              go_wp2_with (first | (refine ext rfl (.tmp 16) 0 [txV (p * y), .bool true] (txV (p * y)) rfl rfl rfl ?_) | (refine ext rfl (.tmp 16) 1 [txV (p * y), .bool true] (.bool true) rfl rfl rfl ?_))
              refine (HM2.out _).mono ?_
              rintro e w4 ⟨rfl, hb⟩
              rw [HQ.out]
              have HBw4 := Lib.hid (HBw3.out.trans (hb.mono HBw3.out.size))
              clear hb
              go_wp2_with (first | (refine ext rfl (.tmp 29) 0 [txV (y * y), .bool true] (txV (y * y)) rfl rfl rfl ?_) | (refine ext rfl (.tmp 29) 1 [txV (y * y), .bool true] (.bool true) rfl rfl rfl ?_))
              go_roundw
              case rel => exact ⟨y * y, p * y, k / 2, by omega, rfl, by go_num, rfl, Lib.hid ⟨HN.out, HBw4.out⟩⟩
              case measure => simp [intOf]; try omega
            · skip
              have HQ := Lib.hid (out_no hq)
              have hy0 : y ≠ 0 := (nz_of_big hq).1
              have HE := Lib.hid (show ov = .tuple #[.string ⟨#[]⟩, .bool false] by rw [← hov]; exact out_no (po_big2 (po_odd HI.out.1 hm) (nz_mul (HI.out.1.2.2.2 hy0) hy0) (show 0 < k / 2 by omega) hq))
              clear hq hs hm
              go_wp2_with fail
              refine (HM1.out _).mono ?_
              rintro e w3 ⟨rfl, hb⟩
              rw [HS.out]
              have HBw3 := Lib.hid (HB.out.trans (hb.mono HB.out.size))
              clear hb
              go_wp2_with (first | (refine ext rfl (.tmp 16) 0 [txV (p * y), .bool true] (txV (p * y)) rfl rfl rfl ?_) | (refine ext rfl (.tmp 16) 1 [txV (p * y), .bool true] (.bool true) rfl rfl rfl ?_))
              refine (HM2.out _).mono ?_
              rintro e w4 ⟨rfl, hb⟩
              rw [HQ.out]
              have HBw4 := Lib.hid (HBw3.out.trans (hb.mono HBw3.out.size))
              clear hb
              go_wp2_with (first | (refine ext rfl (.tmp 29) 0 [.string ⟨#[]⟩, .bool false] (.string ⟨#[]⟩) rfl rfl rfl ?_) | (refine ext rfl (.tmp 29) 1 [.string ⟨#[]⟩, .bool false] (.bool false) rfl rfl rfl ?_))
              go_ret2
              exact ⟨by rw [HE.out]; rfl, HBw4.out⟩
          · skip
            have hk1 : k = 1 := by omega
            subst hk1
            have HN := Lib.hid (show PoI x n (p * y) y 0 from ⟨hs, HI.out.1.2.1, by have := HI.out.1.2.2.1; rw [Int.pow_zero, Int.mul_one]; rwa [Int.pow_succ, Int.pow_zero, Int.one_mul] at this, fun h => nz_mul (HI.out.1.2.2.2 h) h⟩)
            clear hs hh hm
            go_wp2_with fail
            refine (HM1.out _).mono ?_
            rintro e w3 ⟨rfl, hb⟩
            rw [HS.out]
            have HBw3 := Lib.hid (HB.out.trans (hb.mono HB.out.size))
            clear hb
            go_wp2_with (first | (refine ext rfl (.tmp 16) 0 [txV (p * y), .bool true] (txV (p * y)) rfl rfl rfl ?_) | (refine ext rfl (.tmp 16) 1 [txV (p * y), .bool true] (.bool true) rfl rfl rfl ?_))
            go_roundw
            case rel => exact ⟨y, p * y, 0, by omega, rfl, by go_num, rfl, Lib.hid ⟨HN.out, HBw3.out⟩⟩
            case measure => simp [intOf]; try omega
        · skip
          have HS := Lib.hid (out_no hs)
          have HE := Lib.hid (show ov = .tuple #[.string ⟨#[]⟩, .bool false] by rw [← hov]; exact out_no (po_big1 HI.out.1 hm hs))
          clear hs hm
          go_wp2_with fail
          refine (HM1.out _).mono ?_
          rintro e w3 ⟨rfl, hb⟩
          rw [HS.out]
          have HBw3 := Lib.hid (HB.out.trans (hb.mono HB.out.size))
          clear hb
          go_wp2_with (first | (refine ext rfl (.tmp 16) 0 [.string ⟨#[]⟩, .bool false] (.string ⟨#[]⟩) rfl rfl rfl ?_) | (refine ext rfl (.tmp 16) 1 [.string ⟨#[]⟩, .bool false] (.bool false) rfl rfl rfl ?_))
          go_ret2
          exact ⟨by rw [HE.out]; rfl, HBw3.out⟩
      · skip
        have hme : ((k : Int) % 2 == 1) = false := beq_eq_false_iff_ne.2 (by omega)
        have hh : 0 < k / 2 := by omega
        by_cases hq : (y * y).natAbs < 10 ^ 40
        · skip
          have HQ := Lib.hid (out_ok hq)
          have HN := Lib.hid (show PoI x n (p) (y * y) (k / 2) from ⟨HI.out.1.1, hq, po_even HI.out.1 hm, (fun h => HI.out.1.2.2.2 (fun e => h (by rw [e]; rfl)))⟩)
          clear hq hm
          go_wp2_with fail
          refine (HM2.out _).mono ?_
          rintro e w4 ⟨rfl, hb⟩
          rw [HQ.out]
          have HBw4 := Lib.hid (HB.out.trans (hb.mono HB.out.size))
          clear hb
          go_wp2_with (first | (refine ext rfl (.tmp 29) 0 [txV (y * y), .bool true] (txV (y * y)) rfl rfl rfl ?_) | (refine ext rfl (.tmp 29) 1 [txV (y * y), .bool true] (.bool true) rfl rfl rfl ?_))
          go_roundw
          case rel => exact ⟨y * y, p, k / 2, by omega, rfl, by go_num, rfl, Lib.hid ⟨HN.out, HBw4.out⟩⟩
          case measure => simp [intOf]; try omega
        · skip
          have HQ := Lib.hid (out_no hq)
          have hy0 : y ≠ 0 := (nz_of_big hq).1
          have HE := Lib.hid (show ov = .tuple #[.string ⟨#[]⟩, .bool false] by rw [← hov]; exact out_no (po_big2 (po_even HI.out.1 hm) (HI.out.1.2.2.2 hy0) (show 0 < k / 2 by omega) hq))
          clear hq hm
          go_wp2_with fail
          refine (HM2.out _).mono ?_
          rintro e w4 ⟨rfl, hb⟩
          rw [HQ.out]
          have HBw4 := Lib.hid (HB.out.trans (hb.mono HB.out.size))
          clear hb
          go_wp2_with (first | (refine ext rfl (.tmp 29) 0 [.string ⟨#[]⟩, .bool false] (.string ⟨#[]⟩) rfl rfl rfl ?_) | (refine ext rfl (.tmp 29) 1 [.string ⟨#[]⟩, .bool false] (.bool false) rfl rfl rfl ?_))
          go_ret2
          exact ⟨by rw [HE.out]; rfl, HBw4.out⟩
end Go.Proofs.Ytckmpenlpkhnfab
