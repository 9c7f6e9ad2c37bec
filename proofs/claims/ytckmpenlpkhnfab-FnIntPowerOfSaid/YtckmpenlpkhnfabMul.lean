/- impl.multiplyDigits: the product of two numbers of at most forty digits. -/
import Derived.Test.YtckmpenlpkhnfabCnt
namespace Go.Proofs.Ytckmpenlpkhnfab
open Go.RowKit
theorem setDg_high (X p d : Nat) (hd : d < 10) : setDg X p d / 10 ^ (p + 1) = X / 10 ^ (p + 1) := by
  rw [setDg_eq, Nat.pow_succ, ← Nat.div_div_eq_div_mul, Nat.add_mul_div_right _ _ (ten_pos p), Nat.div_eq_of_lt (Nat.mod_lt _ (ten_pos p)), Nat.zero_add]
  omega
/-- What holds behind j rounds of the inner loop: X is in the row, c is carried. -/
def MulMid (m n k j X c : Nat) : Prop := X + c * 10 ^ (k + j) = (m % 10 ^ k) * n + dg m k * (n % 10 ^ j) * 10 ^ k ∧ X / 10 ^ (k + j) = (m % 10 ^ k) * n / 10 ^ (k + j) ∧ c ≤ 9
theorem mulMid_start (m n k : Nat) : MulMid m n k 0 ((m % 10 ^ k) * n) 0 := by
  unfold MulMid; simp [Nat.mod_one]
theorem mulMid_step {m n k j X c : Nat} (h : MulMid m n k j X c) : MulMid m n k (j + 1) (setDg X (k + j) ((dg X (k + j) + dg m k * dg n j + c) % 10)) ((dg X (k + j) + dg m k * dg n j + c) / 10) := by
  obtain ⟨h1, h2, h3⟩ := h
  have b1 := dg_lt X (k + j)
  have b2 := dg_lt m k
  have b3 := dg_lt n j
  have hab : dg m k * dg n j ≤ 9 * 9 := Nat.mul_le_mul (by omega) (by omega)
  have hle := dg_mul_le X (k + j)
  refine ⟨?_, ?_, by omega⟩
  · unfold setDg
    have e1 : 10 ^ (k + (j + 1)) = 10 * 10 ^ (k + j) := by rw [← Nat.add_assoc, Nat.pow_succ']
    have e2 : dg m k * (n % 10 ^ (j + 1)) * 10 ^ k = dg m k * (n % 10 ^ j) * 10 ^ k + dg m k * dg n j * 10 ^ (k + j) := by
      rw [mod_succ_dg, Nat.mul_add, Nat.add_mul, ← Nat.mul_assoc (dg m k) (dg n j), Nat.mul_assoc (dg m k * dg n j), ← Nat.pow_add, Nat.add_comm j k]
    rw [e1, e2]
    generalize dg m k * dg n j = ab at *
    generalize dg X (k + j) = d at *
    have e3 : (d + ab + c) * 10 ^ (k + j) = ((d + ab + c) % 10) * 10 ^ (k + j) + ((d + ab + c) / 10) * (10 * 10 ^ (k + j)) := by
      rw [← Nat.mul_assoc, ← Nat.add_mul]; congr 1; omega
    have e4 : (d + ab + c) * 10 ^ (k + j) = d * 10 ^ (k + j) + ab * 10 ^ (k + j) + c * 10 ^ (k + j) := by rw [Nat.add_mul, Nat.add_mul]
    omega
  · rw [← Nat.add_assoc, setDg_high _ _ _ (Nat.mod_lt _ (by omega)), Nat.pow_succ, ← Nat.div_div_eq_div_mul, ← Nat.div_div_eq_div_mul, h2]
theorem mulMid_end {m n k X c : Nat} (h : MulMid m n k 40 X c) (hn : n < 10 ^ 40) : setDg X (k + 40) c = (m % 10 ^ (k + 1)) * n := by
  obtain ⟨h1, h2, h3⟩ := h
  have hp : (m % 10 ^ k) * n < 10 ^ (k + 40) := by
    rw [Nat.pow_add]
    exact Nat.mul_lt_mul'' (Nat.mod_lt _ (ten_pos k)) hn
  rw [Nat.div_eq_of_lt hp] at h2
  have hX : X < 10 ^ (k + 40) := by
    rcases Nat.div_eq_zero_iff.1 h2 with h4 | h4
    · have := ten_pos (k + 40); omega
    · exact h4
  rw [setDg_new _ _ _ hX, h1, Nat.mod_eq_of_lt hn, mod_succ_dg, Nat.add_mul, Nat.mul_assoc, Nat.mul_assoc, Nat.mul_comm n]
def MulOut (w wr : World) (m n X : Nat) : Prop := Below w.heap.size w wr ∧ Blk wr w.heap.size 41 (row80 m) ∧ Blk wr (w.heap.size + 1) 41 (row80 n) ∧ Blk wr (w.heap.size + 1 + 1) 41 (row80 0) ∧ Blk wr (w.heap.size + 1 + 1 + 1) 41 (row80 X)
theorem mul_start0 (w : World) (m n : Nat) : MulOut w ((((w.alloc (Obj.cells (row80 m) 41)).alloc (Obj.cells (row80 n) 41)).alloc (Obj.cells Try.zeroCells41 41)).alloc (Obj.cells Try.zeroCells41 41)) m n 0 := by
  rw [zero80]
  refine ⟨((((Below.refl _ _).alloc (Nat.le_refl _) _).alloc (by simp) _).alloc (by simp; omega) _).alloc (by simp; omega) _, ?_, ?_, ?_, ?_⟩
  · exact (((Blk.new _ _ _ rfl).alloc _).alloc _).alloc _
  · exact ((Blk.new _ _ _ (by simp)).alloc _).alloc _
  · exact (Blk.new _ _ _ (by simp)).alloc _
  · exact (Blk.new _ _ _ (by simp))
theorem mul_keep {w w1 w2 : World} {m n X B : Nat} (h : MulOut w w1 m n X) (hb : Below B w1 w2) (hB : w.heap.size + 1 + 1 + 1 < B) : MulOut w w2 m n X := by
  obtain ⟨h1, h2, h3, h4, h5⟩ := h
  exact ⟨h1.trans (hb.mono (by omega)), h2.below hb (by omega), h3.below hb (by omega), h4.below hb (by omega), h5.below hb (by omega)⟩
theorem mul_put {w wr : World} {m n X q p d : Nat} {v : Value} (h : MulOut w wr m n X) (hd : d < 10) (hv : v = .int .u8 (d : Int)) : MulOut w ((wr.drewN q).setCell ⟨w.heap.size + 1 + 1 + 1, p, none⟩ v) m n (setDg X p d) := by
  obtain ⟨h1, h2, h3, h4, h5⟩ := h
  subst hv
  refine ⟨(below_drewN' h1).setCell (by simp; omega) _, h2.setOff (by omega), h3.setOff (by omega), h4.setOff (by omega), ?_⟩
  exact ((h5.drewN q).set p _).same (row80_set _ _ _ hd)
set_option maxHeartbeats 1000000 in
theorem mul_any (m n : Nat) (w : World) (hm : m < 10 ^ 40) (hn : n < 10 ^ 40) :
    Calls Try.prog 70 #[.agg (row80 m), .agg (row80 n)] w fun e w' => e = .returned (.agg (row80 (m * n))) ∧ Below w.heap.size w w' := by
  have hs := cnt_spec m (Nat.lt_trans hm (by decide))
  have h40 : cnt m ≤ 40 := by
    rcases Nat.lt_or_ge 40 (cnt m) with h | h
    · have h5 : 10 ^ (cnt m - 1) ≤ m := by omega
      have h6 : 10 ^ 40 ≤ 10 ^ (cnt m - 1) := Nat.pow_le_pow_right (by omega) (by omega)
      omega
    · exact h
  have hend : (m % 10 ^ (cnt m)) * n = m * n := by rw [Nat.mod_eq_of_lt hs.2.2.1]
  have h1c : 1 ≤ cnt m := hs.1
  have Hend := Lib.hid hend
  have Hn := Lib.hid hn
  have hm0 := mul_start0 w m n
  have HM := Lib.hid hm0
  clear hm hn hs hend hm0
  go_enter Try.func70, Try.ntmps70
  go_wp2_with (first | (refine ld80 rfl _ rfl _ 0 rfl (HM.out.2.1.lies) ?_) | (go_at_call 58; refine (cnt_any _ _).mono ?_; rintro e w1 ⟨rfl, hb1⟩))
  have hm1 := mul_keep HM.out hb1 (by simp)
  have HM1 := Lib.hid hm1
  clear hb1 hm1 HM
  go_loopw [12] (fun i wr => ∃ k : Nat, k ≤ cnt m ∧ i = .int .i64 k ∧ MulOut w wr m n ((m % 10 ^ k) * n)) (fun i _ => cnt m - (intOf i).toNat)
  case atStart => exact ⟨0, by omega, rfl, by simpa [Nat.mod_one] using HM1.out⟩
  case round =>
    obtain ⟨k, hk, rfl, hI⟩ := hrel
    clear HM1 w1
    have HI := Lib.hid hI
    clear hI
    obtain ⟨wo, rfl⟩ : ∃ wo : World, wo = wr := ⟨_, rfl⟩
    by_cases hlt : k < cnt m
    · go_wp2
      go_loopw [7, 15] (fun c j wr => ∃ (jn X cn : Nat), jn ≤ 40 ∧ c = .int .u8 cn ∧ j = .int .i64 jn ∧ MulMid m n k jn X cn ∧ MulOut w wr m n X) (fun _ j _ => 40 - (intOf j).toNat)
      case atStart => exact ⟨0, _, 0, by omega, rfl, rfl, mulMid_start m n k, HI.out⟩
      case round =>
        obtain ⟨j, X, c, hj, rfl, rfl, hmid, hI⟩ := hrel
        have hc9 : c ≤ 9 := hmid.2.2
        have HMid := Lib.hid hmid
        have HI2 := Lib.hid hI
        clear hmid hI
        by_cases hjl : j < 40
        · have c2 : wr.cell? ⟨w.heap.size, k, none⟩ = some (.int .u8 (dg m k)) := by rw [HI2.out.2.1.cell, row80_get _ _ (by omega)]
          have c3 : wr.cell? ⟨w.heap.size + 1, j, none⟩ = some (.int .u8 (dg n j)) := by rw [HI2.out.2.2.1.cell, row80_get _ _ (by omega)]
          have c5 : wr.cell? ⟨w.heap.size + 1 + 1 + 1, k + j, none⟩ = some (.int .u8 (dg X (k + j))) := by rw [HI2.out.2.2.2.2.cell, row80_get _ _ (by omega)]
          have f5 : wr.frozen? ⟨w.heap.size + 1 + 1 + 1, k + j, none⟩ = false := HI2.out.2.2.2.2.free _
          have b1 := dg_lt X (k + j)
          have b2 := dg_lt m k
          have b3 := dg_lt n j
          have hab : dg m k * dg n j ≤ 9 * 9 := Nat.mul_le_mul (by omega) (by omega)
          have hab1 : (dg m k : Int) * (dg n j : Int) ≤ 81 := by have : ((dg m k * dg n j : Nat) : Int) ≤ 81 := by omega
                                                                 simpa using this
          have hab0 : 0 ≤ (dg m k : Int) * (dg n j : Int) := by have : 0 ≤ ((dg m k * dg n j : Nat) : Int) := by omega
                                                                simpa using this
          go_wp2
          go_quiet (fail)
          go_wp2
          go_roundw
          case rel =>
            refine ⟨j + 1, _, _, by omega, ?_, by go_num, mulMid_step HMid.out, mul_put HI2.out (Nat.mod_lt _ (by omega)) ?_⟩
            · go_num
            · go_num
          case measure => simp [intOf]; try omega
        · obtain rfl : j = 40 := by omega
          have c5 : wr.cell? ⟨w.heap.size + 1 + 1 + 1, k + 40, none⟩ = some (.int .u8 (dg X (k + 40))) := by rw [HI2.out.2.2.2.2.cell, row80_get _ _ (by omega)]
          have f5 : wr.frozen? ⟨w.heap.size + 1 + 1 + 1, k + 40, none⟩ = false := HI2.out.2.2.2.2.free _
          go_wp2
          go_roundw
          case rel =>
            refine ⟨k + 1, by omega, by go_num, ?_⟩
            rw [← mulMid_end HMid.out Hn.out]
            exact mul_put (q := 0) HI2.out (by omega) rfl
          case measure => simp [intOf]; try omega
    · obtain rfl : k = cnt m := by omega
      go_wp2_with (first | (refine ld80 rfl _ rfl _ 0 rfl (HI.out.2.2.2.2.lies) ?_) | (refine st80 rfl _ _ rfl _ rfl rfl (HI.out.2.2.2.1) (row80_size _) ?_))
      refine bodyPost_ret (v := .agg (row80 (m * n))) ?_ rfl ⟨rfl, ?_⟩
      · exact res80 rfl _ _ _ rfl (HI.out.2.2.2.1.row.same (by rw [Hend.out]))
      · exact below_setRow HI.out.1 (by omega)
end Go.Proofs.Ytckmpenlpkhnfab
