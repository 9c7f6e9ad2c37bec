/- impl.subtractDigits: the difference, the first not less than the second. -/
import Derived.Test.YtckmpenlpkhnfabArr
namespace Go.Proofs.Ytckmpenlpkhnfab
open Go.RowKit
/-- What is borrowed from place k. -/
def bor (m n k : Nat) : Nat := if m % 10 ^ k < n % 10 ^ k then 1 else 0
/-- The difference of what is ahead of place k. -/
def dif (m n k : Nat) : Nat := m % 10 ^ k + bor m n k * 10 ^ k - n % 10 ^ k
theorem bor_le (m n k : Nat) : bor m n k ≤ 1 := by unfold bor; split <;> omega
theorem dif_lt (m n k : Nat) : dif m n k < 10 ^ k := by
  have h1 : m % 10 ^ k < 10 ^ k := Nat.mod_lt _ (ten_pos k)
  have h2 : n % 10 ^ k < 10 ^ k := Nat.mod_lt _ (ten_pos k)
  unfold dif bor
  split <;> omega
theorem sub_step (m n k : Nat) : dif m n (k + 1) = dif m n k + ((10 + dg m k - dg n k - bor m n k) % 10) * 10 ^ k ∧ bor m n (k + 1) = 1 - (10 + dg m k - dg n k - bor m n k) / 10 := by
  have hd := dif_lt m n k
  have hm := mod_succ_dg m k
  have hn := mod_succ_dg n k
  have a9 := dg_lt m k
  have b9 := dg_lt n k
  have c1 := bor_le m n k
  have h1 : m % 10 ^ k < 10 ^ k := Nat.mod_lt _ (ten_pos k)
  have h2 : n % 10 ^ k < 10 ^ k := Nat.mod_lt _ (ten_pos k)
  have hT := ten_pos k
  have e1 : dif m n k + n % 10 ^ k = m % 10 ^ k + bor m n k * 10 ^ k := by unfold dif bor; split <;> omega
  have eT : 10 ^ (k + 1) = 10 * 10 ^ k := Nat.pow_succ'
  generalize hb : bor m n k = c at *
  generalize hdd : dif m n k = d at *
  unfold dif bor
  rw [hm, hn, eT]
  generalize dg m k = a at *
  generalize dg n k = b at *
  generalize m % 10 ^ k = M at *
  generalize n % 10 ^ k = N at *
  generalize 10 ^ k = T at *
  by_cases h : b + c ≤ a
  · obtain ⟨s, rfl⟩ : ∃ s, a = b + c + s := ⟨a - b - c, by omega⟩
    have ex : (b + c + s) * T = b * T + c * T + s * T := by rw [Nat.add_mul, Nat.add_mul]
    have ey : (10 + (b + c + s) - b - c) = 10 + s := by omega
    rw [ey, ex, show (10 + s) % 10 = s by omega, show (10 + s) / 10 = 1 by omega, if_neg (by omega)]
    omega
  · obtain ⟨s, hs⟩ : ∃ s, 10 + a = b + c + s := ⟨10 + a - b - c, by omega⟩
    have ex : 10 * T + a * T = b * T + c * T + s * T := by rw [← Nat.add_mul, ← Nat.add_mul, ← Nat.add_mul, hs]
    have ey : 10 + a - b - c = s := by omega
    have es : s * T ≤ 9 * T := Nat.mul_le_mul_right _ (by omega)
    rw [ey, show s % 10 = s by omega, show s / 10 = 0 by omega, if_pos (by omega)]
    omega
theorem dif_all (m n : Nat) (hm : m < 10 ^ 80) (h : n ≤ m) : dif m n 80 = m - n := by
  unfold dif bor
  rw [Nat.mod_eq_of_lt hm, Nat.mod_eq_of_lt (show n < 10 ^ 80 by omega), if_neg (by omega)]
  omega
def SubInv (w wr : World) (m n k : Nat) : Prop := Below w.heap.size w wr ∧ Blk wr w.heap.size 41 (row80 m) ∧ Blk wr (w.heap.size + 1) 41 (row80 n) ∧ Blk wr (w.heap.size + 1 + 1) 41 (row80 0) ∧ Blk wr (w.heap.size + 1 + 1 + 1) 41 (row80 (dif m n k))
theorem sub_start (w : World) (m n : Nat) : SubInv w ((((w.alloc (Obj.cells (row80 m) 41)).alloc (Obj.cells (row80 n) 41)).alloc (Obj.cells Try.zeroCells41 41)).alloc (Obj.cells Try.zeroCells41 41)) m n 0 := by
  rw [zero80]
  refine ⟨((((Below.refl _ _).alloc (Nat.le_refl _) _).alloc (by simp) _).alloc (by simp; omega) _).alloc (by simp; omega) _, ?_, ?_, ?_, ?_⟩
  · exact (((Blk.new _ _ _ rfl).alloc _).alloc _).alloc _
  · exact ((Blk.new _ _ _ (by simp)).alloc _).alloc _
  · exact (Blk.new _ _ _ (by simp)).alloc _
  · exact (Blk.new _ _ _ (by simp)).same (by simp [dif, bor, Nat.mod_one])
theorem sub_round (w wr : World) (m n k q : Nat) (h : SubInv w wr m n k) : SubInv w ((wr.drewN q).setCell ⟨w.heap.size + 1 + 1 + 1, k, none⟩ (.int .u8 ((10 + (dg m k : Nat) - (dg n k : Nat) - (bor m n k : Nat) : Int) % 10))) m n (k + 1) := by
  have a9 := dg_lt m k
  have b9 := dg_lt n k
  have c1 := bor_le m n k
  obtain ⟨h1, h2, h3, h4, h5⟩ := h
  refine ⟨(below_drewN' h1).setCell (by simp; omega) _, h2.setOff (by omega), h3.setOff (by omega), h4.setOff (by omega), ?_⟩
  have h6 := (h5.drewN q).set k (.int .u8 (((10 + dg m k - dg n k - bor m n k) % 10 : Nat) : Int))
  rw [row80_set _ _ _ (Nat.mod_lt _ (by omega)), setDg_new _ _ _ (dif_lt m n k), ← (sub_step m n k).1] at h6
  have e : (10 + (dg m k : Nat) - (dg n k : Nat) - (bor m n k : Nat) : Int) % 10 = (((10 + dg m k - dg n k - bor m n k) % 10 : Nat) : Int) := by omega
  rw [e]
  exact h6
set_option maxHeartbeats 400000 in
theorem sub_any (m n : Nat) (w : World) (hm : m < 10 ^ 80) (hmn : n ≤ m) :
    Calls Try.prog 74 #[.agg (row80 m), .agg (row80 n)] w fun e w' => e = .returned (.agg (row80 (m - n))) ∧ Below w.heap.size w w' := by
  have hall := dif_all m n hm hmn
  have Hall := Lib.hid hall
  clear hall hm hmn
  go_enter Try.func74, Try.ntmps74
  go_wp2
  go_loopw [6, 9] (fun c i wr => ∃ k : Nat, k ≤ 80 ∧ i = .int .i64 k ∧ c = .int .u8 (bor m n k : Int) ∧ SubInv w wr m n k) (fun _ i _ => 80 - (intOf i).toNat)
  case atStart => exact ⟨0, by omega, rfl, by simp [bor, Nat.mod_one], sub_start w m n⟩
  case round =>
    obtain ⟨k, hk, rfl, rfl, hI⟩ := hrel
    by_cases hlt : k < 80
    · have c2 : wr.cell? ⟨w.heap.size, k, none⟩ = some (.int .u8 (dg m k)) := by rw [hI.2.1.cell, row80_get _ _ hlt]
      have c3 : wr.cell? ⟨w.heap.size + 1, k, none⟩ = some (.int .u8 (dg n k)) := by rw [hI.2.2.1.cell, row80_get _ _ hlt]
      have c5 : wr.cell? ⟨w.heap.size + 1 + 1 + 1, k, none⟩ = some (.int .u8 (dg (dif m n k) k)) := by rw [hI.2.2.2.2.cell, row80_get _ _ hlt]
      have f5 : wr.frozen? ⟨w.heap.size + 1 + 1 + 1, k, none⟩ = false := hI.2.2.2.2.free k
      have b2 := dg_lt m k
      have b3 := dg_lt n k
      have hc := bor_le m n k
      have HI := Lib.hid hI
      clear hI
      go_wp2
      go_quiet (fail)
      go_wp2
      go_roundw
      case rel =>
        refine ⟨k + 1, by omega, by go_num, ?_, ?_⟩
        · rw [(sub_step m n k).2]; go_num
        · exact sub_round w wr m n k nq HI.out
      case measure => simp [intOf]; omega
    · obtain rfl : k = 80 := by omega
      have HI := Lib.hid hI
      clear hI
      go_wp2_with (first | (refine ld80 rfl _ rfl _ 0 rfl (HI.out.2.2.2.2.lies) ?_) | (refine st80 rfl _ _ rfl _ rfl rfl (HI.out.2.2.2.1) (row80_size _) ?_))
      refine bodyPost_ret (v := .agg (row80 (m - n))) ?_ rfl ⟨rfl, ?_⟩
      · exact res80 rfl _ _ _ rfl (HI.out.2.2.2.1.row.same (by rw [Hall.out]))
      · exact below_setRow HI.out.1 (by omega)
end Go.Proofs.Ytckmpenlpkhnfab
