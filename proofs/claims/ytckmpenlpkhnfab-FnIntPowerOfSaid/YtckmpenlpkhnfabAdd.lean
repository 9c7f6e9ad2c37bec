/- impl.addDigits: the sum, cut at eighty digits. -/
import Derived.Test.YtckmpenlpkhnfabArr
namespace Go.Proofs.Ytckmpenlpkhnfab
open Go.RowKit
def AddInv (w wr : World) (m n k : Nat) : Prop := Below w.heap.size w wr ∧ Blk wr w.heap.size 41 (row80 m) ∧ Blk wr (w.heap.size + 1) 41 (row80 n) ∧ Blk wr (w.heap.size + 1 + 1) 41 (row80 0) ∧ Blk wr (w.heap.size + 1 + 1 + 1) 41 (row80 ((m % 10 ^ k + n % 10 ^ k) % 10 ^ k))
theorem add_start (w : World) (m n : Nat) : AddInv w ((((w.alloc (Obj.cells (row80 m) 41)).alloc (Obj.cells (row80 n) 41)).alloc (Obj.cells Try.zeroCells41 41)).alloc (Obj.cells Try.zeroCells41 41)) m n 0 := by
  rw [zero80]
  refine ⟨((((Below.refl _ _).alloc (Nat.le_refl _) _).alloc (by simp) _).alloc (by simp; omega) _).alloc (by simp; omega) _, ?_, ?_, ?_, ?_⟩
  · exact (((Blk.newest _ _ _).alloc _).alloc _).alloc _
  · exact ((Blk.new _ _ _ (by simp)).alloc _).alloc _
  · exact (Blk.new _ _ _ (by simp)).alloc _
  · exact (Blk.new _ _ _ (by simp)).same (by simp [Nat.mod_one])
theorem add_round (w wr : World) (m n k q : Nat) (h : AddInv w wr m n k) : AddInv w ((wr.drewN q).setCell ⟨w.heap.size + 1 + 1 + 1, k, none⟩ (.int .u8 (((dg m k : Nat) + (dg n k : Nat) + (cry m n k : Nat) : Int) % 10))) m n (k + 1) := by
  obtain ⟨h1, h2, h3, h4, h5⟩ := h
  refine ⟨(below_drewN' h1).setCell (by simp; omega) _, h2.setOff (by omega), h3.setOff (by omega), h4.setOff (by omega), ?_⟩
  have h6 := (h5.drewN q).set k (.int .u8 (((dg m k + dg n k + cry m n k) % 10 : Nat) : Int))
  rw [row80_set _ _ _ (Nat.mod_lt _ (by omega)), setDg_new _ _ _ (Nat.mod_lt _ (ten_pos k)), ← (add_step m n k).1] at h6
  exact h6
set_option maxHeartbeats 400000 in
theorem add_any (m n : Nat) (w : World) :
    Calls Try.prog 73 #[.agg (row80 m), .agg (row80 n)] w fun e w' => e = .returned (.agg (row80 (m + n))) ∧ Below w.heap.size w w' := by
  go_enter Try.func73, Try.ntmps73
  go_wp2
  go_loopw [6, 9] (fun c i wr => ∃ k : Nat, k ≤ 80 ∧ i = .int .i64 k ∧ c = .int .u8 ((cry m n k : Nat) : Int) ∧ AddInv w wr m n k) (fun _ i _ => 80 - (intOf i).toNat)
  case atStart => exact ⟨0, by omega, rfl, by simp [cry, Nat.mod_one], add_start w m n⟩
  case round =>
    obtain ⟨k, hk, rfl, rfl, hI⟩ := hrel
    by_cases hlt : k < 80
    · have c2 : wr.cell? ⟨w.heap.size, k, none⟩ = some (.int .u8 (dg m k)) := by rw [hI.2.1.cell, row80_get _ _ hlt]
      have c3 : wr.cell? ⟨w.heap.size + 1, k, none⟩ = some (.int .u8 (dg n k)) := by rw [hI.2.2.1.cell, row80_get _ _ hlt]
      have c5 : wr.cell? ⟨w.heap.size + 1 + 1 + 1, k, none⟩ = some (.int .u8 (dg ((m % 10 ^ k + n % 10 ^ k) % 10 ^ k) k)) := by rw [hI.2.2.2.2.cell, row80_get _ _ hlt]
      have f5 : wr.frozen? ⟨w.heap.size + 1 + 1 + 1, k, none⟩ = false := hI.2.2.2.2.free k
      have b2 := dg_lt m k
      have b3 := dg_lt n k
      have hc := cry_le m n k
      have HI := Lib.hid hI
      clear hI
      go_wp2
      go_quiet (fail)
      go_wp2
      go_roundw
      case rel =>
        refine ⟨k + 1, by omega, by go_num, ?_, ?_⟩
        · rw [(add_step m n k).2]; go_num
        · exact add_round w wr m n k nq HI.out
      case measure => simp [intOf]; omega
    · obtain rfl : k = 80 := by omega
      have HI := Lib.hid hI
      clear hI
      go_wp2_with (first | (refine ld80 rfl _ rfl _ 0 rfl (HI.out.2.2.2.2.lies) ?_) | (refine st80 rfl _ _ rfl _ rfl rfl (HI.out.2.2.2.1) (row80_size _) ?_))
      refine bodyPost_ret (v := .agg (row80 (m + n))) ?_ rfl ⟨rfl, ?_⟩
      · refine res80 rfl _ _ _ rfl (HI.out.2.2.2.1.row.same ?_)
        rw [← Nat.add_mod, row80_mod]
      · exact below_setRow HI.out.1 (by omega)
end Go.Proofs.Ytckmpenlpkhnfab
