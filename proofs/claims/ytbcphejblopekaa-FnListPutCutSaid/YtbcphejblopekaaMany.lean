/- A text repeated: the program's, the model's, the law. -/
import Derived.Test.YtbcphejblopekaaAt
import Derived.Lib.AppendStr
namespace Go.Proofs.Ytbcphejblopekaa
open Go.RowKit
/-- A text repeated. -/
def rp : Nat → List UInt8 → List UInt8
  | 0, _ => []
  | n + 1, l => rp n l ++ l
theorem rp_len (n : Nat) (l : List UInt8) : (rp n l).length = n * l.length := by
  induction n with
  | zero => simp [rp]
  | succ n ih => unfold rp; rw [List.length_append, ih, Nat.add_mul, Nat.one_mul]
theorem rp_size (n : Nat) (s : ByteArray) : (⟨(rp n s.data.toList).toArray⟩ : ByteArray).size = n * s.size := by
  show (rp n s.data.toList).toArray.size = _
  rw [List.size_toArray, rp_len]; rfl
theorem rp_cat (n : Nat) (s : ByteArray) : (⟨(rp n s.data.toList).toArray⟩ ++ s : ByteArray) = ⟨(rp (n + 1) s.data.toList).toArray⟩ := by
  apply ByteArray.ext
  simp [rp]
theorem toList_ne {s : ByteArray} (h : 0 < s.size) : (s.toList == []) = false := by
  rw [beq_eq_false_iff_ne, ByteArray.toList_eq]
  intro h2
  have : s.data.toList.length = s.size := rfl
  rw [h2] at this
  simp at this; omega
theorem toList_nil {s : ByteArray} (h : s.size = 0) : (s.toList == []) = true := by
  rw [beq_iff_eq, ByteArray.toList_eq]
  exact List.eq_nil_of_length_eq_zero h
theorem many_room {s : ByteArray} {n : Int} (_hok : okT s = true) (hz : 0 < s.size) (hn : 0 < n) (hq : n ≤ 400 / (s.size : Int)) : ∀ k : Nat, k ≤ n.toNat → (rp k s.data.toList).length ≤ 400 := by
  intro k hk
  rw [rp_len]
  have h1 : n * (s.size : Int) ≤ 400 := Int.le_trans (Int.mul_le_mul_of_nonneg_right hq (by omega)) (Int.ediv_mul_le 400 (by omega))
  have h2 : (k : Int) * (s.size : Int) ≤ n * (s.size : Int) := Int.mul_le_mul_of_nonneg_right (by omega) (by omega)
  have h3 : ((k * s.size : Nat) : Int) ≤ 400 := by rw [Int.natCast_mul]; omega
  have : s.data.toList.length = s.size := rfl
  rw [this]; omega
theorem many_le {s : ByteArray} {n : Int} (_hz : 0 < s.size) (hq : n ≤ 400 / (s.size : Int)) : n ≤ 400 := by
  have : 400 / (s.size : Int) ≤ 400 := Int.ediv_le_self _ (by decide)
  omega
/-- Bytes as values. -/
def bv (l : List UInt8) : List Value := l.map fun c : UInt8 => Value.int .u8 (c.toNat : Int)
theorem many_next {w wr w' : World} {s : ByteArray} {k : Nat} {v v' : Value} (h : Below w.heap.size w wr ∧ wr.ownsRow w.heap.size 5 1 v (k * s.size) (bv (rp k s.data.toList))) (ho : w'.ownsRow w.heap.size 5 1 v' (k * s.size + s.size) (bv (rp k s.data.toList) ++ Lib.strCells s)) (hg : wr.grownBy w' v.ownBlock) : Below w.heap.size w w' ∧ w'.ownsRow w.heap.size 5 1 v' ((k + 1) * s.size) (bv (rp (k + 1) s.data.toList)) := by
  refine ⟨h.1.grown hg h.1.size fun j hj => (World.ownsRow.lt h.2 j hj).1, ?_⟩
  have e : bv (rp k s.data.toList) ++ Lib.strCells s = bv (rp (k + 1) s.data.toList) := by simp [bv, rp, Lib.strCells]
  rw [e] at ho
  rw [Nat.add_mul, Nat.one_mul]
  exact ho
theorem many_own {w : World} {base : Nat} {s : ByteArray} {k : Nat} {v : Value} (h : w.ownsRow base 5 1 v (k * s.size) (bv (rp k s.data.toList))) : Own w base 5 v ((rp k s.data.toList).map fun c => Value.int .u8 (c.toNat : Int)) := by
  unfold Own
  rw [List.length_map, rp_len]
  exact h
end Go.Proofs.Ytbcphejblopekaa
