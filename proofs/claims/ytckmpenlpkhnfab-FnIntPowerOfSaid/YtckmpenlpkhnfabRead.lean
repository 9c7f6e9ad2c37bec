/- impl.readInteger: a decimal text is read. -/
import Derived.Test.YtckmpenlpkhnfabPlus
namespace Go.Proofs.Ytckmpenlpkhnfab
open Go.RowKit
/-- The number of decimal digits, the highest first. -/
def valD (l : List UInt8) : Nat := l.foldl (fun a c => a * 10 + (c.toNat - 48)) 0
def digB (c : UInt8) : Bool := decide (48 ≤ c.toNat) && decide (c.toNat ≤ 57)
/-- The digits of an integer: not too many, no needless 0 at the head. -/
def bodyOk (neg : Bool) (d : List UInt8) : Bool := decide (1 ≤ d.length) && decide (d.length ≤ 40) && !(decide (d.head? = some 48) && (neg || decide (1 < d.length))) && d.all digB
def isNeg (l : List UInt8) : Bool := decide (l.head? = some 45)
def bodyOf (l : List UInt8) : List UInt8 := if isNeg l then l.tail else l
/-- A text is an integer. -/
def okI (l : List UInt8) : Bool := bodyOk (isNeg l) (bodyOf l)
/-- Its number. -/
def numI (l : List UInt8) : Int := sgn (isNeg l) (valD (bodyOf l))
def readV (l : List UInt8) : Value := if okI l then .tuple #[.agg (ival (numI l)), .bool true] else .tuple #[.agg (irow 0 false), .bool false]
theorem foldl_val (l : List UInt8) : ∀ a, l.foldl (fun a c => a * 10 + (c.toNat - 48)) a = a * 10 ^ l.length + valD l := by
  induction l with
  | nil => intro a; simp [valD]
  | cons c l ih =>
    intro a
    unfold valD
    rw [List.foldl_cons, List.foldl_cons, ih, ih (0 * 10 + (c.toNat - 48)), List.length_cons, Nat.pow_succ', Nat.add_mul, Nat.zero_mul, Nat.zero_add, Nat.mul_assoc]
    omega
theorem valD_cons (c : UInt8) (l : List UInt8) : valD (c :: l) = (c.toNat - 48) * 10 ^ l.length + valD l := by
  conv => lhs; unfold valD
  rw [List.foldl_cons, foldl_val]
  simp
theorem digB_iff (c : UInt8) : digB c = true ↔ 48 ≤ c.toNat ∧ c.toNat ≤ 57 := by unfold digB; simp
theorem valD_lt : ∀ (l : List UInt8), l.all digB = true → valD l < 10 ^ l.length
  | [], _ => by simp [valD]
  | c :: l, h => by
    rw [List.all_cons, Bool.and_eq_true, digB_iff] at h
    have ih := valD_lt l h.2
    rw [valD_cons, List.length_cons, Nat.pow_succ']
    have h2 : (c.toNat - 48) * 10 ^ l.length ≤ 9 * 10 ^ l.length := Nat.mul_le_mul_right _ (by omega)
    omega
/-- The state of the loop: the k last digits are read. -/
def RdInv (w wr : World) (d : List UInt8) (g k : Nat) : Prop := Below w.heap.size w wr ∧ Blk wr w.heap.size 43 (irow 0 false) ∧ w.heap.size < g ∧ Blk wr g 41 (row80 (valD (d.drop (d.length - k)))) ∧ (d.drop (d.length - k)).all digB = true
theorem rd_step {w wr : World} {d : List UInt8} {g k : Nat} (h : RdInv w wr d g k) (hk : k < d.length) (c : UInt8) (hc : d[d.length - 1 - k]? = some c) (h1 : 48 ≤ c.toNat) (h2 : c.toNat ≤ 57) : RdInv w (wr.setCell ⟨g, k, none⟩ (.int .u8 ((c.toNat : Int) - 48))) d g (k + 1) := by
  obtain ⟨a1, a2, a3, a4, a5⟩ := h
  have hi : d.length - 1 - k < d.length := by omega
  have hd : d.drop (d.length - (k + 1)) = c :: d.drop (d.length - k) := by
    rw [List.getElem?_eq_getElem hi] at hc
    injection hc with hc
    rw [show d.length - (k + 1) = d.length - 1 - k by omega, List.drop_eq_getElem_cons hi, hc, show d.length - 1 - k + 1 = d.length - k by omega]
  have hl : (d.drop (d.length - k)).length = k := by rw [List.length_drop]; omega
  have hlt := valD_lt _ a5
  rw [hl] at hlt
  refine ⟨a1.setCell (by simp; omega) _, a2.setOff (by omega), a3, ?_, ?_⟩
  · have h3 := a4.set k (.int .u8 ((c.toNat - 48 : Nat) : Int))
    rw [row80_set _ _ _ (by omega), setDg_new _ _ _ hlt] at h3
    rw [hd, valD_cons, hl, Nat.add_comm, show ((c.toNat : Int) - 48) = ((c.toNat - 48 : Nat) : Int) by omega]
    exact h3
  · rw [hd, List.all_cons, a5, Bool.and_true, digB_iff]; exact ⟨h1, h2⟩
/-- A byte that is no digit. -/
theorem body_bad {neg : Bool} {d : List UInt8} {i : Nat} {c : UInt8} (hc : d[i]? = some c) (h : ¬ (48 ≤ c.toNat ∧ c.toNat ≤ 57)) : bodyOk neg d = false := by
  have hm : c ∈ d := List.mem_of_getElem? hc
  have hall : d.all digB = false := by
    rw [List.all_eq_false]
    exact ⟨c, hm, by rw [digB_iff]; exact h⟩
  unfold bodyOk; rw [hall, Bool.and_false]
theorem info81' : True := trivial
set_option maxHeartbeats 400000 in
theorem read_pos_empty (s : ByteArray) (w : World) (h0 : s.size = 0) :
    Calls Try.prog 56 #[.string s] w fun e w' => e = .returned (.tuple #[.agg (irow 0 false), .bool false]) ∧ Below w.heap.size w w' := by
  have H0 := Lib.hid (show Blk (w.alloc (Obj.cells Try.zeroCells43 43)) w.heap.size 43 (irow 0 false) from (Blk.new _ _ _ rfl).same zero81)
  go_enter Try.func56, Try.ntmps56
  go_wp2_with (first | (refine bd81 rfl rfl ?_) | (refine st81 rfl (.tmp 2) (.tmp 27) rfl w.heap.size rfl rfl (t := 43) (old := irow 0 false) ?_ ?_ ?_; exact H0.out; exact irow_size _ _))
  refine bodyPost_ret (v := .tuple #[.agg (irow 0 false), .bool false]) (results_one_tmp rfl _ _ rfl rfl (var81 H0.out.row)) rfl ⟨rfl, below_setRow ((Below.refl _ _).alloc (Nat.le_refl _) _) (by omega)⟩
end Go.Proofs.Ytckmpenlpkhnfab
