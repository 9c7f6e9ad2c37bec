/- A negative number in decimal. -/
import Derived.Test.YtckmpenlpkhnfabDraw2
namespace Go.Proofs.Ytckmpenlpkhnfab
open Go.RowKit
section
variable {P : Program} {o : Oper} {a : Act} {w : World}
/-- One byte ahead of a text. -/
theorem puts_cons2 (T T' : TypeId) (x y : Operand) (ho : o.op = .binOp .add T x y T') (c : UInt8) (l : List UInt8) (hx : a.eval x = .string ⟨#[c]⟩) (hy : a.eval y = .string ⟨l.toArray⟩) (hl : l.length ≤ 10000000) : Puts P o a w (.string ⟨(c :: l).toArray⟩) := by
  have h1 : (⟨#[c]⟩ : ByteArray).size = 1 := rfl
  have h2 : (⟨l.toArray⟩ : ByteArray).size = l.length := by simp [ByteArray.size]
  have h := run_string_add_sum (P := P) w ⟨#[c]⟩ ⟨l.toArray⟩ (by rw [h1, h2]; omega)
  rw [cat_cons] at h
  unfold Puts execOp
  simp only [ho, hx, hy]
  simp [eqGuard, go_sem, h]
/-- Two texts. -/
theorem puts_cat2 (T T' : TypeId) (x y : Operand) (ho : o.op = .binOp .add T x y T') (m l : List UInt8) (hx : a.eval x = .string ⟨m.toArray⟩) (hy : a.eval y = .string ⟨l.toArray⟩) (hm : m.length ≤ 10000000) (hl : l.length ≤ 10000000) : Puts P o a w (.string ⟨(m ++ l).toArray⟩) := by
  have h1 : (⟨m.toArray⟩ : ByteArray).size = m.length := by simp [ByteArray.size]
  have h2 : (⟨l.toArray⟩ : ByteArray).size = l.length := by simp [ByteArray.size]
  have h := run_string_add_sum (P := P) w ⟨m.toArray⟩ ⟨l.toArray⟩ (by rw [h1, h2]; omega)
  have e : (⟨m.toArray⟩ ++ ⟨l.toArray⟩ : ByteArray) = ⟨(m ++ l).toArray⟩ := by apply ByteArray.ext; simp
  rw [e] at h
  unfold Puts execOp
  simp only [ho, hx, hy]
  simp [eqGuard, go_sem, h]
end
set_option maxHeartbeats 2000000 in
theorem positive_down (y : Nat) (w : World) (hy : y ≤ 1000) (hy0 : 0 < y) : Calls Try.prog 79 #[.int .i64 (-(y : Int))] w (TxP w 1001) := by
  go_enter Try.func79, Try.ntmps79
  go_wp2
  go_loopw [0, 3] (fun z v wr => ∃ (x : Nat) (l : List UInt8), 0 < x ∧ z = .int .i64 (-(x : Int)) ∧ v = .string ⟨l.toArray⟩ ∧ l.length + x ≤ 1000 ∧ Hid (Below w.heap.size w wr)) (fun z _ _ => (- intOf z).toNat)
  case atStart => exact ⟨y, [], hy0, rfl, rfl, by simpa using hy, Lib.hid (Below.refl _ _)⟩
  case round =>
    obtain ⟨x, l, hx, rfl, rfl, hl, HI⟩ := hrel
    have HL := Lib.hid (show l.length ≤ 1000 by omega)
    by_cases h5 : 0 < (x : Int) % 10
    · by_cases h0 : x / 10 = 0
      · skip
        have HD := Lib.hid (show (48 + (x : Int) % 10) = ((dch (x % 10)).toNat : Int) by rw [dch_toNat (by omega)]; omega)
        have HI2 := Lib.hid (HI.out.alloc HI.out.size (.cells #[.int .u8 (48 + (x : Int) % 10)] 5))
        have hz : (-((x : Int) / 10) == 0) = true := beq_iff_eq.2 (by omega)
        have hz2 : ((x : Int) / 10 == 0) = true := beq_iff_eq.2 (by omega)
        clear h0
        go_wp2_with (first | (refine (puts_text 22 9 5 (.tmp 14) rfl Try.underlying22 Try.underlying5 Try.underlying9 wr.heap.size _ [dch (x % 10)] rfl (lit8 wr _ _ HD.out)).gives.plain rfl ?_) | (refine (puts_cons 9 9 (.tmp 15) (.tmp 16) rfl (dch (x % 10)) l rfl rfl HL.out).gives.plain rfl ?_))
        go_ret
        exact ⟨_, rfl, by have := HL.out; simp; omega, HI2.out⟩
      · skip
        have HD := Lib.hid (show (48 + (x : Int) % 10) = ((dch (x % 10)).toNat : Int) by rw [dch_toNat (by omega)]; omega)
        have HI2 := Lib.hid (HI.out.alloc HI.out.size (.cells #[.int .u8 (48 + (x : Int) % 10)] 5))
        have hz : (-((x : Int) / 10) == 0) = false := beq_eq_false_iff_ne.2 (by omega)
        have hz2 : ((x : Int) / 10 == 0) = false := beq_eq_false_iff_ne.2 (by omega)
        go_wp2_with (first | (refine (puts_text 22 9 5 (.tmp 14) rfl Try.underlying22 Try.underlying5 Try.underlying9 wr.heap.size _ [dch (x % 10)] rfl (lit8 wr _ _ HD.out)).gives.plain rfl ?_) | (refine (puts_cons 9 9 (.tmp 15) (.tmp 16) rfl (dch (x % 10)) l rfl rfl HL.out).gives.plain rfl ?_))
        go_roundw
        case rel => exact ⟨x / 10, dch (x % 10) :: l, by omega, by go_num, rfl, by simp; omega, HI2⟩
        case measure => simp [intOf]; try omega
    · have h5' : (x : Int) % 10 ≤ 0 := by omega
      clear h5
      by_cases h0 : x / 10 = 0
      · exfalso; omega
      · skip
        have HD := Lib.hid (show (48 + -((x : Int) % 10)) = ((dch 0).toNat : Int) by rw [dch_toNat (by omega)]; omega)
        have HI2 := Lib.hid (HI.out.alloc HI.out.size (.cells #[.int .u8 (48 + -((x : Int) % 10))] 5))
        have hz : (-((x : Int) / 10) == 0) = false := beq_eq_false_iff_ne.2 (by omega)
        have hz2 : ((x : Int) / 10 == 0) = false := beq_eq_false_iff_ne.2 (by omega)
        go_wp2_with (first | (refine (puts_text 22 9 5 (.tmp 14) rfl Try.underlying22 Try.underlying5 Try.underlying9 wr.heap.size _ [dch 0] rfl (lit8 wr _ _ HD.out)).gives.plain rfl ?_) | (refine (puts_cons 9 9 (.tmp 15) (.tmp 16) rfl (dch 0) l rfl rfl HL.out).gives.plain rfl ?_))
        go_roundw
        case rel => exact ⟨x / 10, dch 0 :: l, by omega, by go_num, rfl, by simp; omega, HI2⟩
        case measure => simp [intOf]; try omega
set_option maxHeartbeats 1000000 in
theorem decimal_any (z : Int) (w : World) (h1 : -1000 ≤ z) (h2 : z ≤ 1000) : Calls Try.prog 69 #[.int .i64 z] w (TxP w 1002) := by
  by_cases hneg : z < 0
  · obtain ⟨y, rfl⟩ : ∃ y : Nat, z = -(y : Int) := ⟨(-z).toNat, by omega⟩
    have HP := Lib.hid (fun w => positive_down y w (by omega) (by omega))
    go_enter Try.func69, Try.ntmps69
    go_wp2_with fail
    refine (HP.out _).mono ?_
    rintro e w2 ⟨l, rfl, hl, hb⟩
    have HB := Lib.hid hb
    have HL := Lib.hid hl
    clear hb hl
    go_wp2_with (first | (refine (puts_cons2 9 9 (.const (.string ⟨#[45]⟩)) (.tmp 6) rfl 45 l rfl rfl (by have := HL.out; omega)).gives.plain rfl ?_))
    go_ret
    exact ⟨_, rfl, by have := HL.out; simp; omega, HB.out⟩
  · obtain ⟨y, rfl⟩ : ∃ y : Nat, z = (y : Int) := ⟨z.toNat, by omega⟩
    have HP := Lib.hid (fun w => positive_up y w (by omega))
    go_enter Try.func69, Try.ntmps69
    go_wp2_with fail
    refine (HP.out _).mono ?_
    rintro e w2 ⟨l, rfl, hl, hb⟩
    have HB := Lib.hid hb
    have HL := Lib.hid hl
    clear hb hl
    go_wp2_with fail
    go_ret
    exact ⟨_, rfl, by have := HL.out; omega, HB.out⟩
end Go.Proofs.Ytckmpenlpkhnfab
