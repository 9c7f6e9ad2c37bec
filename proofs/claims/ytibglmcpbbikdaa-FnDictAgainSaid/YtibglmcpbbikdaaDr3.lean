/- A number in decimal. -/
import Derived.Test.YtibglmcpbbikdaaDr2
namespace Go.Proofs.Ytibglmcpbbikdaa
open Go.RowKit
def dch (d : Nat) : UInt8 := UInt8.ofNat (48 + d)
theorem dch_toNat {d : Nat} (h : d < 10) : (dch d).toNat = 48 + d := by
  unfold dch; simp; omega
section
variable {P : Program} {o : Oper} {a : Act} {w : World}
theorem puts_cons (T T' : TypeId) (x y : Operand) (ho : o.op = .binOp .add T x y T') (c : UInt8) (l : List UInt8) (hx : a.eval x = .string ⟨#[c]⟩) (hy : a.eval y = .string ⟨l.toArray⟩) (hl : l.length ≤ 1000) : Puts P o a w (.string ⟨(c :: l).toArray⟩) := by
  have h1 : (⟨#[c]⟩ : ByteArray).size = 1 := rfl
  have h2 : (⟨l.toArray⟩ : ByteArray).size = l.length := by simp [ByteArray.size]
  have h := run_string_add_sum (P := P) w ⟨#[c]⟩ ⟨l.toArray⟩ (by rw [h1, h2]; omega)
  rw [cat_cons] at h
  unfold Puts execOp
  simp only [ho, hx, hy]
  simp [eqGuard, go_sem, h]
end
/-- Some text of at most so many bytes. -/
def TxP (w : World) (b : Nat) (e : Ending) (w' : World) : Prop := ∃ l : List UInt8, e = .returned (.string ⟨l.toArray⟩) ∧ l.length ≤ b ∧ Below w.heap.size w w'
set_option maxHeartbeats 1000000 in
theorem positive_up (y : Nat) (w : World) (hy : y ≤ 1000) : Calls Try.prog 96 #[.int .i64 (y : Int)] w (TxP w 1001) := by
  go_enter Try.func96, Try.ntmps96
  go_wp2
  go_loopw [0, 3] (fun z v wr => ∃ (x : Nat) (l : List UInt8), z = .int .i64 (x : Int) ∧ v = .string ⟨l.toArray⟩ ∧ l.length + x ≤ 1000 ∧ Hid (Below w.heap.size w wr)) (fun z _ _ => (intOf z).toNat)
  case atStart => exact ⟨y, [], rfl, rfl, by simpa using hy, Lib.hid (Below.refl _ _)⟩
  case round =>
    obtain ⟨x, l, rfl, rfl, hl, HI⟩ := hrel
    have HD := Lib.hid (show (48 : Int) + (x : Int) % 10 = ((dch (x % 10)).toNat : Int) by rw [dch_toNat (Nat.mod_lt _ (by decide))]; omega)
    have HI2 := Lib.hid (HI.out.alloc HI.out.size (.cells #[.int .u8 (48 + (x : Int) % 10)] 5))
    have HL := Lib.hid (show l.length ≤ 1000 by omega)
    by_cases h0 : x / 10 = 0
    · have hz : ((x : Int) / 10 == 0) = true := beq_iff_eq.2 (by omega)
      clear h0
      go_wp2_with (first | (refine (puts_text 22 9 5 (.tmp 14) rfl Try.underlying22 Try.underlying5 Try.underlying9 wr.heap.size _ [dch (x % 10)] rfl (lit8 wr _ _ HD.out)).gives.plain rfl ?_) | (refine (puts_cons 9 9 (.tmp 15) (.tmp 16) rfl (dch (x % 10)) l rfl rfl HL.out).gives.plain rfl ?_))
      go_ret
      exact ⟨_, rfl, by have := HL.out; simp; omega, HI2.out⟩
    · have hz : ((x : Int) / 10 == 0) = false := beq_eq_false_iff_ne.2 (by omega)
      go_wp2_with (first | (refine (puts_text 22 9 5 (.tmp 14) rfl Try.underlying22 Try.underlying5 Try.underlying9 wr.heap.size _ [dch (x % 10)] rfl (lit8 wr _ _ HD.out)).gives.plain rfl ?_) | (refine (puts_cons 9 9 (.tmp 15) (.tmp 16) rfl (dch (x % 10)) l rfl rfl HL.out).gives.plain rfl ?_))
      go_roundw
      case rel => exact ⟨x / 10, dch (x % 10) :: l, by go_num, rfl, by simp; omega, HI2⟩
      case measure => simp [intOf]; try omega
set_option maxHeartbeats 2000000 in
theorem positive_down (y : Nat) (w : World) (hy : y ≤ 1000) (hy0 : 0 < y) : Calls Try.prog 96 #[.int .i64 (-(y : Int))] w (TxP w 1001) := by
  go_enter Try.func96, Try.ntmps96
  go_wp2
  go_loopw [0, 3] (fun z v wr => ∃ (x : Nat) (l : List UInt8), 0 < x ∧ z = .int .i64 (-(x : Int)) ∧ v = .string ⟨l.toArray⟩ ∧ l.length + x ≤ 1000 ∧ Hid (Below w.heap.size w wr)) (fun z _ _ => (- intOf z).toNat)
  case atStart => exact ⟨y, [], hy0, rfl, rfl, by simpa using hy, Lib.hid (Below.refl _ _)⟩
  case round =>
    obtain ⟨x, l, hx, rfl, rfl, hl, HI⟩ := hrel
    have HL := Lib.hid (show l.length ≤ 1000 by omega)
    by_cases h5 : 0 < (x : Int) % 10
    · by_cases h0 : x / 10 = 0
      · skip
        have HD := Lib.hid (show (48 + (x : Int) % 10) = ((dch (x % 10)).toNat : Int) by rw [dch_toNat (by omega)]; omega)
        have HI2 := Lib.hid (HI.out.alloc HI.out.size (.cells #[.int .u8 (48 + (x : Int) % 10)] 5))
        have hz : (-((x : Int) / 10) == 0) = true := beq_iff_eq.2 (by omega)
        have hz2 : ((x : Int) / 10 == 0) = true := beq_iff_eq.2 (by omega)
        clear h0
        go_wp2_with (first | (refine (puts_text 22 9 5 (.tmp 14) rfl Try.underlying22 Try.underlying5 Try.underlying9 wr.heap.size _ [dch (x % 10)] rfl (lit8 wr _ _ HD.out)).gives.plain rfl ?_) | (refine (puts_cons 9 9 (.tmp 15) (.tmp 16) rfl (dch (x % 10)) l rfl rfl HL.out).gives.plain rfl ?_))
        go_ret
        exact ⟨_, rfl, by have := HL.out; simp; omega, HI2.out⟩
      · skip
        have HD := Lib.hid (show (48 + (x : Int) % 10) = ((dch (x % 10)).toNat : Int) by rw [dch_toNat (by omega)]; omega)
        have HI2 := Lib.hid (HI.out.alloc HI.out.size (.cells #[.int .u8 (48 + (x : Int) % 10)] 5))
        have hz : (-((x : Int) / 10) == 0) = false := beq_eq_false_iff_ne.2 (by omega)
        have hz2 : ((x : Int) / 10 == 0) = false := beq_eq_false_iff_ne.2 (by omega)
        go_wp2_with (first | (refine (puts_text 22 9 5 (.tmp 14) rfl Try.underlying22 Try.underlying5 Try.underlying9 wr.heap.size _ [dch (x % 10)] rfl (lit8 wr _ _ HD.out)).gives.plain rfl ?_) | (refine (puts_cons 9 9 (.tmp 15) (.tmp 16) rfl (dch (x % 10)) l rfl rfl HL.out).gives.plain rfl ?_))
        go_roundw
        case rel => exact ⟨x / 10, dch (x % 10) :: l, by omega, by go_num, rfl, by simp; omega, HI2⟩
        case measure => simp [intOf]; try omega
    · have h5' : (x : Int) % 10 ≤ 0 := by omega
      clear h5
      by_cases h0 : x / 10 = 0
      · exfalso; omega
      · skip
        have HD := Lib.hid (show (48 + -((x : Int) % 10)) = ((dch 0).toNat : Int) by rw [dch_toNat (by omega)]; omega)
        have HI2 := Lib.hid (HI.out.alloc HI.out.size (.cells #[.int .u8 (48 + -((x : Int) % 10))] 5))
        have hz : (-((x : Int) / 10) == 0) = false := beq_eq_false_iff_ne.2 (by omega)
        have hz2 : ((x : Int) / 10 == 0) = false := beq_eq_false_iff_ne.2 (by omega)
        go_wp2_with (first | (refine (puts_text 22 9 5 (.tmp 14) rfl Try.underlying22 Try.underlying5 Try.underlying9 wr.heap.size _ [dch 0] rfl (lit8 wr _ _ HD.out)).gives.plain rfl ?_) | (refine (puts_cons 9 9 (.tmp 15) (.tmp 16) rfl (dch 0) l rfl rfl HL.out).gives.plain rfl ?_))
        go_roundw
        case rel => exact ⟨x / 10, dch 0 :: l, by omega, by go_num, rfl, by simp; omega, HI2⟩
        case measure => simp [intOf]; try omega
set_option maxHeartbeats 1000000 in
theorem decimal_any (z : Int) (w : World) (h1 : -1000 ≤ z) (h2 : z ≤ 1000) : Calls Try.prog 84 #[.int .i64 z] w (TxP w 1002) := by
  by_cases hneg : z < 0
  · obtain ⟨y, rfl⟩ : ∃ y : Nat, z = -(y : Int) := ⟨(-z).toNat, by omega⟩
    have HP := Lib.hid (fun w => positive_down y w (by omega) (by omega))
    go_enter Try.func84, Try.ntmps84
    go_wp2_with fail
    refine (HP.out _).mono ?_
    rintro e w2 ⟨l, rfl, hl, hb⟩
    have HB := Lib.hid hb
    have HL := Lib.hid hl
    clear hb hl
    go_wp2_with (first | (refine (puts_cons2 9 9 (.const (.string ⟨#[45]⟩)) (.tmp 6) rfl 45 l rfl rfl (by have := HL.out; omega)).gives.plain rfl ?_))
    go_ret
    exact ⟨_, rfl, by have := HL.out; simp; omega, HB.out⟩
  · obtain ⟨y, rfl⟩ : ∃ y : Nat, z = (y : Int) := ⟨z.toNat, by omega⟩
    have HP := Lib.hid (fun w => positive_up y w (by omega))
    go_enter Try.func84, Try.ntmps84
    go_wp2_with fail
    refine (HP.out _).mono ?_
    rintro e w2 ⟨l, rfl, hl, hb⟩
    have HB := Lib.hid hb
    have HL := Lib.hid hl
    clear hb hl
    go_wp2_with fail
    go_ret
    exact ⟨_, rfl, by have := HL.out; omega, HB.out⟩
end Go.Proofs.Ytibglmcpbbikdaa
