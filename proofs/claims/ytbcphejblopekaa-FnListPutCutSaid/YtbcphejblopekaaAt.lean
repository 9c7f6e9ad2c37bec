/- The byte of a text at an index: the program's, the model's, the law. -/
import Derived.Test.YtbcphejblopekaaTxt
namespace Go.Proofs.Ytbcphejblopekaa
open Go.RowKit
def RngPost (w : World) (n lo hi : Int) (e : Ending) (w' : World) : Prop := e = .returned (.bool (decide (lo ≤ n) && decide (n ≤ hi))) ∧ w = w'
set_option maxHeartbeats 400000 in
theorem inRange_any (n lo hi : Int) (w : World) : Calls Try.prog 40 #[.int .i64 n, .int .i64 lo, .int .i64 hi] w (RngPost w n lo hi) := by
  by_cases h1 : lo ≤ n
  · by_cases h2 : n ≤ hi
    · have e1 : (decide (lo ≤ n) && decide (n ≤ hi)) = true := by simp [h1, h2]
      have E1 := Lib.hid e1
      clear e1
      go_enter Try.func40, Try.ntmps40
      go_wp2
      go_ret
      exact ⟨by rw [E1.out]; rfl, rfl⟩
    · have e1 : (decide (lo ≤ n) && decide (n ≤ hi)) = false := by simp [h1, h2]
      have E1 := Lib.hid e1
      clear e1
      go_enter Try.func40, Try.ntmps40
      go_wp2
      go_ret
      exact ⟨by rw [E1.out]; rfl, rfl⟩
  · have e1 : (decide (lo ≤ n) && decide (n ≤ hi)) = false := by simp [h1]
    have E1 := Lib.hid e1
    clear e1
    go_enter Try.func40, Try.ntmps40
    go_wp2
    go_ret
    exact ⟨by rw [E1.out]; rfl, rfl⟩
/-- What TextAt answers: the byte at the place p, or none. -/
def atV (s : ByteArray) (o : Option Nat) : Value := match o with
  | some p => .tuple #[.string ⟨#[s.data.toList.getD p 0]⟩, .bool true]
  | none => .tuple #[.string ⟨#[]⟩, .bool false]
theorem at_some (s : ByteArray) (p : Nat) (h : p < s.size) : atV s (some p) = .tuple #[.string ⟨#[s[p]]⟩, .bool true] := by
  have hl : p < s.data.toList.length := h
  have e : s.data.toList.getD p 0 = s[p] := by rw [List.getD_eq_getElem?_getD, List.getElem?_eq_getElem hl]; rfl
  show Value.tuple #[.string ⟨#[s.data.toList.getD p 0]⟩, .bool true] = _
  rw [e]
theorem at_cases (s : ByteArray) (i : Int) : (okT s = true ∧ ∃ p : Nat, p < s.size ∧ (i = (p : Int) ∨ (i < 0 ∧ i + (s.size : Int) = (p : Int)))) ∨ okT s = false ∨ i < -(s.size : Int) ∨ (s.size : Int) ≤ i := by
  cases h : okT s with
  | false => exact Or.inr (Or.inl rfl)
  | true =>
    by_cases h1 : i < -(s.size : Int)
    · exact Or.inr (Or.inr (Or.inl h1))
    · by_cases h2 : (s.size : Int) ≤ i
      · exact Or.inr (Or.inr (Or.inr h2))
      · left
        refine ⟨rfl, ?_⟩
        by_cases h3 : i < 0
        · exact ⟨(i + (s.size : Int)).toNat, by omega, Or.inr ⟨h3, by omega⟩⟩
        · exact ⟨i.toNat, by omega, Or.inl (by omega)⟩
theorem all_one (s : ByteArray) : [s].all okT = okT s := by simp
end Go.Proofs.Ytbcphejblopekaa
