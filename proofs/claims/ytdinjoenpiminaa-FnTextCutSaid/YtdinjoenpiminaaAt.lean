/- The byte of a text at an index: the program's, the model's, the law. -/
import Derived.Test.YtdinjoenpiminaaTxt
namespace Go.Proofs.Ytdinjoenpiminaa
open Go.RowKit
def RngPost (w : World) (n lo hi : Int) (e : Ending) (w' : World) : Prop := e = .returned (.bool (decide (lo ≤ n) && decide (n ≤ hi))) ∧ w = w'
set_option maxHeartbeats 400000 in
theorem inRange_any (n lo hi : Int) (w : World) : Calls Try.prog 50 #[.int .i64 n, .int .i64 lo, .int .i64 hi] w (RngPost w n lo hi) := by
  by_cases h1 : lo ≤ n
  · by_cases h2 : n ≤ hi
    · have e1 : (decide (lo ≤ n) && decide (n ≤ hi)) = true := by simp [h1, h2]
      have E1 := Lib.hid e1
      clear e1
      go_enter Try.func50, Try.ntmps50
      go_wp2
      go_ret
      exact ⟨by rw [E1.out]; rfl, rfl⟩
    · have e1 : (decide (lo ≤ n) && decide (n ≤ hi)) = false := by simp [h1, h2]
      have E1 := Lib.hid e1
      clear e1
      go_enter Try.func50, Try.ntmps50
      go_wp2
      go_ret
      exact ⟨by rw [E1.out]; rfl, rfl⟩
  · have e1 : (decide (lo ≤ n) && decide (n ≤ hi)) = false := by simp [h1]
    have E1 := Lib.hid e1
    clear e1
    go_enter Try.func50, Try.ntmps50
    go_wp2
    go_ret
    exact ⟨by rw [E1.out]; rfl, rfl⟩
/-- What TextAt answers: the byte at the place p, or none. -/
def atV (s : ByteArray) (o : Option Nat) : Value := match o with
  | some p => .tuple #[.string ⟨#[s.data.toList.getD p 0]⟩, .bool true]
  | none => .tuple #[.string ⟨#[]⟩, .bool false]
theorem at_some (s : ByteArray) (p : Nat) (h : p < s.size) : atV s (some p) = .tuple #[.string ⟨#[s[p]]⟩, .bool true] := by
  have hl : p < s.data.toList.length := h
  have e : s.data.toList.getD p 0 = s[p] := by rw [List.getD_eq_getElem?_getD, List.getElem?_eq_getElem hl]; rfl
  show Value.tuple #[.string ⟨#[s.data.toList.getD p 0]⟩, .bool true] = _
  rw [e]
theorem at_cases (s : ByteArray) (i : Int) : (okT s = true ∧ ∃ p : Nat, p < s.size ∧ (i = (p : Int) ∨ (i < 0 ∧ i + (s.size : Int) = (p : Int)))) ∨ okT s = false ∨ i < -(s.size : Int) ∨ (s.size : Int) ≤ i := by
  cases h : okT s with
  | false => exact Or.inr (Or.inl rfl)
  | true =>
    by_cases h1 : i < -(s.size : Int)
    · exact Or.inr (Or.inr (Or.inl h1))
    · by_cases h2 : (s.size : Int) ≤ i
      · exact Or.inr (Or.inr (Or.inr h2))
      · left
        refine ⟨rfl, ?_⟩
        by_cases h3 : i < 0
        · exact ⟨(i + (s.size : Int)).toNat, by omega, Or.inr ⟨h3, by omega⟩⟩
        · exact ⟨i.toNat, by omega, Or.inl (by omega)⟩
set_option maxHeartbeats 1000000 in
theorem specAt_some (s : ByteArray) (i : Int) (p : Nat) (w : World) (hs : s.size ≤ 1048576) (hok : okT s = true) (hp : p < s.size) (hi : i = (p : Int) ∨ (i < 0 ∧ i + (s.size : Int) = (p : Int))) :
    Calls Try.prog 21 #[.string s, .int .i64 i] w fun e w' => e = .returned (.tuple #[.string ⟨#[s[p]]⟩, .bool true]) ∧ Below w.heap.size w w' := by
  have HV := Lib.hid (fun w => validText_any s w hs)
  rw [hok] at HV
  clear hok
  have HX := Lib.hid (ext_one s p hp)
  have HRt : (decide (-(s.size : Int) ≤ i) && decide (i ≤ (s.size : Int) - 1)) = true := by
    rw [Bool.and_eq_true, decide_eq_true_eq, decide_eq_true_eq]
    omega
  have HR := Lib.hid HRt
  clear HRt
  rcases hi with rfl | ⟨hneg, hip⟩
  · go_enter Try.func21, Try.ntmps21
    go_wp2_with (first | (go_at_call 37; refine (HV.out _).mono ?_; rintro e w' ⟨rfl, rfl⟩) | (go_at_call 50; refine (inRange_any _ _ _ _).mono ?_; rintro e w' ⟨rfl, rfl⟩; rw [HR.out]))
    go_ret2
    exact ⟨by rw [← HX.out]; rfl, Below.refl _ _⟩
  · go_enter Try.func21, Try.ntmps21
    go_wp2_with (first | (go_at_call 37; refine (HV.out _).mono ?_; rintro e w' ⟨rfl, rfl⟩) | (go_at_call 50; refine (inRange_any _ _ _ _).mono ?_; rintro e w' ⟨rfl, rfl⟩; rw [HR.out]))
    go_ret2
    exact ⟨by rw [← HX.out]; rfl, Below.refl _ _⟩
set_option maxHeartbeats 1000000 in
theorem specAt_long (s : ByteArray) (i : Int) (w : World) (hs : s.size ≤ 1048576) (hok : okT s = false) :
    Calls Try.prog 21 #[.string s, .int .i64 i] w fun e w' => e = .returned (.tuple #[.string ⟨#[]⟩, .bool false]) ∧ Below w.heap.size w w' := by
  have HV := Lib.hid (fun w => validText_any s w hs)
  rw [hok] at HV
  clear hok
  go_enter Try.func21, Try.ntmps21
  go_wp2_with (first | (go_at_call 37; refine (HV.out _).mono ?_; rintro e w' ⟨rfl, rfl⟩))
  go_ret2
  exact ⟨rfl, Below.refl _ _⟩
set_option maxHeartbeats 1000000 in
theorem specAt_out (s : ByteArray) (i : Int) (w : World) (hs : s.size ≤ 1048576) (hok : okT s = true) (hi : i < -(s.size : Int) ∨ (s.size : Int) ≤ i) :
    Calls Try.prog 21 #[.string s, .int .i64 i] w fun e w' => e = .returned (.tuple #[.string ⟨#[]⟩, .bool false]) ∧ Below w.heap.size w w' := by
  have HV := Lib.hid (fun w => validText_any s w hs)
  rw [hok] at HV
  clear hok
  have HRt : (decide (-(s.size : Int) ≤ i) && decide (i ≤ (s.size : Int) - 1)) = false := by
    rw [Bool.and_eq_false_iff, decide_eq_false_iff_not, decide_eq_false_iff_not]
    omega
  have HR := Lib.hid HRt
  clear HRt hi
  go_enter Try.func21, Try.ntmps21
  go_wp2_with (first | (go_at_call 37; refine (HV.out _).mono ?_; rintro e w' ⟨rfl, rfl⟩) | (go_at_call 50; refine (inRange_any _ _ _ _).mono ?_; rintro e w' ⟨rfl, rfl⟩; rw [HR.out]))
  go_ret2
  exact ⟨rfl, Below.refl _ _⟩
theorem all_one (s : ByteArray) : [s].all okT = okT s := by simp
set_option maxHeartbeats 1000000 in
theorem implAt_some (s : ByteArray) (i : Int) (p : Nat) (w : World) (hs : s.size ≤ 1048576) (hlo : -9223372036854775808 ≤ i) (hhi : i ≤ 9223372036854775807) (hok : okT s = true) (hp : p < s.size) (hi : i = (p : Int) ∨ (i < 0 ∧ i + (s.size : Int) = (p : Int))) :
    Calls Try.prog 19 #[.string s, .int .i64 i] w fun e w' => e = .returned (.tuple #[.string ⟨#[s[p]]⟩, .bool true]) ∧ Below w.heap.size w w' := by
  have HV := Lib.hid (fun w => areTexts_any [s] _ _ (RdS.one w s) (by simp))
  rw [all_one, hok] at HV
  clear hok
  have HB := Lib.hid (show Below w.heap.size w (w.alloc (Obj.cells #[.string s] 9)) from (Below.refl _ _).alloc (Nat.le_refl _) _)
  rcases hi with rfl | ⟨hneg, hip⟩
  · skip
    go_enter Try.func19, Try.ntmps19
    go_wp2_with (first | (go_at_call 40; refine (HV.out _).mono ?_; rintro e w1 ⟨rfl, hw⟩; have HB1 := Lib.hid (show Below w.heap.size w w1 from hw ▸ HB.out); clear hw) | (refine (puts_text 28 9 5 (.tmp 29) rfl Try.underlying28 Try.underlying5 Try.underlying9 w1.heap.size _ [s[p]] rfl (lit8 w1 _ _ rfl)).gives.plain rfl ?_))
    go_ret2
    exact ⟨rfl, HB1.out.alloc HB1.out.size _⟩
  · skip
    go_enter Try.func19, Try.ntmps19
    go_wp2_with (first | (go_at_call 40; refine (HV.out _).mono ?_; rintro e w1 ⟨rfl, hw⟩; have HB1 := Lib.hid (show Below w.heap.size w w1 from hw ▸ HB.out); clear hw) | (refine (puts_text 28 9 5 (.tmp 29) rfl Try.underlying28 Try.underlying5 Try.underlying9 w1.heap.size _ [s[p]] rfl (lit8 w1 _ _ rfl)).gives.plain rfl ?_))
    go_ret2
    exact ⟨rfl, HB1.out.alloc HB1.out.size _⟩
set_option maxHeartbeats 1000000 in
theorem implAt_long (s : ByteArray) (i : Int)  (w : World) (hs : s.size ≤ 1048576) (hlo : -9223372036854775808 ≤ i) (hhi : i ≤ 9223372036854775807) (hok : okT s = false) :
    Calls Try.prog 19 #[.string s, .int .i64 i] w fun e w' => e = .returned (.tuple #[.string ⟨#[]⟩, .bool false]) ∧ Below w.heap.size w w' := by
  have HV := Lib.hid (fun w => areTexts_any [s] _ _ (RdS.one w s) (by simp))
  rw [all_one, hok] at HV
  clear hok
  have HB := Lib.hid (show Below w.heap.size w (w.alloc (Obj.cells #[.string s] 9)) from (Below.refl _ _).alloc (Nat.le_refl _) _)
  by_cases hneg : i < 0
  · skip
    go_enter Try.func19, Try.ntmps19
    go_wp2_with (first | (go_at_call 40; refine (HV.out _).mono ?_; rintro e w1 ⟨rfl, hw⟩; have HB1 := Lib.hid (show Below w.heap.size w w1 from hw ▸ HB.out); clear hw))
    go_ret2
    exact ⟨rfl, HB1.out⟩
  · skip
    go_enter Try.func19, Try.ntmps19
    go_wp2_with (first | (go_at_call 40; refine (HV.out _).mono ?_; rintro e w1 ⟨rfl, hw⟩; have HB1 := Lib.hid (show Below w.heap.size w w1 from hw ▸ HB.out); clear hw))
    go_ret2
    exact ⟨rfl, HB1.out⟩
set_option maxHeartbeats 1000000 in
theorem implAt_low (s : ByteArray) (i : Int)  (w : World) (hs : s.size ≤ 1048576) (hlo : -9223372036854775808 ≤ i) (hhi : i ≤ 9223372036854775807) (hok : okT s = true) (hi : i < -(s.size : Int)) :
    Calls Try.prog 19 #[.string s, .int .i64 i] w fun e w' => e = .returned (.tuple #[.string ⟨#[]⟩, .bool false]) ∧ Below w.heap.size w w' := by
  have HV := Lib.hid (fun w => areTexts_any [s] _ _ (RdS.one w s) (by simp))
  rw [all_one, hok] at HV
  clear hok
  have HB := Lib.hid (show Below w.heap.size w (w.alloc (Obj.cells #[.string s] 9)) from (Below.refl _ _).alloc (Nat.le_refl _) _)
  have hneg : i < 0 := by omega
  have hlow : i + (s.size : Int) < 0 := by omega
  go_enter Try.func19, Try.ntmps19
  go_wp2_with (first | (go_at_call 40; refine (HV.out _).mono ?_; rintro e w1 ⟨rfl, hw⟩; have HB1 := Lib.hid (show Below w.heap.size w w1 from hw ▸ HB.out); clear hw))
  go_ret2
  exact ⟨rfl, HB1.out⟩
set_option maxHeartbeats 1000000 in
theorem implAt_high (s : ByteArray) (i : Int)  (w : World) (hs : s.size ≤ 1048576) (hlo : -9223372036854775808 ≤ i) (hhi : i ≤ 9223372036854775807) (hok : okT s = true) (hi : (s.size : Int) ≤ i) :
    Calls Try.prog 19 #[.string s, .int .i64 i] w fun e w' => e = .returned (.tuple #[.string ⟨#[]⟩, .bool false]) ∧ Below w.heap.size w w' := by
  have HV := Lib.hid (fun w => areTexts_any [s] _ _ (RdS.one w s) (by simp))
  rw [all_one, hok] at HV
  clear hok
  have HB := Lib.hid (show Below w.heap.size w (w.alloc (Obj.cells #[.string s] 9)) from (Below.refl _ _).alloc (Nat.le_refl _) _)
  have hneg : 0 ≤ i := by omega
  go_enter Try.func19, Try.ntmps19
  go_wp2_with (first | (go_at_call 40; refine (HV.out _).mono ?_; rintro e w1 ⟨rfl, hw⟩; have HB1 := Lib.hid (show Below w.heap.size w w1 from hw ▸ HB.out); clear hw))
  go_ret2
  exact ⟨rfl, HB1.out⟩
end Go.Proofs.Ytdinjoenpiminaa
