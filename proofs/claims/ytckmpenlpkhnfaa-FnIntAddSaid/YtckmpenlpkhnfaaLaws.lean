/- The laws on sums, differences, products and orders: the program and the model agree. -/
import Derived.Test.YtckmpenlpkhnfaaMEnt
import Derived.Test.YtckmpenlpkhnfaaFns3
namespace Go.Proofs.Ytckmpenlpkhnfaa
open Go.RowKit
theorem noV_form : ∃ l b, noV = .tuple #[.string ⟨l⟩, .bool b] := ⟨_, _, rfl⟩
theorem addV_form (a b : List UInt8) : ∃ l c, addV a b = .tuple #[.string ⟨l⟩, .bool c] := by
  unfold addV; split
  · exact outI_form _
  · exact noV_form
theorem subV_form (a b : List UInt8) : ∃ l c, subV a b = .tuple #[.string ⟨l⟩, .bool c] := by
  unfold subV; split
  · exact outI_form _
  · exact noV_form
theorem mulV_form (a b : List UInt8) : ∃ l c, mulV a b = .tuple #[.string ⟨l⟩, .bool c] := by
  unfold mulV; split
  · exact outI_form _
  · exact noV_form
theorem cmpV_form (a b : List UInt8) : ∃ z, cmpV a b = .int .i64 z := by
  unfold cmpV; split
  · exact ⟨_, rfl⟩
  · exact ⟨_, rfl⟩
set_option maxHeartbeats 1000000 in
theorem exactIntAdd_walk (a0 a1 : ByteArray) (w0 : a0.size ≤ maxLen) (w1 : a1.size ≤ maxLen) (w : World) :
    Calls Try.prog 4 #[.string a0, .string a1] w fun e w' => e = .returned (.bool true) ∧ Below w.heap.size w w' := by
  unfold maxLen at w0 w1
  by_cases h0 : a0.size ≤ 1048576
  · by_cases h1 : a1.size ≤ 1048576
    · have H1 := Lib.hid (fun w => specAdd_any a0 a1 w h0 h1)
      have H2 := Lib.hid (fun w => intAdd_any a0 a1 w)
      obtain ⟨l, bb, hl⟩ := addV_form a0.data.toList a1.data.toList
      rw [hl] at H1 H2
      clear hl
      go_enter Try.func4, Try.ntmps4
      go_wp2_with fail
      refine (H1.out _).mono ?_
      rintro e w2 ⟨rfl, hb2⟩
      have HB2 := Lib.hid hb2
      clear hb2
      go_wp2_with (first | (refine ext rfl (.tmp 15) 0 [.string ⟨l⟩, .bool bb] (.string ⟨l⟩) rfl rfl rfl ?_) | (refine ext rfl (.tmp 15) 1 [.string ⟨l⟩, .bool bb] (.bool bb) rfl rfl rfl ?_))
      refine (H2.out _).mono ?_
      rintro e w3 ⟨rfl, hb3⟩
      have HB3 := Lib.hid (HB2.out.trans (hb3.mono HB2.out.size))
      clear hb3
      go_wp2_with (first | (refine ext rfl (.tmp 21) 0 [.string ⟨l⟩, .bool bb] (.string ⟨l⟩) rfl rfl rfl ?_) | (refine ext rfl (.tmp 21) 1 [.string ⟨l⟩, .bool bb] (.bool bb) rfl rfl rfl ?_))
      go_ret
      exact ⟨rfl, HB3.out⟩
    · go_enter Try.func4, Try.ntmps4
      go_wp2_with fail
      go_ret
      exact ⟨rfl, Below.refl _ _⟩
  · go_enter Try.func4, Try.ntmps4
    go_wp2_with fail
    go_ret
    exact ⟨rfl, Below.refl _ _⟩
set_option maxHeartbeats 1000000 in
theorem exactIntSub_walk (a0 a1 : ByteArray) (w0 : a0.size ≤ maxLen) (w1 : a1.size ≤ maxLen) (w : World) :
    Calls Try.prog 5 #[.string a0, .string a1] w fun e w' => e = .returned (.bool true) ∧ Below w.heap.size w w' := by
  unfold maxLen at w0 w1
  by_cases h0 : a0.size ≤ 1048576
  · by_cases h1 : a1.size ≤ 1048576
    · have H1 := Lib.hid (fun w => specSub_any a0 a1 w h0 h1)
      have H2 := Lib.hid (fun w => intSub_any a0 a1 w)
      obtain ⟨l, bb, hl⟩ := subV_form a0.data.toList a1.data.toList
      rw [hl] at H1 H2
      clear hl
      go_enter Try.func5, Try.ntmps5
      go_wp2_with fail
      refine (H1.out _).mono ?_
      rintro e w2 ⟨rfl, hb2⟩
      have HB2 := Lib.hid hb2
      clear hb2
      go_wp2_with (first | (refine ext rfl (.tmp 15) 0 [.string ⟨l⟩, .bool bb] (.string ⟨l⟩) rfl rfl rfl ?_) | (refine ext rfl (.tmp 15) 1 [.string ⟨l⟩, .bool bb] (.bool bb) rfl rfl rfl ?_))
      refine (H2.out _).mono ?_
      rintro e w3 ⟨rfl, hb3⟩
      have HB3 := Lib.hid (HB2.out.trans (hb3.mono HB2.out.size))
      clear hb3
      go_wp2_with (first | (refine ext rfl (.tmp 21) 0 [.string ⟨l⟩, .bool bb] (.string ⟨l⟩) rfl rfl rfl ?_) | (refine ext rfl (.tmp 21) 1 [.string ⟨l⟩, .bool bb] (.bool bb) rfl rfl rfl ?_))
      go_ret
      exact ⟨rfl, HB3.out⟩
    · go_enter Try.func5, Try.ntmps5
      go_wp2_with fail
      go_ret
      exact ⟨rfl, Below.refl _ _⟩
  · go_enter Try.func5, Try.ntmps5
    go_wp2_with fail
    go_ret
    exact ⟨rfl, Below.refl _ _⟩
set_option maxHeartbeats 1000000 in
theorem exactIntMul_walk (a0 a1 : ByteArray) (w0 : a0.size ≤ maxLen) (w1 : a1.size ≤ maxLen) (w : World) :
    Calls Try.prog 6 #[.string a0, .string a1] w fun e w' => e = .returned (.bool true) ∧ Below w.heap.size w w' := by
  unfold maxLen at w0 w1
  by_cases h0 : a0.size ≤ 1048576
  · by_cases h1 : a1.size ≤ 1048576
    · have H1 := Lib.hid (fun w => specMul_any a0 a1 w h0 h1)
      have H2 := Lib.hid (fun w => intMul_any a0 a1 w)
      obtain ⟨l, bb, hl⟩ := mulV_form a0.data.toList a1.data.toList
      rw [hl] at H1 H2
      clear hl
      go_enter Try.func6, Try.ntmps6
      go_wp2_with fail
      refine (H1.out _).mono ?_
      rintro e w2 ⟨rfl, hb2⟩
      have HB2 := Lib.hid hb2
      clear hb2
      go_wp2_with (first | (refine ext rfl (.tmp 15) 0 [.string ⟨l⟩, .bool bb] (.string ⟨l⟩) rfl rfl rfl ?_) | (refine ext rfl (.tmp 15) 1 [.string ⟨l⟩, .bool bb] (.bool bb) rfl rfl rfl ?_))
      refine (H2.out _).mono ?_
      rintro e w3 ⟨rfl, hb3⟩
      have HB3 := Lib.hid (HB2.out.trans (hb3.mono HB2.out.size))
      clear hb3
      go_wp2_with (first | (refine ext rfl (.tmp 21) 0 [.string ⟨l⟩, .bool bb] (.string ⟨l⟩) rfl rfl rfl ?_) | (refine ext rfl (.tmp 21) 1 [.string ⟨l⟩, .bool bb] (.bool bb) rfl rfl rfl ?_))
      go_ret
      exact ⟨rfl, HB3.out⟩
    · go_enter Try.func6, Try.ntmps6
      go_wp2_with fail
      go_ret
      exact ⟨rfl, Below.refl _ _⟩
  · go_enter Try.func6, Try.ntmps6
    go_wp2_with fail
    go_ret
    exact ⟨rfl, Below.refl _ _⟩
set_option maxHeartbeats 1000000 in
theorem exactIntCmp_walk (a0 a1 : ByteArray) (w0 : a0.size ≤ maxLen) (w1 : a1.size ≤ maxLen) (w : World) :
    Calls Try.prog 10 #[.string a0, .string a1] w fun e w' => e = .returned (.bool true) ∧ Below w.heap.size w w' := by
  unfold maxLen at w0 w1
  by_cases h0 : a0.size ≤ 1048576
  · by_cases h1 : a1.size ≤ 1048576
    · have H1 := Lib.hid (fun w => specCmp_any a0 a1 w h0 h1)
      have H2 := Lib.hid (fun w => intCmp_any a0 a1 w)
      obtain ⟨z, hl⟩ := cmpV_form a0.data.toList a1.data.toList
      rw [hl] at H1 H2
      clear hl
      go_enter Try.func10, Try.ntmps10
      go_wp2_with fail
      refine (H1.out _).mono ?_
      rintro e w2 ⟨rfl, hb2⟩
      have HB2 := Lib.hid hb2
      clear hb2
      go_wp2_with (first | fail)
      refine (H2.out _).mono ?_
      rintro e w3 ⟨rfl, hb3⟩
      have HB3 := Lib.hid (HB2.out.trans (hb3.mono HB2.out.size))
      clear hb3
      go_wp2_with (first | fail)
      go_ret
      exact ⟨rfl, HB3.out⟩
    · go_enter Try.func10, Try.ntmps10
      go_wp2_with fail
      go_ret
      exact ⟨rfl, Below.refl _ _⟩
  · go_enter Try.func10, Try.ntmps10
    go_wp2_with fail
    go_ret
    exact ⟨rfl, Below.refl _ _⟩
end Go.Proofs.Ytckmpenlpkhnfaa
