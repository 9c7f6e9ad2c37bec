/- The law on IntOk is true: the program's IntOk and the model's agree on every text. -/
import Derived.Test.YtogdlmanppgooaaVal2
import Derived.Test.YtogdlmanppgooaaRead4
namespace Go.Proofs.Ytogdlmanppgooaa
open Go.RowKit
set_option maxHeartbeats 400000 in
theorem exactIntOk_walk (a0 : ByteArray) (w0 : a0.size ≤ maxLen) (w : World) :
    Calls Try.prog 3 #[.string a0] w fun e w' => e = .returned (.bool true) ∧ Below w.heap.size w w' := by
  unfold maxLen at w0
  by_cases h : a0.size ≤ 1048576
  · have H1 := Lib.hid (fun w => specOk_any a0 w h)
    have H2 := Lib.hid (fun w => intOk_any a0 w)
    generalize okI a0.data.toList = b at H1 H2
    cases b
    all_goals
      go_enter Try.func3, Try.ntmps3
      go_wp2_with (first | (go_at_call 15; refine (H1.out _).mono ?_; rintro e w' ⟨rfl, rfl⟩) | (go_at_call 16; refine (H2.out _).mono ?_; rintro e w1 ⟨rfl, hb⟩; have HB := Lib.hid hb; clear hb))
      go_ret
      exact ⟨rfl, HB.out⟩
  · go_enter Try.func3, Try.ntmps3
    go_wp2_with fail
    go_ret
    exact ⟨rfl, Below.refl _ _⟩
end Go.Proofs.Ytogdlmanppgooaa
