/- Ranges: what a dictionary's parts are asked. -/
import Derived.Test.YtplpgcbdbmfffaaDnw2
import Derived.Test.YtplpgcbdbmfffaaHash
namespace Go.Proofs.Ytplpgcbdbmfffaa
open Go.RowKit
/-- What a value may be. -/
def okV (n : Int) : Bool := decide (-1000000 ≤ n ∧ n ≤ 1000000)
theorem isIndex_any (n : Int) (w : World) : Calls Try.prog 77 #[.int .i64 n] w fun e w' => e = .returned (.bool (okV n)) ∧ w = w' := by
  by_cases h1 : (-1000000 : Int) ≤ n
  · go_enter Try.func77, Try.ntmps77
    go_wp2_with fail
    go_ret
    simp [okV, h1]
  · have h2 : n < -1000000 := by omega
    have h3 : okV n = false := decide_eq_false (by omega)
    rw [h3]
    go_enter Try.func77, Try.ntmps77
    go_wp2_with fail
    go_ret
    exact ⟨rfl, rfl⟩
theorem inRange_any (n : Int) (w : World) : Calls Try.prog 74 #[.int .i64 n, .int .i64 (-1000000), .int .i64 1000000] w fun e w' => e = .returned (.bool (okV n)) ∧ w = w' := by
  by_cases h1 : (-1000000 : Int) ≤ n
  · go_enter Try.func74, Try.ntmps74
    go_wp2_with fail
    go_ret
    simp [okV, h1]
  · have h2 : n < -1000000 := by omega
    have h3 : okV n = false := decide_eq_false (by omega)
    rw [h3]
    go_enter Try.func74, Try.ntmps74
    go_wp2_with fail
    go_ret
    exact ⟨rfl, rfl⟩
end Go.Proofs.Ytplpgcbdbmfffaa
