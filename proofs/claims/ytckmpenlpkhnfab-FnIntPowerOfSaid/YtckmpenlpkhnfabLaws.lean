/- The laws on sums, differences, products and orders: the program and the model agree. -/
import Derived.Test.YtckmpenlpkhnfabMEnt
import Derived.Test.YtckmpenlpkhnfabFns3
namespace Go.Proofs.Ytckmpenlpkhnfab
open Go.RowKit
theorem noV_form : ∃ l b, noV = .tuple #[.string ⟨l⟩, .bool b] := ⟨_, _, rfl⟩
theorem addV_form (a b : List UInt8) : ∃ l c, addV a b = .tuple #[.string ⟨l⟩, .bool c] := by
  unfold addV; split
  · exact outI_form _
  · exact noV_form
theorem subV_form (a b : List UInt8) : ∃ l c, subV a b = .tuple #[.string ⟨l⟩, .bool c] := by
  unfold subV; split
  · exact outI_form _
  · exact noV_form
theorem mulV_form (a b : List UInt8) : ∃ l c, mulV a b = .tuple #[.string ⟨l⟩, .bool c] := by
  unfold mulV; split
  · exact outI_form _
  · exact noV_form
theorem cmpV_form (a b : List UInt8) : ∃ z, cmpV a b = .int .i64 z := by
  unfold cmpV; split
  · exact ⟨_, rfl⟩
  · exact ⟨_, rfl⟩
end Go.Proofs.Ytckmpenlpkhnfab
