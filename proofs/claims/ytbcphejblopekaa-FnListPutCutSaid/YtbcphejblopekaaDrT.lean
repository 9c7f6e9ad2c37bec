/- A text is drawn. -/
import Derived.Test.YtbcphejblopekaaDr2
namespace Go.Proofs.Ytbcphejblopekaa
open Go.RowKit
def bitsL : List ByteArray := [⟨#[97]⟩, ⟨#[98]⟩, ⟨#[97, 98]⟩, ⟨#[32]⟩, ⟨#[97, 98, 97]⟩, ⟨#[10]⟩, ⟨#[39]⟩, ⟨#[92]⟩, ⟨#[0]⟩, ⟨#[255]⟩, ⟨#[195, 169]⟩, ⟨#[44]⟩]
theorem bitsL_le : ∀ d ∈ bitsL, d.size ≤ 3 := by decide
theorem as_list (d : ByteArray) : d = ⟨d.data.toList.toArray⟩ := by cases d; simp
end Go.Proofs.Ytbcphejblopekaa
