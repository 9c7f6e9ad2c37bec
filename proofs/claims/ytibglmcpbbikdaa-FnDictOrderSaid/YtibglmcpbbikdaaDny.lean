/- Stores beside a dictionary, beside a list of texts. -/
import Derived.Test.YtibglmcpbbikdaaDnx
namespace Go.Proofs.Ytibglmcpbbikdaa
open Go.RowKit
theorem own_off2 {w : World} {b k g1 c1 c2 : Nat} {ix : List Int} {es : List Ent} {a2 : Option Addr} {u v : Value} (h : OwD w b ix es g1 c1 a2 c2) (hk : k < b) : OwD ((w.setCell ⟨k, 0, none⟩ u).setCell ⟨k, 1, none⟩ v) b ix es g1 c1 a2 c2 := by
  have h1 := h.lt1.1
  have h2 : ∀ q, a2 = some ⟨q, 0, none⟩ → q ≠ k := fun q hq => by subst hq; have := h.lt2.1; omega
  exact (h.setOff (by omega) h2).setOff (by omega) h2
theorem owT_off {w : World} {b x i : Nat} {v u : Value} {is : List ByteArray} (h : OwT w b v is) (hx : ∀ q, v.ownBlock = some q → q < x) : OwT (w.setCell ⟨x, i, none⟩ u) b v is := by
  refine h.grown (row := some x) ⟨rfl, rfl, rfl, by simp, fun j _ hj => heap_setCell_other _ ⟨x, i, none⟩ j _ (fun e => hj (by simp [e]))⟩ ?_
  cases hv : v.ownBlock with
  | none => exact .inl rfl
  | some q => refine .inr fun h9 => ?_; injection h9 with h9; have := hx q hv; omega
end Go.Proofs.Ytibglmcpbbikdaa
