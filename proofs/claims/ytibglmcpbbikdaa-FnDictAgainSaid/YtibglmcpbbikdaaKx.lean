/- What dropping tells; how long what it leaves is. -/
import Derived.Test.YtibglmcpbbikdaaKv
namespace Go.Proofs.Ytibglmcpbbikdaa
open Go.RowKit
theorem own_apart {w : World} {b : Nat} {v v1 : Value} {is : List ByteArray} (h : OwT w b v is) (h1 : ∀ k, v1.ownBlock = some k → k < b) : v.ownBlock = none ∨ v.ownBlock ≠ v1.ownBlock := by
  cases hv : v.ownBlock with
  | none => exact .inl rfl
  | some k =>
    refine .inr fun h9 => ?_
    have := (h.lt k hv).1
    have := h1 k h9.symm
    omega
theorem owT_app {w : World} {b : Nat} {v : Value} {ks : List ByteArray} {key : ByteArray} (h : Own w b 9 v (tv ks ++ [.string key])) : OwT w b v (ks ++ [key]) := by
  unfold OwT
  rw [tv_app]
  exact h
theorem drop_is {ix : List Int} {es : List Ent} {key : ByteArray} (h : (drV ix es key).2 = true) : DOk ix es ∧ keyB key = true ∧ key ∈ kyL es := by
  cases hb : (keyB key && dokB ix es) with
  | false => rw [drV_no hb] at h; cases h
  | true =>
    rw [Bool.and_eq_true] at hb
    have hd := dok_of hb.2
    refine ⟨hd, hb.1, ?_⟩
    by_cases hm : key ∈ kyL es
    · exact hm
    · rw [drop_not hd hb.1 hm] at h; cases h
theorem drV_le {ix : List Int} {es : List Ent} {key : ByteArray} : (drV ix es key).1.1.length ≤ ix.length ∧ (drV ix es key).1.2.length ≤ es.length := by
  unfold drV
  split
  · split <;> simp
  · simp
end Go.Proofs.Ytibglmcpbbikdaa
