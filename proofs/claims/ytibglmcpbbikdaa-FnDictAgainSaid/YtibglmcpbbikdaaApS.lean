/- An append of one value of at most sixteen bytes. -/
import Derived.Test.YtibglmcpbbikdaaLaE
namespace Go.Proofs.Ytibglmcpbbikdaa
open Go.RowKit
section
variable {P : Program} {ops : Array Oper} {rest : List Oper} {o : Oper} {a : Act} {w : World} {Q : Exit → Act → World → Prop}
/-- An append of one value of at most sixteen bytes. -/
theorem appS (hgd : o.guard = none) (s x : Operand) (T e : TypeId) (z : Value) (b : Nat) (ho : o.op = .call { callee := .builtin .append, args := #[s, x], argTypes := #[T, T] }) (ht : P.underlying T = some (.slice e))
    (hi : (P.info? e).map (fun i => (i.zero, i.size, i.bytes)) = some (some z, 1, b)) (hzs : z.cells.size = 1) (hb8 : b ≤ 16) (W w0 : World) (u : Value) (hw : w = W.alloc (.cells #[u] e)) (base : Nat) (v : Value) (vals : List Value) (hs : a.eval s = v) (hx : a.eval x = .slice (some ⟨W.heap.size, 0, none⟩) 1 1)
    (hown : Own W base e v vals) (h1 : u.oneCell' = true) (hlen : vals.length + 1 ≤ 1099511627776) (hbase : base ≤ W.heap.size) (hB : Below base w0 W)
    (h : ∀ v' w', Own w' base e v' (vals ++ [u]) → Below base w0 w' → W.grownBy w' v.ownBlock → wpList P ops Q rest (a.put o.dst v') w') : wpList P ops Q (o :: rest) a w := by
  obtain ⟨i, hi1, hi2, hi3, hi4⟩ := info_of hi
  subst hw
  have hle : (vals.length + 1) * b ≤ (vals.length + 1) * 16 := Nat.mul_le_mul_left _ hb8
  refine wpList_append_own _ hgd s x T ho base e i z 1 b ht hi1 hi2 hi3 hi4 hzs (by omega) v vals.length vals hs (World.ownsRow.alloc hown _) ⟨W.heap.size, 0, none⟩ 1 1 [u] hx rfl ?_ ?_ ?_ (by omega) (by simp; omega) ?_
  · intro j u' hj
    cases j with
    | zero => simp at hj; subst hj; rw [addr_add, Nat.zero_add, World.cell?_alloc_at _ _ _ _ rfl]; rfl
    | succ j => simp at hj
  · intro u' hu; rw [List.mem_singleton] at hu; rw [hu]; exact h1
  · unfold maxLen; omega
  · intro v' w' hown' hgrow _
    have hgW : W.grownBy w' v.ownBlock := ⟨hgrow.os, hgrow.tape, hgrow.output, by have := hgrow.size; simp at this; omega, fun k hk hne => (hgrow.block k (by simp; omega) hne).trans (Below.heap_alloc _ _ _ hk)⟩
    refine h v' w' ?_ ?_ hgW
    · unfold Own; rw [List.length_append]; exact hown'
    · exact hB.grown hgW hbase fun k hk => (World.ownsRow.lt hown k hk).1
end
end Go.Proofs.Ytibglmcpbbikdaa
