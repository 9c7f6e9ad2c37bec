/- Slices that a call appends to: one element more; bytes made into a text. -/
import Derived.Test.YtibglmcpbbikdaaLib
import Derived.Test.YtibglmcpbbikdaaRows
import Derived.Laws.BytesArg
namespace Go.Proofs.Ytibglmcpbbikdaa
open Go.RowKit
/-- A slice value of the call's own, that holds these elements of one cell each. -/
def Own (w : World) (base : Nat) (e : TypeId) (v : Value) (vals : List Value) : Prop := w.ownsRow base e 1 v vals.length vals
theorem Own.nil (w : World) (base : Nat) (e : TypeId) : Own w base e (.slice none 0 0) [] := w.ownsRow_nil base e 1
theorem Own.alloc {w : World} {base : Nat} {e : TypeId} {v : Value} {vals : List Value} (h : Own w base e v vals) (x : Obj) : Own (w.alloc x) base e v vals := World.ownsRow.alloc h x
theorem Own.drewN {w : World} {base : Nat} {e : TypeId} {v : Value} {vals : List Value} (h : Own w base e v vals) (n : Nat) : Own (w.drewN n) base e v vals := h
theorem Own.drew {w : World} {base : Nat} {e : TypeId} {v : Value} {vals : List Value} (h : Own w base e v vals) : Own w.drew base e v vals := h
/-- Its form: nil and empty, or the head of a block. -/
theorem Own.form {w : World} {base : Nat} {e : TypeId} {v : Value} {vals : List Value} (h : Own w base e v vals) : (v = .slice none 0 0 ∧ vals = []) ∨ ∃ g cap, v = .slice (some ⟨g, 0, none⟩) vals.length cap ∧ base ≤ g ∧ g < w.heap.size ∧ vals.length ≤ cap ∧ ∀ j u, vals[j]? = some u → w.cell? ⟨g, j, none⟩ = some u := by
  obtain ⟨h1, h2⟩ := h
  rcases h2 with ⟨rfl, h0⟩ | ⟨g, cap, cur, hv, hb, hg, hn, hc, hsz, ht⟩
  · exact .inl ⟨rfl, List.eq_nil_of_length_eq_zero h0⟩
  · refine .inr ⟨g, cap, hv, hb, ?_, hn, fun j u hj => ?_⟩
    · rcases Nat.lt_or_ge g w.heap.size with h | h
      · exact h
      · rw [Array.getElem?_eq_none h] at hg; cases hg
    · rw [cell_of_row w g j cur e (0, 0) hg]
      rw [← ht, List.getElem?_take] at hj
      split at hj
      · simpa using hj
      · cases hj
section
variable {P : Program} {ops : Array Oper} {rest : List Oper} {o : Oper} {a : Act} {w : World} {Q : Exit → Act → World → Prop}
theorem info_of {e : TypeId} {z : Value} {s b : Nat} (h : (P.info? e).map (fun i => (i.zero, i.size, i.bytes)) = some (some z, s, b)) : ∃ i, P.info? e = some i ∧ i.zero = some z ∧ i.size = s ∧ i.bytes = b := by
  cases hq : P.info? e with
  | none => simp [hq] at h
  | some i => simp [hq] at h; exact ⟨i, rfl, h.1, h.2.1, h.2.2⟩
/-- 'append(s, u)': the one new element lies in a block that has just been made. -/
theorem app1 (hgd : o.guard = none) (s x : Operand) (T e : TypeId) (z : Value) (b : Nat) (ho : o.op = .call { callee := .builtin .append, args := #[s, x], argTypes := #[T, T] }) (ht : P.underlying T = some (.slice e))
    (hi : (P.info? e).map (fun i => (i.zero, i.size, i.bytes)) = some (some z, 1, b)) (hzs : z.cells.size = 1) (hb8 : b ≤ 8) (W w0 : World) (u : Value) (hw : w = W.alloc (.cells #[u] e)) (base : Nat) (v : Value) (vals : List Value) (hs : a.eval s = v) (hx : a.eval x = .slice (some ⟨W.heap.size, 0, none⟩) 1 1)
    (hown : Own W base e v vals) (h1 : u.oneCell' = true) (hlen : vals.length + 1 ≤ 1099511627776) (hbase : base ≤ W.heap.size) (hB : Below base w0 W)
    (h : ∀ v' w', Own w' base e v' (vals ++ [u]) → Below base w0 w' → W.grownBy w' v.ownBlock → wpList P ops Q rest (a.put o.dst v') w') : wpList P ops Q (o :: rest) a w := by
  obtain ⟨i, hi1, hi2, hi3, hi4⟩ := info_of hi
  subst hw
  have hle : (vals.length + 1) * b ≤ (vals.length + 1) * 8 := Nat.mul_le_mul_left _ hb8
  refine wpList_append_own _ hgd s x T ho base e i z 1 b ht hi1 hi2 hi3 hi4 hzs (by omega) v vals.length vals hs (World.ownsRow.alloc hown _) ⟨W.heap.size, 0, none⟩ 1 1 [u] hx rfl ?_ ?_ ?_ (by omega) (by simp; omega) ?_
  · intro j u' hj
    cases j with
    | zero => simp at hj; subst hj; rw [addr_add, Nat.zero_add, World.cell?_alloc_at _ _ _ _ rfl]; rfl
    | succ j => simp at hj
  · intro u' hu; simp at hu; subst hu; exact h1
  · unfold maxLen; omega
  · intro v' w' hown' hgrow _
    have hgW : W.grownBy w' v.ownBlock := ⟨hgrow.os, hgrow.tape, hgrow.output, by have := hgrow.size; simp at this; omega, fun k hk hne => (hgrow.block k (by simp; omega) hne).trans (Below.heap_alloc _ _ _ hk)⟩
    refine h v' w' ?_ ?_ hgW
    · unfold Own; rw [List.length_append]; exact hown'
    · exact hB.grown hgW hbase fun k hk => (World.ownsRow.lt hown k hk).1
/-- Bytes of the call's own are made into a text. -/
theorem puts_text (src dst e : TypeId) (x : Operand) (ho : o.op = .convert src dst x) (hs : P.underlying src = some (.slice e)) (he : P.underlying e = some (.int .u8)) (hd : P.underlying dst = some .string) (base : Nat) (v : Value) (l : List UInt8) (hx : a.eval x = v)
    (hown : Own w base e v (l.map fun c => Value.int .u8 (c.toNat : Int))) : Puts P o a w (.string ⟨l.toArray⟩) := by
  have hrun : (convert src dst v).run P w = .ok (.string ⟨l.toArray⟩) w := by
    rcases hown.form with ⟨rfl, h0⟩ | ⟨g, cap, rfl, _, _, _, hc⟩
    · have : l = [] := by simpa using h0
      subst this
      exact run_convert_bytes_nil w src e hs he 0 0 dst hd
    · have hr := run_convert_bytes_arg w src e hs he g 0 (l.map fun c => Value.int .u8 (c.toNat : Int)).length cap (l.map fun c => (c.toNat : Int)) (by simp) (fun i hi => ?_) dst hd
      · have e1 : strOfNums (l.map fun c => (c.toNat : Int)) = ⟨l.toArray⟩ := by
          unfold strOfNums
          congr 2
          rw [List.map_map]
          conv => rhs; rw [← List.map_id l]
          apply List.map_congr_left
          intro c _
          simp
        rw [e1] at hr
        exact hr
      · have hil : i < l.length := by simpa using hi
        rw [Nat.zero_add]
        refine hc i _ ?_
        simp [List.getD, List.getElem?_eq_getElem hil]
  unfold Puts execOp
  simp only [ho, hx, Sem.run_bind, hrun, Result.andThen_ok, Sem.run_pure]
end
end Go.Proofs.Ytibglmcpbbikdaa
