/- Rooms of a list that changes: the model's, the program's. -/
import Derived.Test.YtdinjoenpiminaaLroom
namespace Go.Proofs.Ytdinjoenpiminaa
open Go.RowKit
/-- 'append(s, i)'. -/
theorem appI {ops : Array Oper} {rest : List Oper} {o : Oper} {a : Act} {w : World} {Q : Exit → Act → World → Prop} (hgd : o.guard = none) (s x : Operand) (ho : o.op = .call { callee := .builtin .append, args := #[s, x], argTypes := #[56, 56] }) (W : World) (i : Int) (hw : w = W.alloc (.cells #[.int .i64 i] 3)) (base : Nat) (v : Value) (is : List Int) (hs : a.eval s = v) (hx : a.eval x = .slice (some ⟨W.heap.size, 0, none⟩) 1 1)
    (hown : OwI W base v is) (hlen : is.length + 1 ≤ 1000000) (hbase : base ≤ W.heap.size)
    (h : ∀ v' w', OwI w' base v' (is ++ [i]) → Below base W w' → wpList Try.prog ops Q rest (a.put o.dst v') w') : wpList Try.prog ops Q (o :: rest) a w :=
  app1 hgd s x 56 3 (.int .i64 0) 8 ho Try.underlying56 (by kernel_rfl) rfl (by decide) W W (.int .i64 i) hw base v (iv is) hs hx hown rfl (by rw [iv_len]; omega) hbase (Below.refl _ _) (fun v' w' h1 h2 _ => h v' w' (by unfold OwI; rw [iv_app]; exact h1) h2)
theorem okL_long {lo : Int} {is : List Int} (h : 60 < is.length) : okL lo is = false := by unfold okL; rw [decide_eq_false (by omega)]; rfl
theorem okL_short {lo : Int} {is : List Int} (h : is.length ≤ 60) : okL lo is = is.all (okI lo) := by unfold okL; rw [decide_eq_true h]; rfl
/-- A list is answered, in memory of its own. -/
def LiP (R : List Int) (w : World) (e : Ending) (w' : World) : Prop := ∃ v, e = .returned v ∧ OwI w' w.heap.size v R ∧ Below w.heap.size w w'
theorem LiP.nil {w w' : World} (hb : Below w.heap.size w w') : LiP [] w (.returned (.slice none 0 0)) w' := ⟨_, rfl, Own.nil _ _ _, hb⟩
theorem roomsR_no {is : List Int} (h : okL 0 is = false) : roomsR is = [] := by unfold roomsR; rw [h]; rfl
theorem roomsR_ok {is : List Int} (h : okL 0 is = true) : roomsR is = roomsL is := by unfold roomsR; rw [h]; rfl
theorem okL_parts {lo : Int} {is : List Int} (h : okL lo is = true) : is.length ≤ 60 ∧ is.all (okI lo) = true := by unfold okL at h; simpa using h
theorem step_big {r i : Int} (h : r < i) : roomStep r i = roomZ i := by unfold roomStep; rw [if_pos (.inl h)]
theorem step_small {r i : Int} (h : i < r / 2) : roomStep r i = roomZ i := by unfold roomStep; rw [if_pos (.inr h)]
theorem step_same {r i : Int} (h1 : ¬ r < i) (h2 : ¬ i < r / 2) : roomStep r i = r := by unfold roomStep; rw [if_neg (by omega)]
def RmI (w wr : World) (v : Value) (l : List Int) : Prop := Below w.heap.size w wr ∧ OwI wr w.heap.size v l
theorem all_next {is : List Int} {lo : Int} {k : Nat} {s : Int} (h : (is.take k).all (okI lo) = true) (hs : is[k]? = some s) (h0 : lo ≤ s) (h1 : s ≤ 1000000) : (is.take (k + 1)).all (okI lo) = true := take_all h hs (by unfold okI; simp; omega)
theorem rng_no {s : Int} (h : okI 0 s = false) : (decide ((0:Int) ≤ s) && decide (s ≤ 1000000)) = false := h
end Go.Proofs.Ytdinjoenpiminaa
