/- The exact laws on lists of numbers: from two contracts to the law. -/
import Derived.Test.YtbcphejblopekabLrooms
import Derived.Test.YtbcphejblopekabCutA
namespace Go.Proofs.Ytbcphejblopekab
open Go.RowKit
theorem own_ne_lo {v x : Value} {m : Nat} (h1 : ∀ g, v.ownBlock = some g → g < m) (h2 : ∀ g, x.ownBlock = some g → m ≤ g) : v.ownBlock = none ∨ v.ownBlock ≠ x.ownBlock := by
  cases hv : v.ownBlock with
  | none => exact .inl rfl
  | some g => exact .inr fun h => by have a := h1 g hv; have b := h2 g h.symm; omega
theorem own_ne_hi {v x : Value} {m : Nat} (h1 : ∀ g, v.ownBlock = some g → m ≤ g) (h2 : ∀ g, x.ownBlock = some g → g < m) : v.ownBlock = none ∨ v.ownBlock ≠ x.ownBlock := by
  cases hv : v.ownBlock with
  | none => exact .inl rfl
  | some g => exact .inr fun h => by have a := h1 g hv; have b := h2 g h.symm; omega
theorem toIntS_n (is : List Int) (n : Nat) (a : Option Addr) (cap : Nat) (w : World) (hn : n = is.length) (h : RsI w a cap is) (hl : is.length ≤ 1048576) :
    Calls Try.prog 24 #[.slice a n cap] w fun e w' => e = .returned (.slice (some ⟨w.heap.size, 0, none⟩) n n) ∧ Below w.heap.size w w' ∧ OwI w' w.heap.size (.slice (some ⟨w.heap.size, 0, none⟩) n n) is := by
  subst hn
  exact toIntS_any is _ w ⟨_, _, rfl, h⟩ hl
theorem below_drew (w : World) : Below w.heap.size w w.drew := ⟨rfl, rfl, rfl, Nat.le_refl _, fun _ _ => rfl⟩
theorem puts_call3 {P : Program} {o : Oper} {a : Act} {w : World} (f : FuncId) (x y z : Operand) (ts : Array TypeId) (v u q : Value) (ho : o.op = .call { callee := .value (.func f), args := #[x, y, z], argTypes := ts }) (hx : a.eval x = v) (hy : a.eval y = u) (hz : a.eval z = q) (hb : plainFn P f = true) : (execOp a.eval o).run P w = .ok (.enter f #[v, u, q]) w :=
  puts_call f #[x, y, z] ts ho #[v, u, q] (by subst hx; subst hy; subst hz; simp) hb
theorem gives_assign {P : Program} {o : Oper} {a : Act} {w : World} {v : Value} (x : Operand) (ho : o.op = .assign x) (hx : a.eval x = v) : Gives P o a w v w := (puts_assign_to x v ho hx).gives
/-- A list and a bool are answered, the list in memory of its own. -/
def LiPb (R : List Int) (bb : Bool) (w : World) (e : Ending) (w' : World) : Prop := ∃ v, e = .returned (.tuple #[v, .bool bb]) ∧ OwI w' w.heap.size v R ∧ Below w.heap.size w w'
end Go.Proofs.Ytbcphejblopekab
