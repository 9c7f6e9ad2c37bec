/- Texts: how long they may be; lists of texts; bytes made into texts; texts put together. -/
import Derived.Test.YtibglmcpbbikdaaBytes
import Derived.Laws.Concat
namespace Go.Proofs.Ytibglmcpbbikdaa
open Go.RowKit
/-- A text can be a value. -/
def okT (s : ByteArray) : Bool := decide (s.size ≤ 400)
/-- The slice v holds these texts. -/
def RdS (w : World) (v : Value) (ss : List ByteArray) : Prop := ∃ g cap, v = .slice (some ⟨g, 0, none⟩) ss.length cap ∧ ∀ (j : Nat) (s : ByteArray), ss[j]? = some s → w.cell? ⟨g, j, none⟩ = some (.string s)
theorem RdS.one (w : World) (s : ByteArray) : RdS (w.alloc (.cells #[.string s] 9)) (.slice (some ⟨w.heap.size, 0, none⟩) 1 1) [s] := by
  refine ⟨w.heap.size, 1, rfl, fun j t hj => ?_⟩
  cases j with
  | zero => simp at hj; subst hj; rw [World.cell?_alloc_at _ _ _ _ rfl]; rfl
  | succ j => simp at hj
theorem RdS.two (w : World) (s t : ByteArray) : RdS (w.alloc (.cells #[.string s, .string t] 9)) (.slice (some ⟨w.heap.size, 0, none⟩) 2 2) [s, t] := by
  refine ⟨w.heap.size, 2, rfl, fun j u hj => ?_⟩
  match j, hj with
  | 0, hj => simp at hj; subst hj; rw [World.cell?_alloc_at _ _ _ _ rfl]; rfl
  | 1, hj => simp at hj; subst hj; rw [World.cell?_alloc_at _ _ _ _ rfl]; rfl
  | j + 2, hj => simp at hj
theorem take_all {α : Type} {p : α → Bool} {l : List α} {k : Nat} {x : α} (h : (l.take k).all p = true) (hx : l[k]? = some x) (hp : p x = true) : (l.take (k + 1)).all p = true := by
  have hk : k < l.length := by
    rcases Nat.lt_or_ge k l.length with h1 | h1
    · exact h1
    · rw [List.getElem?_eq_none h1] at hx; cases hx
  rw [List.getElem?_eq_getElem hk] at hx
  injection hx with hx
  rw [List.take_succ_eq_append_getElem hk, List.all_append, h, hx]
  simp [hp]
theorem not_all {α : Type} {p : α → Bool} {l : List α} {k : Nat} {x : α} (hx : l[k]? = some x) (hp : p x = false) : l.all p = false := by
  rw [List.all_eq_false]
  refine ⟨x, List.mem_of_getElem? hx, by rw [hp]; simp⟩
/-- A literal of one byte. -/
theorem lit8 (w : World) (z : Int) (c : UInt8) (h : z = (c.toNat : Int)) : Own (w.alloc (.cells #[.int .u8 z] 5)) w.heap.size 5 (.slice (some ⟨w.heap.size, 0, none⟩) 1 1) (([c] : List UInt8).map fun c => Value.int .u8 (c.toNat : Int)) := by
  subst h
  exact World.ownsRow_lit w #[.int .u8 (c.toNat : Int)] 1 (Nat.le_refl _) (by decide) rfl
/-- A text of one byte out of a longer one. -/
theorem ext_one (s : ByteArray) (p : Nat) (h : p < s.size) : s.extract p (p + 1) = ⟨#[s[p]]⟩ := by
  apply ByteArray.ext
  rw [ByteArray.data_extract]
  apply Array.ext
  · simp; have : s.data.size = s.size := rfl; omega
  · intro i h1 h2
    simp at h2
    subst h2
    simp; rfl
section
variable {P : Program} {o : Oper} {a : Act} {w : World}
/-- Two texts, one behind the other. -/
theorem puts_cat (T T' : TypeId) (x y : Operand) (ho : o.op = .binOp .add T x y T') (s t : ByteArray) (hx : a.eval x = .string s) (hy : a.eval y = .string t) (hl : s.size + t.size ≤ 9223372036854775807) : Puts P o a w (.string (s ++ t)) := by
  have h := run_string_add_sum (P := P) w s t hl
  unfold Puts execOp
  simp only [ho, hx, hy]
  simp [eqGuard, go_sem, h]
end
end Go.Proofs.Ytibglmcpbbikdaa
