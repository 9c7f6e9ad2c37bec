/- Lists of numbers: whether two are the same, numbers written to them, and held against them. -/
import Derived.Test.YtdinjoenpiminaaBytes
namespace Go.Proofs.Ytdinjoenpiminaa
open Go.RowKit
/-- Block g begins with these numbers. -/
def Ci (w : World) (g : Nat) (is : List Int) : Prop := ∀ (j : Nat) (i : Int), is[j]? = some i → w.cell? ⟨g, j, none⟩ = some (.int .i64 i)
theorem Ci.below {w w' : World} {B g : Nat} {is : List Int} (h : Ci w g is) (hb : Below B w w') (hg : g < B) : Ci w' g is := fun j s hj => by
  rw [hb.cell hg]
  exact h j s hj
/-- Block g holds n numbers, the first k of them counted up from m. -/
def Up (w : World) (g : Nat) (t : TypeId) (m : Int) (n k : Nat) : Prop := ∃ cs, Blk w g t cs ∧ (∀ j, j < n → ∃ i : Int, cs[j]? = some (.int .i64 i)) ∧ ∀ j, j < k → cs[j]? = some (.int .i64 (m + (j : Int)))
theorem Up.cell {w : World} {g : Nat} {t : TypeId} {m : Int} {n k j : Nat} (h : Up w g t m n k) (hj : j < n) : ∃ i : Int, w.cell? ⟨g, j, none⟩ = some (.int .i64 i) := by
  obtain ⟨cs, h1, h2, _⟩ := h
  obtain ⟨i, hi⟩ := h2 j hj
  exact ⟨i, by rw [h1.cell]; exact hi⟩
theorem Up.free {w : World} {g : Nat} {t : TypeId} {m : Int} {n k : Nat} (h : Up w g t m n k) (j : Nat) : w.frozen? ⟨g, j, none⟩ = false := by
  obtain ⟨cs, h1, _⟩ := h
  exact h1.free j
theorem Up.at {w : World} {g : Nat} {t : TypeId} {m : Int} {n k j : Nat} (h : Up w g t m n k) (hj : j < k) : w.cell? ⟨g, j, none⟩ = some (.int .i64 (m + (j : Int))) := by
  obtain ⟨cs, h1, _, h3⟩ := h
  rw [h1.cell]; exact h3 j hj
theorem Up.next {w : World} {g : Nat} {t : TypeId} {m : Int} {n k : Nat} (h : Up w g t m n k) (hk : k < n) : Up (w.setCell ⟨g, k, none⟩ (.int .i64 (m + (k : Int)))) g t m n (k + 1) := by
  obtain ⟨cs, h1, h2, h3⟩ := h
  have hs : k < cs.size := by
    obtain ⟨i, hi⟩ := h2 k hk
    rcases Nat.lt_or_ge k cs.size with h4 | h4
    · exact h4
    · rw [Array.getElem?_eq_none h4] at hi; cases hi
  refine ⟨_, h1.set k _, ?_, ?_⟩
  · intro j hj
    rw [Array.getElem?_setIfInBounds]
    by_cases e : k = j
    · subst e; rw [if_pos rfl, if_pos hs]; exact ⟨_, rfl⟩
    · rw [if_neg e]; exact h2 j hj
  · intro j hj
    rw [Array.getElem?_setIfInBounds]
    by_cases e : k = j
    · subst e; rw [if_pos rfl, if_pos hs]
    · rw [if_neg e]; exact h3 j (by omega)
theorem Up.below {w w' : World} {B g : Nat} {t : TypeId} {m : Int} {n k : Nat} (h : Up w g t m n k) (hb : Below B w w') (hg : g < B) : Up w' g t m n k := by
  obtain ⟨cs, h1, h2⟩ := h
  exact ⟨cs, h1.below hb hg, h2⟩
/-- While a list is marked. -/
def MkI (w wr : World) (g : Nat) (t : TypeId) (m : Int) (n k : Nat) : Prop := Below g w wr ∧ Up wr g t m n k ∧ ∀ j, j < w.heap.size → j ≠ g → wr.heap[j]? = w.heap[j]?
theorem MkI.next {w wr : World} {g : Nat} {t : TypeId} {m : Int} {n k : Nat} (h : MkI w wr g t m n k) (hk : k < n) : MkI w (wr.setCell ⟨g, k, none⟩ (.int .i64 (m + (k : Int)))) g t m n (k + 1) := ⟨h.1.setCell (Nat.le_refl _) _, h.2.1.next hk, fun j hj hne => (Below.heap_setCell _ _ _ _ hne).trans (h.2.2 j hj hne)⟩
end Go.Proofs.Ytdinjoenpiminaa
