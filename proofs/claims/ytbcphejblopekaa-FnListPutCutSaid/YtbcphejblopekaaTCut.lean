/- The bytes that a slice selects of a text: the model's, the program's, the law. -/
import Derived.Test.YtbcphejblopekaaRange2
import Derived.Test.YtbcphejblopekaaMany
import Derived.OwnWalk
namespace Go.Proofs.Ytbcphejblopekaa
open Go.RowKit
/-- The first k bytes that are selected. -/
def selL (s : ByteArray) (A st : Int) (k : Nat) : List UInt8 := (List.range k).map fun i : Nat => s.data.toList.getD (A + (i : Int) * st).toNat 0
theorem selL_len (s : ByteArray) (A st : Int) (k : Nat) : (selL s A st k).length = k := by simp [selL]
theorem selL_succ {s : ByteArray} {A st : Int} {k p : Nat} (hp : p < s.size) (h : A + (k : Int) * st = (p : Int)) : selL s A st (k + 1) = selL s A st k ++ [s[p]] := by
  have hl : p < s.data.toList.length := hp
  have e : s.data.toList.getD p 0 = s[p] := by rw [List.getD_eq_getElem?_getD, List.getElem?_eq_getElem hl]; rfl
  unfold selL
  rw [List.range_succ, List.map_append]
  simp only [List.map_cons, List.map_nil]
  rw [h, Int.toNat_natCast, e]
theorem bv_snoc (l : List UInt8) (c : UInt8) (z : Int) (h : z = (c.toNat : Int)) : bv l ++ [.int .u8 z] = bv (l ++ [c]) := by subst h; simp [bv]
theorem bv_len (l : List UInt8) : (bv l).length = l.length := by simp [bv]
/-- All that is selected is there. -/
theorem sel_in {n f t s : Int} {hf ht : Bool} (hn : 0 ≤ n) (h0 : s ≠ 0) : 0 ≤ cntZ (cFrom n f s hf) (cTo n t s ht) s ∧ cntZ (cFrom n f s hf) (cTo n t s ht) s ≤ n ∧ ∀ i : Int, 0 ≤ i → i < cntZ (cFrom n f s hf) (cTo n t s ht) s → 0 ≤ cFrom n f s hf + i * s ∧ cFrom n f s hf + i * s < n := by
  by_cases hs : s < 0
  · have hA : cFrom n f s hf ≤ n - 1 := by
      unfold cFrom cLo cHi
      simp only [hs, if_true]
      have := clampZ_in (i := f) (n := n) (lo := -1) (hi := n - 1) (by omega)
      cases hf <;> simp <;> omega
    have hB : -1 ≤ cTo n t s ht := by
      unfold cTo cLo cHi
      simp only [hs, if_true]
      have := clampZ_in (i := t) (n := n) (lo := -1) (hi := n - 1) (by omega)
      cases ht <;> simp <;> omega
    generalize cFrom n f s hf = A at *
    generalize cTo n t s ht = B at *
    obtain ⟨u, rfl⟩ : ∃ u, s = -u := ⟨-s, by omega⟩
    unfold cntZ
    rw [if_neg (by omega)]
    by_cases h : B < A
    · rw [if_pos h, Int.neg_neg]
      have hq := quot_in (x := A - B - 1) (u := u) (by omega) (by omega)
      have hmul := Int.ediv_mul_le (A - B - 1) (b := u) (by omega)
      refine ⟨by omega, by omega, fun i h1 h2 => ?_⟩
      have h3 : i * u ≤ (A - B - 1) / u * u := Int.mul_le_mul_of_nonneg_right (by omega) (by omega)
      have h4 : 0 ≤ i * u := Int.mul_nonneg h1 (by omega)
      rw [Int.mul_neg]
      omega
    · rw [if_neg h]
      exact ⟨by omega, by omega, fun i h1 h2 => by omega⟩
  · have hA : 0 ≤ cFrom n f s hf := by
      unfold cFrom cLo cHi
      simp only [hs, if_false]
      have := clampZ_in (i := f) (n := n) (lo := 0) (hi := n) (by omega)
      cases hf <;> simp <;> omega
    have hB : cTo n t s ht ≤ n := by
      unfold cTo cLo cHi
      simp only [hs, if_false]
      have := clampZ_in (i := t) (n := n) (lo := 0) (hi := n) (by omega)
      cases ht <;> simp <;> omega
    generalize cFrom n f s hf = A at *
    generalize cTo n t s ht = B at *
    unfold cntZ
    rw [if_pos (by omega)]
    by_cases h : A < B
    · rw [if_pos h]
      have hq := quot_in (x := B - A - 1) (u := s) (by omega) (by omega)
      have hmul := Int.ediv_mul_le (B - A - 1) (b := s) (by omega)
      refine ⟨by omega, by omega, fun i h1 h2 => ?_⟩
      have h3 : i * s ≤ (B - A - 1) / s * s := Int.mul_le_mul_of_nonneg_right (by omega) (by omega)
      have h4 : 0 ≤ i * s := Int.mul_nonneg h1 (by omega)
      omega
    · rw [if_neg h]
      exact ⟨by omega, by omega, fun i h1 h2 => by omega⟩
def TcI (w wr : World) (s : ByteArray) (A st : Int) (k : Nat) (b : Nat) (v : Value) : Prop := Below w.heap.size w wr ∧ w.heap.size ≤ b ∧ b ≤ wr.heap.size ∧ Own wr b 5 v (bv (selL s A st k))
theorem tc_next {w wr w' : World} {s : ByteArray} {A st : Int} {k b p : Nat} {v v' : Value} (h : TcI w wr s A st k b v) (hp : p < s.size) (he : A + (k : Int) * st = (p : Int)) (ho : Own w' b 5 v' (bv (selL s A st k) ++ [.int .u8 (s[p].toNat : Int)])) (hb : Below b wr w') : TcI w w' s A st (k + 1) b v' := by
  refine ⟨h.1.trans (hb.mono h.2.1), h.2.1, Nat.le_trans h.2.2.1 hb.size, ?_⟩
  rw [bv_snoc _ _ _ rfl, ← selL_succ hp he] at ho
  exact ho
end Go.Proofs.Ytbcphejblopekaa
