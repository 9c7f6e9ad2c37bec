/- Bools of the call's own. -/
import Derived.Test.YtplpgcbdbmfffaaWh
namespace Go.Proofs.Ytplpgcbdbmfffaa
open Go.RowKit
def bo (l : List Bool) : List Value := l.map Value.bool
theorem bo_len (l : List Bool) : (bo l).length = l.length := by simp [bo]
theorem bo_get {l : List Bool} {j : Nat} {i : Bool} (h : l[j]? = some i) : (bo l)[j]? = some (.bool i) := by simp [bo, h]
/-- A list of bools of the call's own. -/
def OwB (w : World) (b : Nat) (v : Value) (l : List Bool) : Prop := Own w b 4 v (bo l)
theorem OwB.row {w : World} {b g n cap : Nat} {l : List Bool} (h : OwB w b (.slice (some ⟨g, 0, none⟩) n cap) l) : l.length = n ∧ w.ownsRow b 4 1 (.slice (some ⟨g, 0, none⟩) n cap) n (bo l) := by
  have hn : (bo l).length = n := by
    rcases Own.form h with ⟨h2, _⟩ | ⟨g', cap', h2, _⟩
    · cases h2
    · injection h2 with _ h2 _
      exact h2.symm
  have h1 : w.ownsRow b 4 1 (.slice (some ⟨g, 0, none⟩) n cap) (bo l).length (bo l) := h
  rw [hn] at h1
  rw [bo_len] at hn
  exact ⟨hn, h1⟩
theorem OwB.cellAt {w : World} {b g n cap k : Nat} {l : List Bool} {i : Bool} (h : OwB w b (.slice (some ⟨g, 0, none⟩) n cap) l) (hi : l[k]? = some i) : w.cell? ⟨g, k, none⟩ = some (.bool i) ∧ w.frozen? ⟨g, k, none⟩ = false := by
  rcases Own.form h with ⟨h2, _⟩ | ⟨g', cap', h2, _, _, _, h5⟩
  · cases h2
  · injection h2 with h2 _ _
    injection h2 with h2
    injection h2 with h2
    subst h2
    exact ⟨h5 k _ (bo_get hi), World.ownsRow.frozenAt h.row.2 k⟩
theorem OwB.stored {w : World} {b g n cap : Nat} {l : List Bool} (h : OwB w b (.slice (some ⟨g, 0, none⟩) n cap) l) (k : Nat) (i : Bool) : OwB (w.setCell ⟨g, k, none⟩ (.bool i)) b (.slice (some ⟨g, 0, none⟩) n cap) (l.set k i) := by
  have h1 := (World.ownsRow.stored h.row.2 k (.bool i)).1
  have e : (bo l).set k (.bool i) = bo (l.set k i) := by unfold bo; rw [List.map_set]
  rw [e] at h1
  unfold OwB Own
  rw [bo_len, List.length_set, h.row.1]
  exact h1
theorem OwB.lt {w : World} {b g n cap : Nat} {l : List Bool} (h : OwB w b (.slice (some ⟨g, 0, none⟩) n cap) l) : b ≤ g ∧ g < w.heap.size := World.ownsRow.lt h g rfl
theorem OwB.keep {w w' : World} {b B g n cap : Nat} {l : List Bool} (h : OwB w b (.slice (some ⟨g, 0, none⟩) n cap) l) (hb : Below B w w') (hg : g < B) : OwB w' b (.slice (some ⟨g, 0, none⟩) n cap) l := by
  obtain ⟨h1, h2⟩ := h
  refine ⟨h1, ?_⟩
  rcases h2 with ⟨h2, _⟩ | ⟨g', cap', cur, hv, hb1, hh, rest⟩
  · cases h2
  · injection hv with hv1 hv2 hv3
    injection hv1 with hv1
    injection hv1 with hv1
    subst hv1 hv2 hv3
    exact .inr ⟨_, _, cur, rfl, hb1, (hb.block _ hg).trans hh, rest⟩
theorem OwB.wide {w : World} {b b' : Nat} {v : Value} {l : List Bool} (h : OwB w b v l) (hb : b' ≤ b) : OwB w b' v l := by
  obtain ⟨h1, h2⟩ := h
  refine ⟨h1, ?_⟩
  rcases h2 with h2 | ⟨g, cap, cur, hv, hg, rest⟩
  · exact .inl h2
  · exact .inr ⟨g, cap, cur, hv, Nat.le_trans hb hg, rest⟩
/-- 'make([]bool, n)'. -/
theorem mkBo {ops : Array Oper} {rest : List Oper} {o : Oper} {a : Act} {w : World} {Q : Exit → Act → World → Prop} (hg : o.guard = none) (l c : Operand) (hop : o.op = Op.makeSlice 93 l c) (n : Nat) (L C : Int) (hl : a.eval l = .int .i64 L) (hc : a.eval c = .int .i64 C) (hL : L = (n : Int)) (hC : C = (n : Int)) (hn : n ≤ 1048576)
    (hK : ∀ w', OwB w' w.heap.size (.slice (some ⟨w.heap.size, 0, none⟩) n n) (List.replicate n false) → Below w.heap.size w w' → wpList Try.prog ops Q rest (a.put o.dst (.slice (some ⟨w.heap.size, 0, none⟩) n n)) w') : wpList Try.prog ops Q (o :: rest) a w := by
  obtain ⟨i, hi1, hi2, hi3, hi4⟩ := info_of (P := Try.prog) (e := 4) (z := .bool false) (s := 1) (b := 1) (by kernel_rfl)
  refine wpList_make_full w hg l c 93 hop w.heap.size 4 i (.bool false) 1 Try.underlying93 hi1 hi2 hi3 .i64 .i64 L C n hl hc hL hC (by rw [hi4]; omega) (by unfold maxLen; omega) (Nat.le_refl _) ?_
  intro w' ho hgr
  refine hK w' ?_ ((Below.refl _ _).grown hgr (Nat.le_refl _) (fun k hk => by cases hk))
  have e : (madeCells (Value.bool false).cells (n * 1)).toList = bo (List.replicate n false) := by
    rw [show (Value.bool false).cells = #[Value.bool false] from rfl, toList_madeCells_one, Nat.mul_one]; simp [bo]
  rw [e] at ho
  unfold OwB Own
  rw [bo_len, List.length_replicate]
  exact ho
end Go.Proofs.Ytplpgcbdbmfffaa
