/- Slices of digits: read where they lie; appended to where they are the call's own. -/
import Derived.Test.YtckmpenlpkhnfabBytes
import Derived.Test.YtckmpenlpkhnfabDigs
import Derived.Laws.OwnMore
namespace Go.Proofs.Ytckmpenlpkhnfab
open Go.RowKit
/-- Digits as values. -/
def li (l : List Nat) : List Value := l.map fun d : Nat => Value.int .i64 (d : Int)
theorem li_len (l : List Nat) : (li l).length = l.length := by simp [li]
theorem li_get {l : List Nat} {j d : Nat} (h : l[j]? = some d) : (li l)[j]? = some (.int .i64 (d : Int)) := by simp [li, h]
theorem li_snoc (l : List Nat) (d : Nat) : li l ++ [.int .i64 (d : Int)] = li (l ++ [d]) := by simp [li]
/-- The slice v, whose block is not ahead of lo, holds the digits l. -/
def Rd (w : World) (lo : Nat) (v : Value) (l : List Nat) : Prop := ∃ g cap, v = .slice (some ⟨g, 0, none⟩) l.length cap ∧ lo ≤ g ∧ g < w.heap.size ∧ l.length ≤ cap ∧ ∀ j d : Nat, l[j]? = some d → w.cell? ⟨g, j, none⟩ = some (.int .i64 (d : Int))
theorem Rd.below {w w' : World} {lo : Nat} {v : Value} {l : List Nat} (h : Rd w lo v l) (hb : Below w.heap.size w w') : Rd w' lo v l := by
  obtain ⟨g, cap, hv, hl, hg, hc, hr⟩ := h
  exact ⟨g, cap, hv, hl, Nat.lt_of_lt_of_le hg hb.size, hc, fun j d hj => by rw [hb.cell (p := ⟨g, j, none⟩) hg]; exact hr j d hj⟩
theorem Rd.lower {w : World} {lo lo' : Nat} {v : Value} {l : List Nat} (h : Rd w lo v l) (hl : lo' ≤ lo) : Rd w lo' v l := by
  obtain ⟨g, cap, hv, h1, h2⟩ := h
  exact ⟨g, cap, hv, by omega, h2⟩
theorem Rd.alloc {w : World} {lo : Nat} {v : Value} {l : List Nat} (h : Rd w lo v l) (o : Obj) : Rd (w.alloc o) lo v l := h.below ((Below.refl _ _).alloc (Nat.le_refl _) _)
theorem Rd.drewN {w : World} {lo : Nat} {v : Value} {l : List Nat} (h : Rd w lo v l) (n : Nat) : Rd (w.drewN n) lo v l := h
theorem Rd.drew {w : World} {lo : Nat} {v : Value} {l : List Nat} (h : Rd w lo v l) : Rd w.drew lo v l := h
/-- What is grown elsewhere leaves it. -/
theorem Rd.grown {w w' : World} {lo : Nat} {v : Value} {l : List Nat} {row : Option Nat} (h : Rd w lo v l) (hg : w.grownBy w' row) (hr : ∀ k, row = some k → k < lo) : Rd w' lo v l := by
  obtain ⟨g, cap, hv, hl, hlt, hc, hrd⟩ := h
  refine ⟨g, cap, hv, hl, Nat.lt_of_lt_of_le hlt hg.size, hc, fun j d hj => hg.cell (hrd j d hj) fun e => ?_⟩
  have := hr g e.symm
  omega
theorem Rd.take {w : World} {lo g cap n : Nat} {l : List Nat} (h : Rd w lo (.slice (some ⟨g, 0, none⟩) n cap) l) (k : Nat) (hk : k ≤ n) : Rd w lo (.slice (some ⟨g, 0, none⟩) k cap) (l.take k) := by
  obtain ⟨g', cap', hv, hl, hg, hc, hr⟩ := h
  simp only [Value.slice.injEq, Option.some.injEq, Addr.mk.injEq, and_true] at hv
  obtain ⟨rfl, rfl, rfl⟩ := hv
  refine ⟨g, cap, by rw [List.length_take, Nat.min_eq_left hk], hl, hg, by rw [List.length_take]; omega, fun j d hj => hr j d ?_⟩
  rw [List.getElem?_take] at hj
  split at hj
  · exact hj
  · cases hj
/-- A slice of the call's own that is not nil. -/
def Ow (w : World) (base : Nat) (v : Value) (l : List Nat) : Prop := Own w base 3 v (li l) ∧ v ≠ .slice none 0 0
theorem Ow.next {w : World} {base : Nat} {v : Value} {l : List Nat} {d : Nat} (h : Own w base 3 v (li l ++ [.int .i64 (d : Int)])) : Ow w base v (l ++ [d]) := by
  rw [li_snoc] at h
  refine ⟨h, fun hv => ?_⟩
  rcases h.form with ⟨_, h0⟩ | ⟨g, cap, hv', _⟩
  · simp [li] at h0
  · rw [hv] at hv'; cases hv'
theorem Ow.rd {w : World} {base : Nat} {v : Value} {l : List Nat} (h : Ow w base v l) : Rd w base v l := by
  obtain ⟨h, hn⟩ := h
  rcases h.form with ⟨hv, _⟩ | ⟨g, cap, hv, hb, hg, hc, hr⟩
  · exact absurd hv hn
  · rw [li_len] at hv hc
    exact ⟨g, cap, hv, hb, hg, hc, fun j d hj => hr j _ (li_get hj)⟩
theorem Ow.alloc {w : World} {base : Nat} {v : Value} {l : List Nat} (h : Ow w base v l) (x : Obj) : Ow (w.alloc x) base v l := ⟨h.1.alloc x, h.2⟩
theorem Ow.drewN {w : World} {base : Nat} {v : Value} {l : List Nat} (h : Ow w base v l) (n : Nat) : Ow (w.drewN n) base v l := h
theorem Ow.drew {w : World} {base : Nat} {v : Value} {l : List Nat} (h : Ow w base v l) : Ow w.drew base v l := h
/-- An empty literal. -/
theorem Ow.lit0 (w : World) (base : Nat) (hb : base ≤ w.heap.size) : Ow (w.alloc (.cells #[] 3)) base (.slice (some ⟨w.heap.size, 0, none⟩) 0 0) [] :=
  ⟨World.ownsRow_lit w #[] 0 hb (by decide) rfl, by simp⟩
/-- A literal of one digit. -/
theorem Ow.lit1 (w : World) (base d : Nat) (hb : base ≤ w.heap.size) : Ow (w.alloc (.cells #[.int .i64 (d : Int)] 3)) base (.slice (some ⟨w.heap.size, 0, none⟩) 1 1) [d] :=
  ⟨World.ownsRow_lit w #[.int .i64 (d : Int)] 1 hb (by decide) rfl, by simp⟩
theorem Rd.lit1 (w : World) (lo d : Nat) (hb : lo ≤ w.heap.size) : Rd (w.alloc (.cells #[.int .i64 (d : Int)] 3)) lo (.slice (some ⟨w.heap.size, 0, none⟩) 1 1) [d] := (Ow.lit1 w lo d hb).rd
/-- What a function of digits hands back: the digits of n, in memory not ahead of lo; it changes nothing that was there. -/
def SlP (w : World) (lo n : Nat) (e : Ending) (w' : World) : Prop := ∃ u, e = .returned u ∧ Rd w' lo u (D n) ∧ Below w.heap.size w w'
end Go.Proofs.Ytckmpenlpkhnfab
