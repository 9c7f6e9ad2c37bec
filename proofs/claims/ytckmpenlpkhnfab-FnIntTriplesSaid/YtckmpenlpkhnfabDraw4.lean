/- An integer is drawn, or something like one. -/
import Derived.Test.YtckmpenlpkhnfabDraw3
namespace Go.Proofs.Ytckmpenlpkhnfab
open Go.RowKit
theorem grown_trans {a b c : World} {row : Option Nat} (h : a.grownBy b row) (k : b.grownBy c row) : a.grownBy c row :=
  ⟨k.os.trans h.os, k.tape.trans h.tape, k.output.trans h.output, Nat.le_trans h.size k.size, fun i hi hne => (k.block i (Nat.lt_of_lt_of_le hi h.size) hne).trans (h.block i hi hne)⟩
theorem grown_below {w w' : World} {row : Option Nat} (h : Below w.heap.size w w') : w.grownBy w' row := ⟨h.os, h.tape, h.output, h.size, fun i hi _ => h.block i hi⟩
theorem ri_below {w w' : World} {g n cap k : Nat} {a : Option Addr} (h : RI w g a n cap k) (hb : Below w.heap.size w w') : RI w' g a n cap k := by
  obtain ⟨h1, h2, h3, h4⟩ := h
  refine ⟨h1.below hb h1.lt, h2, h3, ?_⟩
  rcases h4 with h4 | ⟨x, hx, hxg, hr⟩
  · exact Or.inl h4
  · refine Or.inr ⟨x, hx, hxg, fun i hi => ?_⟩
    obtain ⟨c, hc, hcell⟩ := hr i hi
    exact ⟨c, hc, by rw [hb.cell (World.block_lt_of_cell? w _ hcell)]; exact hcell⟩
theorem DrP.zero {w : World} {g n cap k : Nat} {a : Option Addr} (h : RI w g a n cap k) : DrP w g a n cap k 0 w := ⟨World.grownBy.refl _ _, k, by omega, h⟩
theorem DrP.below {w w1 w2 : World} {g n cap k j : Nat} {a : Option Addr} (h : DrP w g a n cap k j w1) (hb : Below w1.heap.size w1 w2) : DrP w g a n cap k j w2 := by
  obtain ⟨hg, k', hk, hr⟩ := h
  exact ⟨grown_trans hg (grown_below hb), k', hk, ri_below hr hb⟩
theorem DrP.then {w w1 w2 : World} {g n cap k k1 j j2 : Nat} {a : Option Addr} (hg : w.grownBy w1 (some g)) (hk : k1 ≤ k + j) (h : DrP w1 g a n cap k1 j2 w2) : DrP w g a n cap k (j + j2) w2 := by
  obtain ⟨hg2, k', hk2, hr⟩ := h
  exact ⟨grown_trans hg hg2, k', by omega, hr⟩
theorem DrP.more {w w1 : World} {g n cap k j j2 : Nat} {a : Option Addr} (h : DrP w g a n cap k j w1) (hj : j ≤ j2) : DrP w g a n cap k j2 w1 := by
  obtain ⟨hg, k', hk, hr⟩ := h
  exact ⟨hg, k', by omega, hr⟩
theorem lit_cell (w : World) (cs : Array Value) (t : TypeId) (j : Nat) : (w.alloc (.cells cs t)).cell? ⟨w.heap.size, j, none⟩ = cs[j]? := (Blk.newest w t cs).cell j
theorem of_lit {w : World} {g n cap k : Nat} {a : Option Addr} (l : List ByteArray) (h : RI w g a n cap k) (hk : k ≤ 100000) (hl : 0 < l.length) (hl2 : l.length ≤ 1000) :
    Calls Try.prog 52 #[.pointer (some ⟨g, 0, none⟩), .slice (some ⟨w.heap.size, 0, none⟩) l.length l.length] (w.alloc (.cells (l.map Value.string).toArray 9)) fun e w' => (∃ d, d ∈ l ∧ e = .returned (.string d)) ∧ DrP w g a n cap k 1 w' := by
  have hb : Below w.heap.size w (w.alloc (.cells (l.map Value.string).toArray 9)) := (Below.refl _ _).alloc (Nat.le_refl _) _
  have hlt := h.1.lt
  refine (of_any _ g a n cap k l w.heap.size l.length (ri_below h hb) hk hl hl2 (by omega) fun j d hj => by rw [lit_cell]; simp [hj]).mono ?_
  rintro e w' ⟨he, hd⟩
  refine ⟨he, ?_⟩
  have := DrP.then (w := w) (k := k) (j := 0) (grown_below hb) (by omega) hd
  simpa using this
theorem one_lit {w : World} {g n cap k : Nat} {a : Option Addr} (l : List Nat) (h : RI w g a n cap k) (hk : k ≤ 100000) (hl : 0 < l.length) (hl2 : l.length ≤ 1000) :
    Calls Try.prog 55 #[.pointer (some ⟨g, 0, none⟩), .slice (some ⟨w.heap.size, 0, none⟩) l.length l.length] (w.alloc (.cells (li l).toArray 3)) fun e w' => (∃ d, d ∈ l ∧ e = .returned (.int .i64 (d : Int))) ∧ DrP w g a n cap k 1 w' := by
  have hb : Below w.heap.size w (w.alloc (.cells (li l).toArray 3)) := (Below.refl _ _).alloc (Nat.le_refl _) _
  have hlt := h.1.lt
  refine (one_any _ g a n cap k l w.heap.size l.length (ri_below h hb) hk hl hl2 (by omega) fun j d hj => by rw [lit_cell]; simpa using li_get hj).mono ?_
  rintro e w' ⟨he, hd⟩
  refine ⟨he, ?_⟩
  have := DrP.then (w := w) (k := k) (j := 0) (grown_below hb) (by omega) hd
  simpa using this
theorem pk_dr {w w' : World} {g n cap k : Nat} {a : Option Addr} (hg : w.grownBy w' (some g)) (h : ∃ k', k' ≤ k + 1 ∧ RI w' g a n cap k') : DrP w g a n cap k 1 w' := ⟨hg, h⟩
/-- What the drawer's functions of texts hand back: some text of at most so many bytes. -/
def DtP (w : World) (g : Nat) (a : Option Addr) (n cap k j b : Nat) (e : Ending) (w' : World) : Prop := (∃ l : List UInt8, e = .returned (.string ⟨l.toArray⟩) ∧ l.length ≤ b) ∧ DrP w g a n cap k j w'
end Go.Proofs.Ytckmpenlpkhnfab
