/- Slices are drawn; the laws on CutOk and CutRange. -/
import Derived.Test.YtdinjoenpiminaaDrC
import Derived.Test.YtdinjoenpiminaaLwT
import Derived.Test.YtdinjoenpiminaaTCut2
namespace Go.Proofs.Ytdinjoenpiminaa
open Go.RowKit
/-- Two results, the second a struct that lies in a block. -/
theorem results_tmp_row {P : Program} {fn : Func} {q p : Tmp} {ty : TypeId} (h : fn.results = #[.tmp q, .cell p ty]) (tmps : Array Value) (w : World) (u : Value) (g : Nat) (t : TypeId) (cs : Array Value) (fr : Nat × Nat) (d : TypeDesc)
    (hq : tmps.getD q undef = u) (hp : tmps.getD p undef = .pointer (some ⟨g, 0, none⟩)) (hg : w.heap[g]? = some (.cells cs t fr))
    (hu : P.underlying ty = some d) (hd : (match d with | .struct _ | .array _ _ => true | _ => false) = true) (hi : (P.info? ty).map (·.size) = some cs.size) :
    (results fn tmps).run P w = .ok (.tuple #[u, .agg cs]) w := by
  have hp' : tmps[p]?.getD undef = .pointer (some ⟨g, 0, none⟩) := by simpa using hp
  have hq' : tmps[q]?.getD undef = u := by simpa using hq
  simp [results, h, hp', hq', asAddr, run_loadVar_row w g t ty cs fr d hg hu hd hi]
theorem cr_below {w w' : World} {a : Option Addr} {n cap : Nat} (h : Cr w a n cap) (hb : Below w.heap.size w w') : Cr w' a n cap := by
  refine ⟨h.1, h.2.1, ?_⟩
  rcases h.2.2 with h2 | ⟨x, hx, hr⟩
  · exact Or.inl h2
  · refine Or.inr ⟨x, hx, fun i hi => ?_⟩
    obtain ⟨c, hc, hcell⟩ := hr i hi
    exact ⟨c, hc, by rw [hb.cell (World.block_lt_of_cell? w _ hcell)]; exact hcell⟩
/-- A new drawer in a world with one block more. -/
theorem newRnd_on (w : World) (o : Obj) (a : Option Addr) (n cap : Nat) (h : Cr w a n cap) : Calls Try.prog 42 #[.slice a n cap] (w.alloc o) fun e w' => e = .returned (.pointer (some ⟨w.heap.size + 1, 0, none⟩)) ∧ Below (w.heap.size + 1) (w.alloc o) w' ∧ ∃ m, RI w' (w.heap.size + 1) a m cap 0 := by
  refine (newRnd_any (w.alloc o) a n cap (cr_below h ((Below.refl _ _).alloc (Nat.le_refl _) _))).mono ?_
  rintro e w' ⟨he, hb, m, hr⟩
  have e1 : (w.alloc o).heap.size = w.heap.size + 1 := by simp
  rw [e1] at he hb hr
  exact ⟨he, hb, m, hr⟩
/-- A slice. -/
def CtP (w : World) (e : Ending) (w' : World) : Prop := ∃ (f t s : Int) (hf ht : Bool), e = .returned (.agg (cutC f t s hf ht)) ∧ Fit f ∧ Fit t ∧ Fit s ∧ Below w.heap.size w w'
/-- A number and a slice. -/
def CnP (w : World) (e : Ending) (w' : World) : Prop := ∃ (z f t s : Int) (hf ht : Bool), e = .returned (.tuple #[.int .i64 z, .agg (cutC f t s hf ht)]) ∧ Fit z ∧ Fit f ∧ Fit t ∧ Fit s ∧ Below w.heap.size w w'
end Go.Proofs.Ytdinjoenpiminaa
