/- New dictionaries as ones of a call's own. -/
import Derived.Test.YtibglmcpbbikdaaDdl
import Derived.Test.YtibglmcpbbikdaaKz
namespace Go.Proofs.Ytibglmcpbbikdaa
open Go.RowKit
theorem new_own {w : World} {b g : Nat} {nx : List Int} (h : w.heap[g]? = some (.cells (neg 8).toArray 3 (0, 0))) (hb : b ≤ g) (hx : nx = List.replicate 8 (-1)) : OwI w b (.slice (some ⟨g, 0, none⟩) nx.length 8) nx := by
  subst hx
  refine ⟨by simp [iv], .inr ⟨g, 8, _, by simp [iv], hb, h, by simp [iv], by decide, by simp [neg], ?_⟩⟩
  rw [neg_iv]
  simp [iv]
theorem iNew (nx : List Int) (ne : List Ent) (hx : nx = List.replicate 8 (-1)) (he : ne = []) (w : World) : Calls Try.prog 45 #[] w fun e w' => ∃ g, e = .returned (.agg #[.slice (some ⟨g, 0, none⟩) nx.length 8, .slice none ne.length 0]) ∧ OwD w' w.heap.size nx ne g 8 none 0 ∧ Below w.heap.size w w' := by
  refine (implNew_any w).mono ?_
  rintro e w' ⟨g, he9, hb, hg, hc⟩
  refine ⟨g, ?_, OwD.made (new_own hc hg hx) (by subst he; exact OwE.nil _ _), hb⟩
  rw [he9, hx, he]
  simp
theorem sNew (nx : List Int) (ne : List Ent) (hx : nx = List.replicate 8 (-1)) (he : ne = []) (w : World) : Calls Try.prog 46 #[] w fun e w' => ∃ g c, e = .returned (.agg #[.slice (some ⟨g, 0, none⟩) nx.length c, .slice none ne.length 0]) ∧ OwD w' w.heap.size nx ne g c none 0 ∧ Below w.heap.size w w' := by
  refine (specNew_own w).mono ?_
  rintro e w' ⟨g, c, he9, hb, ho⟩
  subst hx; subst he
  refine ⟨g, c, ?_, OwD.made ho (OwE.nil _ _), hb⟩
  rw [he9]
  simp
end Go.Proofs.Ytibglmcpbbikdaa
