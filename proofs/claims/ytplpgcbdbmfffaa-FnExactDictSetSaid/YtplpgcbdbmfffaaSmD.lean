/- Values at places; dictionaries that are the same: plain facts. -/
import Derived.Test.YtplpgcbdbmfffaaDok2
namespace Go.Proofs.Ytplpgcbdbmfffaa
open Go.RowKit
/-- What lies at a place. -/
def valAt (es : List Ent) (n : Int) : Int := (es[n.toNat]?.map (·.val)).getD 0
theorem valAt_is {es : List Ent} {k : Nat} {e : Ent} (h : es[k]? = some e) : valAt es (k : Int) = e.val := by unfold valAt; rw [Int.toNat_natCast, h]; rfl
/-- An entry that is alive has the same value there. -/
def smE (ix : List Int) (es : List Ent) (e : Ent) : Bool := !e.live || (decide (0 ≤ plc ix es e.key (hsh e.key.data.toList)) && (valAt es (plc ix es e.key (hsh e.key.data.toList)) == e.val))
noncomputable def sameB (ixA : List Int) (esA : List Ent) (ixB : List Int) (esB : List Ent) : Bool := dokB ixA esA && (dokB ixB esB && ((liveN esA == liveN esB) && esA.all (smE ixB esB)))
theorem same_a {ixA ixB : List Int} {esA esB : List Ent} (h : dokB ixA esA = false) : sameB ixA esA ixB esB = false := by unfold sameB; rw [h]; rfl
theorem same_b {ixA ixB : List Int} {esA esB : List Ent} (h : dokB ixB esB = false) : sameB ixA esA ixB esB = false := by unfold sameB; rw [h]; simp
theorem same_n {ixA ixB : List Int} {esA esB : List Ent} (h : ¬ liveN esA = liveN esB) : sameB ixA esA ixB esB = false := by unfold sameB; rw [beq_eq_false_iff_ne.2 h]; simp
theorem same_e {ixA ixB : List Int} {esA esB : List Ent} {k : Nat} {e : Ent} (h : esA[k]? = some e) (h2 : smE ixB esB e = false) : sameB ixA esA ixB esB = false := by unfold sameB; rw [not_all h h2]; simp
theorem same_y {ixA ixB : List Int} {esA esB : List Ent} (h1 : dokB ixA esA = true) (h2 : dokB ixB esB = true) (h3 : liveN esA = liveN esB) (h4 : esA.all (smE ixB esB) = true) : sameB ixA esA ixB esB = true := by unfold sameB; rw [h1, h2, h3, h4]; simp
end Go.Proofs.Ytplpgcbdbmfffaa
