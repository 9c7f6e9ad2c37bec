/-
  No cell of these rows narrows 'for every input' (looked for: loops, veiled, ifaces, maps, wideKeys, modest, calm, conditions, laid).
  DERIVED. THE GIVEN ROWS OF THIS SEAT. 11 by the template 'for every input the law returns true; each argument reads behind the call as it read before'; 0 by the template 'total and deterministic' (their statements: YtbcphejblopekabTotals.lean).
  GIVEN WITH THE SEED: the statements are not yours to turn. If you find one false, say at which input.
  Laid BY PROGRAM, IN A SANDBOX (cutbox-rows.mjs): the forced cells as the released guide's own fill.sh prints them over the translation 5c67f779d46c7988… (all of the seat's roots in one cut). By AI agents, Wed Nov 11 2026. No macro, syntax, notation, axiom, sorry.
-/
import Derived.Test.YtbcphejblopekabChecked
import GoSem.Claim
import GoSem.ClaimJoined
import GoSem.ClaimMapViews
import Derived.JoinedTies
import Derived.KernelRfl
namespace Go.Proofs.Ytbcphejblopekab
/- THE CELL 'sum', in the pinned program and in every row, IS THE sha256 OF THE DUMP (.gsa) THAT YtbcphejblopekabProg.lean LOADS. Nothing in Lean hashes anything: it is a label: what it is worth is what the hold of that sum in a sandbox is worth. -/
noncomputable def Try.pinned : Pinned := { name := "ytbcphejblopekab", sum := "5c67f779d46c7988fb71dd8136420a121e5fbfe4047e743202f022fc49875a2d", checked := Try.checked }
namespace Rows
def none {H : Type} : Left H := { results := [], args := [] }

/-- 'laws.FnExactRunsOf': WHATEVER THE INPUT: true; the input reads as it did. -/
def fnExactRunsOfSpec : ChangeSpec := { name := "fnExactRunsOf", fn := fun _ => fun
  | [d] => { results := [.lit (.bool true)], args := [d] }
  | _ => none }
def fnExactRunsOfRow : OpenClaim := { program := "ytbcphejblopekab", sum := "5c67f779d46c7988fb71dd8136420a121e5fbfe4047e743202f022fc49875a2d", func := "loop.example/slowworm/laws.FnExactRunsOf", spec := "fnExactRunsOf", inPlace := ["slices.overlaps[loop.example/slowworm/impl.Item]"], unfollowed := true, recurses := true, apart := false }
def FnExactRunsOfSaid : Prop := fnExactRunsOfRow.holds Try.pinned (OpenSpec.ofChange fnExactRunsOfSpec)

/-- ITS FALSE NEIGHBOUR: 'it returns false'. Refute it at one input. -/
def fnExactRunsOfWrong : ChangeSpec := { name := "fnExactRunsOf", fn := fun _ => fun
  | [d] => { results := [.lit (.bool false)], args := [d] }
  | _ => none }
def FnExactRunsOfWrongFalsely : Prop := fnExactRunsOfRow.holds Try.pinned (OpenSpec.ofChange fnExactRunsOfWrong)

/-- 'laws.FnExactMergePlan': WHATEVER THE INPUT: true; the input reads as it did. -/
def fnExactMergePlanSpec : ChangeSpec := { name := "fnExactMergePlan", fn := fun _ => fun
  | [d] => { results := [.lit (.bool true)], args := [d] }
  | _ => none }
def fnExactMergePlanRow : OpenClaim := { program := "ytbcphejblopekab", sum := "5c67f779d46c7988fb71dd8136420a121e5fbfe4047e743202f022fc49875a2d", func := "loop.example/slowworm/laws.FnExactMergePlan", spec := "fnExactMergePlan", apart := false }
def FnExactMergePlanSaid : Prop := fnExactMergePlanRow.holds Try.pinned (OpenSpec.ofChange fnExactMergePlanSpec)

/-- ITS FALSE NEIGHBOUR: 'it returns false'. Refute it at one input. -/
def fnExactMergePlanWrong : ChangeSpec := { name := "fnExactMergePlan", fn := fun _ => fun
  | [d] => { results := [.lit (.bool false)], args := [d] }
  | _ => none }
def FnExactMergePlanWrongFalsely : Prop := fnExactMergePlanRow.holds Try.pinned (OpenSpec.ofChange fnExactMergePlanWrong)

/-- 'laws.FnExactSortItems': WHATEVER THE INPUT: true; the input reads as it did. -/
def fnExactSortItemsSpec : ChangeSpec := { name := "fnExactSortItems", fn := fun _ => fun
  | [d] => { results := [.lit (.bool true)], args := [d] }
  | _ => none }
def fnExactSortItemsRow : OpenClaim := { program := "ytbcphejblopekab", sum := "5c67f779d46c7988fb71dd8136420a121e5fbfe4047e743202f022fc49875a2d", func := "loop.example/slowworm/laws.FnExactSortItems", spec := "fnExactSortItems", inPlace := ["slices.overlaps[loop.example/slowworm/impl.Item]"], unfollowed := true, recurses := true, apart := false }
def FnExactSortItemsSaid : Prop := fnExactSortItemsRow.holds Try.pinned (OpenSpec.ofChange fnExactSortItemsSpec)

/-- ITS FALSE NEIGHBOUR: 'it returns false'. Refute it at one input. -/
def fnExactSortItemsWrong : ChangeSpec := { name := "fnExactSortItems", fn := fun _ => fun
  | [d] => { results := [.lit (.bool false)], args := [d] }
  | _ => none }
def FnExactSortItemsWrongFalsely : Prop := fnExactSortItemsRow.holds Try.pinned (OpenSpec.ofChange fnExactSortItemsWrong)

/-- 'laws.FnRunsOf': WHATEVER THE INPUT: true; the input reads as it did. -/
def fnRunsOfSpec : ChangeSpec := { name := "fnRunsOf", fn := fun _ => fun
  | [d] => { results := [.lit (.bool true)], args := [d] }
  | _ => none }
def fnRunsOfRow : OpenClaim := { program := "ytbcphejblopekab", sum := "5c67f779d46c7988fb71dd8136420a121e5fbfe4047e743202f022fc49875a2d", func := "loop.example/slowworm/laws.FnRunsOf", spec := "fnRunsOf", inPlace := ["slices.overlaps[loop.example/slowworm/impl.Item]"], unfollowed := true, recurses := true, apart := false }
def FnRunsOfSaid : Prop := fnRunsOfRow.holds Try.pinned (OpenSpec.ofChange fnRunsOfSpec)

/-- ITS FALSE NEIGHBOUR: 'it returns false'. Refute it at one input. -/
def fnRunsOfWrong : ChangeSpec := { name := "fnRunsOf", fn := fun _ => fun
  | [d] => { results := [.lit (.bool false)], args := [d] }
  | _ => none }
def FnRunsOfWrongFalsely : Prop := fnRunsOfRow.holds Try.pinned (OpenSpec.ofChange fnRunsOfWrong)

/-- 'laws.FnMergePlan': WHATEVER THE INPUT: true; the input reads as it did. -/
def fnMergePlanSpec : ChangeSpec := { name := "fnMergePlan", fn := fun _ => fun
  | [d] => { results := [.lit (.bool true)], args := [d] }
  | _ => none }
def fnMergePlanRow : OpenClaim := { program := "ytbcphejblopekab", sum := "5c67f779d46c7988fb71dd8136420a121e5fbfe4047e743202f022fc49875a2d", func := "loop.example/slowworm/laws.FnMergePlan", spec := "fnMergePlan", apart := false }
def FnMergePlanSaid : Prop := fnMergePlanRow.holds Try.pinned (OpenSpec.ofChange fnMergePlanSpec)

/-- ITS FALSE NEIGHBOUR: 'it returns false'. Refute it at one input. -/
def fnMergePlanWrong : ChangeSpec := { name := "fnMergePlan", fn := fun _ => fun
  | [d] => { results := [.lit (.bool false)], args := [d] }
  | _ => none }
def FnMergePlanWrongFalsely : Prop := fnMergePlanRow.holds Try.pinned (OpenSpec.ofChange fnMergePlanWrong)

/-- 'laws.FnSortItems': WHATEVER THE INPUT: true; the input reads as it did. -/
def fnSortItemsSpec : ChangeSpec := { name := "fnSortItems", fn := fun _ => fun
  | [d] => { results := [.lit (.bool true)], args := [d] }
  | _ => none }
def fnSortItemsRow : OpenClaim := { program := "ytbcphejblopekab", sum := "5c67f779d46c7988fb71dd8136420a121e5fbfe4047e743202f022fc49875a2d", func := "loop.example/slowworm/laws.FnSortItems", spec := "fnSortItems", inPlace := ["slices.overlaps[loop.example/slowworm/impl.Item]"], unfollowed := true, recurses := true, apart := false }
def FnSortItemsSaid : Prop := fnSortItemsRow.holds Try.pinned (OpenSpec.ofChange fnSortItemsSpec)

/-- ITS FALSE NEIGHBOUR: 'it returns false'. Refute it at one input. -/
def fnSortItemsWrong : ChangeSpec := { name := "fnSortItems", fn := fun _ => fun
  | [d] => { results := [.lit (.bool false)], args := [d] }
  | _ => none }
def FnSortItemsWrongFalsely : Prop := fnSortItemsRow.holds Try.pinned (OpenSpec.ofChange fnSortItemsWrong)

/-- 'laws.FnSortAny': WHATEVER THE INPUT: true; the input reads as it did. -/
def fnSortAnySpec : ChangeSpec := { name := "fnSortAny", fn := fun _ => fun
  | [d] => { results := [.lit (.bool true)], args := [d] }
  | _ => none }
def fnSortAnyRow : OpenClaim := { program := "ytbcphejblopekab", sum := "5c67f779d46c7988fb71dd8136420a121e5fbfe4047e743202f022fc49875a2d", func := "loop.example/slowworm/laws.FnSortAny", spec := "fnSortAny", inPlace := ["slices.overlaps[loop.example/slowworm/impl.Item]"], unfollowed := true, recurses := true, apart := false }
def FnSortAnySaid : Prop := fnSortAnyRow.holds Try.pinned (OpenSpec.ofChange fnSortAnySpec)

/-- ITS FALSE NEIGHBOUR: 'it returns false'. Refute it at one input. -/
def fnSortAnyWrong : ChangeSpec := { name := "fnSortAny", fn := fun _ => fun
  | [d] => { results := [.lit (.bool false)], args := [d] }
  | _ => none }
def FnSortAnyWrongFalsely : Prop := fnSortAnyRow.holds Try.pinned (OpenSpec.ofChange fnSortAnyWrong)

/-- 'laws.FnRunsSorted': WHATEVER THE INPUT: true; the input reads as it did. -/
def fnRunsSortedSpec : ChangeSpec := { name := "fnRunsSorted", fn := fun _ => fun
  | [d] => { results := [.lit (.bool true)], args := [d] }
  | _ => none }
def fnRunsSortedRow : OpenClaim := { program := "ytbcphejblopekab", sum := "5c67f779d46c7988fb71dd8136420a121e5fbfe4047e743202f022fc49875a2d", func := "loop.example/slowworm/laws.FnRunsSorted", spec := "fnRunsSorted", inPlace := ["slices.overlaps[loop.example/slowworm/impl.Item]"], unfollowed := true, recurses := true, apart := false }
def FnRunsSortedSaid : Prop := fnRunsSortedRow.holds Try.pinned (OpenSpec.ofChange fnRunsSortedSpec)

/-- ITS FALSE NEIGHBOUR: 'it returns false'. Refute it at one input. -/
def fnRunsSortedWrong : ChangeSpec := { name := "fnRunsSorted", fn := fun _ => fun
  | [d] => { results := [.lit (.bool false)], args := [d] }
  | _ => none }
def FnRunsSortedWrongFalsely : Prop := fnRunsSortedRow.holds Try.pinned (OpenSpec.ofChange fnRunsSortedWrong)

/-- 'laws.FnSortParts': WHATEVER THE INPUT: true; the input reads as it did. -/
def fnSortPartsSpec : ChangeSpec := { name := "fnSortParts", fn := fun _ => fun
  | [d] => { results := [.lit (.bool true)], args := [d] }
  | _ => none }
def fnSortPartsRow : OpenClaim := { program := "ytbcphejblopekab", sum := "5c67f779d46c7988fb71dd8136420a121e5fbfe4047e743202f022fc49875a2d", func := "loop.example/slowworm/laws.FnSortParts", spec := "fnSortParts", inPlace := ["slices.overlaps[loop.example/slowworm/impl.Item]"], unfollowed := true, recurses := true, apart := false }
def FnSortPartsSaid : Prop := fnSortPartsRow.holds Try.pinned (OpenSpec.ofChange fnSortPartsSpec)

/-- ITS FALSE NEIGHBOUR: 'it returns false'. Refute it at one input. -/
def fnSortPartsWrong : ChangeSpec := { name := "fnSortParts", fn := fun _ => fun
  | [d] => { results := [.lit (.bool false)], args := [d] }
  | _ => none }
def FnSortPartsWrongFalsely : Prop := fnSortPartsRow.holds Try.pinned (OpenSpec.ofChange fnSortPartsWrong)

/-- 'laws.FnListParts': WHATEVER THE INPUT: true; the input reads as it did. -/
def fnListPartsSpec : ChangeSpec := { name := "fnListParts", fn := fun _ => fun
  | [d] => { results := [.lit (.bool true)], args := [d] }
  | _ => none }
def fnListPartsRow : OpenClaim := { program := "ytbcphejblopekab", sum := "5c67f779d46c7988fb71dd8136420a121e5fbfe4047e743202f022fc49875a2d", func := "loop.example/slowworm/laws.FnListParts", spec := "fnListParts", apart := false }
def FnListPartsSaid : Prop := fnListPartsRow.holds Try.pinned (OpenSpec.ofChange fnListPartsSpec)

/-- ITS FALSE NEIGHBOUR: 'it returns false'. Refute it at one input. -/
def fnListPartsWrong : ChangeSpec := { name := "fnListParts", fn := fun _ => fun
  | [d] => { results := [.lit (.bool false)], args := [d] }
  | _ => none }
def FnListPartsWrongFalsely : Prop := fnListPartsRow.holds Try.pinned (OpenSpec.ofChange fnListPartsWrong)

/-- 'laws.FnListTurned': WHATEVER THE INPUT: true; the input reads as it did. -/
def fnListTurnedSpec : ChangeSpec := { name := "fnListTurned", fn := fun _ => fun
  | [d] => { results := [.lit (.bool true)], args := [d] }
  | _ => none }
def fnListTurnedRow : OpenClaim := { program := "ytbcphejblopekab", sum := "5c67f779d46c7988fb71dd8136420a121e5fbfe4047e743202f022fc49875a2d", func := "loop.example/slowworm/laws.FnListTurned", spec := "fnListTurned", apart := false }
def FnListTurnedSaid : Prop := fnListTurnedRow.holds Try.pinned (OpenSpec.ofChange fnListTurnedSpec)

/-- ITS FALSE NEIGHBOUR: 'it returns false'. Refute it at one input. -/
def fnListTurnedWrong : ChangeSpec := { name := "fnListTurned", fn := fun _ => fun
  | [d] => { results := [.lit (.bool false)], args := [d] }
  | _ => none }
def FnListTurnedWrongFalsely : Prop := fnListTurnedRow.holds Try.pinned (OpenSpec.ofChange fnListTurnedWrong)

/- THE SECOND FORM. 'bulk': how many values and letters a reading holds, each counted each time it is reached (what is shared counts as often as it is met; a slice's spare places count too). A statement '..UptoSaid' is the law's where the arguments, and the package variables that the reading takes, are together of bulk at most 1048576: NARROWER than '..Said'. Prove '..Said' where nothing that the law and all that it calls make is longer than what came in: it says more and counts as full. Else prove '..UptoSaid'. A law counts once. -/
mutual
def uptoBulk {H : Type} : DataW H → Nat
  | .lit (.string bytes) => bytes.length + 1
  | .lit _ => 1
  | .nil => 1
  | .ptr d => uptoBulk d + 1
  | .slice elems spare => uptoBulkAll elems + uptoBulkAll spare + 1
  | .agg parts => uptoBulkAll parts + 1
  | .iface _ d => uptoBulk d + 1
  | .map entries => uptoBulkEntries entries + 1
  | .held _ => 1
def uptoBulkAll {H : Type} : List (DataW H) → Nat
  | [] => 0
  | d :: r => uptoBulk d + uptoBulkAll r
def uptoBulkEntries {H : Type} : List (Lit × DataW H) → Nat
  | [] => 0
  | x :: r => uptoBulkEntry x + uptoBulkEntries r
def uptoBulkEntry {H : Type} : Lit × DataW H → Nat
  | (.string bytes, d) => bytes.length + uptoBulk d + 1
  | (_, d) => uptoBulk d + 1
 end
def uptoSmall : (H : Type) → List (DataW H) → Bool := fun _ ds => decide (uptoBulkAll ds ≤ 1048576)
def OpenSpec.upto (s : _root_.Go.ChangeSpec) : _root_.Go.OpenSpec := { _root_.Go.OpenSpec.ofChange s with cond := some uptoSmall }

/-- 'laws.FnExactRunsOf', WHERE WHAT IT READS IS OF BULK AT MOST 1048576: true; the input reads as it did. -/
def fnExactRunsOfUptoRow : OpenClaim := { program := "ytbcphejblopekab", sum := "5c67f779d46c7988fb71dd8136420a121e5fbfe4047e743202f022fc49875a2d", func := "loop.example/slowworm/laws.FnExactRunsOf", spec := "fnExactRunsOf", inPlace := ["slices.overlaps[loop.example/slowworm/impl.Item]"], unfollowed := true, recurses := true, apart := false, narrowed := true }
def FnExactRunsOfUptoSaid : Prop := fnExactRunsOfUptoRow.holds Try.pinned (OpenSpec.upto fnExactRunsOfSpec)

/-- 'laws.FnExactMergePlan', WHERE WHAT IT READS IS OF BULK AT MOST 1048576: true; the input reads as it did. -/
def fnExactMergePlanUptoRow : OpenClaim := { program := "ytbcphejblopekab", sum := "5c67f779d46c7988fb71dd8136420a121e5fbfe4047e743202f022fc49875a2d", func := "loop.example/slowworm/laws.FnExactMergePlan", spec := "fnExactMergePlan", apart := false, narrowed := true }
def FnExactMergePlanUptoSaid : Prop := fnExactMergePlanUptoRow.holds Try.pinned (OpenSpec.upto fnExactMergePlanSpec)

/-- 'laws.FnExactSortItems', WHERE WHAT IT READS IS OF BULK AT MOST 1048576: true; the input reads as it did. -/
def fnExactSortItemsUptoRow : OpenClaim := { program := "ytbcphejblopekab", sum := "5c67f779d46c7988fb71dd8136420a121e5fbfe4047e743202f022fc49875a2d", func := "loop.example/slowworm/laws.FnExactSortItems", spec := "fnExactSortItems", inPlace := ["slices.overlaps[loop.example/slowworm/impl.Item]"], unfollowed := true, recurses := true, apart := false, narrowed := true }
def FnExactSortItemsUptoSaid : Prop := fnExactSortItemsUptoRow.holds Try.pinned (OpenSpec.upto fnExactSortItemsSpec)

/-- 'laws.FnRunsOf', WHERE WHAT IT READS IS OF BULK AT MOST 1048576: true; the input reads as it did. -/
def fnRunsOfUptoRow : OpenClaim := { program := "ytbcphejblopekab", sum := "5c67f779d46c7988fb71dd8136420a121e5fbfe4047e743202f022fc49875a2d", func := "loop.example/slowworm/laws.FnRunsOf", spec := "fnRunsOf", inPlace := ["slices.overlaps[loop.example/slowworm/impl.Item]"], unfollowed := true, recurses := true, apart := false, narrowed := true }
def FnRunsOfUptoSaid : Prop := fnRunsOfUptoRow.holds Try.pinned (OpenSpec.upto fnRunsOfSpec)

/-- 'laws.FnMergePlan', WHERE WHAT IT READS IS OF BULK AT MOST 1048576: true; the input reads as it did. -/
def fnMergePlanUptoRow : OpenClaim := { program := "ytbcphejblopekab", sum := "5c67f779d46c7988fb71dd8136420a121e5fbfe4047e743202f022fc49875a2d", func := "loop.example/slowworm/laws.FnMergePlan", spec := "fnMergePlan", apart := false, narrowed := true }
def FnMergePlanUptoSaid : Prop := fnMergePlanUptoRow.holds Try.pinned (OpenSpec.upto fnMergePlanSpec)

/-- 'laws.FnSortItems', WHERE WHAT IT READS IS OF BULK AT MOST 1048576: true; the input reads as it did. -/
def fnSortItemsUptoRow : OpenClaim := { program := "ytbcphejblopekab", sum := "5c67f779d46c7988fb71dd8136420a121e5fbfe4047e743202f022fc49875a2d", func := "loop.example/slowworm/laws.FnSortItems", spec := "fnSortItems", inPlace := ["slices.overlaps[loop.example/slowworm/impl.Item]"], unfollowed := true, recurses := true, apart := false, narrowed := true }
def FnSortItemsUptoSaid : Prop := fnSortItemsUptoRow.holds Try.pinned (OpenSpec.upto fnSortItemsSpec)

/-- 'laws.FnSortAny', WHERE WHAT IT READS IS OF BULK AT MOST 1048576: true; the input reads as it did. -/
def fnSortAnyUptoRow : OpenClaim := { program := "ytbcphejblopekab", sum := "5c67f779d46c7988fb71dd8136420a121e5fbfe4047e743202f022fc49875a2d", func := "loop.example/slowworm/laws.FnSortAny", spec := "fnSortAny", inPlace := ["slices.overlaps[loop.example/slowworm/impl.Item]"], unfollowed := true, recurses := true, apart := false, narrowed := true }
def FnSortAnyUptoSaid : Prop := fnSortAnyUptoRow.holds Try.pinned (OpenSpec.upto fnSortAnySpec)

/-- 'laws.FnRunsSorted', WHERE WHAT IT READS IS OF BULK AT MOST 1048576: true; the input reads as it did. -/
def fnRunsSortedUptoRow : OpenClaim := { program := "ytbcphejblopekab", sum := "5c67f779d46c7988fb71dd8136420a121e5fbfe4047e743202f022fc49875a2d", func := "loop.example/slowworm/laws.FnRunsSorted", spec := "fnRunsSorted", inPlace := ["slices.overlaps[loop.example/slowworm/impl.Item]"], unfollowed := true, recurses := true, apart := false, narrowed := true }
def FnRunsSortedUptoSaid : Prop := fnRunsSortedUptoRow.holds Try.pinned (OpenSpec.upto fnRunsSortedSpec)

/-- 'laws.FnSortParts', WHERE WHAT IT READS IS OF BULK AT MOST 1048576: true; the input reads as it did. -/
def fnSortPartsUptoRow : OpenClaim := { program := "ytbcphejblopekab", sum := "5c67f779d46c7988fb71dd8136420a121e5fbfe4047e743202f022fc49875a2d", func := "loop.example/slowworm/laws.FnSortParts", spec := "fnSortParts", inPlace := ["slices.overlaps[loop.example/slowworm/impl.Item]"], unfollowed := true, recurses := true, apart := false, narrowed := true }
def FnSortPartsUptoSaid : Prop := fnSortPartsUptoRow.holds Try.pinned (OpenSpec.upto fnSortPartsSpec)

/-- 'laws.FnListParts', WHERE WHAT IT READS IS OF BULK AT MOST 1048576: true; the input reads as it did. -/
def fnListPartsUptoRow : OpenClaim := { program := "ytbcphejblopekab", sum := "5c67f779d46c7988fb71dd8136420a121e5fbfe4047e743202f022fc49875a2d", func := "loop.example/slowworm/laws.FnListParts", spec := "fnListParts", apart := false, narrowed := true }
def FnListPartsUptoSaid : Prop := fnListPartsUptoRow.holds Try.pinned (OpenSpec.upto fnListPartsSpec)

/-- 'laws.FnListTurned', WHERE WHAT IT READS IS OF BULK AT MOST 1048576: true; the input reads as it did. -/
def fnListTurnedUptoRow : OpenClaim := { program := "ytbcphejblopekab", sum := "5c67f779d46c7988fb71dd8136420a121e5fbfe4047e743202f022fc49875a2d", func := "loop.example/slowworm/laws.FnListTurned", spec := "fnListTurned", apart := false, narrowed := true }
def FnListTurnedUptoSaid : Prop := fnListTurnedUptoRow.holds Try.pinned (OpenSpec.upto fnListTurnedSpec)

end Rows
end Go.Proofs.Ytbcphejblopekab
