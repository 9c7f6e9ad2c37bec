/-
  No cell of these rows narrows 'for every input' (looked for: loops, veiled, ifaces, maps, wideKeys, modest, calm, conditions, laid).
  DERIVED. THE GIVEN ROWS OF THIS SEAT. 12 by the template 'for every input the law returns true; each argument reads behind the call as it read before'; 0 by the template 'total and deterministic' (their statements: YtbcphejblopekaaTotals.lean).
  GIVEN WITH THE SEED: the statements are not yours to turn. If you find one false, say at which input.
  Laid BY PROGRAM, IN A SANDBOX (cutbox-rows.mjs): the forced cells as the released guide's own fill.sh prints them over the translation a4dbce8791e95e11… (all of the seat's roots in one cut). By AI agents, Wed Nov 11 2026. No macro, syntax, notation, axiom, sorry.
-/
import Derived.Test.YtbcphejblopekaaChecked
import GoSem.Claim
import GoSem.ClaimJoined
import GoSem.ClaimMapViews
import Derived.JoinedTies
import Derived.KernelRfl
namespace Go.Proofs.Ytbcphejblopekaa
/- THE CELL 'sum', in the pinned program and in every row, IS THE sha256 OF THE DUMP (.gsa) THAT YtbcphejblopekaaProg.lean LOADS. Nothing in Lean hashes anything: it is a label: what it is worth is what the hold of that sum in a sandbox is worth. -/
noncomputable def Try.pinned : Pinned := { name := "ytbcphejblopekaa", sum := "a4dbce8791e95e116eddffe3e8ef1c4ec643e3a5fb7561db6306e3d675397b86", checked := Try.checked }
namespace Rows
def none {H : Type} : Left H := { results := [], args := [] }

/-- 'laws.FnExactListRoom': WHATEVER THE INPUT: true; the input reads as it did. -/
def fnExactListRoomSpec : ChangeSpec := { name := "fnExactListRoom", fn := fun _ => fun
  | [d] => { results := [.lit (.bool true)], args := [d] }
  | _ => none }
def fnExactListRoomRow : OpenClaim := { program := "ytbcphejblopekaa", sum := "a4dbce8791e95e116eddffe3e8ef1c4ec643e3a5fb7561db6306e3d675397b86", func := "loop.example/slowworm/laws.FnExactListRoom", spec := "fnExactListRoom", apart := false }
def FnExactListRoomSaid : Prop := fnExactListRoomRow.holds Try.pinned (OpenSpec.ofChange fnExactListRoomSpec)

/-- ITS FALSE NEIGHBOUR: 'it returns false'. Refute it at one input. -/
def fnExactListRoomWrong : ChangeSpec := { name := "fnExactListRoom", fn := fun _ => fun
  | [d] => { results := [.lit (.bool false)], args := [d] }
  | _ => none }
def FnExactListRoomWrongFalsely : Prop := fnExactListRoomRow.holds Try.pinned (OpenSpec.ofChange fnExactListRoomWrong)

/-- 'laws.FnExactRoomsOf': WHATEVER THE INPUT: true; the input reads as it did. -/
def fnExactRoomsOfSpec : ChangeSpec := { name := "fnExactRoomsOf", fn := fun _ => fun
  | [d] => { results := [.lit (.bool true)], args := [d] }
  | _ => none }
def fnExactRoomsOfRow : OpenClaim := { program := "ytbcphejblopekaa", sum := "a4dbce8791e95e116eddffe3e8ef1c4ec643e3a5fb7561db6306e3d675397b86", func := "loop.example/slowworm/laws.FnExactRoomsOf", spec := "fnExactRoomsOf", apart := false }
def FnExactRoomsOfSaid : Prop := fnExactRoomsOfRow.holds Try.pinned (OpenSpec.ofChange fnExactRoomsOfSpec)

/-- ITS FALSE NEIGHBOUR: 'it returns false'. Refute it at one input. -/
def fnExactRoomsOfWrong : ChangeSpec := { name := "fnExactRoomsOf", fn := fun _ => fun
  | [d] => { results := [.lit (.bool false)], args := [d] }
  | _ => none }
def FnExactRoomsOfWrongFalsely : Prop := fnExactRoomsOfRow.holds Try.pinned (OpenSpec.ofChange fnExactRoomsOfWrong)

/-- 'laws.FnExactListCut': WHATEVER THE INPUT: true; the input reads as it did. -/
def fnExactListCutSpec : ChangeSpec := { name := "fnExactListCut", fn := fun _ => fun
  | [d1, d2] => { results := [.lit (.bool true)], args := [d1, d2] }
  | _ => none }
def fnExactListCutRow : OpenClaim := { program := "ytbcphejblopekaa", sum := "a4dbce8791e95e116eddffe3e8ef1c4ec643e3a5fb7561db6306e3d675397b86", func := "loop.example/slowworm/laws.FnExactListCut", spec := "fnExactListCut", apart := false }
def FnExactListCutSaid : Prop := fnExactListCutRow.holds Try.pinned (OpenSpec.ofChange fnExactListCutSpec)

/-- ITS FALSE NEIGHBOUR: 'it returns false'. Refute it at one input. -/
def fnExactListCutWrong : ChangeSpec := { name := "fnExactListCut", fn := fun _ => fun
  | [d1, d2] => { results := [.lit (.bool false)], args := [d1, d2] }
  | _ => none }
def FnExactListCutWrongFalsely : Prop := fnExactListCutRow.holds Try.pinned (OpenSpec.ofChange fnExactListCutWrong)

/-- 'laws.FnExactListDropCut': WHATEVER THE INPUT: true; the input reads as it did. -/
def fnExactListDropCutSpec : ChangeSpec := { name := "fnExactListDropCut", fn := fun _ => fun
  | [d1, d2] => { results := [.lit (.bool true)], args := [d1, d2] }
  | _ => none }
def fnExactListDropCutRow : OpenClaim := { program := "ytbcphejblopekaa", sum := "a4dbce8791e95e116eddffe3e8ef1c4ec643e3a5fb7561db6306e3d675397b86", func := "loop.example/slowworm/laws.FnExactListDropCut", spec := "fnExactListDropCut", apart := false }
def FnExactListDropCutSaid : Prop := fnExactListDropCutRow.holds Try.pinned (OpenSpec.ofChange fnExactListDropCutSpec)

/-- ITS FALSE NEIGHBOUR: 'it returns false'. Refute it at one input. -/
def fnExactListDropCutWrong : ChangeSpec := { name := "fnExactListDropCut", fn := fun _ => fun
  | [d1, d2] => { results := [.lit (.bool false)], args := [d1, d2] }
  | _ => none }
def FnExactListDropCutWrongFalsely : Prop := fnExactListDropCutRow.holds Try.pinned (OpenSpec.ofChange fnExactListDropCutWrong)

/-- 'laws.FnExactListPutCut': WHATEVER THE INPUT: true; the input reads as it did. -/
def fnExactListPutCutSpec : ChangeSpec := { name := "fnExactListPutCut", fn := fun _ => fun
  | [d1, d2, d3] => { results := [.lit (.bool true)], args := [d1, d2, d3] }
  | _ => none }
def fnExactListPutCutRow : OpenClaim := { program := "ytbcphejblopekaa", sum := "a4dbce8791e95e116eddffe3e8ef1c4ec643e3a5fb7561db6306e3d675397b86", func := "loop.example/slowworm/laws.FnExactListPutCut", spec := "fnExactListPutCut", apart := false }
def FnExactListPutCutSaid : Prop := fnExactListPutCutRow.holds Try.pinned (OpenSpec.ofChange fnExactListPutCutSpec)

/-- ITS FALSE NEIGHBOUR: 'it returns false'. Refute it at one input. -/
def fnExactListPutCutWrong : ChangeSpec := { name := "fnExactListPutCut", fn := fun _ => fun
  | [d1, d2, d3] => { results := [.lit (.bool false)], args := [d1, d2, d3] }
  | _ => none }
def FnExactListPutCutWrongFalsely : Prop := fnExactListPutCutRow.holds Try.pinned (OpenSpec.ofChange fnExactListPutCutWrong)

/-- 'laws.FnExactRunLeast': WHATEVER THE INPUT: true; the input reads as it did. -/
def fnExactRunLeastSpec : ChangeSpec := { name := "fnExactRunLeast", fn := fun _ => fun
  | [d] => { results := [.lit (.bool true)], args := [d] }
  | _ => none }
def fnExactRunLeastRow : OpenClaim := { program := "ytbcphejblopekaa", sum := "a4dbce8791e95e116eddffe3e8ef1c4ec643e3a5fb7561db6306e3d675397b86", func := "loop.example/slowworm/laws.FnExactRunLeast", spec := "fnExactRunLeast", apart := false }
def FnExactRunLeastSaid : Prop := fnExactRunLeastRow.holds Try.pinned (OpenSpec.ofChange fnExactRunLeastSpec)

/-- ITS FALSE NEIGHBOUR: 'it returns false'. Refute it at one input. -/
def fnExactRunLeastWrong : ChangeSpec := { name := "fnExactRunLeast", fn := fun _ => fun
  | [d] => { results := [.lit (.bool false)], args := [d] }
  | _ => none }
def FnExactRunLeastWrongFalsely : Prop := fnExactRunLeastRow.holds Try.pinned (OpenSpec.ofChange fnExactRunLeastWrong)

/-- 'laws.FnListRoom': WHATEVER THE INPUT: true; the input reads as it did. -/
def fnListRoomSpec : ChangeSpec := { name := "fnListRoom", fn := fun _ => fun
  | [d] => { results := [.lit (.bool true)], args := [d] }
  | _ => none }
def fnListRoomRow : OpenClaim := { program := "ytbcphejblopekaa", sum := "a4dbce8791e95e116eddffe3e8ef1c4ec643e3a5fb7561db6306e3d675397b86", func := "loop.example/slowworm/laws.FnListRoom", spec := "fnListRoom", apart := false }
def FnListRoomSaid : Prop := fnListRoomRow.holds Try.pinned (OpenSpec.ofChange fnListRoomSpec)

/-- ITS FALSE NEIGHBOUR: 'it returns false'. Refute it at one input. -/
def fnListRoomWrong : ChangeSpec := { name := "fnListRoom", fn := fun _ => fun
  | [d] => { results := [.lit (.bool false)], args := [d] }
  | _ => none }
def FnListRoomWrongFalsely : Prop := fnListRoomRow.holds Try.pinned (OpenSpec.ofChange fnListRoomWrong)

/-- 'laws.FnRunLeast': WHATEVER THE INPUT: true; the input reads as it did. -/
def fnRunLeastSpec : ChangeSpec := { name := "fnRunLeast", fn := fun _ => fun
  | [d] => { results := [.lit (.bool true)], args := [d] }
  | _ => none }
def fnRunLeastRow : OpenClaim := { program := "ytbcphejblopekaa", sum := "a4dbce8791e95e116eddffe3e8ef1c4ec643e3a5fb7561db6306e3d675397b86", func := "loop.example/slowworm/laws.FnRunLeast", spec := "fnRunLeast", apart := false }
def FnRunLeastSaid : Prop := fnRunLeastRow.holds Try.pinned (OpenSpec.ofChange fnRunLeastSpec)

/-- ITS FALSE NEIGHBOUR: 'it returns false'. Refute it at one input. -/
def fnRunLeastWrong : ChangeSpec := { name := "fnRunLeast", fn := fun _ => fun
  | [d] => { results := [.lit (.bool false)], args := [d] }
  | _ => none }
def FnRunLeastWrongFalsely : Prop := fnRunLeastRow.holds Try.pinned (OpenSpec.ofChange fnRunLeastWrong)

/-- 'laws.FnRoomsOf': WHATEVER THE INPUT: true; the input reads as it did. -/
def fnRoomsOfSpec : ChangeSpec := { name := "fnRoomsOf", fn := fun _ => fun
  | [d] => { results := [.lit (.bool true)], args := [d] }
  | _ => none }
def fnRoomsOfRow : OpenClaim := { program := "ytbcphejblopekaa", sum := "a4dbce8791e95e116eddffe3e8ef1c4ec643e3a5fb7561db6306e3d675397b86", func := "loop.example/slowworm/laws.FnRoomsOf", spec := "fnRoomsOf", apart := false }
def FnRoomsOfSaid : Prop := fnRoomsOfRow.holds Try.pinned (OpenSpec.ofChange fnRoomsOfSpec)

/-- ITS FALSE NEIGHBOUR: 'it returns false'. Refute it at one input. -/
def fnRoomsOfWrong : ChangeSpec := { name := "fnRoomsOf", fn := fun _ => fun
  | [d] => { results := [.lit (.bool false)], args := [d] }
  | _ => none }
def FnRoomsOfWrongFalsely : Prop := fnRoomsOfRow.holds Try.pinned (OpenSpec.ofChange fnRoomsOfWrong)

/-- 'laws.FnListCut': WHATEVER THE INPUT: true; the input reads as it did. -/
def fnListCutSpec : ChangeSpec := { name := "fnListCut", fn := fun _ => fun
  | [d] => { results := [.lit (.bool true)], args := [d] }
  | _ => none }
def fnListCutRow : OpenClaim := { program := "ytbcphejblopekaa", sum := "a4dbce8791e95e116eddffe3e8ef1c4ec643e3a5fb7561db6306e3d675397b86", func := "loop.example/slowworm/laws.FnListCut", spec := "fnListCut", apart := false }
def FnListCutSaid : Prop := fnListCutRow.holds Try.pinned (OpenSpec.ofChange fnListCutSpec)

/-- ITS FALSE NEIGHBOUR: 'it returns false'. Refute it at one input. -/
def fnListCutWrong : ChangeSpec := { name := "fnListCut", fn := fun _ => fun
  | [d] => { results := [.lit (.bool false)], args := [d] }
  | _ => none }
def FnListCutWrongFalsely : Prop := fnListCutRow.holds Try.pinned (OpenSpec.ofChange fnListCutWrong)

/-- 'laws.FnListDropCut': WHATEVER THE INPUT: true; the input reads as it did. -/
def fnListDropCutSpec : ChangeSpec := { name := "fnListDropCut", fn := fun _ => fun
  | [d] => { results := [.lit (.bool true)], args := [d] }
  | _ => none }
def fnListDropCutRow : OpenClaim := { program := "ytbcphejblopekaa", sum := "a4dbce8791e95e116eddffe3e8ef1c4ec643e3a5fb7561db6306e3d675397b86", func := "loop.example/slowworm/laws.FnListDropCut", spec := "fnListDropCut", apart := false }
def FnListDropCutSaid : Prop := fnListDropCutRow.holds Try.pinned (OpenSpec.ofChange fnListDropCutSpec)

/-- ITS FALSE NEIGHBOUR: 'it returns false'. Refute it at one input. -/
def fnListDropCutWrong : ChangeSpec := { name := "fnListDropCut", fn := fun _ => fun
  | [d] => { results := [.lit (.bool false)], args := [d] }
  | _ => none }
def FnListDropCutWrongFalsely : Prop := fnListDropCutRow.holds Try.pinned (OpenSpec.ofChange fnListDropCutWrong)

/-- 'laws.FnListPutCut': WHATEVER THE INPUT: true; the input reads as it did. -/
def fnListPutCutSpec : ChangeSpec := { name := "fnListPutCut", fn := fun _ => fun
  | [d] => { results := [.lit (.bool true)], args := [d] }
  | _ => none }
def fnListPutCutRow : OpenClaim := { program := "ytbcphejblopekaa", sum := "a4dbce8791e95e116eddffe3e8ef1c4ec643e3a5fb7561db6306e3d675397b86", func := "loop.example/slowworm/laws.FnListPutCut", spec := "fnListPutCut", apart := false }
def FnListPutCutSaid : Prop := fnListPutCutRow.holds Try.pinned (OpenSpec.ofChange fnListPutCutSpec)

/-- ITS FALSE NEIGHBOUR: 'it returns false'. Refute it at one input. -/
def fnListPutCutWrong : ChangeSpec := { name := "fnListPutCut", fn := fun _ => fun
  | [d] => { results := [.lit (.bool false)], args := [d] }
  | _ => none }
def FnListPutCutWrongFalsely : Prop := fnListPutCutRow.holds Try.pinned (OpenSpec.ofChange fnListPutCutWrong)

/- THE SECOND FORM. 'bulk': how many values and letters a reading holds, each counted each time it is reached (what is shared counts as often as it is met; a slice's spare places count too). A statement '..UptoSaid' is the law's where the arguments, and the package variables that the reading takes, are together of bulk at most 1048576: NARROWER than '..Said'. Prove '..Said' where nothing that the law and all that it calls make is longer than what came in: it says more and counts as full. Else prove '..UptoSaid'. A law counts once. -/
mutual
def uptoBulk {H : Type} : DataW H → Nat
  | .lit (.string bytes) => bytes.length + 1
  | .lit _ => 1
  | .nil => 1
  | .ptr d => uptoBulk d + 1
  | .slice elems spare => uptoBulkAll elems + uptoBulkAll spare + 1
  | .agg parts => uptoBulkAll parts + 1
  | .iface _ d => uptoBulk d + 1
  | .map entries => uptoBulkEntries entries + 1
  | .held _ => 1
def uptoBulkAll {H : Type} : List (DataW H) → Nat
  | [] => 0
  | d :: r => uptoBulk d + uptoBulkAll r
def uptoBulkEntries {H : Type} : List (Lit × DataW H) → Nat
  | [] => 0
  | x :: r => uptoBulkEntry x + uptoBulkEntries r
def uptoBulkEntry {H : Type} : Lit × DataW H → Nat
  | (.string bytes, d) => bytes.length + uptoBulk d + 1
  | (_, d) => uptoBulk d + 1
 end
def uptoSmall : (H : Type) → List (DataW H) → Bool := fun _ ds => decide (uptoBulkAll ds ≤ 1048576)
def OpenSpec.upto (s : _root_.Go.ChangeSpec) : _root_.Go.OpenSpec := { _root_.Go.OpenSpec.ofChange s with cond := some uptoSmall }

/-- 'laws.FnExactListRoom', WHERE WHAT IT READS IS OF BULK AT MOST 1048576: true; the input reads as it did. -/
def fnExactListRoomUptoRow : OpenClaim := { program := "ytbcphejblopekaa", sum := "a4dbce8791e95e116eddffe3e8ef1c4ec643e3a5fb7561db6306e3d675397b86", func := "loop.example/slowworm/laws.FnExactListRoom", spec := "fnExactListRoom", apart := false, narrowed := true }
def FnExactListRoomUptoSaid : Prop := fnExactListRoomUptoRow.holds Try.pinned (OpenSpec.upto fnExactListRoomSpec)

/-- 'laws.FnExactRoomsOf', WHERE WHAT IT READS IS OF BULK AT MOST 1048576: true; the input reads as it did. -/
def fnExactRoomsOfUptoRow : OpenClaim := { program := "ytbcphejblopekaa", sum := "a4dbce8791e95e116eddffe3e8ef1c4ec643e3a5fb7561db6306e3d675397b86", func := "loop.example/slowworm/laws.FnExactRoomsOf", spec := "fnExactRoomsOf", apart := false, narrowed := true }
def FnExactRoomsOfUptoSaid : Prop := fnExactRoomsOfUptoRow.holds Try.pinned (OpenSpec.upto fnExactRoomsOfSpec)

/-- 'laws.FnExactListCut', WHERE WHAT IT READS IS OF BULK AT MOST 1048576: true; the input reads as it did. -/
def fnExactListCutUptoRow : OpenClaim := { program := "ytbcphejblopekaa", sum := "a4dbce8791e95e116eddffe3e8ef1c4ec643e3a5fb7561db6306e3d675397b86", func := "loop.example/slowworm/laws.FnExactListCut", spec := "fnExactListCut", apart := false, narrowed := true }
def FnExactListCutUptoSaid : Prop := fnExactListCutUptoRow.holds Try.pinned (OpenSpec.upto fnExactListCutSpec)

/-- 'laws.FnExactListDropCut', WHERE WHAT IT READS IS OF BULK AT MOST 1048576: true; the input reads as it did. -/
def fnExactListDropCutUptoRow : OpenClaim := { program := "ytbcphejblopekaa", sum := "a4dbce8791e95e116eddffe3e8ef1c4ec643e3a5fb7561db6306e3d675397b86", func := "loop.example/slowworm/laws.FnExactListDropCut", spec := "fnExactListDropCut", apart := false, narrowed := true }
def FnExactListDropCutUptoSaid : Prop := fnExactListDropCutUptoRow.holds Try.pinned (OpenSpec.upto fnExactListDropCutSpec)

/-- 'laws.FnExactListPutCut', WHERE WHAT IT READS IS OF BULK AT MOST 1048576: true; the input reads as it did. -/
def fnExactListPutCutUptoRow : OpenClaim := { program := "ytbcphejblopekaa", sum := "a4dbce8791e95e116eddffe3e8ef1c4ec643e3a5fb7561db6306e3d675397b86", func := "loop.example/slowworm/laws.FnExactListPutCut", spec := "fnExactListPutCut", apart := false, narrowed := true }
def FnExactListPutCutUptoSaid : Prop := fnExactListPutCutUptoRow.holds Try.pinned (OpenSpec.upto fnExactListPutCutSpec)

/-- 'laws.FnExactRunLeast', WHERE WHAT IT READS IS OF BULK AT MOST 1048576: true; the input reads as it did. -/
def fnExactRunLeastUptoRow : OpenClaim := { program := "ytbcphejblopekaa", sum := "a4dbce8791e95e116eddffe3e8ef1c4ec643e3a5fb7561db6306e3d675397b86", func := "loop.example/slowworm/laws.FnExactRunLeast", spec := "fnExactRunLeast", apart := false, narrowed := true }
def FnExactRunLeastUptoSaid : Prop := fnExactRunLeastUptoRow.holds Try.pinned (OpenSpec.upto fnExactRunLeastSpec)

/-- 'laws.FnListRoom', WHERE WHAT IT READS IS OF BULK AT MOST 1048576: true; the input reads as it did. -/
def fnListRoomUptoRow : OpenClaim := { program := "ytbcphejblopekaa", sum := "a4dbce8791e95e116eddffe3e8ef1c4ec643e3a5fb7561db6306e3d675397b86", func := "loop.example/slowworm/laws.FnListRoom", spec := "fnListRoom", apart := false, narrowed := true }
def FnListRoomUptoSaid : Prop := fnListRoomUptoRow.holds Try.pinned (OpenSpec.upto fnListRoomSpec)

/-- 'laws.FnRunLeast', WHERE WHAT IT READS IS OF BULK AT MOST 1048576: true; the input reads as it did. -/
def fnRunLeastUptoRow : OpenClaim := { program := "ytbcphejblopekaa", sum := "a4dbce8791e95e116eddffe3e8ef1c4ec643e3a5fb7561db6306e3d675397b86", func := "loop.example/slowworm/laws.FnRunLeast", spec := "fnRunLeast", apart := false, narrowed := true }
def FnRunLeastUptoSaid : Prop := fnRunLeastUptoRow.holds Try.pinned (OpenSpec.upto fnRunLeastSpec)

/-- 'laws.FnRoomsOf', WHERE WHAT IT READS IS OF BULK AT MOST 1048576: true; the input reads as it did. -/
def fnRoomsOfUptoRow : OpenClaim := { program := "ytbcphejblopekaa", sum := "a4dbce8791e95e116eddffe3e8ef1c4ec643e3a5fb7561db6306e3d675397b86", func := "loop.example/slowworm/laws.FnRoomsOf", spec := "fnRoomsOf", apart := false, narrowed := true }
def FnRoomsOfUptoSaid : Prop := fnRoomsOfUptoRow.holds Try.pinned (OpenSpec.upto fnRoomsOfSpec)

/-- 'laws.FnListCut', WHERE WHAT IT READS IS OF BULK AT MOST 1048576: true; the input reads as it did. -/
def fnListCutUptoRow : OpenClaim := { program := "ytbcphejblopekaa", sum := "a4dbce8791e95e116eddffe3e8ef1c4ec643e3a5fb7561db6306e3d675397b86", func := "loop.example/slowworm/laws.FnListCut", spec := "fnListCut", apart := false, narrowed := true }
def FnListCutUptoSaid : Prop := fnListCutUptoRow.holds Try.pinned (OpenSpec.upto fnListCutSpec)

/-- 'laws.FnListDropCut', WHERE WHAT IT READS IS OF BULK AT MOST 1048576: true; the input reads as it did. -/
def fnListDropCutUptoRow : OpenClaim := { program := "ytbcphejblopekaa", sum := "a4dbce8791e95e116eddffe3e8ef1c4ec643e3a5fb7561db6306e3d675397b86", func := "loop.example/slowworm/laws.FnListDropCut", spec := "fnListDropCut", apart := false, narrowed := true }
def FnListDropCutUptoSaid : Prop := fnListDropCutUptoRow.holds Try.pinned (OpenSpec.upto fnListDropCutSpec)

/-- 'laws.FnListPutCut', WHERE WHAT IT READS IS OF BULK AT MOST 1048576: true; the input reads as it did. -/
def fnListPutCutUptoRow : OpenClaim := { program := "ytbcphejblopekaa", sum := "a4dbce8791e95e116eddffe3e8ef1c4ec643e3a5fb7561db6306e3d675397b86", func := "loop.example/slowworm/laws.FnListPutCut", spec := "fnListPutCut", apart := false, narrowed := true }
def FnListPutCutUptoSaid : Prop := fnListPutCutUptoRow.holds Try.pinned (OpenSpec.upto fnListPutCutSpec)

end Rows
end Go.Proofs.Ytbcphejblopekaa
