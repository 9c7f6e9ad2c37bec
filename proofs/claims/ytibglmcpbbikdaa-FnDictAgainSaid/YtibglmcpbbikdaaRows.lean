/-
  No cell of these rows narrows 'for every input' (looked for: loops, veiled, ifaces, maps, wideKeys, modest, calm, conditions, laid).
  DERIVED. THE GIVEN ROWS OF THIS SEAT. 13 by the template 'for every input the law returns true; each argument reads behind the call as it read before'; 0 by the template 'total and deterministic' (their statements: YtibglmcpbbikdaaTotals.lean).
  GIVEN WITH THE SEED: the statements are not yours to turn. If you find one false, say at which input.
  Laid BY PROGRAM, IN A SANDBOX (cutbox-rows.mjs): the forced cells as the released guide's own fill.sh prints them over the translation 7b97aa3fc6ec6f6a… (all of the seat's roots in one cut). By AI agents, Wed Nov 11 2026. No macro, syntax, notation, axiom, sorry.
-/
import Derived.Test.YtibglmcpbbikdaaChecked
import GoSem.Claim
import GoSem.ClaimJoined
import GoSem.ClaimMapViews
import Derived.JoinedTies
import Derived.KernelRfl
namespace Go.Proofs.Ytibglmcpbbikdaa
/- THE CELL 'sum', in the pinned program and in every row, IS THE sha256 OF THE DUMP (.gsa) THAT YtibglmcpbbikdaaProg.lean LOADS. Nothing in Lean hashes anything: it is a label: what it is worth is what the hold of that sum in a sandbox is worth. -/
noncomputable def Try.pinned : Pinned := { name := "ytibglmcpbbikdaa", sum := "7b97aa3fc6ec6f6a4ccc80abe61b8bab31868ff47c3093c23db07b953013a8d6", checked := Try.checked }
namespace Rows
def none {H : Type} : Left H := { results := [], args := [] }

/-- 'laws.FnDictOk': WHATEVER THE INPUT: true; the input reads as it did. -/
def fnDictOkSpec : ChangeSpec := { name := "fnDictOk", fn := fun _ => fun
  | [d] => { results := [.lit (.bool true)], args := [d] }
  | _ => none }
def fnDictOkRow : OpenClaim := { program := "ytibglmcpbbikdaa", sum := "7b97aa3fc6ec6f6a4ccc80abe61b8bab31868ff47c3093c23db07b953013a8d6", func := "loop.example/slowworm/laws.FnDictOk", spec := "fnDictOk", unfollowed := true, recurses := true, apart := false }
def FnDictOkSaid : Prop := fnDictOkRow.holds Try.pinned (OpenSpec.ofChange fnDictOkSpec)

/-- ITS FALSE NEIGHBOUR: 'it returns false'. Refute it at one input. -/
def fnDictOkWrong : ChangeSpec := { name := "fnDictOk", fn := fun _ => fun
  | [d] => { results := [.lit (.bool false)], args := [d] }
  | _ => none }
def FnDictOkWrongFalsely : Prop := fnDictOkRow.holds Try.pinned (OpenSpec.ofChange fnDictOkWrong)

/-- 'laws.FnDictProbes': WHATEVER THE INPUT: true; the input reads as it did. -/
def fnDictProbesSpec : ChangeSpec := { name := "fnDictProbes", fn := fun _ => fun
  | [d] => { results := [.lit (.bool true)], args := [d] }
  | _ => none }
def fnDictProbesRow : OpenClaim := { program := "ytibglmcpbbikdaa", sum := "7b97aa3fc6ec6f6a4ccc80abe61b8bab31868ff47c3093c23db07b953013a8d6", func := "loop.example/slowworm/laws.FnDictProbes", spec := "fnDictProbes", unfollowed := true, recurses := true, apart := false }
def FnDictProbesSaid : Prop := fnDictProbesRow.holds Try.pinned (OpenSpec.ofChange fnDictProbesSpec)

/-- ITS FALSE NEIGHBOUR: 'it returns false'. Refute it at one input. -/
def fnDictProbesWrong : ChangeSpec := { name := "fnDictProbes", fn := fun _ => fun
  | [d] => { results := [.lit (.bool false)], args := [d] }
  | _ => none }
def FnDictProbesWrongFalsely : Prop := fnDictProbesRow.holds Try.pinned (OpenSpec.ofChange fnDictProbesWrong)

/-- 'laws.FnDictGet': WHATEVER THE INPUT: true; the input reads as it did. -/
def fnDictGetSpec : ChangeSpec := { name := "fnDictGet", fn := fun _ => fun
  | [d] => { results := [.lit (.bool true)], args := [d] }
  | _ => none }
def fnDictGetRow : OpenClaim := { program := "ytibglmcpbbikdaa", sum := "7b97aa3fc6ec6f6a4ccc80abe61b8bab31868ff47c3093c23db07b953013a8d6", func := "loop.example/slowworm/laws.FnDictGet", spec := "fnDictGet", unfollowed := true, recurses := true, apart := false }
def FnDictGetSaid : Prop := fnDictGetRow.holds Try.pinned (OpenSpec.ofChange fnDictGetSpec)

/-- ITS FALSE NEIGHBOUR: 'it returns false'. Refute it at one input. -/
def fnDictGetWrong : ChangeSpec := { name := "fnDictGet", fn := fun _ => fun
  | [d] => { results := [.lit (.bool false)], args := [d] }
  | _ => none }
def FnDictGetWrongFalsely : Prop := fnDictGetRow.holds Try.pinned (OpenSpec.ofChange fnDictGetWrong)

/-- 'laws.FnDictPack': WHATEVER THE INPUT: true; the input reads as it did. -/
def fnDictPackSpec : ChangeSpec := { name := "fnDictPack", fn := fun _ => fun
  | [d] => { results := [.lit (.bool true)], args := [d] }
  | _ => none }
def fnDictPackRow : OpenClaim := { program := "ytibglmcpbbikdaa", sum := "7b97aa3fc6ec6f6a4ccc80abe61b8bab31868ff47c3093c23db07b953013a8d6", func := "loop.example/slowworm/laws.FnDictPack", spec := "fnDictPack", unfollowed := true, recurses := true, apart := false }
def FnDictPackSaid : Prop := fnDictPackRow.holds Try.pinned (OpenSpec.ofChange fnDictPackSpec)

/-- ITS FALSE NEIGHBOUR: 'it returns false'. Refute it at one input. -/
def fnDictPackWrong : ChangeSpec := { name := "fnDictPack", fn := fun _ => fun
  | [d] => { results := [.lit (.bool false)], args := [d] }
  | _ => none }
def FnDictPackWrongFalsely : Prop := fnDictPackRow.holds Try.pinned (OpenSpec.ofChange fnDictPackWrong)

/-- 'laws.FnDictSet': WHATEVER THE INPUT: true; the input reads as it did. -/
def fnDictSetSpec : ChangeSpec := { name := "fnDictSet", fn := fun _ => fun
  | [d] => { results := [.lit (.bool true)], args := [d] }
  | _ => none }
def fnDictSetRow : OpenClaim := { program := "ytibglmcpbbikdaa", sum := "7b97aa3fc6ec6f6a4ccc80abe61b8bab31868ff47c3093c23db07b953013a8d6", func := "loop.example/slowworm/laws.FnDictSet", spec := "fnDictSet", unfollowed := true, recurses := true, apart := false }
def FnDictSetSaid : Prop := fnDictSetRow.holds Try.pinned (OpenSpec.ofChange fnDictSetSpec)

/-- ITS FALSE NEIGHBOUR: 'it returns false'. Refute it at one input. -/
def fnDictSetWrong : ChangeSpec := { name := "fnDictSet", fn := fun _ => fun
  | [d] => { results := [.lit (.bool false)], args := [d] }
  | _ => none }
def FnDictSetWrongFalsely : Prop := fnDictSetRow.holds Try.pinned (OpenSpec.ofChange fnDictSetWrong)

/-- 'laws.FnDictDrop': WHATEVER THE INPUT: true; the input reads as it did. -/
def fnDictDropSpec : ChangeSpec := { name := "fnDictDrop", fn := fun _ => fun
  | [d] => { results := [.lit (.bool true)], args := [d] }
  | _ => none }
def fnDictDropRow : OpenClaim := { program := "ytibglmcpbbikdaa", sum := "7b97aa3fc6ec6f6a4ccc80abe61b8bab31868ff47c3093c23db07b953013a8d6", func := "loop.example/slowworm/laws.FnDictDrop", spec := "fnDictDrop", unfollowed := true, recurses := true, apart := false }
def FnDictDropSaid : Prop := fnDictDropRow.holds Try.pinned (OpenSpec.ofChange fnDictDropSpec)

/-- ITS FALSE NEIGHBOUR: 'it returns false'. Refute it at one input. -/
def fnDictDropWrong : ChangeSpec := { name := "fnDictDrop", fn := fun _ => fun
  | [d] => { results := [.lit (.bool false)], args := [d] }
  | _ => none }
def FnDictDropWrongFalsely : Prop := fnDictDropRow.holds Try.pinned (OpenSpec.ofChange fnDictDropWrong)

/-- 'laws.FnDictKeys': WHATEVER THE INPUT: true; the input reads as it did. -/
def fnDictKeysSpec : ChangeSpec := { name := "fnDictKeys", fn := fun _ => fun
  | [d] => { results := [.lit (.bool true)], args := [d] }
  | _ => none }
def fnDictKeysRow : OpenClaim := { program := "ytibglmcpbbikdaa", sum := "7b97aa3fc6ec6f6a4ccc80abe61b8bab31868ff47c3093c23db07b953013a8d6", func := "loop.example/slowworm/laws.FnDictKeys", spec := "fnDictKeys", unfollowed := true, recurses := true, apart := false }
def FnDictKeysSaid : Prop := fnDictKeysRow.holds Try.pinned (OpenSpec.ofChange fnDictKeysSpec)

/-- ITS FALSE NEIGHBOUR: 'it returns false'. Refute it at one input. -/
def fnDictKeysWrong : ChangeSpec := { name := "fnDictKeys", fn := fun _ => fun
  | [d] => { results := [.lit (.bool false)], args := [d] }
  | _ => none }
def FnDictKeysWrongFalsely : Prop := fnDictKeysRow.holds Try.pinned (OpenSpec.ofChange fnDictKeysWrong)

/-- 'laws.FnDictSame': WHATEVER THE INPUT: true; the input reads as it did. -/
def fnDictSameSpec : ChangeSpec := { name := "fnDictSame", fn := fun _ => fun
  | [d] => { results := [.lit (.bool true)], args := [d] }
  | _ => none }
def fnDictSameRow : OpenClaim := { program := "ytibglmcpbbikdaa", sum := "7b97aa3fc6ec6f6a4ccc80abe61b8bab31868ff47c3093c23db07b953013a8d6", func := "loop.example/slowworm/laws.FnDictSame", spec := "fnDictSame", unfollowed := true, recurses := true, apart := false }
def FnDictSameSaid : Prop := fnDictSameRow.holds Try.pinned (OpenSpec.ofChange fnDictSameSpec)

/-- ITS FALSE NEIGHBOUR: 'it returns false'. Refute it at one input. -/
def fnDictSameWrong : ChangeSpec := { name := "fnDictSame", fn := fun _ => fun
  | [d] => { results := [.lit (.bool false)], args := [d] }
  | _ => none }
def FnDictSameWrongFalsely : Prop := fnDictSameRow.holds Try.pinned (OpenSpec.ofChange fnDictSameWrong)

/-- 'laws.FnDictNewHas': WHATEVER THE INPUT: true; the input reads as it did. -/
def fnDictNewHasSpec : ChangeSpec := { name := "fnDictNewHas", fn := fun _ => fun
  | [d] => { results := [.lit (.bool true)], args := [d] }
  | _ => none }
def fnDictNewHasRow : OpenClaim := { program := "ytibglmcpbbikdaa", sum := "7b97aa3fc6ec6f6a4ccc80abe61b8bab31868ff47c3093c23db07b953013a8d6", func := "loop.example/slowworm/laws.FnDictNewHas", spec := "fnDictNewHas", unfollowed := true, recurses := true, apart := false }
def FnDictNewHasSaid : Prop := fnDictNewHasRow.holds Try.pinned (OpenSpec.ofChange fnDictNewHasSpec)

/-- ITS FALSE NEIGHBOUR: 'it returns false'. Refute it at one input. -/
def fnDictNewHasWrong : ChangeSpec := { name := "fnDictNewHas", fn := fun _ => fun
  | [d] => { results := [.lit (.bool false)], args := [d] }
  | _ => none }
def FnDictNewHasWrongFalsely : Prop := fnDictNewHasRow.holds Try.pinned (OpenSpec.ofChange fnDictNewHasWrong)

/-- 'laws.FnDictOrder': WHATEVER THE INPUT: true; the input reads as it did. -/
def fnDictOrderSpec : ChangeSpec := { name := "fnDictOrder", fn := fun _ => fun
  | [d] => { results := [.lit (.bool true)], args := [d] }
  | _ => none }
def fnDictOrderRow : OpenClaim := { program := "ytibglmcpbbikdaa", sum := "7b97aa3fc6ec6f6a4ccc80abe61b8bab31868ff47c3093c23db07b953013a8d6", func := "loop.example/slowworm/laws.FnDictOrder", spec := "fnDictOrder", unfollowed := true, recurses := true, apart := false }
def FnDictOrderSaid : Prop := fnDictOrderRow.holds Try.pinned (OpenSpec.ofChange fnDictOrderSpec)

/-- ITS FALSE NEIGHBOUR: 'it returns false'. Refute it at one input. -/
def fnDictOrderWrong : ChangeSpec := { name := "fnDictOrder", fn := fun _ => fun
  | [d] => { results := [.lit (.bool false)], args := [d] }
  | _ => none }
def FnDictOrderWrongFalsely : Prop := fnDictOrderRow.holds Try.pinned (OpenSpec.ofChange fnDictOrderWrong)

/-- 'laws.FnDictApart': WHATEVER THE INPUT: true; the input reads as it did. -/
def fnDictApartSpec : ChangeSpec := { name := "fnDictApart", fn := fun _ => fun
  | [d] => { results := [.lit (.bool true)], args := [d] }
  | _ => none }
def fnDictApartRow : OpenClaim := { program := "ytibglmcpbbikdaa", sum := "7b97aa3fc6ec6f6a4ccc80abe61b8bab31868ff47c3093c23db07b953013a8d6", func := "loop.example/slowworm/laws.FnDictApart", spec := "fnDictApart", unfollowed := true, recurses := true, apart := false }
def FnDictApartSaid : Prop := fnDictApartRow.holds Try.pinned (OpenSpec.ofChange fnDictApartSpec)

/-- ITS FALSE NEIGHBOUR: 'it returns false'. Refute it at one input. -/
def fnDictApartWrong : ChangeSpec := { name := "fnDictApart", fn := fun _ => fun
  | [d] => { results := [.lit (.bool false)], args := [d] }
  | _ => none }
def FnDictApartWrongFalsely : Prop := fnDictApartRow.holds Try.pinned (OpenSpec.ofChange fnDictApartWrong)

/-- 'laws.FnDictUndone': WHATEVER THE INPUT: true; the input reads as it did. -/
def fnDictUndoneSpec : ChangeSpec := { name := "fnDictUndone", fn := fun _ => fun
  | [d] => { results := [.lit (.bool true)], args := [d] }
  | _ => none }
def fnDictUndoneRow : OpenClaim := { program := "ytibglmcpbbikdaa", sum := "7b97aa3fc6ec6f6a4ccc80abe61b8bab31868ff47c3093c23db07b953013a8d6", func := "loop.example/slowworm/laws.FnDictUndone", spec := "fnDictUndone", unfollowed := true, recurses := true, apart := false }
def FnDictUndoneSaid : Prop := fnDictUndoneRow.holds Try.pinned (OpenSpec.ofChange fnDictUndoneSpec)

/-- ITS FALSE NEIGHBOUR: 'it returns false'. Refute it at one input. -/
def fnDictUndoneWrong : ChangeSpec := { name := "fnDictUndone", fn := fun _ => fun
  | [d] => { results := [.lit (.bool false)], args := [d] }
  | _ => none }
def FnDictUndoneWrongFalsely : Prop := fnDictUndoneRow.holds Try.pinned (OpenSpec.ofChange fnDictUndoneWrong)

/-- 'laws.FnDictAgain': WHATEVER THE INPUT: true; the input reads as it did. -/
def fnDictAgainSpec : ChangeSpec := { name := "fnDictAgain", fn := fun _ => fun
  | [d] => { results := [.lit (.bool true)], args := [d] }
  | _ => none }
def fnDictAgainRow : OpenClaim := { program := "ytibglmcpbbikdaa", sum := "7b97aa3fc6ec6f6a4ccc80abe61b8bab31868ff47c3093c23db07b953013a8d6", func := "loop.example/slowworm/laws.FnDictAgain", spec := "fnDictAgain", unfollowed := true, recurses := true, apart := false }
def FnDictAgainSaid : Prop := fnDictAgainRow.holds Try.pinned (OpenSpec.ofChange fnDictAgainSpec)

/-- ITS FALSE NEIGHBOUR: 'it returns false'. Refute it at one input. -/
def fnDictAgainWrong : ChangeSpec := { name := "fnDictAgain", fn := fun _ => fun
  | [d] => { results := [.lit (.bool false)], args := [d] }
  | _ => none }
def FnDictAgainWrongFalsely : Prop := fnDictAgainRow.holds Try.pinned (OpenSpec.ofChange fnDictAgainWrong)

/- THE SECOND FORM. 'bulk': how many values and letters a reading holds, each counted each time it is reached (what is shared counts as often as it is met; a slice's spare places count too). A statement '..UptoSaid' is the law's where the arguments, and the package variables that the reading takes, are together of bulk at most 1048576: NARROWER than '..Said'. Prove '..Said' where nothing that the law and all that it calls make is longer than what came in: it says more and counts as full. Else prove '..UptoSaid'. A law counts once. -/
mutual
def uptoBulk {H : Type} : DataW H → Nat
  | .lit (.string bytes) => bytes.length + 1
  | .lit _ => 1
  | .nil => 1
  | .ptr d => uptoBulk d + 1
  | .slice elems spare => uptoBulkAll elems + uptoBulkAll spare + 1
  | .agg parts => uptoBulkAll parts + 1
  | .iface _ d => uptoBulk d + 1
  | .map entries => uptoBulkEntries entries + 1
  | .held _ => 1
def uptoBulkAll {H : Type} : List (DataW H) → Nat
  | [] => 0
  | d :: r => uptoBulk d + uptoBulkAll r
def uptoBulkEntries {H : Type} : List (Lit × DataW H) → Nat
  | [] => 0
  | x :: r => uptoBulkEntry x + uptoBulkEntries r
def uptoBulkEntry {H : Type} : Lit × DataW H → Nat
  | (.string bytes, d) => bytes.length + uptoBulk d + 1
  | (_, d) => uptoBulk d + 1
 end
def uptoSmall : (H : Type) → List (DataW H) → Bool := fun _ ds => decide (uptoBulkAll ds ≤ 1048576)
def OpenSpec.upto (s : _root_.Go.ChangeSpec) : _root_.Go.OpenSpec := { _root_.Go.OpenSpec.ofChange s with cond := some uptoSmall }

/-- 'laws.FnDictOk', WHERE WHAT IT READS IS OF BULK AT MOST 1048576: true; the input reads as it did. -/
def fnDictOkUptoRow : OpenClaim := { program := "ytibglmcpbbikdaa", sum := "7b97aa3fc6ec6f6a4ccc80abe61b8bab31868ff47c3093c23db07b953013a8d6", func := "loop.example/slowworm/laws.FnDictOk", spec := "fnDictOk", unfollowed := true, recurses := true, apart := false, narrowed := true }
def FnDictOkUptoSaid : Prop := fnDictOkUptoRow.holds Try.pinned (OpenSpec.upto fnDictOkSpec)

/-- 'laws.FnDictProbes', WHERE WHAT IT READS IS OF BULK AT MOST 1048576: true; the input reads as it did. -/
def fnDictProbesUptoRow : OpenClaim := { program := "ytibglmcpbbikdaa", sum := "7b97aa3fc6ec6f6a4ccc80abe61b8bab31868ff47c3093c23db07b953013a8d6", func := "loop.example/slowworm/laws.FnDictProbes", spec := "fnDictProbes", unfollowed := true, recurses := true, apart := false, narrowed := true }
def FnDictProbesUptoSaid : Prop := fnDictProbesUptoRow.holds Try.pinned (OpenSpec.upto fnDictProbesSpec)

/-- 'laws.FnDictGet', WHERE WHAT IT READS IS OF BULK AT MOST 1048576: true; the input reads as it did. -/
def fnDictGetUptoRow : OpenClaim := { program := "ytibglmcpbbikdaa", sum := "7b97aa3fc6ec6f6a4ccc80abe61b8bab31868ff47c3093c23db07b953013a8d6", func := "loop.example/slowworm/laws.FnDictGet", spec := "fnDictGet", unfollowed := true, recurses := true, apart := false, narrowed := true }
def FnDictGetUptoSaid : Prop := fnDictGetUptoRow.holds Try.pinned (OpenSpec.upto fnDictGetSpec)

/-- 'laws.FnDictPack', WHERE WHAT IT READS IS OF BULK AT MOST 1048576: true; the input reads as it did. -/
def fnDictPackUptoRow : OpenClaim := { program := "ytibglmcpbbikdaa", sum := "7b97aa3fc6ec6f6a4ccc80abe61b8bab31868ff47c3093c23db07b953013a8d6", func := "loop.example/slowworm/laws.FnDictPack", spec := "fnDictPack", unfollowed := true, recurses := true, apart := false, narrowed := true }
def FnDictPackUptoSaid : Prop := fnDictPackUptoRow.holds Try.pinned (OpenSpec.upto fnDictPackSpec)

/-- 'laws.FnDictSet', WHERE WHAT IT READS IS OF BULK AT MOST 1048576: true; the input reads as it did. -/
def fnDictSetUptoRow : OpenClaim := { program := "ytibglmcpbbikdaa", sum := "7b97aa3fc6ec6f6a4ccc80abe61b8bab31868ff47c3093c23db07b953013a8d6", func := "loop.example/slowworm/laws.FnDictSet", spec := "fnDictSet", unfollowed := true, recurses := true, apart := false, narrowed := true }
def FnDictSetUptoSaid : Prop := fnDictSetUptoRow.holds Try.pinned (OpenSpec.upto fnDictSetSpec)

/-- 'laws.FnDictDrop', WHERE WHAT IT READS IS OF BULK AT MOST 1048576: true; the input reads as it did. -/
def fnDictDropUptoRow : OpenClaim := { program := "ytibglmcpbbikdaa", sum := "7b97aa3fc6ec6f6a4ccc80abe61b8bab31868ff47c3093c23db07b953013a8d6", func := "loop.example/slowworm/laws.FnDictDrop", spec := "fnDictDrop", unfollowed := true, recurses := true, apart := false, narrowed := true }
def FnDictDropUptoSaid : Prop := fnDictDropUptoRow.holds Try.pinned (OpenSpec.upto fnDictDropSpec)

/-- 'laws.FnDictKeys', WHERE WHAT IT READS IS OF BULK AT MOST 1048576: true; the input reads as it did. -/
def fnDictKeysUptoRow : OpenClaim := { program := "ytibglmcpbbikdaa", sum := "7b97aa3fc6ec6f6a4ccc80abe61b8bab31868ff47c3093c23db07b953013a8d6", func := "loop.example/slowworm/laws.FnDictKeys", spec := "fnDictKeys", unfollowed := true, recurses := true, apart := false, narrowed := true }
def FnDictKeysUptoSaid : Prop := fnDictKeysUptoRow.holds Try.pinned (OpenSpec.upto fnDictKeysSpec)

/-- 'laws.FnDictSame', WHERE WHAT IT READS IS OF BULK AT MOST 1048576: true; the input reads as it did. -/
def fnDictSameUptoRow : OpenClaim := { program := "ytibglmcpbbikdaa", sum := "7b97aa3fc6ec6f6a4ccc80abe61b8bab31868ff47c3093c23db07b953013a8d6", func := "loop.example/slowworm/laws.FnDictSame", spec := "fnDictSame", unfollowed := true, recurses := true, apart := false, narrowed := true }
def FnDictSameUptoSaid : Prop := fnDictSameUptoRow.holds Try.pinned (OpenSpec.upto fnDictSameSpec)

/-- 'laws.FnDictNewHas', WHERE WHAT IT READS IS OF BULK AT MOST 1048576: true; the input reads as it did. -/
def fnDictNewHasUptoRow : OpenClaim := { program := "ytibglmcpbbikdaa", sum := "7b97aa3fc6ec6f6a4ccc80abe61b8bab31868ff47c3093c23db07b953013a8d6", func := "loop.example/slowworm/laws.FnDictNewHas", spec := "fnDictNewHas", unfollowed := true, recurses := true, apart := false, narrowed := true }
def FnDictNewHasUptoSaid : Prop := fnDictNewHasUptoRow.holds Try.pinned (OpenSpec.upto fnDictNewHasSpec)

/-- 'laws.FnDictOrder', WHERE WHAT IT READS IS OF BULK AT MOST 1048576: true; the input reads as it did. -/
def fnDictOrderUptoRow : OpenClaim := { program := "ytibglmcpbbikdaa", sum := "7b97aa3fc6ec6f6a4ccc80abe61b8bab31868ff47c3093c23db07b953013a8d6", func := "loop.example/slowworm/laws.FnDictOrder", spec := "fnDictOrder", unfollowed := true, recurses := true, apart := false, narrowed := true }
def FnDictOrderUptoSaid : Prop := fnDictOrderUptoRow.holds Try.pinned (OpenSpec.upto fnDictOrderSpec)

/-- 'laws.FnDictApart', WHERE WHAT IT READS IS OF BULK AT MOST 1048576: true; the input reads as it did. -/
def fnDictApartUptoRow : OpenClaim := { program := "ytibglmcpbbikdaa", sum := "7b97aa3fc6ec6f6a4ccc80abe61b8bab31868ff47c3093c23db07b953013a8d6", func := "loop.example/slowworm/laws.FnDictApart", spec := "fnDictApart", unfollowed := true, recurses := true, apart := false, narrowed := true }
def FnDictApartUptoSaid : Prop := fnDictApartUptoRow.holds Try.pinned (OpenSpec.upto fnDictApartSpec)

/-- 'laws.FnDictUndone', WHERE WHAT IT READS IS OF BULK AT MOST 1048576: true; the input reads as it did. -/
def fnDictUndoneUptoRow : OpenClaim := { program := "ytibglmcpbbikdaa", sum := "7b97aa3fc6ec6f6a4ccc80abe61b8bab31868ff47c3093c23db07b953013a8d6", func := "loop.example/slowworm/laws.FnDictUndone", spec := "fnDictUndone", unfollowed := true, recurses := true, apart := false, narrowed := true }
def FnDictUndoneUptoSaid : Prop := fnDictUndoneUptoRow.holds Try.pinned (OpenSpec.upto fnDictUndoneSpec)

/-- 'laws.FnDictAgain', WHERE WHAT IT READS IS OF BULK AT MOST 1048576: true; the input reads as it did. -/
def fnDictAgainUptoRow : OpenClaim := { program := "ytibglmcpbbikdaa", sum := "7b97aa3fc6ec6f6a4ccc80abe61b8bab31868ff47c3093c23db07b953013a8d6", func := "loop.example/slowworm/laws.FnDictAgain", spec := "fnDictAgain", unfollowed := true, recurses := true, apart := false, narrowed := true }
def FnDictAgainUptoSaid : Prop := fnDictAgainUptoRow.holds Try.pinned (OpenSpec.upto fnDictAgainSpec)

end Rows
end Go.Proofs.Ytibglmcpbbikdaa
