/-
  No cell of these rows narrows 'for every input' (looked for: loops, veiled, ifaces, maps, wideKeys, modest, calm, conditions, laid).
  DERIVED. THE GIVEN ROWS OF THIS SEAT. 12 by the template 'for every input the law returns true; each argument reads behind the call as it read before'; 0 by the template 'total and deterministic' (their statements: YtplpgcbdbmfffaaTotals.lean).
  GIVEN WITH THE SEED: the statements are not yours to turn. If you find one false, say at which input.
  Laid BY PROGRAM, IN A SANDBOX (cutbox-rows.mjs): the forced cells as the released guide's own fill.sh prints them over the translation 03b24e720edc6ca2… (all of the seat's roots in one cut). By AI agents, Wed Nov 11 2026. No macro, syntax, notation, axiom, sorry.
-/
import Derived.Test.YtplpgcbdbmfffaaChecked
import GoSem.Claim
import GoSem.ClaimJoined
import GoSem.ClaimMapViews
import Derived.JoinedTies
import Derived.KernelRfl
namespace Go.Proofs.Ytplpgcbdbmfffaa
/- THE CELL 'sum', in the pinned program and in every row, IS THE sha256 OF THE DUMP (.gsa) THAT YtplpgcbdbmfffaaProg.lean LOADS. Nothing in Lean hashes anything: it is a label: what it is worth is what the hold of that sum in a sandbox is worth. -/
noncomputable def Try.pinned : Pinned := { name := "ytplpgcbdbmfffaa", sum := "03b24e720edc6ca281ac2eae83aa44dd1d479fb5177d1df8980cbb7ea14786f7", checked := Try.checked }
namespace Rows
def none {H : Type} : Left H := { results := [], args := [] }

/-- 'laws.FnExactDictHash': WHATEVER THE INPUT: true; the input reads as it did. -/
def fnExactDictHashSpec : ChangeSpec := { name := "fnExactDictHash", fn := fun _ => fun
  | [d] => { results := [.lit (.bool true)], args := [d] }
  | _ => none }
def fnExactDictHashRow : OpenClaim := { program := "ytplpgcbdbmfffaa", sum := "03b24e720edc6ca281ac2eae83aa44dd1d479fb5177d1df8980cbb7ea14786f7", func := "loop.example/slowworm/laws.FnExactDictHash", spec := "fnExactDictHash", apart := false }
def FnExactDictHashSaid : Prop := fnExactDictHashRow.holds Try.pinned (OpenSpec.ofChange fnExactDictHashSpec)

/-- ITS FALSE NEIGHBOUR: 'it returns false'. Refute it at one input. -/
def fnExactDictHashWrong : ChangeSpec := { name := "fnExactDictHash", fn := fun _ => fun
  | [d] => { results := [.lit (.bool false)], args := [d] }
  | _ => none }
def FnExactDictHashWrongFalsely : Prop := fnExactDictHashRow.holds Try.pinned (OpenSpec.ofChange fnExactDictHashWrong)

/-- 'laws.FnExactDictNew': WHATEVER THE INPUT: true; the input reads as it did. -/
def fnExactDictNewSpec : ChangeSpec := { name := "fnExactDictNew", fn := fun _ => fun
  | [] => { results := [.lit (.bool true)], args := [] }
  | _ => none }
def fnExactDictNewRow : OpenClaim := { program := "ytplpgcbdbmfffaa", sum := "03b24e720edc6ca281ac2eae83aa44dd1d479fb5177d1df8980cbb7ea14786f7", func := "loop.example/slowworm/laws.FnExactDictNew", spec := "fnExactDictNew", apart := false }
def FnExactDictNewSaid : Prop := fnExactDictNewRow.holds Try.pinned (OpenSpec.ofChange fnExactDictNewSpec)

/-- ITS FALSE NEIGHBOUR: 'it returns false'. Refute it at one input. -/
def fnExactDictNewWrong : ChangeSpec := { name := "fnExactDictNew", fn := fun _ => fun
  | [] => { results := [.lit (.bool false)], args := [] }
  | _ => none }
def FnExactDictNewWrongFalsely : Prop := fnExactDictNewRow.holds Try.pinned (OpenSpec.ofChange fnExactDictNewWrong)

/-- 'laws.FnExactDictOk': WHATEVER THE INPUT: true; the input reads as it did. -/
def fnExactDictOkSpec : ChangeSpec := { name := "fnExactDictOk", fn := fun _ => fun
  | [d] => { results := [.lit (.bool true)], args := [d] }
  | _ => none }
def fnExactDictOkRow : OpenClaim := { program := "ytplpgcbdbmfffaa", sum := "03b24e720edc6ca281ac2eae83aa44dd1d479fb5177d1df8980cbb7ea14786f7", func := "loop.example/slowworm/laws.FnExactDictOk", spec := "fnExactDictOk", unfollowed := true, recurses := true, apart := false }
def FnExactDictOkSaid : Prop := fnExactDictOkRow.holds Try.pinned (OpenSpec.ofChange fnExactDictOkSpec)

/-- ITS FALSE NEIGHBOUR: 'it returns false'. Refute it at one input. -/
def fnExactDictOkWrong : ChangeSpec := { name := "fnExactDictOk", fn := fun _ => fun
  | [d] => { results := [.lit (.bool false)], args := [d] }
  | _ => none }
def FnExactDictOkWrongFalsely : Prop := fnExactDictOkRow.holds Try.pinned (OpenSpec.ofChange fnExactDictOkWrong)

/-- 'laws.FnExactDictProbes': WHATEVER THE INPUT: true; the input reads as it did. -/
def fnExactDictProbesSpec : ChangeSpec := { name := "fnExactDictProbes", fn := fun _ => fun
  | [d1, d2] => { results := [.lit (.bool true)], args := [d1, d2] }
  | _ => none }
def fnExactDictProbesRow : OpenClaim := { program := "ytplpgcbdbmfffaa", sum := "03b24e720edc6ca281ac2eae83aa44dd1d479fb5177d1df8980cbb7ea14786f7", func := "loop.example/slowworm/laws.FnExactDictProbes", spec := "fnExactDictProbes", unfollowed := true, recurses := true, apart := false }
def FnExactDictProbesSaid : Prop := fnExactDictProbesRow.holds Try.pinned (OpenSpec.ofChange fnExactDictProbesSpec)

/-- ITS FALSE NEIGHBOUR: 'it returns false'. Refute it at one input. -/
def fnExactDictProbesWrong : ChangeSpec := { name := "fnExactDictProbes", fn := fun _ => fun
  | [d1, d2] => { results := [.lit (.bool false)], args := [d1, d2] }
  | _ => none }
def FnExactDictProbesWrongFalsely : Prop := fnExactDictProbesRow.holds Try.pinned (OpenSpec.ofChange fnExactDictProbesWrong)

/-- 'laws.FnExactDictGet': WHATEVER THE INPUT: true; the input reads as it did. -/
def fnExactDictGetSpec : ChangeSpec := { name := "fnExactDictGet", fn := fun _ => fun
  | [d1, d2] => { results := [.lit (.bool true)], args := [d1, d2] }
  | _ => none }
def fnExactDictGetRow : OpenClaim := { program := "ytplpgcbdbmfffaa", sum := "03b24e720edc6ca281ac2eae83aa44dd1d479fb5177d1df8980cbb7ea14786f7", func := "loop.example/slowworm/laws.FnExactDictGet", spec := "fnExactDictGet", unfollowed := true, recurses := true, apart := false }
def FnExactDictGetSaid : Prop := fnExactDictGetRow.holds Try.pinned (OpenSpec.ofChange fnExactDictGetSpec)

/-- ITS FALSE NEIGHBOUR: 'it returns false'. Refute it at one input. -/
def fnExactDictGetWrong : ChangeSpec := { name := "fnExactDictGet", fn := fun _ => fun
  | [d1, d2] => { results := [.lit (.bool false)], args := [d1, d2] }
  | _ => none }
def FnExactDictGetWrongFalsely : Prop := fnExactDictGetRow.holds Try.pinned (OpenSpec.ofChange fnExactDictGetWrong)

/-- 'laws.FnExactDictPack': WHATEVER THE INPUT: true; the input reads as it did. -/
def fnExactDictPackSpec : ChangeSpec := { name := "fnExactDictPack", fn := fun _ => fun
  | [d] => { results := [.lit (.bool true)], args := [d] }
  | _ => none }
def fnExactDictPackRow : OpenClaim := { program := "ytplpgcbdbmfffaa", sum := "03b24e720edc6ca281ac2eae83aa44dd1d479fb5177d1df8980cbb7ea14786f7", func := "loop.example/slowworm/laws.FnExactDictPack", spec := "fnExactDictPack", unfollowed := true, recurses := true, apart := false }
def FnExactDictPackSaid : Prop := fnExactDictPackRow.holds Try.pinned (OpenSpec.ofChange fnExactDictPackSpec)

/-- ITS FALSE NEIGHBOUR: 'it returns false'. Refute it at one input. -/
def fnExactDictPackWrong : ChangeSpec := { name := "fnExactDictPack", fn := fun _ => fun
  | [d] => { results := [.lit (.bool false)], args := [d] }
  | _ => none }
def FnExactDictPackWrongFalsely : Prop := fnExactDictPackRow.holds Try.pinned (OpenSpec.ofChange fnExactDictPackWrong)

/-- 'laws.FnExactDictSet': WHATEVER THE INPUT: true; the input reads as it did. -/
def fnExactDictSetSpec : ChangeSpec := { name := "fnExactDictSet", fn := fun _ => fun
  | [d1, d2, d3] => { results := [.lit (.bool true)], args := [d1, d2, d3] }
  | _ => none }
def fnExactDictSetRow : OpenClaim := { program := "ytplpgcbdbmfffaa", sum := "03b24e720edc6ca281ac2eae83aa44dd1d479fb5177d1df8980cbb7ea14786f7", func := "loop.example/slowworm/laws.FnExactDictSet", spec := "fnExactDictSet", unfollowed := true, recurses := true, apart := false }
def FnExactDictSetSaid : Prop := fnExactDictSetRow.holds Try.pinned (OpenSpec.ofChange fnExactDictSetSpec)

/-- ITS FALSE NEIGHBOUR: 'it returns false'. Refute it at one input. -/
def fnExactDictSetWrong : ChangeSpec := { name := "fnExactDictSet", fn := fun _ => fun
  | [d1, d2, d3] => { results := [.lit (.bool false)], args := [d1, d2, d3] }
  | _ => none }
def FnExactDictSetWrongFalsely : Prop := fnExactDictSetRow.holds Try.pinned (OpenSpec.ofChange fnExactDictSetWrong)

/-- 'laws.FnExactDictDrop': WHATEVER THE INPUT: true; the input reads as it did. -/
def fnExactDictDropSpec : ChangeSpec := { name := "fnExactDictDrop", fn := fun _ => fun
  | [d1, d2] => { results := [.lit (.bool true)], args := [d1, d2] }
  | _ => none }
def fnExactDictDropRow : OpenClaim := { program := "ytplpgcbdbmfffaa", sum := "03b24e720edc6ca281ac2eae83aa44dd1d479fb5177d1df8980cbb7ea14786f7", func := "loop.example/slowworm/laws.FnExactDictDrop", spec := "fnExactDictDrop", unfollowed := true, recurses := true, apart := false }
def FnExactDictDropSaid : Prop := fnExactDictDropRow.holds Try.pinned (OpenSpec.ofChange fnExactDictDropSpec)

/-- ITS FALSE NEIGHBOUR: 'it returns false'. Refute it at one input. -/
def fnExactDictDropWrong : ChangeSpec := { name := "fnExactDictDrop", fn := fun _ => fun
  | [d1, d2] => { results := [.lit (.bool false)], args := [d1, d2] }
  | _ => none }
def FnExactDictDropWrongFalsely : Prop := fnExactDictDropRow.holds Try.pinned (OpenSpec.ofChange fnExactDictDropWrong)

/-- 'laws.FnExactDictKeys': WHATEVER THE INPUT: true; the input reads as it did. -/
def fnExactDictKeysSpec : ChangeSpec := { name := "fnExactDictKeys", fn := fun _ => fun
  | [d] => { results := [.lit (.bool true)], args := [d] }
  | _ => none }
def fnExactDictKeysRow : OpenClaim := { program := "ytplpgcbdbmfffaa", sum := "03b24e720edc6ca281ac2eae83aa44dd1d479fb5177d1df8980cbb7ea14786f7", func := "loop.example/slowworm/laws.FnExactDictKeys", spec := "fnExactDictKeys", unfollowed := true, recurses := true, apart := false }
def FnExactDictKeysSaid : Prop := fnExactDictKeysRow.holds Try.pinned (OpenSpec.ofChange fnExactDictKeysSpec)

/-- ITS FALSE NEIGHBOUR: 'it returns false'. Refute it at one input. -/
def fnExactDictKeysWrong : ChangeSpec := { name := "fnExactDictKeys", fn := fun _ => fun
  | [d] => { results := [.lit (.bool false)], args := [d] }
  | _ => none }
def FnExactDictKeysWrongFalsely : Prop := fnExactDictKeysRow.holds Try.pinned (OpenSpec.ofChange fnExactDictKeysWrong)

/-- 'laws.FnExactDictSame': WHATEVER THE INPUT: true; the input reads as it did. -/
def fnExactDictSameSpec : ChangeSpec := { name := "fnExactDictSame", fn := fun _ => fun
  | [d1, d2] => { results := [.lit (.bool true)], args := [d1, d2] }
  | _ => none }
def fnExactDictSameRow : OpenClaim := { program := "ytplpgcbdbmfffaa", sum := "03b24e720edc6ca281ac2eae83aa44dd1d479fb5177d1df8980cbb7ea14786f7", func := "loop.example/slowworm/laws.FnExactDictSame", spec := "fnExactDictSame", unfollowed := true, recurses := true, apart := false }
def FnExactDictSameSaid : Prop := fnExactDictSameRow.holds Try.pinned (OpenSpec.ofChange fnExactDictSameSpec)

/-- ITS FALSE NEIGHBOUR: 'it returns false'. Refute it at one input. -/
def fnExactDictSameWrong : ChangeSpec := { name := "fnExactDictSame", fn := fun _ => fun
  | [d1, d2] => { results := [.lit (.bool false)], args := [d1, d2] }
  | _ => none }
def FnExactDictSameWrongFalsely : Prop := fnExactDictSameRow.holds Try.pinned (OpenSpec.ofChange fnExactDictSameWrong)

/-- 'laws.FnDictHash': WHATEVER THE INPUT: true; the input reads as it did. -/
def fnDictHashSpec : ChangeSpec := { name := "fnDictHash", fn := fun _ => fun
  | [d] => { results := [.lit (.bool true)], args := [d] }
  | _ => none }
def fnDictHashRow : OpenClaim := { program := "ytplpgcbdbmfffaa", sum := "03b24e720edc6ca281ac2eae83aa44dd1d479fb5177d1df8980cbb7ea14786f7", func := "loop.example/slowworm/laws.FnDictHash", spec := "fnDictHash", apart := false }
def FnDictHashSaid : Prop := fnDictHashRow.holds Try.pinned (OpenSpec.ofChange fnDictHashSpec)

/-- ITS FALSE NEIGHBOUR: 'it returns false'. Refute it at one input. -/
def fnDictHashWrong : ChangeSpec := { name := "fnDictHash", fn := fun _ => fun
  | [d] => { results := [.lit (.bool false)], args := [d] }
  | _ => none }
def FnDictHashWrongFalsely : Prop := fnDictHashRow.holds Try.pinned (OpenSpec.ofChange fnDictHashWrong)

/-- 'laws.FnDictNewHas': WHATEVER THE INPUT: true; the input reads as it did. -/
def fnDictNewHasSpec : ChangeSpec := { name := "fnDictNewHas", fn := fun _ => fun
  | [d] => { results := [.lit (.bool true)], args := [d] }
  | _ => none }
def fnDictNewHasRow : OpenClaim := { program := "ytplpgcbdbmfffaa", sum := "03b24e720edc6ca281ac2eae83aa44dd1d479fb5177d1df8980cbb7ea14786f7", func := "loop.example/slowworm/laws.FnDictNewHas", spec := "fnDictNewHas", unfollowed := true, recurses := true, apart := false }
def FnDictNewHasSaid : Prop := fnDictNewHasRow.holds Try.pinned (OpenSpec.ofChange fnDictNewHasSpec)

/-- ITS FALSE NEIGHBOUR: 'it returns false'. Refute it at one input. -/
def fnDictNewHasWrong : ChangeSpec := { name := "fnDictNewHas", fn := fun _ => fun
  | [d] => { results := [.lit (.bool false)], args := [d] }
  | _ => none }
def FnDictNewHasWrongFalsely : Prop := fnDictNewHasRow.holds Try.pinned (OpenSpec.ofChange fnDictNewHasWrong)

/- THE SECOND FORM. 'bulk': how many values and letters a reading holds, each counted each time it is reached (what is shared counts as often as it is met; a slice's spare places count too). A statement '..UptoSaid' is the law's where the arguments, and the package variables that the reading takes, are together of bulk at most 1048576: NARROWER than '..Said'. Prove '..Said' where nothing that the law and all that it calls make is longer than what came in: it says more and counts as full. Else prove '..UptoSaid'. A law counts once. -/
mutual
def uptoBulk {H : Type} : DataW H → Nat
  | .lit (.string bytes) => bytes.length + 1
  | .lit _ => 1
  | .nil => 1
  | .ptr d => uptoBulk d + 1
  | .slice elems spare => uptoBulkAll elems + uptoBulkAll spare + 1
  | .agg parts => uptoBulkAll parts + 1
  | .iface _ d => uptoBulk d + 1
  | .map entries => uptoBulkEntries entries + 1
  | .held _ => 1
def uptoBulkAll {H : Type} : List (DataW H) → Nat
  | [] => 0
  | d :: r => uptoBulk d + uptoBulkAll r
def uptoBulkEntries {H : Type} : List (Lit × DataW H) → Nat
  | [] => 0
  | x :: r => uptoBulkEntry x + uptoBulkEntries r
def uptoBulkEntry {H : Type} : Lit × DataW H → Nat
  | (.string bytes, d) => bytes.length + uptoBulk d + 1
  | (_, d) => uptoBulk d + 1
 end
def uptoSmall : (H : Type) → List (DataW H) → Bool := fun _ ds => decide (uptoBulkAll ds ≤ 1048576)
def OpenSpec.upto (s : _root_.Go.ChangeSpec) : _root_.Go.OpenSpec := { _root_.Go.OpenSpec.ofChange s with cond := some uptoSmall }

/-- 'laws.FnExactDictHash', WHERE WHAT IT READS IS OF BULK AT MOST 1048576: true; the input reads as it did. -/
def fnExactDictHashUptoRow : OpenClaim := { program := "ytplpgcbdbmfffaa", sum := "03b24e720edc6ca281ac2eae83aa44dd1d479fb5177d1df8980cbb7ea14786f7", func := "loop.example/slowworm/laws.FnExactDictHash", spec := "fnExactDictHash", apart := false, narrowed := true }
def FnExactDictHashUptoSaid : Prop := fnExactDictHashUptoRow.holds Try.pinned (OpenSpec.upto fnExactDictHashSpec)

/-- 'laws.FnExactDictNew', WHERE WHAT IT READS IS OF BULK AT MOST 1048576: true; the input reads as it did. -/
def fnExactDictNewUptoRow : OpenClaim := { program := "ytplpgcbdbmfffaa", sum := "03b24e720edc6ca281ac2eae83aa44dd1d479fb5177d1df8980cbb7ea14786f7", func := "loop.example/slowworm/laws.FnExactDictNew", spec := "fnExactDictNew", apart := false, narrowed := true }
def FnExactDictNewUptoSaid : Prop := fnExactDictNewUptoRow.holds Try.pinned (OpenSpec.upto fnExactDictNewSpec)

/-- 'laws.FnExactDictOk', WHERE WHAT IT READS IS OF BULK AT MOST 1048576: true; the input reads as it did. -/
def fnExactDictOkUptoRow : OpenClaim := { program := "ytplpgcbdbmfffaa", sum := "03b24e720edc6ca281ac2eae83aa44dd1d479fb5177d1df8980cbb7ea14786f7", func := "loop.example/slowworm/laws.FnExactDictOk", spec := "fnExactDictOk", unfollowed := true, recurses := true, apart := false, narrowed := true }
def FnExactDictOkUptoSaid : Prop := fnExactDictOkUptoRow.holds Try.pinned (OpenSpec.upto fnExactDictOkSpec)

/-- 'laws.FnExactDictProbes', WHERE WHAT IT READS IS OF BULK AT MOST 1048576: true; the input reads as it did. -/
def fnExactDictProbesUptoRow : OpenClaim := { program := "ytplpgcbdbmfffaa", sum := "03b24e720edc6ca281ac2eae83aa44dd1d479fb5177d1df8980cbb7ea14786f7", func := "loop.example/slowworm/laws.FnExactDictProbes", spec := "fnExactDictProbes", unfollowed := true, recurses := true, apart := false, narrowed := true }
def FnExactDictProbesUptoSaid : Prop := fnExactDictProbesUptoRow.holds Try.pinned (OpenSpec.upto fnExactDictProbesSpec)

/-- 'laws.FnExactDictGet', WHERE WHAT IT READS IS OF BULK AT MOST 1048576: true; the input reads as it did. -/
def fnExactDictGetUptoRow : OpenClaim := { program := "ytplpgcbdbmfffaa", sum := "03b24e720edc6ca281ac2eae83aa44dd1d479fb5177d1df8980cbb7ea14786f7", func := "loop.example/slowworm/laws.FnExactDictGet", spec := "fnExactDictGet", unfollowed := true, recurses := true, apart := false, narrowed := true }
def FnExactDictGetUptoSaid : Prop := fnExactDictGetUptoRow.holds Try.pinned (OpenSpec.upto fnExactDictGetSpec)

/-- 'laws.FnExactDictPack', WHERE WHAT IT READS IS OF BULK AT MOST 1048576: true; the input reads as it did. -/
def fnExactDictPackUptoRow : OpenClaim := { program := "ytplpgcbdbmfffaa", sum := "03b24e720edc6ca281ac2eae83aa44dd1d479fb5177d1df8980cbb7ea14786f7", func := "loop.example/slowworm/laws.FnExactDictPack", spec := "fnExactDictPack", unfollowed := true, recurses := true, apart := false, narrowed := true }
def FnExactDictPackUptoSaid : Prop := fnExactDictPackUptoRow.holds Try.pinned (OpenSpec.upto fnExactDictPackSpec)

/-- 'laws.FnExactDictSet', WHERE WHAT IT READS IS OF BULK AT MOST 1048576: true; the input reads as it did. -/
def fnExactDictSetUptoRow : OpenClaim := { program := "ytplpgcbdbmfffaa", sum := "03b24e720edc6ca281ac2eae83aa44dd1d479fb5177d1df8980cbb7ea14786f7", func := "loop.example/slowworm/laws.FnExactDictSet", spec := "fnExactDictSet", unfollowed := true, recurses := true, apart := false, narrowed := true }
def FnExactDictSetUptoSaid : Prop := fnExactDictSetUptoRow.holds Try.pinned (OpenSpec.upto fnExactDictSetSpec)

/-- 'laws.FnExactDictDrop', WHERE WHAT IT READS IS OF BULK AT MOST 1048576: true; the input reads as it did. -/
def fnExactDictDropUptoRow : OpenClaim := { program := "ytplpgcbdbmfffaa", sum := "03b24e720edc6ca281ac2eae83aa44dd1d479fb5177d1df8980cbb7ea14786f7", func := "loop.example/slowworm/laws.FnExactDictDrop", spec := "fnExactDictDrop", unfollowed := true, recurses := true, apart := false, narrowed := true }
def FnExactDictDropUptoSaid : Prop := fnExactDictDropUptoRow.holds Try.pinned (OpenSpec.upto fnExactDictDropSpec)

/-- 'laws.FnExactDictKeys', WHERE WHAT IT READS IS OF BULK AT MOST 1048576: true; the input reads as it did. -/
def fnExactDictKeysUptoRow : OpenClaim := { program := "ytplpgcbdbmfffaa", sum := "03b24e720edc6ca281ac2eae83aa44dd1d479fb5177d1df8980cbb7ea14786f7", func := "loop.example/slowworm/laws.FnExactDictKeys", spec := "fnExactDictKeys", unfollowed := true, recurses := true, apart := false, narrowed := true }
def FnExactDictKeysUptoSaid : Prop := fnExactDictKeysUptoRow.holds Try.pinned (OpenSpec.upto fnExactDictKeysSpec)

/-- 'laws.FnExactDictSame', WHERE WHAT IT READS IS OF BULK AT MOST 1048576: true; the input reads as it did. -/
def fnExactDictSameUptoRow : OpenClaim := { program := "ytplpgcbdbmfffaa", sum := "03b24e720edc6ca281ac2eae83aa44dd1d479fb5177d1df8980cbb7ea14786f7", func := "loop.example/slowworm/laws.FnExactDictSame", spec := "fnExactDictSame", unfollowed := true, recurses := true, apart := false, narrowed := true }
def FnExactDictSameUptoSaid : Prop := fnExactDictSameUptoRow.holds Try.pinned (OpenSpec.upto fnExactDictSameSpec)

/-- 'laws.FnDictHash', WHERE WHAT IT READS IS OF BULK AT MOST 1048576: true; the input reads as it did. -/
def fnDictHashUptoRow : OpenClaim := { program := "ytplpgcbdbmfffaa", sum := "03b24e720edc6ca281ac2eae83aa44dd1d479fb5177d1df8980cbb7ea14786f7", func := "loop.example/slowworm/laws.FnDictHash", spec := "fnDictHash", apart := false, narrowed := true }
def FnDictHashUptoSaid : Prop := fnDictHashUptoRow.holds Try.pinned (OpenSpec.upto fnDictHashSpec)

/-- 'laws.FnDictNewHas', WHERE WHAT IT READS IS OF BULK AT MOST 1048576: true; the input reads as it did. -/
def fnDictNewHasUptoRow : OpenClaim := { program := "ytplpgcbdbmfffaa", sum := "03b24e720edc6ca281ac2eae83aa44dd1d479fb5177d1df8980cbb7ea14786f7", func := "loop.example/slowworm/laws.FnDictNewHas", spec := "fnDictNewHas", unfollowed := true, recurses := true, apart := false, narrowed := true }
def FnDictNewHasUptoSaid : Prop := fnDictNewHasUptoRow.holds Try.pinned (OpenSpec.upto fnDictNewHasSpec)

end Rows
end Go.Proofs.Ytplpgcbdbmfffaa
