/-
  No cell of these rows narrows 'for every input' (looked for: loops, veiled, ifaces, maps, wideKeys, modest, calm, conditions, laid).
  DERIVED. THE GIVEN ROWS OF THIS SEAT. 12 by the template 'for every input the law returns true; each argument reads behind the call as it read before'; 0 by the template 'total and deterministic' (their statements: YtckmpenlpkhnfaaTotals.lean).
  GIVEN WITH THE SEED: the statements are not yours to turn. If you find one false, say at which input.
  Laid BY PROGRAM, IN A SANDBOX (cutbox-rows.mjs): the forced cells as the released guide's own fill.sh prints them over the translation 65f3cc656d58b6de… (all of the seat's roots in one cut). By AI agents, Wed Nov 11 2026. No macro, syntax, notation, axiom, sorry.
-/
import Derived.Test.YtckmpenlpkhnfaaChecked
import GoSem.Claim
import GoSem.ClaimJoined
import GoSem.ClaimMapViews
import Derived.JoinedTies
import Derived.KernelRfl
namespace Go.Proofs.Ytckmpenlpkhnfaa
/- THE CELL 'sum', in the pinned program and in every row, IS THE sha256 OF THE DUMP (.gsa) THAT YtckmpenlpkhnfaaProg.lean LOADS. Nothing in Lean hashes anything: it is a label: what it is worth is what the hold of that sum in a sandbox is worth. -/
noncomputable def Try.pinned : Pinned := { name := "ytckmpenlpkhnfaa", sum := "65f3cc656d58b6de2866db336589db5feed34224456d6a09a9194690a3f891aa", checked := Try.checked }
namespace Rows
def none {H : Type} : Left H := { results := [], args := [] }

/-- 'laws.FnExactIntOk': WHATEVER THE INPUT: true; the input reads as it did. -/
def fnExactIntOkSpec : ChangeSpec := { name := "fnExactIntOk", fn := fun _ => fun
  | [d] => { results := [.lit (.bool true)], args := [d] }
  | _ => none }
def fnExactIntOkRow : OpenClaim := { program := "ytckmpenlpkhnfaa", sum := "65f3cc656d58b6de2866db336589db5feed34224456d6a09a9194690a3f891aa", func := "loop.example/slowworm/laws.FnExactIntOk", spec := "fnExactIntOk", apart := false }
def FnExactIntOkSaid : Prop := fnExactIntOkRow.holds Try.pinned (OpenSpec.ofChange fnExactIntOkSpec)

/-- ITS FALSE NEIGHBOUR: 'it returns false'. Refute it at one input. -/
def fnExactIntOkWrong : ChangeSpec := { name := "fnExactIntOk", fn := fun _ => fun
  | [d] => { results := [.lit (.bool false)], args := [d] }
  | _ => none }
def FnExactIntOkWrongFalsely : Prop := fnExactIntOkRow.holds Try.pinned (OpenSpec.ofChange fnExactIntOkWrong)

/-- 'laws.FnExactIntAdd': WHATEVER THE INPUT: true; the input reads as it did. -/
def fnExactIntAddSpec : ChangeSpec := { name := "fnExactIntAdd", fn := fun _ => fun
  | [d1, d2] => { results := [.lit (.bool true)], args := [d1, d2] }
  | _ => none }
def fnExactIntAddRow : OpenClaim := { program := "ytckmpenlpkhnfaa", sum := "65f3cc656d58b6de2866db336589db5feed34224456d6a09a9194690a3f891aa", func := "loop.example/slowworm/laws.FnExactIntAdd", spec := "fnExactIntAdd", apart := false }
def FnExactIntAddSaid : Prop := fnExactIntAddRow.holds Try.pinned (OpenSpec.ofChange fnExactIntAddSpec)

/-- ITS FALSE NEIGHBOUR: 'it returns false'. Refute it at one input. -/
def fnExactIntAddWrong : ChangeSpec := { name := "fnExactIntAdd", fn := fun _ => fun
  | [d1, d2] => { results := [.lit (.bool false)], args := [d1, d2] }
  | _ => none }
def FnExactIntAddWrongFalsely : Prop := fnExactIntAddRow.holds Try.pinned (OpenSpec.ofChange fnExactIntAddWrong)

/-- 'laws.FnExactIntSub': WHATEVER THE INPUT: true; the input reads as it did. -/
def fnExactIntSubSpec : ChangeSpec := { name := "fnExactIntSub", fn := fun _ => fun
  | [d1, d2] => { results := [.lit (.bool true)], args := [d1, d2] }
  | _ => none }
def fnExactIntSubRow : OpenClaim := { program := "ytckmpenlpkhnfaa", sum := "65f3cc656d58b6de2866db336589db5feed34224456d6a09a9194690a3f891aa", func := "loop.example/slowworm/laws.FnExactIntSub", spec := "fnExactIntSub", apart := false }
def FnExactIntSubSaid : Prop := fnExactIntSubRow.holds Try.pinned (OpenSpec.ofChange fnExactIntSubSpec)

/-- ITS FALSE NEIGHBOUR: 'it returns false'. Refute it at one input. -/
def fnExactIntSubWrong : ChangeSpec := { name := "fnExactIntSub", fn := fun _ => fun
  | [d1, d2] => { results := [.lit (.bool false)], args := [d1, d2] }
  | _ => none }
def FnExactIntSubWrongFalsely : Prop := fnExactIntSubRow.holds Try.pinned (OpenSpec.ofChange fnExactIntSubWrong)

/-- 'laws.FnExactIntMul': WHATEVER THE INPUT: true; the input reads as it did. -/
def fnExactIntMulSpec : ChangeSpec := { name := "fnExactIntMul", fn := fun _ => fun
  | [d1, d2] => { results := [.lit (.bool true)], args := [d1, d2] }
  | _ => none }
def fnExactIntMulRow : OpenClaim := { program := "ytckmpenlpkhnfaa", sum := "65f3cc656d58b6de2866db336589db5feed34224456d6a09a9194690a3f891aa", func := "loop.example/slowworm/laws.FnExactIntMul", spec := "fnExactIntMul", apart := false }
def FnExactIntMulSaid : Prop := fnExactIntMulRow.holds Try.pinned (OpenSpec.ofChange fnExactIntMulSpec)

/-- ITS FALSE NEIGHBOUR: 'it returns false'. Refute it at one input. -/
def fnExactIntMulWrong : ChangeSpec := { name := "fnExactIntMul", fn := fun _ => fun
  | [d1, d2] => { results := [.lit (.bool false)], args := [d1, d2] }
  | _ => none }
def FnExactIntMulWrongFalsely : Prop := fnExactIntMulRow.holds Try.pinned (OpenSpec.ofChange fnExactIntMulWrong)

/-- 'laws.FnExactIntDiv': WHATEVER THE INPUT: true; the input reads as it did. -/
def fnExactIntDivSpec : ChangeSpec := { name := "fnExactIntDiv", fn := fun _ => fun
  | [d1, d2] => { results := [.lit (.bool true)], args := [d1, d2] }
  | _ => none }
def fnExactIntDivRow : OpenClaim := { program := "ytckmpenlpkhnfaa", sum := "65f3cc656d58b6de2866db336589db5feed34224456d6a09a9194690a3f891aa", func := "loop.example/slowworm/laws.FnExactIntDiv", spec := "fnExactIntDiv", apart := false }
def FnExactIntDivSaid : Prop := fnExactIntDivRow.holds Try.pinned (OpenSpec.ofChange fnExactIntDivSpec)

/-- ITS FALSE NEIGHBOUR: 'it returns false'. Refute it at one input. -/
def fnExactIntDivWrong : ChangeSpec := { name := "fnExactIntDiv", fn := fun _ => fun
  | [d1, d2] => { results := [.lit (.bool false)], args := [d1, d2] }
  | _ => none }
def FnExactIntDivWrongFalsely : Prop := fnExactIntDivRow.holds Try.pinned (OpenSpec.ofChange fnExactIntDivWrong)

/-- 'laws.FnExactIntMod': WHATEVER THE INPUT: true; the input reads as it did. -/
def fnExactIntModSpec : ChangeSpec := { name := "fnExactIntMod", fn := fun _ => fun
  | [d1, d2] => { results := [.lit (.bool true)], args := [d1, d2] }
  | _ => none }
def fnExactIntModRow : OpenClaim := { program := "ytckmpenlpkhnfaa", sum := "65f3cc656d58b6de2866db336589db5feed34224456d6a09a9194690a3f891aa", func := "loop.example/slowworm/laws.FnExactIntMod", spec := "fnExactIntMod", apart := false }
def FnExactIntModSaid : Prop := fnExactIntModRow.holds Try.pinned (OpenSpec.ofChange fnExactIntModSpec)

/-- ITS FALSE NEIGHBOUR: 'it returns false'. Refute it at one input. -/
def fnExactIntModWrong : ChangeSpec := { name := "fnExactIntMod", fn := fun _ => fun
  | [d1, d2] => { results := [.lit (.bool false)], args := [d1, d2] }
  | _ => none }
def FnExactIntModWrongFalsely : Prop := fnExactIntModRow.holds Try.pinned (OpenSpec.ofChange fnExactIntModWrong)

/-- 'laws.FnExactIntPow': WHATEVER THE INPUT: true; the input reads as it did. -/
def fnExactIntPowSpec : ChangeSpec := { name := "fnExactIntPow", fn := fun _ => fun
  | [d1, d2] => { results := [.lit (.bool true)], args := [d1, d2] }
  | _ => none }
def fnExactIntPowRow : OpenClaim := { program := "ytckmpenlpkhnfaa", sum := "65f3cc656d58b6de2866db336589db5feed34224456d6a09a9194690a3f891aa", func := "loop.example/slowworm/laws.FnExactIntPow", spec := "fnExactIntPow", apart := false }
def FnExactIntPowSaid : Prop := fnExactIntPowRow.holds Try.pinned (OpenSpec.ofChange fnExactIntPowSpec)

/-- ITS FALSE NEIGHBOUR: 'it returns false'. Refute it at one input. -/
def fnExactIntPowWrong : ChangeSpec := { name := "fnExactIntPow", fn := fun _ => fun
  | [d1, d2] => { results := [.lit (.bool false)], args := [d1, d2] }
  | _ => none }
def FnExactIntPowWrongFalsely : Prop := fnExactIntPowRow.holds Try.pinned (OpenSpec.ofChange fnExactIntPowWrong)

/-- 'laws.FnExactIntCmp': WHATEVER THE INPUT: true; the input reads as it did. -/
def fnExactIntCmpSpec : ChangeSpec := { name := "fnExactIntCmp", fn := fun _ => fun
  | [d1, d2] => { results := [.lit (.bool true)], args := [d1, d2] }
  | _ => none }
def fnExactIntCmpRow : OpenClaim := { program := "ytckmpenlpkhnfaa", sum := "65f3cc656d58b6de2866db336589db5feed34224456d6a09a9194690a3f891aa", func := "loop.example/slowworm/laws.FnExactIntCmp", spec := "fnExactIntCmp", apart := false }
def FnExactIntCmpSaid : Prop := fnExactIntCmpRow.holds Try.pinned (OpenSpec.ofChange fnExactIntCmpSpec)

/-- ITS FALSE NEIGHBOUR: 'it returns false'. Refute it at one input. -/
def fnExactIntCmpWrong : ChangeSpec := { name := "fnExactIntCmp", fn := fun _ => fun
  | [d1, d2] => { results := [.lit (.bool false)], args := [d1, d2] }
  | _ => none }
def FnExactIntCmpWrongFalsely : Prop := fnExactIntCmpRow.holds Try.pinned (OpenSpec.ofChange fnExactIntCmpWrong)

/-- 'laws.FnExactIntRoot': WHATEVER THE INPUT: true; the input reads as it did. -/
def fnExactIntRootSpec : ChangeSpec := { name := "fnExactIntRoot", fn := fun _ => fun
  | [d] => { results := [.lit (.bool true)], args := [d] }
  | _ => none }
def fnExactIntRootRow : OpenClaim := { program := "ytckmpenlpkhnfaa", sum := "65f3cc656d58b6de2866db336589db5feed34224456d6a09a9194690a3f891aa", func := "loop.example/slowworm/laws.FnExactIntRoot", spec := "fnExactIntRoot", apart := false }
def FnExactIntRootSaid : Prop := fnExactIntRootRow.holds Try.pinned (OpenSpec.ofChange fnExactIntRootSpec)

/-- ITS FALSE NEIGHBOUR: 'it returns false'. Refute it at one input. -/
def fnExactIntRootWrong : ChangeSpec := { name := "fnExactIntRoot", fn := fun _ => fun
  | [d] => { results := [.lit (.bool false)], args := [d] }
  | _ => none }
def FnExactIntRootWrongFalsely : Prop := fnExactIntRootRow.holds Try.pinned (OpenSpec.ofChange fnExactIntRootWrong)

/-- 'laws.FnIntOk': WHATEVER THE INPUT: true; the input reads as it did. -/
def fnIntOkSpec : ChangeSpec := { name := "fnIntOk", fn := fun _ => fun
  | [d] => { results := [.lit (.bool true)], args := [d] }
  | _ => none }
def fnIntOkRow : OpenClaim := { program := "ytckmpenlpkhnfaa", sum := "65f3cc656d58b6de2866db336589db5feed34224456d6a09a9194690a3f891aa", func := "loop.example/slowworm/laws.FnIntOk", spec := "fnIntOk", apart := false }
def FnIntOkSaid : Prop := fnIntOkRow.holds Try.pinned (OpenSpec.ofChange fnIntOkSpec)

/-- ITS FALSE NEIGHBOUR: 'it returns false'. Refute it at one input. -/
def fnIntOkWrong : ChangeSpec := { name := "fnIntOk", fn := fun _ => fun
  | [d] => { results := [.lit (.bool false)], args := [d] }
  | _ => none }
def FnIntOkWrongFalsely : Prop := fnIntOkRow.holds Try.pinned (OpenSpec.ofChange fnIntOkWrong)

/-- 'laws.FnIntAdd': WHATEVER THE INPUT: true; the input reads as it did. -/
def fnIntAddSpec : ChangeSpec := { name := "fnIntAdd", fn := fun _ => fun
  | [d] => { results := [.lit (.bool true)], args := [d] }
  | _ => none }
def fnIntAddRow : OpenClaim := { program := "ytckmpenlpkhnfaa", sum := "65f3cc656d58b6de2866db336589db5feed34224456d6a09a9194690a3f891aa", func := "loop.example/slowworm/laws.FnIntAdd", spec := "fnIntAdd", apart := false }
def FnIntAddSaid : Prop := fnIntAddRow.holds Try.pinned (OpenSpec.ofChange fnIntAddSpec)

/-- ITS FALSE NEIGHBOUR: 'it returns false'. Refute it at one input. -/
def fnIntAddWrong : ChangeSpec := { name := "fnIntAdd", fn := fun _ => fun
  | [d] => { results := [.lit (.bool false)], args := [d] }
  | _ => none }
def FnIntAddWrongFalsely : Prop := fnIntAddRow.holds Try.pinned (OpenSpec.ofChange fnIntAddWrong)

/-- 'laws.FnIntSub': WHATEVER THE INPUT: true; the input reads as it did. -/
def fnIntSubSpec : ChangeSpec := { name := "fnIntSub", fn := fun _ => fun
  | [d] => { results := [.lit (.bool true)], args := [d] }
  | _ => none }
def fnIntSubRow : OpenClaim := { program := "ytckmpenlpkhnfaa", sum := "65f3cc656d58b6de2866db336589db5feed34224456d6a09a9194690a3f891aa", func := "loop.example/slowworm/laws.FnIntSub", spec := "fnIntSub", apart := false }
def FnIntSubSaid : Prop := fnIntSubRow.holds Try.pinned (OpenSpec.ofChange fnIntSubSpec)

/-- ITS FALSE NEIGHBOUR: 'it returns false'. Refute it at one input. -/
def fnIntSubWrong : ChangeSpec := { name := "fnIntSub", fn := fun _ => fun
  | [d] => { results := [.lit (.bool false)], args := [d] }
  | _ => none }
def FnIntSubWrongFalsely : Prop := fnIntSubRow.holds Try.pinned (OpenSpec.ofChange fnIntSubWrong)

/- THE SECOND FORM. 'bulk': how many values and letters a reading holds, each counted each time it is reached (what is shared counts as often as it is met; a slice's spare places count too). A statement '..UptoSaid' is the law's where the arguments, and the package variables that the reading takes, are together of bulk at most 1048576: NARROWER than '..Said'. Prove '..Said' where nothing that the law and all that it calls make is longer than what came in: it says more and counts as full. Else prove '..UptoSaid'. A law counts once. -/
mutual
def uptoBulk {H : Type} : DataW H → Nat
  | .lit (.string bytes) => bytes.length + 1
  | .lit _ => 1
  | .nil => 1
  | .ptr d => uptoBulk d + 1
  | .slice elems spare => uptoBulkAll elems + uptoBulkAll spare + 1
  | .agg parts => uptoBulkAll parts + 1
  | .iface _ d => uptoBulk d + 1
  | .map entries => uptoBulkEntries entries + 1
  | .held _ => 1
def uptoBulkAll {H : Type} : List (DataW H) → Nat
  | [] => 0
  | d :: r => uptoBulk d + uptoBulkAll r
def uptoBulkEntries {H : Type} : List (Lit × DataW H) → Nat
  | [] => 0
  | x :: r => uptoBulkEntry x + uptoBulkEntries r
def uptoBulkEntry {H : Type} : Lit × DataW H → Nat
  | (.string bytes, d) => bytes.length + uptoBulk d + 1
  | (_, d) => uptoBulk d + 1
 end
def uptoSmall : (H : Type) → List (DataW H) → Bool := fun _ ds => decide (uptoBulkAll ds ≤ 1048576)
def OpenSpec.upto (s : _root_.Go.ChangeSpec) : _root_.Go.OpenSpec := { _root_.Go.OpenSpec.ofChange s with cond := some uptoSmall }

/-- 'laws.FnExactIntOk', WHERE WHAT IT READS IS OF BULK AT MOST 1048576: true; the input reads as it did. -/
def fnExactIntOkUptoRow : OpenClaim := { program := "ytckmpenlpkhnfaa", sum := "65f3cc656d58b6de2866db336589db5feed34224456d6a09a9194690a3f891aa", func := "loop.example/slowworm/laws.FnExactIntOk", spec := "fnExactIntOk", apart := false, narrowed := true }
def FnExactIntOkUptoSaid : Prop := fnExactIntOkUptoRow.holds Try.pinned (OpenSpec.upto fnExactIntOkSpec)

/-- 'laws.FnExactIntAdd', WHERE WHAT IT READS IS OF BULK AT MOST 1048576: true; the input reads as it did. -/
def fnExactIntAddUptoRow : OpenClaim := { program := "ytckmpenlpkhnfaa", sum := "65f3cc656d58b6de2866db336589db5feed34224456d6a09a9194690a3f891aa", func := "loop.example/slowworm/laws.FnExactIntAdd", spec := "fnExactIntAdd", apart := false, narrowed := true }
def FnExactIntAddUptoSaid : Prop := fnExactIntAddUptoRow.holds Try.pinned (OpenSpec.upto fnExactIntAddSpec)

/-- 'laws.FnExactIntSub', WHERE WHAT IT READS IS OF BULK AT MOST 1048576: true; the input reads as it did. -/
def fnExactIntSubUptoRow : OpenClaim := { program := "ytckmpenlpkhnfaa", sum := "65f3cc656d58b6de2866db336589db5feed34224456d6a09a9194690a3f891aa", func := "loop.example/slowworm/laws.FnExactIntSub", spec := "fnExactIntSub", apart := false, narrowed := true }
def FnExactIntSubUptoSaid : Prop := fnExactIntSubUptoRow.holds Try.pinned (OpenSpec.upto fnExactIntSubSpec)

/-- 'laws.FnExactIntMul', WHERE WHAT IT READS IS OF BULK AT MOST 1048576: true; the input reads as it did. -/
def fnExactIntMulUptoRow : OpenClaim := { program := "ytckmpenlpkhnfaa", sum := "65f3cc656d58b6de2866db336589db5feed34224456d6a09a9194690a3f891aa", func := "loop.example/slowworm/laws.FnExactIntMul", spec := "fnExactIntMul", apart := false, narrowed := true }
def FnExactIntMulUptoSaid : Prop := fnExactIntMulUptoRow.holds Try.pinned (OpenSpec.upto fnExactIntMulSpec)

/-- 'laws.FnExactIntDiv', WHERE WHAT IT READS IS OF BULK AT MOST 1048576: true; the input reads as it did. -/
def fnExactIntDivUptoRow : OpenClaim := { program := "ytckmpenlpkhnfaa", sum := "65f3cc656d58b6de2866db336589db5feed34224456d6a09a9194690a3f891aa", func := "loop.example/slowworm/laws.FnExactIntDiv", spec := "fnExactIntDiv", apart := false, narrowed := true }
def FnExactIntDivUptoSaid : Prop := fnExactIntDivUptoRow.holds Try.pinned (OpenSpec.upto fnExactIntDivSpec)

/-- 'laws.FnExactIntMod', WHERE WHAT IT READS IS OF BULK AT MOST 1048576: true; the input reads as it did. -/
def fnExactIntModUptoRow : OpenClaim := { program := "ytckmpenlpkhnfaa", sum := "65f3cc656d58b6de2866db336589db5feed34224456d6a09a9194690a3f891aa", func := "loop.example/slowworm/laws.FnExactIntMod", spec := "fnExactIntMod", apart := false, narrowed := true }
def FnExactIntModUptoSaid : Prop := fnExactIntModUptoRow.holds Try.pinned (OpenSpec.upto fnExactIntModSpec)

/-- 'laws.FnExactIntPow', WHERE WHAT IT READS IS OF BULK AT MOST 1048576: true; the input reads as it did. -/
def fnExactIntPowUptoRow : OpenClaim := { program := "ytckmpenlpkhnfaa", sum := "65f3cc656d58b6de2866db336589db5feed34224456d6a09a9194690a3f891aa", func := "loop.example/slowworm/laws.FnExactIntPow", spec := "fnExactIntPow", apart := false, narrowed := true }
def FnExactIntPowUptoSaid : Prop := fnExactIntPowUptoRow.holds Try.pinned (OpenSpec.upto fnExactIntPowSpec)

/-- 'laws.FnExactIntCmp', WHERE WHAT IT READS IS OF BULK AT MOST 1048576: true; the input reads as it did. -/
def fnExactIntCmpUptoRow : OpenClaim := { program := "ytckmpenlpkhnfaa", sum := "65f3cc656d58b6de2866db336589db5feed34224456d6a09a9194690a3f891aa", func := "loop.example/slowworm/laws.FnExactIntCmp", spec := "fnExactIntCmp", apart := false, narrowed := true }
def FnExactIntCmpUptoSaid : Prop := fnExactIntCmpUptoRow.holds Try.pinned (OpenSpec.upto fnExactIntCmpSpec)

/-- 'laws.FnExactIntRoot', WHERE WHAT IT READS IS OF BULK AT MOST 1048576: true; the input reads as it did. -/
def fnExactIntRootUptoRow : OpenClaim := { program := "ytckmpenlpkhnfaa", sum := "65f3cc656d58b6de2866db336589db5feed34224456d6a09a9194690a3f891aa", func := "loop.example/slowworm/laws.FnExactIntRoot", spec := "fnExactIntRoot", apart := false, narrowed := true }
def FnExactIntRootUptoSaid : Prop := fnExactIntRootUptoRow.holds Try.pinned (OpenSpec.upto fnExactIntRootSpec)

/-- 'laws.FnIntOk', WHERE WHAT IT READS IS OF BULK AT MOST 1048576: true; the input reads as it did. -/
def fnIntOkUptoRow : OpenClaim := { program := "ytckmpenlpkhnfaa", sum := "65f3cc656d58b6de2866db336589db5feed34224456d6a09a9194690a3f891aa", func := "loop.example/slowworm/laws.FnIntOk", spec := "fnIntOk", apart := false, narrowed := true }
def FnIntOkUptoSaid : Prop := fnIntOkUptoRow.holds Try.pinned (OpenSpec.upto fnIntOkSpec)

/-- 'laws.FnIntAdd', WHERE WHAT IT READS IS OF BULK AT MOST 1048576: true; the input reads as it did. -/
def fnIntAddUptoRow : OpenClaim := { program := "ytckmpenlpkhnfaa", sum := "65f3cc656d58b6de2866db336589db5feed34224456d6a09a9194690a3f891aa", func := "loop.example/slowworm/laws.FnIntAdd", spec := "fnIntAdd", apart := false, narrowed := true }
def FnIntAddUptoSaid : Prop := fnIntAddUptoRow.holds Try.pinned (OpenSpec.upto fnIntAddSpec)

/-- 'laws.FnIntSub', WHERE WHAT IT READS IS OF BULK AT MOST 1048576: true; the input reads as it did. -/
def fnIntSubUptoRow : OpenClaim := { program := "ytckmpenlpkhnfaa", sum := "65f3cc656d58b6de2866db336589db5feed34224456d6a09a9194690a3f891aa", func := "loop.example/slowworm/laws.FnIntSub", spec := "fnIntSub", apart := false, narrowed := true }
def FnIntSubUptoSaid : Prop := fnIntSubUptoRow.holds Try.pinned (OpenSpec.upto fnIntSubSpec)

end Rows
end Go.Proofs.Ytckmpenlpkhnfaa
