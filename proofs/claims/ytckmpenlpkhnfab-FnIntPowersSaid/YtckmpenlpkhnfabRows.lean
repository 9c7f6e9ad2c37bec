/-
  No cell of these rows narrows 'for every input' (looked for: loops, veiled, ifaces, maps, wideKeys, modest, calm, conditions, laid).
  DERIVED. THE GIVEN ROWS OF THIS SEAT. 12 by the template 'for every input the law returns true; each argument reads behind the call as it read before'; 0 by the template 'total and deterministic' (their statements: YtckmpenlpkhnfabTotals.lean).
  GIVEN WITH THE SEED: the statements are not yours to turn. If you find one false, say at which input.
  Laid BY PROGRAM, IN A SANDBOX (cutbox-rows.mjs): the forced cells as the released guide's own fill.sh prints them over the translation 9c08ebdcf3c3b045… (all of the seat's roots in one cut). By AI agents, Wed Nov 11 2026. No macro, syntax, notation, axiom, sorry.
-/
import Derived.Test.YtckmpenlpkhnfabChecked
import GoSem.Claim
import GoSem.ClaimJoined
import GoSem.ClaimMapViews
import Derived.JoinedTies
import Derived.KernelRfl
namespace Go.Proofs.Ytckmpenlpkhnfab
/- THE CELL 'sum', in the pinned program and in every row, IS THE sha256 OF THE DUMP (.gsa) THAT YtckmpenlpkhnfabProg.lean LOADS. Nothing in Lean hashes anything: it is a label: what it is worth is what the hold of that sum in a sandbox is worth. -/
noncomputable def Try.pinned : Pinned := { name := "ytckmpenlpkhnfab", sum := "9c08ebdcf3c3b0451fb11b263f7a39456bbf1dbdfec1d5dc4b72a901909d52b8", checked := Try.checked }
namespace Rows
def none {H : Type} : Left H := { results := [], args := [] }

/-- 'laws.FnIntMul': WHATEVER THE INPUT: true; the input reads as it did. -/
def fnIntMulSpec : ChangeSpec := { name := "fnIntMul", fn := fun _ => fun
  | [d] => { results := [.lit (.bool true)], args := [d] }
  | _ => none }
def fnIntMulRow : OpenClaim := { program := "ytckmpenlpkhnfab", sum := "9c08ebdcf3c3b0451fb11b263f7a39456bbf1dbdfec1d5dc4b72a901909d52b8", func := "loop.example/slowworm/laws.FnIntMul", spec := "fnIntMul", apart := false }
def FnIntMulSaid : Prop := fnIntMulRow.holds Try.pinned (OpenSpec.ofChange fnIntMulSpec)

/-- ITS FALSE NEIGHBOUR: 'it returns false'. Refute it at one input. -/
def fnIntMulWrong : ChangeSpec := { name := "fnIntMul", fn := fun _ => fun
  | [d] => { results := [.lit (.bool false)], args := [d] }
  | _ => none }
def FnIntMulWrongFalsely : Prop := fnIntMulRow.holds Try.pinned (OpenSpec.ofChange fnIntMulWrong)

/-- 'laws.FnIntDiv': WHATEVER THE INPUT: true; the input reads as it did. -/
def fnIntDivSpec : ChangeSpec := { name := "fnIntDiv", fn := fun _ => fun
  | [d] => { results := [.lit (.bool true)], args := [d] }
  | _ => none }
def fnIntDivRow : OpenClaim := { program := "ytckmpenlpkhnfab", sum := "9c08ebdcf3c3b0451fb11b263f7a39456bbf1dbdfec1d5dc4b72a901909d52b8", func := "loop.example/slowworm/laws.FnIntDiv", spec := "fnIntDiv", apart := false }
def FnIntDivSaid : Prop := fnIntDivRow.holds Try.pinned (OpenSpec.ofChange fnIntDivSpec)

/-- ITS FALSE NEIGHBOUR: 'it returns false'. Refute it at one input. -/
def fnIntDivWrong : ChangeSpec := { name := "fnIntDiv", fn := fun _ => fun
  | [d] => { results := [.lit (.bool false)], args := [d] }
  | _ => none }
def FnIntDivWrongFalsely : Prop := fnIntDivRow.holds Try.pinned (OpenSpec.ofChange fnIntDivWrong)

/-- 'laws.FnIntMod': WHATEVER THE INPUT: true; the input reads as it did. -/
def fnIntModSpec : ChangeSpec := { name := "fnIntMod", fn := fun _ => fun
  | [d] => { results := [.lit (.bool true)], args := [d] }
  | _ => none }
def fnIntModRow : OpenClaim := { program := "ytckmpenlpkhnfab", sum := "9c08ebdcf3c3b0451fb11b263f7a39456bbf1dbdfec1d5dc4b72a901909d52b8", func := "loop.example/slowworm/laws.FnIntMod", spec := "fnIntMod", apart := false }
def FnIntModSaid : Prop := fnIntModRow.holds Try.pinned (OpenSpec.ofChange fnIntModSpec)

/-- ITS FALSE NEIGHBOUR: 'it returns false'. Refute it at one input. -/
def fnIntModWrong : ChangeSpec := { name := "fnIntMod", fn := fun _ => fun
  | [d] => { results := [.lit (.bool false)], args := [d] }
  | _ => none }
def FnIntModWrongFalsely : Prop := fnIntModRow.holds Try.pinned (OpenSpec.ofChange fnIntModWrong)

/-- 'laws.FnIntPow': WHATEVER THE INPUT: true; the input reads as it did. -/
def fnIntPowSpec : ChangeSpec := { name := "fnIntPow", fn := fun _ => fun
  | [d] => { results := [.lit (.bool true)], args := [d] }
  | _ => none }
def fnIntPowRow : OpenClaim := { program := "ytckmpenlpkhnfab", sum := "9c08ebdcf3c3b0451fb11b263f7a39456bbf1dbdfec1d5dc4b72a901909d52b8", func := "loop.example/slowworm/laws.FnIntPow", spec := "fnIntPow", apart := false }
def FnIntPowSaid : Prop := fnIntPowRow.holds Try.pinned (OpenSpec.ofChange fnIntPowSpec)

/-- ITS FALSE NEIGHBOUR: 'it returns false'. Refute it at one input. -/
def fnIntPowWrong : ChangeSpec := { name := "fnIntPow", fn := fun _ => fun
  | [d] => { results := [.lit (.bool false)], args := [d] }
  | _ => none }
def FnIntPowWrongFalsely : Prop := fnIntPowRow.holds Try.pinned (OpenSpec.ofChange fnIntPowWrong)

/-- 'laws.FnIntCmp': WHATEVER THE INPUT: true; the input reads as it did. -/
def fnIntCmpSpec : ChangeSpec := { name := "fnIntCmp", fn := fun _ => fun
  | [d] => { results := [.lit (.bool true)], args := [d] }
  | _ => none }
def fnIntCmpRow : OpenClaim := { program := "ytckmpenlpkhnfab", sum := "9c08ebdcf3c3b0451fb11b263f7a39456bbf1dbdfec1d5dc4b72a901909d52b8", func := "loop.example/slowworm/laws.FnIntCmp", spec := "fnIntCmp", apart := false }
def FnIntCmpSaid : Prop := fnIntCmpRow.holds Try.pinned (OpenSpec.ofChange fnIntCmpSpec)

/-- ITS FALSE NEIGHBOUR: 'it returns false'. Refute it at one input. -/
def fnIntCmpWrong : ChangeSpec := { name := "fnIntCmp", fn := fun _ => fun
  | [d] => { results := [.lit (.bool false)], args := [d] }
  | _ => none }
def FnIntCmpWrongFalsely : Prop := fnIntCmpRow.holds Try.pinned (OpenSpec.ofChange fnIntCmpWrong)

/-- 'laws.FnIntRoot': WHATEVER THE INPUT: true; the input reads as it did. -/
def fnIntRootSpec : ChangeSpec := { name := "fnIntRoot", fn := fun _ => fun
  | [d] => { results := [.lit (.bool true)], args := [d] }
  | _ => none }
def fnIntRootRow : OpenClaim := { program := "ytckmpenlpkhnfab", sum := "9c08ebdcf3c3b0451fb11b263f7a39456bbf1dbdfec1d5dc4b72a901909d52b8", func := "loop.example/slowworm/laws.FnIntRoot", spec := "fnIntRoot", apart := false }
def FnIntRootSaid : Prop := fnIntRootRow.holds Try.pinned (OpenSpec.ofChange fnIntRootSpec)

/-- ITS FALSE NEIGHBOUR: 'it returns false'. Refute it at one input. -/
def fnIntRootWrong : ChangeSpec := { name := "fnIntRoot", fn := fun _ => fun
  | [d] => { results := [.lit (.bool false)], args := [d] }
  | _ => none }
def FnIntRootWrongFalsely : Prop := fnIntRootRow.holds Try.pinned (OpenSpec.ofChange fnIntRootWrong)

/-- 'laws.FnIntShares': WHATEVER THE INPUT: true; the input reads as it did. -/
def fnIntSharesSpec : ChangeSpec := { name := "fnIntShares", fn := fun _ => fun
  | [d] => { results := [.lit (.bool true)], args := [d] }
  | _ => none }
def fnIntSharesRow : OpenClaim := { program := "ytckmpenlpkhnfab", sum := "9c08ebdcf3c3b0451fb11b263f7a39456bbf1dbdfec1d5dc4b72a901909d52b8", func := "loop.example/slowworm/laws.FnIntShares", spec := "fnIntShares", apart := false }
def FnIntSharesSaid : Prop := fnIntSharesRow.holds Try.pinned (OpenSpec.ofChange fnIntSharesSpec)

/-- ITS FALSE NEIGHBOUR: 'it returns false'. Refute it at one input. -/
def fnIntSharesWrong : ChangeSpec := { name := "fnIntShares", fn := fun _ => fun
  | [d] => { results := [.lit (.bool false)], args := [d] }
  | _ => none }
def FnIntSharesWrongFalsely : Prop := fnIntSharesRow.holds Try.pinned (OpenSpec.ofChange fnIntSharesWrong)

/-- 'laws.FnIntTriples': WHATEVER THE INPUT: true; the input reads as it did. -/
def fnIntTriplesSpec : ChangeSpec := { name := "fnIntTriples", fn := fun _ => fun
  | [d] => { results := [.lit (.bool true)], args := [d] }
  | _ => none }
def fnIntTriplesRow : OpenClaim := { program := "ytckmpenlpkhnfab", sum := "9c08ebdcf3c3b0451fb11b263f7a39456bbf1dbdfec1d5dc4b72a901909d52b8", func := "loop.example/slowworm/laws.FnIntTriples", spec := "fnIntTriples", apart := false }
def FnIntTriplesSaid : Prop := fnIntTriplesRow.holds Try.pinned (OpenSpec.ofChange fnIntTriplesSpec)

/-- ITS FALSE NEIGHBOUR: 'it returns false'. Refute it at one input. -/
def fnIntTriplesWrong : ChangeSpec := { name := "fnIntTriples", fn := fun _ => fun
  | [d] => { results := [.lit (.bool false)], args := [d] }
  | _ => none }
def FnIntTriplesWrongFalsely : Prop := fnIntTriplesRow.holds Try.pinned (OpenSpec.ofChange fnIntTriplesWrong)

/-- 'laws.FnIntPowers': WHATEVER THE INPUT: true; the input reads as it did. -/
def fnIntPowersSpec : ChangeSpec := { name := "fnIntPowers", fn := fun _ => fun
  | [d] => { results := [.lit (.bool true)], args := [d] }
  | _ => none }
def fnIntPowersRow : OpenClaim := { program := "ytckmpenlpkhnfab", sum := "9c08ebdcf3c3b0451fb11b263f7a39456bbf1dbdfec1d5dc4b72a901909d52b8", func := "loop.example/slowworm/laws.FnIntPowers", spec := "fnIntPowers", apart := false }
def FnIntPowersSaid : Prop := fnIntPowersRow.holds Try.pinned (OpenSpec.ofChange fnIntPowersSpec)

/-- ITS FALSE NEIGHBOUR: 'it returns false'. Refute it at one input. -/
def fnIntPowersWrong : ChangeSpec := { name := "fnIntPowers", fn := fun _ => fun
  | [d] => { results := [.lit (.bool false)], args := [d] }
  | _ => none }
def FnIntPowersWrongFalsely : Prop := fnIntPowersRow.holds Try.pinned (OpenSpec.ofChange fnIntPowersWrong)

/-- 'laws.FnIntPowerOf': WHATEVER THE INPUT: true; the input reads as it did. -/
def fnIntPowerOfSpec : ChangeSpec := { name := "fnIntPowerOf", fn := fun _ => fun
  | [d] => { results := [.lit (.bool true)], args := [d] }
  | _ => none }
def fnIntPowerOfRow : OpenClaim := { program := "ytckmpenlpkhnfab", sum := "9c08ebdcf3c3b0451fb11b263f7a39456bbf1dbdfec1d5dc4b72a901909d52b8", func := "loop.example/slowworm/laws.FnIntPowerOf", spec := "fnIntPowerOf", apart := false }
def FnIntPowerOfSaid : Prop := fnIntPowerOfRow.holds Try.pinned (OpenSpec.ofChange fnIntPowerOfSpec)

/-- ITS FALSE NEIGHBOUR: 'it returns false'. Refute it at one input. -/
def fnIntPowerOfWrong : ChangeSpec := { name := "fnIntPowerOf", fn := fun _ => fun
  | [d] => { results := [.lit (.bool false)], args := [d] }
  | _ => none }
def FnIntPowerOfWrongFalsely : Prop := fnIntPowerOfRow.holds Try.pinned (OpenSpec.ofChange fnIntPowerOfWrong)

/-- 'laws.FnIntShift': WHATEVER THE INPUT: true; the input reads as it did. -/
def fnIntShiftSpec : ChangeSpec := { name := "fnIntShift", fn := fun _ => fun
  | [d] => { results := [.lit (.bool true)], args := [d] }
  | _ => none }
def fnIntShiftRow : OpenClaim := { program := "ytckmpenlpkhnfab", sum := "9c08ebdcf3c3b0451fb11b263f7a39456bbf1dbdfec1d5dc4b72a901909d52b8", func := "loop.example/slowworm/laws.FnIntShift", spec := "fnIntShift", apart := false }
def FnIntShiftSaid : Prop := fnIntShiftRow.holds Try.pinned (OpenSpec.ofChange fnIntShiftSpec)

/-- ITS FALSE NEIGHBOUR: 'it returns false'. Refute it at one input. -/
def fnIntShiftWrong : ChangeSpec := { name := "fnIntShift", fn := fun _ => fun
  | [d] => { results := [.lit (.bool false)], args := [d] }
  | _ => none }
def FnIntShiftWrongFalsely : Prop := fnIntShiftRow.holds Try.pinned (OpenSpec.ofChange fnIntShiftWrong)

/-- 'laws.FnIntOrder': WHATEVER THE INPUT: true; the input reads as it did. -/
def fnIntOrderSpec : ChangeSpec := { name := "fnIntOrder", fn := fun _ => fun
  | [d] => { results := [.lit (.bool true)], args := [d] }
  | _ => none }
def fnIntOrderRow : OpenClaim := { program := "ytckmpenlpkhnfab", sum := "9c08ebdcf3c3b0451fb11b263f7a39456bbf1dbdfec1d5dc4b72a901909d52b8", func := "loop.example/slowworm/laws.FnIntOrder", spec := "fnIntOrder", apart := false }
def FnIntOrderSaid : Prop := fnIntOrderRow.holds Try.pinned (OpenSpec.ofChange fnIntOrderSpec)

/-- ITS FALSE NEIGHBOUR: 'it returns false'. Refute it at one input. -/
def fnIntOrderWrong : ChangeSpec := { name := "fnIntOrder", fn := fun _ => fun
  | [d] => { results := [.lit (.bool false)], args := [d] }
  | _ => none }
def FnIntOrderWrongFalsely : Prop := fnIntOrderRow.holds Try.pinned (OpenSpec.ofChange fnIntOrderWrong)

/- THE SECOND FORM. 'bulk': how many values and letters a reading holds, each counted each time it is reached (what is shared counts as often as it is met; a slice's spare places count too). A statement '..UptoSaid' is the law's where the arguments, and the package variables that the reading takes, are together of bulk at most 1048576: NARROWER than '..Said'. Prove '..Said' where nothing that the law and all that it calls make is longer than what came in: it says more and counts as full. Else prove '..UptoSaid'. A law counts once. -/
mutual
def uptoBulk {H : Type} : DataW H → Nat
  | .lit (.string bytes) => bytes.length + 1
  | .lit _ => 1
  | .nil => 1
  | .ptr d => uptoBulk d + 1
  | .slice elems spare => uptoBulkAll elems + uptoBulkAll spare + 1
  | .agg parts => uptoBulkAll parts + 1
  | .iface _ d => uptoBulk d + 1
  | .map entries => uptoBulkEntries entries + 1
  | .held _ => 1
def uptoBulkAll {H : Type} : List (DataW H) → Nat
  | [] => 0
  | d :: r => uptoBulk d + uptoBulkAll r
def uptoBulkEntries {H : Type} : List (Lit × DataW H) → Nat
  | [] => 0
  | x :: r => uptoBulkEntry x + uptoBulkEntries r
def uptoBulkEntry {H : Type} : Lit × DataW H → Nat
  | (.string bytes, d) => bytes.length + uptoBulk d + 1
  | (_, d) => uptoBulk d + 1
 end
def uptoSmall : (H : Type) → List (DataW H) → Bool := fun _ ds => decide (uptoBulkAll ds ≤ 1048576)
def OpenSpec.upto (s : _root_.Go.ChangeSpec) : _root_.Go.OpenSpec := { _root_.Go.OpenSpec.ofChange s with cond := some uptoSmall }

/-- 'laws.FnIntMul', WHERE WHAT IT READS IS OF BULK AT MOST 1048576: true; the input reads as it did. -/
def fnIntMulUptoRow : OpenClaim := { program := "ytckmpenlpkhnfab", sum := "9c08ebdcf3c3b0451fb11b263f7a39456bbf1dbdfec1d5dc4b72a901909d52b8", func := "loop.example/slowworm/laws.FnIntMul", spec := "fnIntMul", apart := false, narrowed := true }
def FnIntMulUptoSaid : Prop := fnIntMulUptoRow.holds Try.pinned (OpenSpec.upto fnIntMulSpec)

/-- 'laws.FnIntDiv', WHERE WHAT IT READS IS OF BULK AT MOST 1048576: true; the input reads as it did. -/
def fnIntDivUptoRow : OpenClaim := { program := "ytckmpenlpkhnfab", sum := "9c08ebdcf3c3b0451fb11b263f7a39456bbf1dbdfec1d5dc4b72a901909d52b8", func := "loop.example/slowworm/laws.FnIntDiv", spec := "fnIntDiv", apart := false, narrowed := true }
def FnIntDivUptoSaid : Prop := fnIntDivUptoRow.holds Try.pinned (OpenSpec.upto fnIntDivSpec)

/-- 'laws.FnIntMod', WHERE WHAT IT READS IS OF BULK AT MOST 1048576: true; the input reads as it did. -/
def fnIntModUptoRow : OpenClaim := { program := "ytckmpenlpkhnfab", sum := "9c08ebdcf3c3b0451fb11b263f7a39456bbf1dbdfec1d5dc4b72a901909d52b8", func := "loop.example/slowworm/laws.FnIntMod", spec := "fnIntMod", apart := false, narrowed := true }
def FnIntModUptoSaid : Prop := fnIntModUptoRow.holds Try.pinned (OpenSpec.upto fnIntModSpec)

/-- 'laws.FnIntPow', WHERE WHAT IT READS IS OF BULK AT MOST 1048576: true; the input reads as it did. -/
def fnIntPowUptoRow : OpenClaim := { program := "ytckmpenlpkhnfab", sum := "9c08ebdcf3c3b0451fb11b263f7a39456bbf1dbdfec1d5dc4b72a901909d52b8", func := "loop.example/slowworm/laws.FnIntPow", spec := "fnIntPow", apart := false, narrowed := true }
def FnIntPowUptoSaid : Prop := fnIntPowUptoRow.holds Try.pinned (OpenSpec.upto fnIntPowSpec)

/-- 'laws.FnIntCmp', WHERE WHAT IT READS IS OF BULK AT MOST 1048576: true; the input reads as it did. -/
def fnIntCmpUptoRow : OpenClaim := { program := "ytckmpenlpkhnfab", sum := "9c08ebdcf3c3b0451fb11b263f7a39456bbf1dbdfec1d5dc4b72a901909d52b8", func := "loop.example/slowworm/laws.FnIntCmp", spec := "fnIntCmp", apart := false, narrowed := true }
def FnIntCmpUptoSaid : Prop := fnIntCmpUptoRow.holds Try.pinned (OpenSpec.upto fnIntCmpSpec)

/-- 'laws.FnIntRoot', WHERE WHAT IT READS IS OF BULK AT MOST 1048576: true; the input reads as it did. -/
def fnIntRootUptoRow : OpenClaim := { program := "ytckmpenlpkhnfab", sum := "9c08ebdcf3c3b0451fb11b263f7a39456bbf1dbdfec1d5dc4b72a901909d52b8", func := "loop.example/slowworm/laws.FnIntRoot", spec := "fnIntRoot", apart := false, narrowed := true }
def FnIntRootUptoSaid : Prop := fnIntRootUptoRow.holds Try.pinned (OpenSpec.upto fnIntRootSpec)

/-- 'laws.FnIntShares', WHERE WHAT IT READS IS OF BULK AT MOST 1048576: true; the input reads as it did. -/
def fnIntSharesUptoRow : OpenClaim := { program := "ytckmpenlpkhnfab", sum := "9c08ebdcf3c3b0451fb11b263f7a39456bbf1dbdfec1d5dc4b72a901909d52b8", func := "loop.example/slowworm/laws.FnIntShares", spec := "fnIntShares", apart := false, narrowed := true }
def FnIntSharesUptoSaid : Prop := fnIntSharesUptoRow.holds Try.pinned (OpenSpec.upto fnIntSharesSpec)

/-- 'laws.FnIntTriples', WHERE WHAT IT READS IS OF BULK AT MOST 1048576: true; the input reads as it did. -/
def fnIntTriplesUptoRow : OpenClaim := { program := "ytckmpenlpkhnfab", sum := "9c08ebdcf3c3b0451fb11b263f7a39456bbf1dbdfec1d5dc4b72a901909d52b8", func := "loop.example/slowworm/laws.FnIntTriples", spec := "fnIntTriples", apart := false, narrowed := true }
def FnIntTriplesUptoSaid : Prop := fnIntTriplesUptoRow.holds Try.pinned (OpenSpec.upto fnIntTriplesSpec)

/-- 'laws.FnIntPowers', WHERE WHAT IT READS IS OF BULK AT MOST 1048576: true; the input reads as it did. -/
def fnIntPowersUptoRow : OpenClaim := { program := "ytckmpenlpkhnfab", sum := "9c08ebdcf3c3b0451fb11b263f7a39456bbf1dbdfec1d5dc4b72a901909d52b8", func := "loop.example/slowworm/laws.FnIntPowers", spec := "fnIntPowers", apart := false, narrowed := true }
def FnIntPowersUptoSaid : Prop := fnIntPowersUptoRow.holds Try.pinned (OpenSpec.upto fnIntPowersSpec)

/-- 'laws.FnIntPowerOf', WHERE WHAT IT READS IS OF BULK AT MOST 1048576: true; the input reads as it did. -/
def fnIntPowerOfUptoRow : OpenClaim := { program := "ytckmpenlpkhnfab", sum := "9c08ebdcf3c3b0451fb11b263f7a39456bbf1dbdfec1d5dc4b72a901909d52b8", func := "loop.example/slowworm/laws.FnIntPowerOf", spec := "fnIntPowerOf", apart := false, narrowed := true }
def FnIntPowerOfUptoSaid : Prop := fnIntPowerOfUptoRow.holds Try.pinned (OpenSpec.upto fnIntPowerOfSpec)

/-- 'laws.FnIntShift', WHERE WHAT IT READS IS OF BULK AT MOST 1048576: true; the input reads as it did. -/
def fnIntShiftUptoRow : OpenClaim := { program := "ytckmpenlpkhnfab", sum := "9c08ebdcf3c3b0451fb11b263f7a39456bbf1dbdfec1d5dc4b72a901909d52b8", func := "loop.example/slowworm/laws.FnIntShift", spec := "fnIntShift", apart := false, narrowed := true }
def FnIntShiftUptoSaid : Prop := fnIntShiftUptoRow.holds Try.pinned (OpenSpec.upto fnIntShiftSpec)

/-- 'laws.FnIntOrder', WHERE WHAT IT READS IS OF BULK AT MOST 1048576: true; the input reads as it did. -/
def fnIntOrderUptoRow : OpenClaim := { program := "ytckmpenlpkhnfab", sum := "9c08ebdcf3c3b0451fb11b263f7a39456bbf1dbdfec1d5dc4b72a901909d52b8", func := "loop.example/slowworm/laws.FnIntOrder", spec := "fnIntOrder", apart := false, narrowed := true }
def FnIntOrderUptoSaid : Prop := fnIntOrderUptoRow.holds Try.pinned (OpenSpec.upto fnIntOrderSpec)

end Rows
end Go.Proofs.Ytckmpenlpkhnfab
