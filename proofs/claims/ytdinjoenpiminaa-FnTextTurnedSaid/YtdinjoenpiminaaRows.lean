/-
  No cell of these rows narrows 'for every input' (looked for: loops, veiled, ifaces, maps, wideKeys, modest, calm, conditions, laid).
  DERIVED. THE GIVEN ROWS OF THIS SEAT. 11 by the template 'for every input the law returns true; each argument reads behind the call as it read before'; 0 by the template 'total and deterministic' (their statements: YtdinjoenpiminaaTotals.lean).
  GIVEN WITH THE SEED: the statements are not yours to turn. If you find one false, say at which input.
  Laid BY PROGRAM, IN A SANDBOX (cutbox-rows.mjs): the forced cells as the released guide's own fill.sh prints them over the translation 64cc858f06a45927… (all of the seat's roots in one cut). By AI agents, Wed Nov 11 2026. No macro, syntax, notation, axiom, sorry.
-/
import Derived.Test.YtdinjoenpiminaaChecked
import GoSem.Claim
import GoSem.ClaimJoined
import GoSem.ClaimMapViews
import Derived.JoinedTies
import Derived.KernelRfl
namespace Go.Proofs.Ytdinjoenpiminaa
/- THE CELL 'sum', in the pinned program and in every row, IS THE sha256 OF THE DUMP (.gsa) THAT YtdinjoenpiminaaProg.lean LOADS. Nothing in Lean hashes anything: it is a label: what it is worth is what the hold of that sum in a sandbox is worth. -/
noncomputable def Try.pinned : Pinned := { name := "ytdinjoenpiminaa", sum := "64cc858f06a459270c9e1167c58a95693ca9e9e06623496fd7ffbbd9a35a8fd2", checked := Try.checked }
namespace Rows
def none {H : Type} : Left H := { results := [], args := [] }

/-- 'laws.FnExactTextCut': WHATEVER THE INPUT: true; the input reads as it did. -/
def fnExactTextCutSpec : ChangeSpec := { name := "fnExactTextCut", fn := fun _ => fun
  | [d1, d2] => { results := [.lit (.bool true)], args := [d1, d2] }
  | _ => none }
def fnExactTextCutRow : OpenClaim := { program := "ytdinjoenpiminaa", sum := "64cc858f06a459270c9e1167c58a95693ca9e9e06623496fd7ffbbd9a35a8fd2", func := "loop.example/slowworm/laws.FnExactTextCut", spec := "fnExactTextCut", apart := false }
def FnExactTextCutSaid : Prop := fnExactTextCutRow.holds Try.pinned (OpenSpec.ofChange fnExactTextCutSpec)

/-- ITS FALSE NEIGHBOUR: 'it returns false'. Refute it at one input. -/
def fnExactTextCutWrong : ChangeSpec := { name := "fnExactTextCut", fn := fun _ => fun
  | [d1, d2] => { results := [.lit (.bool false)], args := [d1, d2] }
  | _ => none }
def FnExactTextCutWrongFalsely : Prop := fnExactTextCutRow.holds Try.pinned (OpenSpec.ofChange fnExactTextCutWrong)

/-- 'laws.FnTextCut': WHATEVER THE INPUT: true; the input reads as it did. -/
def fnTextCutSpec : ChangeSpec := { name := "fnTextCut", fn := fun _ => fun
  | [d] => { results := [.lit (.bool true)], args := [d] }
  | _ => none }
def fnTextCutRow : OpenClaim := { program := "ytdinjoenpiminaa", sum := "64cc858f06a459270c9e1167c58a95693ca9e9e06623496fd7ffbbd9a35a8fd2", func := "loop.example/slowworm/laws.FnTextCut", spec := "fnTextCut", apart := false }
def FnTextCutSaid : Prop := fnTextCutRow.holds Try.pinned (OpenSpec.ofChange fnTextCutSpec)

/-- ITS FALSE NEIGHBOUR: 'it returns false'. Refute it at one input. -/
def fnTextCutWrong : ChangeSpec := { name := "fnTextCut", fn := fun _ => fun
  | [d] => { results := [.lit (.bool false)], args := [d] }
  | _ => none }
def FnTextCutWrongFalsely : Prop := fnTextCutRow.holds Try.pinned (OpenSpec.ofChange fnTextCutWrong)

/-- 'laws.FnTextTurned': WHATEVER THE INPUT: true; the input reads as it did. -/
def fnTextTurnedSpec : ChangeSpec := { name := "fnTextTurned", fn := fun _ => fun
  | [d] => { results := [.lit (.bool true)], args := [d] }
  | _ => none }
def fnTextTurnedRow : OpenClaim := { program := "ytdinjoenpiminaa", sum := "64cc858f06a459270c9e1167c58a95693ca9e9e06623496fd7ffbbd9a35a8fd2", func := "loop.example/slowworm/laws.FnTextTurned", spec := "fnTextTurned", apart := false }
def FnTextTurnedSaid : Prop := fnTextTurnedRow.holds Try.pinned (OpenSpec.ofChange fnTextTurnedSpec)

/-- ITS FALSE NEIGHBOUR: 'it returns false'. Refute it at one input. -/
def fnTextTurnedWrong : ChangeSpec := { name := "fnTextTurned", fn := fun _ => fun
  | [d] => { results := [.lit (.bool false)], args := [d] }
  | _ => none }
def FnTextTurnedWrongFalsely : Prop := fnTextTurnedRow.holds Try.pinned (OpenSpec.ofChange fnTextTurnedWrong)

/-- 'laws.FnTextParts': WHATEVER THE INPUT: true; the input reads as it did. -/
def fnTextPartsSpec : ChangeSpec := { name := "fnTextParts", fn := fun _ => fun
  | [d] => { results := [.lit (.bool true)], args := [d] }
  | _ => none }
def fnTextPartsRow : OpenClaim := { program := "ytdinjoenpiminaa", sum := "64cc858f06a459270c9e1167c58a95693ca9e9e06623496fd7ffbbd9a35a8fd2", func := "loop.example/slowworm/laws.FnTextParts", spec := "fnTextParts", apart := false }
def FnTextPartsSaid : Prop := fnTextPartsRow.holds Try.pinned (OpenSpec.ofChange fnTextPartsSpec)

/-- ITS FALSE NEIGHBOUR: 'it returns false'. Refute it at one input. -/
def fnTextPartsWrong : ChangeSpec := { name := "fnTextParts", fn := fun _ => fun
  | [d] => { results := [.lit (.bool false)], args := [d] }
  | _ => none }
def FnTextPartsWrongFalsely : Prop := fnTextPartsRow.holds Try.pinned (OpenSpec.ofChange fnTextPartsWrong)

/-- 'laws.FnTextOdd': WHATEVER THE INPUT: true; the input reads as it did. -/
def fnTextOddSpec : ChangeSpec := { name := "fnTextOdd", fn := fun _ => fun
  | [d] => { results := [.lit (.bool true)], args := [d] }
  | _ => none }
def fnTextOddRow : OpenClaim := { program := "ytdinjoenpiminaa", sum := "64cc858f06a459270c9e1167c58a95693ca9e9e06623496fd7ffbbd9a35a8fd2", func := "loop.example/slowworm/laws.FnTextOdd", spec := "fnTextOdd", apart := false }
def FnTextOddSaid : Prop := fnTextOddRow.holds Try.pinned (OpenSpec.ofChange fnTextOddSpec)

/-- ITS FALSE NEIGHBOUR: 'it returns false'. Refute it at one input. -/
def fnTextOddWrong : ChangeSpec := { name := "fnTextOdd", fn := fun _ => fun
  | [d] => { results := [.lit (.bool false)], args := [d] }
  | _ => none }
def FnTextOddWrongFalsely : Prop := fnTextOddRow.holds Try.pinned (OpenSpec.ofChange fnTextOddWrong)

/-- 'laws.FnExactTextSplit': WHATEVER THE INPUT: true; the input reads as it did. -/
def fnExactTextSplitSpec : ChangeSpec := { name := "fnExactTextSplit", fn := fun _ => fun
  | [d1, d2] => { results := [.lit (.bool true)], args := [d1, d2] }
  | _ => none }
def fnExactTextSplitRow : OpenClaim := { program := "ytdinjoenpiminaa", sum := "64cc858f06a459270c9e1167c58a95693ca9e9e06623496fd7ffbbd9a35a8fd2", func := "loop.example/slowworm/laws.FnExactTextSplit", spec := "fnExactTextSplit", inPlace := ["internal/bytealg.IndexByteString", "internal/bytealg.IndexString"], named := ["internal/bytealg.MaxLen"], leaving := true, apart := false }
def FnExactTextSplitSaid : Prop := fnExactTextSplitRow.holds Try.pinned (OpenSpec.ofChange fnExactTextSplitSpec)

/-- ITS FALSE NEIGHBOUR: 'it returns false'. Refute it at one input. -/
def fnExactTextSplitWrong : ChangeSpec := { name := "fnExactTextSplit", fn := fun _ => fun
  | [d1, d2] => { results := [.lit (.bool false)], args := [d1, d2] }
  | _ => none }
def FnExactTextSplitWrongFalsely : Prop := fnExactTextSplitRow.holds Try.pinned (OpenSpec.ofChange fnExactTextSplitWrong)

/-- 'laws.FnExactTextSwap': WHATEVER THE INPUT: true; the input reads as it did. -/
def fnExactTextSwapSpec : ChangeSpec := { name := "fnExactTextSwap", fn := fun _ => fun
  | [d1, d2, d3] => { results := [.lit (.bool true)], args := [d1, d2, d3] }
  | _ => none }
def fnExactTextSwapRow : OpenClaim := { program := "ytdinjoenpiminaa", sum := "64cc858f06a459270c9e1167c58a95693ca9e9e06623496fd7ffbbd9a35a8fd2", func := "loop.example/slowworm/laws.FnExactTextSwap", spec := "fnExactTextSwap", inPlace := ["internal/bytealg.IndexByteString", "internal/bytealg.IndexString"], named := ["internal/bytealg.MaxLen"], leaving := true, apart := false }
def FnExactTextSwapSaid : Prop := fnExactTextSwapRow.holds Try.pinned (OpenSpec.ofChange fnExactTextSwapSpec)

/-- ITS FALSE NEIGHBOUR: 'it returns false'. Refute it at one input. -/
def fnExactTextSwapWrong : ChangeSpec := { name := "fnExactTextSwap", fn := fun _ => fun
  | [d1, d2, d3] => { results := [.lit (.bool false)], args := [d1, d2, d3] }
  | _ => none }
def FnExactTextSwapWrongFalsely : Prop := fnExactTextSwapRow.holds Try.pinned (OpenSpec.ofChange fnExactTextSwapWrong)

/-- 'laws.FnTextSplit': WHATEVER THE INPUT: true; the input reads as it did. -/
def fnTextSplitSpec : ChangeSpec := { name := "fnTextSplit", fn := fun _ => fun
  | [d] => { results := [.lit (.bool true)], args := [d] }
  | _ => none }
def fnTextSplitRow : OpenClaim := { program := "ytdinjoenpiminaa", sum := "64cc858f06a459270c9e1167c58a95693ca9e9e06623496fd7ffbbd9a35a8fd2", func := "loop.example/slowworm/laws.FnTextSplit", spec := "fnTextSplit", inPlace := ["internal/bytealg.IndexByteString", "internal/bytealg.IndexString"], named := ["internal/bytealg.MaxLen"], leaving := true, apart := false }
def FnTextSplitSaid : Prop := fnTextSplitRow.holds Try.pinned (OpenSpec.ofChange fnTextSplitSpec)

/-- ITS FALSE NEIGHBOUR: 'it returns false'. Refute it at one input. -/
def fnTextSplitWrong : ChangeSpec := { name := "fnTextSplit", fn := fun _ => fun
  | [d] => { results := [.lit (.bool false)], args := [d] }
  | _ => none }
def FnTextSplitWrongFalsely : Prop := fnTextSplitRow.holds Try.pinned (OpenSpec.ofChange fnTextSplitWrong)

/-- 'laws.FnTextSwap': WHATEVER THE INPUT: true; the input reads as it did. -/
def fnTextSwapSpec : ChangeSpec := { name := "fnTextSwap", fn := fun _ => fun
  | [d] => { results := [.lit (.bool true)], args := [d] }
  | _ => none }
def fnTextSwapRow : OpenClaim := { program := "ytdinjoenpiminaa", sum := "64cc858f06a459270c9e1167c58a95693ca9e9e06623496fd7ffbbd9a35a8fd2", func := "loop.example/slowworm/laws.FnTextSwap", spec := "fnTextSwap", inPlace := ["internal/bytealg.IndexByteString", "internal/bytealg.IndexString"], named := ["internal/bytealg.MaxLen"], leaving := true, apart := false }
def FnTextSwapSaid : Prop := fnTextSwapRow.holds Try.pinned (OpenSpec.ofChange fnTextSwapSpec)

/-- ITS FALSE NEIGHBOUR: 'it returns false'. Refute it at one input. -/
def fnTextSwapWrong : ChangeSpec := { name := "fnTextSwap", fn := fun _ => fun
  | [d] => { results := [.lit (.bool false)], args := [d] }
  | _ => none }
def FnTextSwapWrongFalsely : Prop := fnTextSwapRow.holds Try.pinned (OpenSpec.ofChange fnTextSwapWrong)

/-- 'laws.FnSplitSwap': WHATEVER THE INPUT: true; the input reads as it did. -/
def fnSplitSwapSpec : ChangeSpec := { name := "fnSplitSwap", fn := fun _ => fun
  | [d] => { results := [.lit (.bool true)], args := [d] }
  | _ => none }
def fnSplitSwapRow : OpenClaim := { program := "ytdinjoenpiminaa", sum := "64cc858f06a459270c9e1167c58a95693ca9e9e06623496fd7ffbbd9a35a8fd2", func := "loop.example/slowworm/laws.FnSplitSwap", spec := "fnSplitSwap", inPlace := ["internal/bytealg.IndexByteString", "internal/bytealg.IndexString"], named := ["internal/bytealg.MaxLen"], leaving := true, apart := false }
def FnSplitSwapSaid : Prop := fnSplitSwapRow.holds Try.pinned (OpenSpec.ofChange fnSplitSwapSpec)

/-- ITS FALSE NEIGHBOUR: 'it returns false'. Refute it at one input. -/
def fnSplitSwapWrong : ChangeSpec := { name := "fnSplitSwap", fn := fun _ => fun
  | [d] => { results := [.lit (.bool false)], args := [d] }
  | _ => none }
def FnSplitSwapWrongFalsely : Prop := fnSplitSwapRow.holds Try.pinned (OpenSpec.ofChange fnSplitSwapWrong)

/-- 'laws.FnTextFound': WHATEVER THE INPUT: true; the input reads as it did. -/
def fnTextFoundSpec : ChangeSpec := { name := "fnTextFound", fn := fun _ => fun
  | [d] => { results := [.lit (.bool true)], args := [d] }
  | _ => none }
def fnTextFoundRow : OpenClaim := { program := "ytdinjoenpiminaa", sum := "64cc858f06a459270c9e1167c58a95693ca9e9e06623496fd7ffbbd9a35a8fd2", func := "loop.example/slowworm/laws.FnTextFound", spec := "fnTextFound", inPlace := ["internal/bytealg.IndexByteString", "internal/bytealg.IndexString"], named := ["internal/bytealg.MaxLen"], leaving := true, apart := false }
def FnTextFoundSaid : Prop := fnTextFoundRow.holds Try.pinned (OpenSpec.ofChange fnTextFoundSpec)

/-- ITS FALSE NEIGHBOUR: 'it returns false'. Refute it at one input. -/
def fnTextFoundWrong : ChangeSpec := { name := "fnTextFound", fn := fun _ => fun
  | [d] => { results := [.lit (.bool false)], args := [d] }
  | _ => none }
def FnTextFoundWrongFalsely : Prop := fnTextFoundRow.holds Try.pinned (OpenSpec.ofChange fnTextFoundWrong)

/- THE SECOND FORM. 'bulk': how many values and letters a reading holds, each counted each time it is reached (what is shared counts as often as it is met; a slice's spare places count too). A statement '..UptoSaid' is the law's where the arguments, and the package variables that the reading takes, are together of bulk at most 1048576: NARROWER than '..Said'. Prove '..Said' where nothing that the law and all that it calls make is longer than what came in: it says more and counts as full. Else prove '..UptoSaid'. A law counts once. -/
mutual
def uptoBulk {H : Type} : DataW H → Nat
  | .lit (.string bytes) => bytes.length + 1
  | .lit _ => 1
  | .nil => 1
  | .ptr d => uptoBulk d + 1
  | .slice elems spare => uptoBulkAll elems + uptoBulkAll spare + 1
  | .agg parts => uptoBulkAll parts + 1
  | .iface _ d => uptoBulk d + 1
  | .map entries => uptoBulkEntries entries + 1
  | .held _ => 1
def uptoBulkAll {H : Type} : List (DataW H) → Nat
  | [] => 0
  | d :: r => uptoBulk d + uptoBulkAll r
def uptoBulkEntries {H : Type} : List (Lit × DataW H) → Nat
  | [] => 0
  | x :: r => uptoBulkEntry x + uptoBulkEntries r
def uptoBulkEntry {H : Type} : Lit × DataW H → Nat
  | (.string bytes, d) => bytes.length + uptoBulk d + 1
  | (_, d) => uptoBulk d + 1
 end
def uptoSmall : (H : Type) → List (DataW H) → Bool := fun _ ds => decide (uptoBulkAll ds ≤ 1048576)
def OpenSpec.upto (s : _root_.Go.ChangeSpec) : _root_.Go.OpenSpec := { _root_.Go.OpenSpec.ofChange s with cond := some uptoSmall }

/-- 'laws.FnExactTextCut', WHERE WHAT IT READS IS OF BULK AT MOST 1048576: true; the input reads as it did. -/
def fnExactTextCutUptoRow : OpenClaim := { program := "ytdinjoenpiminaa", sum := "64cc858f06a459270c9e1167c58a95693ca9e9e06623496fd7ffbbd9a35a8fd2", func := "loop.example/slowworm/laws.FnExactTextCut", spec := "fnExactTextCut", apart := false, narrowed := true }
def FnExactTextCutUptoSaid : Prop := fnExactTextCutUptoRow.holds Try.pinned (OpenSpec.upto fnExactTextCutSpec)

/-- 'laws.FnTextCut', WHERE WHAT IT READS IS OF BULK AT MOST 1048576: true; the input reads as it did. -/
def fnTextCutUptoRow : OpenClaim := { program := "ytdinjoenpiminaa", sum := "64cc858f06a459270c9e1167c58a95693ca9e9e06623496fd7ffbbd9a35a8fd2", func := "loop.example/slowworm/laws.FnTextCut", spec := "fnTextCut", apart := false, narrowed := true }
def FnTextCutUptoSaid : Prop := fnTextCutUptoRow.holds Try.pinned (OpenSpec.upto fnTextCutSpec)

/-- 'laws.FnTextTurned', WHERE WHAT IT READS IS OF BULK AT MOST 1048576: true; the input reads as it did. -/
def fnTextTurnedUptoRow : OpenClaim := { program := "ytdinjoenpiminaa", sum := "64cc858f06a459270c9e1167c58a95693ca9e9e06623496fd7ffbbd9a35a8fd2", func := "loop.example/slowworm/laws.FnTextTurned", spec := "fnTextTurned", apart := false, narrowed := true }
def FnTextTurnedUptoSaid : Prop := fnTextTurnedUptoRow.holds Try.pinned (OpenSpec.upto fnTextTurnedSpec)

/-- 'laws.FnTextParts', WHERE WHAT IT READS IS OF BULK AT MOST 1048576: true; the input reads as it did. -/
def fnTextPartsUptoRow : OpenClaim := { program := "ytdinjoenpiminaa", sum := "64cc858f06a459270c9e1167c58a95693ca9e9e06623496fd7ffbbd9a35a8fd2", func := "loop.example/slowworm/laws.FnTextParts", spec := "fnTextParts", apart := false, narrowed := true }
def FnTextPartsUptoSaid : Prop := fnTextPartsUptoRow.holds Try.pinned (OpenSpec.upto fnTextPartsSpec)

/-- 'laws.FnTextOdd', WHERE WHAT IT READS IS OF BULK AT MOST 1048576: true; the input reads as it did. -/
def fnTextOddUptoRow : OpenClaim := { program := "ytdinjoenpiminaa", sum := "64cc858f06a459270c9e1167c58a95693ca9e9e06623496fd7ffbbd9a35a8fd2", func := "loop.example/slowworm/laws.FnTextOdd", spec := "fnTextOdd", apart := false, narrowed := true }
def FnTextOddUptoSaid : Prop := fnTextOddUptoRow.holds Try.pinned (OpenSpec.upto fnTextOddSpec)

/-- 'laws.FnExactTextSplit', WHERE WHAT IT READS IS OF BULK AT MOST 1048576: true; the input reads as it did. -/
def fnExactTextSplitUptoRow : OpenClaim := { program := "ytdinjoenpiminaa", sum := "64cc858f06a459270c9e1167c58a95693ca9e9e06623496fd7ffbbd9a35a8fd2", func := "loop.example/slowworm/laws.FnExactTextSplit", spec := "fnExactTextSplit", inPlace := ["internal/bytealg.IndexByteString", "internal/bytealg.IndexString"], named := ["internal/bytealg.MaxLen"], leaving := true, apart := false, narrowed := true }
def FnExactTextSplitUptoSaid : Prop := fnExactTextSplitUptoRow.holds Try.pinned (OpenSpec.upto fnExactTextSplitSpec)

/-- 'laws.FnExactTextSwap', WHERE WHAT IT READS IS OF BULK AT MOST 1048576: true; the input reads as it did. -/
def fnExactTextSwapUptoRow : OpenClaim := { program := "ytdinjoenpiminaa", sum := "64cc858f06a459270c9e1167c58a95693ca9e9e06623496fd7ffbbd9a35a8fd2", func := "loop.example/slowworm/laws.FnExactTextSwap", spec := "fnExactTextSwap", inPlace := ["internal/bytealg.IndexByteString", "internal/bytealg.IndexString"], named := ["internal/bytealg.MaxLen"], leaving := true, apart := false, narrowed := true }
def FnExactTextSwapUptoSaid : Prop := fnExactTextSwapUptoRow.holds Try.pinned (OpenSpec.upto fnExactTextSwapSpec)

/-- 'laws.FnTextSplit', WHERE WHAT IT READS IS OF BULK AT MOST 1048576: true; the input reads as it did. -/
def fnTextSplitUptoRow : OpenClaim := { program := "ytdinjoenpiminaa", sum := "64cc858f06a459270c9e1167c58a95693ca9e9e06623496fd7ffbbd9a35a8fd2", func := "loop.example/slowworm/laws.FnTextSplit", spec := "fnTextSplit", inPlace := ["internal/bytealg.IndexByteString", "internal/bytealg.IndexString"], named := ["internal/bytealg.MaxLen"], leaving := true, apart := false, narrowed := true }
def FnTextSplitUptoSaid : Prop := fnTextSplitUptoRow.holds Try.pinned (OpenSpec.upto fnTextSplitSpec)

/-- 'laws.FnTextSwap', WHERE WHAT IT READS IS OF BULK AT MOST 1048576: true; the input reads as it did. -/
def fnTextSwapUptoRow : OpenClaim := { program := "ytdinjoenpiminaa", sum := "64cc858f06a459270c9e1167c58a95693ca9e9e06623496fd7ffbbd9a35a8fd2", func := "loop.example/slowworm/laws.FnTextSwap", spec := "fnTextSwap", inPlace := ["internal/bytealg.IndexByteString", "internal/bytealg.IndexString"], named := ["internal/bytealg.MaxLen"], leaving := true, apart := false, narrowed := true }
def FnTextSwapUptoSaid : Prop := fnTextSwapUptoRow.holds Try.pinned (OpenSpec.upto fnTextSwapSpec)

/-- 'laws.FnSplitSwap', WHERE WHAT IT READS IS OF BULK AT MOST 1048576: true; the input reads as it did. -/
def fnSplitSwapUptoRow : OpenClaim := { program := "ytdinjoenpiminaa", sum := "64cc858f06a459270c9e1167c58a95693ca9e9e06623496fd7ffbbd9a35a8fd2", func := "loop.example/slowworm/laws.FnSplitSwap", spec := "fnSplitSwap", inPlace := ["internal/bytealg.IndexByteString", "internal/bytealg.IndexString"], named := ["internal/bytealg.MaxLen"], leaving := true, apart := false, narrowed := true }
def FnSplitSwapUptoSaid : Prop := fnSplitSwapUptoRow.holds Try.pinned (OpenSpec.upto fnSplitSwapSpec)

/-- 'laws.FnTextFound', WHERE WHAT IT READS IS OF BULK AT MOST 1048576: true; the input reads as it did. -/
def fnTextFoundUptoRow : OpenClaim := { program := "ytdinjoenpiminaa", sum := "64cc858f06a459270c9e1167c58a95693ca9e9e06623496fd7ffbbd9a35a8fd2", func := "loop.example/slowworm/laws.FnTextFound", spec := "fnTextFound", inPlace := ["internal/bytealg.IndexByteString", "internal/bytealg.IndexString"], named := ["internal/bytealg.MaxLen"], leaving := true, apart := false, narrowed := true }
def FnTextFoundUptoSaid : Prop := fnTextFoundUptoRow.holds Try.pinned (OpenSpec.upto fnTextFoundSpec)

end Rows
end Go.Proofs.Ytdinjoenpiminaa
