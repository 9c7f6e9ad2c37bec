/-
  No cell of these rows narrows 'for every input' (looked for: loops, veiled, ifaces, maps, wideKeys, modest, calm, conditions, laid).
  DERIVED. THE GIVEN ROWS OF THIS SEAT. 12 by the template 'for every input the law returns true; each argument reads behind the call as it read before'; 0 by the template 'total and deterministic' (their statements: YtopianinclpmdaaTotals.lean).
  GIVEN WITH THE SEED: the statements are not yours to turn. If you find one false, say at which input.
  Laid BY PROGRAM, IN A SANDBOX (cutbox-rows.mjs): the forced cells as the released guide's own fill.sh prints them over the translation 58511dcc41cb6870… (all of the seat's roots in one cut). By AI agents, Wed Nov 11 2026. No macro, syntax, notation, axiom, sorry.
-/
import Derived.Test.YtopianinclpmdaaChecked
import GoSem.Claim
import GoSem.ClaimJoined
import GoSem.ClaimMapViews
import Derived.JoinedTies
import Derived.KernelRfl
namespace Go.Proofs.Ytopianinclpmdaa
/- THE CELL 'sum', in the pinned program and in every row, IS THE sha256 OF THE DUMP (.gsa) THAT YtopianinclpmdaaProg.lean LOADS. Nothing in Lean hashes anything: it is a label: what it is worth is what the hold of that sum in a sandbox is worth. -/
noncomputable def Try.pinned : Pinned := { name := "ytopianinclpmdaa", sum := "58511dcc41cb6870749d592976a1762c103550f0c82514b0c126f07aba9c24b1", checked := Try.checked }
namespace Rows
def none {H : Type} : Left H := { results := [], args := [] }

/-- 'laws.FnExactCutOk': WHATEVER THE INPUT: true; the input reads as it did. -/
def fnExactCutOkSpec : ChangeSpec := { name := "fnExactCutOk", fn := fun _ => fun
  | [d] => { results := [.lit (.bool true)], args := [d] }
  | _ => none }
def fnExactCutOkRow : OpenClaim := { program := "ytopianinclpmdaa", sum := "58511dcc41cb6870749d592976a1762c103550f0c82514b0c126f07aba9c24b1", func := "loop.example/slowworm/laws.FnExactCutOk", spec := "fnExactCutOk", apart := false }
def FnExactCutOkSaid : Prop := fnExactCutOkRow.holds Try.pinned (OpenSpec.ofChange fnExactCutOkSpec)

/-- ITS FALSE NEIGHBOUR: 'it returns false'. Refute it at one input. -/
def fnExactCutOkWrong : ChangeSpec := { name := "fnExactCutOk", fn := fun _ => fun
  | [d] => { results := [.lit (.bool false)], args := [d] }
  | _ => none }
def FnExactCutOkWrongFalsely : Prop := fnExactCutOkRow.holds Try.pinned (OpenSpec.ofChange fnExactCutOkWrong)

/-- 'laws.FnExactCutRange': WHATEVER THE INPUT: true; the input reads as it did. -/
def fnExactCutRangeSpec : ChangeSpec := { name := "fnExactCutRange", fn := fun _ => fun
  | [d1, d2] => { results := [.lit (.bool true)], args := [d1, d2] }
  | _ => none }
def fnExactCutRangeRow : OpenClaim := { program := "ytopianinclpmdaa", sum := "58511dcc41cb6870749d592976a1762c103550f0c82514b0c126f07aba9c24b1", func := "loop.example/slowworm/laws.FnExactCutRange", spec := "fnExactCutRange", apart := false }
def FnExactCutRangeSaid : Prop := fnExactCutRangeRow.holds Try.pinned (OpenSpec.ofChange fnExactCutRangeSpec)

/-- ITS FALSE NEIGHBOUR: 'it returns false'. Refute it at one input. -/
def fnExactCutRangeWrong : ChangeSpec := { name := "fnExactCutRange", fn := fun _ => fun
  | [d1, d2] => { results := [.lit (.bool false)], args := [d1, d2] }
  | _ => none }
def FnExactCutRangeWrongFalsely : Prop := fnExactCutRangeRow.holds Try.pinned (OpenSpec.ofChange fnExactCutRangeWrong)

/-- 'laws.FnExactTextCut': WHATEVER THE INPUT: true; the input reads as it did. -/
def fnExactTextCutSpec : ChangeSpec := { name := "fnExactTextCut", fn := fun _ => fun
  | [d1, d2] => { results := [.lit (.bool true)], args := [d1, d2] }
  | _ => none }
def fnExactTextCutRow : OpenClaim := { program := "ytopianinclpmdaa", sum := "58511dcc41cb6870749d592976a1762c103550f0c82514b0c126f07aba9c24b1", func := "loop.example/slowworm/laws.FnExactTextCut", spec := "fnExactTextCut", apart := false }
def FnExactTextCutSaid : Prop := fnExactTextCutRow.holds Try.pinned (OpenSpec.ofChange fnExactTextCutSpec)

/-- ITS FALSE NEIGHBOUR: 'it returns false'. Refute it at one input. -/
def fnExactTextCutWrong : ChangeSpec := { name := "fnExactTextCut", fn := fun _ => fun
  | [d1, d2] => { results := [.lit (.bool false)], args := [d1, d2] }
  | _ => none }
def FnExactTextCutWrongFalsely : Prop := fnExactTextCutRow.holds Try.pinned (OpenSpec.ofChange fnExactTextCutWrong)

/-- 'laws.FnExactTextAt': WHATEVER THE INPUT: true; the input reads as it did. -/
def fnExactTextAtSpec : ChangeSpec := { name := "fnExactTextAt", fn := fun _ => fun
  | [d1, d2] => { results := [.lit (.bool true)], args := [d1, d2] }
  | _ => none }
def fnExactTextAtRow : OpenClaim := { program := "ytopianinclpmdaa", sum := "58511dcc41cb6870749d592976a1762c103550f0c82514b0c126f07aba9c24b1", func := "loop.example/slowworm/laws.FnExactTextAt", spec := "fnExactTextAt", apart := false }
def FnExactTextAtSaid : Prop := fnExactTextAtRow.holds Try.pinned (OpenSpec.ofChange fnExactTextAtSpec)

/-- ITS FALSE NEIGHBOUR: 'it returns false'. Refute it at one input. -/
def fnExactTextAtWrong : ChangeSpec := { name := "fnExactTextAt", fn := fun _ => fun
  | [d1, d2] => { results := [.lit (.bool false)], args := [d1, d2] }
  | _ => none }
def FnExactTextAtWrongFalsely : Prop := fnExactTextAtRow.holds Try.pinned (OpenSpec.ofChange fnExactTextAtWrong)

/-- 'laws.FnExactTextFind': WHATEVER THE INPUT: true; the input reads as it did. -/
def fnExactTextFindSpec : ChangeSpec := { name := "fnExactTextFind", fn := fun _ => fun
  | [d1, d2] => { results := [.lit (.bool true)], args := [d1, d2] }
  | _ => none }
def fnExactTextFindRow : OpenClaim := { program := "ytopianinclpmdaa", sum := "58511dcc41cb6870749d592976a1762c103550f0c82514b0c126f07aba9c24b1", func := "loop.example/slowworm/laws.FnExactTextFind", spec := "fnExactTextFind", inPlace := ["internal/bytealg.IndexByteString", "internal/bytealg.IndexString"], named := ["internal/bytealg.MaxLen"], apart := false }
def FnExactTextFindSaid : Prop := fnExactTextFindRow.holds Try.pinned (OpenSpec.ofChange fnExactTextFindSpec)

/-- ITS FALSE NEIGHBOUR: 'it returns false'. Refute it at one input. -/
def fnExactTextFindWrong : ChangeSpec := { name := "fnExactTextFind", fn := fun _ => fun
  | [d1, d2] => { results := [.lit (.bool false)], args := [d1, d2] }
  | _ => none }
def FnExactTextFindWrongFalsely : Prop := fnExactTextFindRow.holds Try.pinned (OpenSpec.ofChange fnExactTextFindWrong)

/-- 'laws.FnExactTextJoin': WHATEVER THE INPUT: true; the input reads as it did. -/
def fnExactTextJoinSpec : ChangeSpec := { name := "fnExactTextJoin", fn := fun _ => fun
  | [d1, d2] => { results := [.lit (.bool true)], args := [d1, d2] }
  | _ => none }
def fnExactTextJoinRow : OpenClaim := { program := "ytopianinclpmdaa", sum := "58511dcc41cb6870749d592976a1762c103550f0c82514b0c126f07aba9c24b1", func := "loop.example/slowworm/laws.FnExactTextJoin", spec := "fnExactTextJoin", apart := false }
def FnExactTextJoinSaid : Prop := fnExactTextJoinRow.holds Try.pinned (OpenSpec.ofChange fnExactTextJoinSpec)

/-- ITS FALSE NEIGHBOUR: 'it returns false'. Refute it at one input. -/
def fnExactTextJoinWrong : ChangeSpec := { name := "fnExactTextJoin", fn := fun _ => fun
  | [d1, d2] => { results := [.lit (.bool false)], args := [d1, d2] }
  | _ => none }
def FnExactTextJoinWrongFalsely : Prop := fnExactTextJoinRow.holds Try.pinned (OpenSpec.ofChange fnExactTextJoinWrong)

/-- 'laws.FnExactTextMany': WHATEVER THE INPUT: true; the input reads as it did. -/
def fnExactTextManySpec : ChangeSpec := { name := "fnExactTextMany", fn := fun _ => fun
  | [d1, d2] => { results := [.lit (.bool true)], args := [d1, d2] }
  | _ => none }
def fnExactTextManyRow : OpenClaim := { program := "ytopianinclpmdaa", sum := "58511dcc41cb6870749d592976a1762c103550f0c82514b0c126f07aba9c24b1", func := "loop.example/slowworm/laws.FnExactTextMany", spec := "fnExactTextMany", apart := false }
def FnExactTextManySaid : Prop := fnExactTextManyRow.holds Try.pinned (OpenSpec.ofChange fnExactTextManySpec)

/-- ITS FALSE NEIGHBOUR: 'it returns false'. Refute it at one input. -/
def fnExactTextManyWrong : ChangeSpec := { name := "fnExactTextMany", fn := fun _ => fun
  | [d1, d2] => { results := [.lit (.bool false)], args := [d1, d2] }
  | _ => none }
def FnExactTextManyWrongFalsely : Prop := fnExactTextManyRow.holds Try.pinned (OpenSpec.ofChange fnExactTextManyWrong)

/-- 'laws.FnExactTextQuote': WHATEVER THE INPUT: true; the input reads as it did. -/
def fnExactTextQuoteSpec : ChangeSpec := { name := "fnExactTextQuote", fn := fun _ => fun
  | [d] => { results := [.lit (.bool true)], args := [d] }
  | _ => none }
def fnExactTextQuoteRow : OpenClaim := { program := "ytopianinclpmdaa", sum := "58511dcc41cb6870749d592976a1762c103550f0c82514b0c126f07aba9c24b1", func := "loop.example/slowworm/laws.FnExactTextQuote", spec := "fnExactTextQuote", apart := false }
def FnExactTextQuoteSaid : Prop := fnExactTextQuoteRow.holds Try.pinned (OpenSpec.ofChange fnExactTextQuoteSpec)

/-- ITS FALSE NEIGHBOUR: 'it returns false'. Refute it at one input. -/
def fnExactTextQuoteWrong : ChangeSpec := { name := "fnExactTextQuote", fn := fun _ => fun
  | [d] => { results := [.lit (.bool false)], args := [d] }
  | _ => none }
def FnExactTextQuoteWrongFalsely : Prop := fnExactTextQuoteRow.holds Try.pinned (OpenSpec.ofChange fnExactTextQuoteWrong)

/-- 'laws.FnExactTextUnquote': WHATEVER THE INPUT: true; the input reads as it did. -/
def fnExactTextUnquoteSpec : ChangeSpec := { name := "fnExactTextUnquote", fn := fun _ => fun
  | [d] => { results := [.lit (.bool true)], args := [d] }
  | _ => none }
def fnExactTextUnquoteRow : OpenClaim := { program := "ytopianinclpmdaa", sum := "58511dcc41cb6870749d592976a1762c103550f0c82514b0c126f07aba9c24b1", func := "loop.example/slowworm/laws.FnExactTextUnquote", spec := "fnExactTextUnquote", inPlace := ["internal/bytealg.IndexByteString"], apart := false }
def FnExactTextUnquoteSaid : Prop := fnExactTextUnquoteRow.holds Try.pinned (OpenSpec.ofChange fnExactTextUnquoteSpec)

/-- ITS FALSE NEIGHBOUR: 'it returns false'. Refute it at one input. -/
def fnExactTextUnquoteWrong : ChangeSpec := { name := "fnExactTextUnquote", fn := fun _ => fun
  | [d] => { results := [.lit (.bool false)], args := [d] }
  | _ => none }
def FnExactTextUnquoteWrongFalsely : Prop := fnExactTextUnquoteRow.holds Try.pinned (OpenSpec.ofChange fnExactTextUnquoteWrong)

/-- 'laws.FnCutOk': WHATEVER THE INPUT: true; the input reads as it did. -/
def fnCutOkSpec : ChangeSpec := { name := "fnCutOk", fn := fun _ => fun
  | [d] => { results := [.lit (.bool true)], args := [d] }
  | _ => none }
def fnCutOkRow : OpenClaim := { program := "ytopianinclpmdaa", sum := "58511dcc41cb6870749d592976a1762c103550f0c82514b0c126f07aba9c24b1", func := "loop.example/slowworm/laws.FnCutOk", spec := "fnCutOk", apart := false }
def FnCutOkSaid : Prop := fnCutOkRow.holds Try.pinned (OpenSpec.ofChange fnCutOkSpec)

/-- ITS FALSE NEIGHBOUR: 'it returns false'. Refute it at one input. -/
def fnCutOkWrong : ChangeSpec := { name := "fnCutOk", fn := fun _ => fun
  | [d] => { results := [.lit (.bool false)], args := [d] }
  | _ => none }
def FnCutOkWrongFalsely : Prop := fnCutOkRow.holds Try.pinned (OpenSpec.ofChange fnCutOkWrong)

/-- 'laws.FnCutRange': WHATEVER THE INPUT: true; the input reads as it did. -/
def fnCutRangeSpec : ChangeSpec := { name := "fnCutRange", fn := fun _ => fun
  | [d] => { results := [.lit (.bool true)], args := [d] }
  | _ => none }
def fnCutRangeRow : OpenClaim := { program := "ytopianinclpmdaa", sum := "58511dcc41cb6870749d592976a1762c103550f0c82514b0c126f07aba9c24b1", func := "loop.example/slowworm/laws.FnCutRange", spec := "fnCutRange", apart := false }
def FnCutRangeSaid : Prop := fnCutRangeRow.holds Try.pinned (OpenSpec.ofChange fnCutRangeSpec)

/-- ITS FALSE NEIGHBOUR: 'it returns false'. Refute it at one input. -/
def fnCutRangeWrong : ChangeSpec := { name := "fnCutRange", fn := fun _ => fun
  | [d] => { results := [.lit (.bool false)], args := [d] }
  | _ => none }
def FnCutRangeWrongFalsely : Prop := fnCutRangeRow.holds Try.pinned (OpenSpec.ofChange fnCutRangeWrong)

/-- 'laws.FnTextAt': WHATEVER THE INPUT: true; the input reads as it did. -/
def fnTextAtSpec : ChangeSpec := { name := "fnTextAt", fn := fun _ => fun
  | [d] => { results := [.lit (.bool true)], args := [d] }
  | _ => none }
def fnTextAtRow : OpenClaim := { program := "ytopianinclpmdaa", sum := "58511dcc41cb6870749d592976a1762c103550f0c82514b0c126f07aba9c24b1", func := "loop.example/slowworm/laws.FnTextAt", spec := "fnTextAt", apart := false }
def FnTextAtSaid : Prop := fnTextAtRow.holds Try.pinned (OpenSpec.ofChange fnTextAtSpec)

/-- ITS FALSE NEIGHBOUR: 'it returns false'. Refute it at one input. -/
def fnTextAtWrong : ChangeSpec := { name := "fnTextAt", fn := fun _ => fun
  | [d] => { results := [.lit (.bool false)], args := [d] }
  | _ => none }
def FnTextAtWrongFalsely : Prop := fnTextAtRow.holds Try.pinned (OpenSpec.ofChange fnTextAtWrong)

/- THE SECOND FORM. 'bulk': how many values and letters a reading holds, each counted each time it is reached (what is shared counts as often as it is met; a slice's spare places count too). A statement '..UptoSaid' is the law's where the arguments, and the package variables that the reading takes, are together of bulk at most 1048576: NARROWER than '..Said'. Prove '..Said' where nothing that the law and all that it calls make is longer than what came in: it says more and counts as full. Else prove '..UptoSaid'. A law counts once. -/
mutual
def uptoBulk {H : Type} : DataW H → Nat
  | .lit (.string bytes) => bytes.length + 1
  | .lit _ => 1
  | .nil => 1
  | .ptr d => uptoBulk d + 1
  | .slice elems spare => uptoBulkAll elems + uptoBulkAll spare + 1
  | .agg parts => uptoBulkAll parts + 1
  | .iface _ d => uptoBulk d + 1
  | .map entries => uptoBulkEntries entries + 1
  | .held _ => 1
def uptoBulkAll {H : Type} : List (DataW H) → Nat
  | [] => 0
  | d :: r => uptoBulk d + uptoBulkAll r
def uptoBulkEntries {H : Type} : List (Lit × DataW H) → Nat
  | [] => 0
  | x :: r => uptoBulkEntry x + uptoBulkEntries r
def uptoBulkEntry {H : Type} : Lit × DataW H → Nat
  | (.string bytes, d) => bytes.length + uptoBulk d + 1
  | (_, d) => uptoBulk d + 1
 end
def uptoSmall : (H : Type) → List (DataW H) → Bool := fun _ ds => decide (uptoBulkAll ds ≤ 1048576)
def OpenSpec.upto (s : _root_.Go.ChangeSpec) : _root_.Go.OpenSpec := { _root_.Go.OpenSpec.ofChange s with cond := some uptoSmall }

/-- 'laws.FnExactCutOk', WHERE WHAT IT READS IS OF BULK AT MOST 1048576: true; the input reads as it did. -/
def fnExactCutOkUptoRow : OpenClaim := { program := "ytopianinclpmdaa", sum := "58511dcc41cb6870749d592976a1762c103550f0c82514b0c126f07aba9c24b1", func := "loop.example/slowworm/laws.FnExactCutOk", spec := "fnExactCutOk", apart := false, narrowed := true }
def FnExactCutOkUptoSaid : Prop := fnExactCutOkUptoRow.holds Try.pinned (OpenSpec.upto fnExactCutOkSpec)

/-- 'laws.FnExactCutRange', WHERE WHAT IT READS IS OF BULK AT MOST 1048576: true; the input reads as it did. -/
def fnExactCutRangeUptoRow : OpenClaim := { program := "ytopianinclpmdaa", sum := "58511dcc41cb6870749d592976a1762c103550f0c82514b0c126f07aba9c24b1", func := "loop.example/slowworm/laws.FnExactCutRange", spec := "fnExactCutRange", apart := false, narrowed := true }
def FnExactCutRangeUptoSaid : Prop := fnExactCutRangeUptoRow.holds Try.pinned (OpenSpec.upto fnExactCutRangeSpec)

/-- 'laws.FnExactTextCut', WHERE WHAT IT READS IS OF BULK AT MOST 1048576: true; the input reads as it did. -/
def fnExactTextCutUptoRow : OpenClaim := { program := "ytopianinclpmdaa", sum := "58511dcc41cb6870749d592976a1762c103550f0c82514b0c126f07aba9c24b1", func := "loop.example/slowworm/laws.FnExactTextCut", spec := "fnExactTextCut", apart := false, narrowed := true }
def FnExactTextCutUptoSaid : Prop := fnExactTextCutUptoRow.holds Try.pinned (OpenSpec.upto fnExactTextCutSpec)

/-- 'laws.FnExactTextAt', WHERE WHAT IT READS IS OF BULK AT MOST 1048576: true; the input reads as it did. -/
def fnExactTextAtUptoRow : OpenClaim := { program := "ytopianinclpmdaa", sum := "58511dcc41cb6870749d592976a1762c103550f0c82514b0c126f07aba9c24b1", func := "loop.example/slowworm/laws.FnExactTextAt", spec := "fnExactTextAt", apart := false, narrowed := true }
def FnExactTextAtUptoSaid : Prop := fnExactTextAtUptoRow.holds Try.pinned (OpenSpec.upto fnExactTextAtSpec)

/-- 'laws.FnExactTextFind', WHERE WHAT IT READS IS OF BULK AT MOST 1048576: true; the input reads as it did. -/
def fnExactTextFindUptoRow : OpenClaim := { program := "ytopianinclpmdaa", sum := "58511dcc41cb6870749d592976a1762c103550f0c82514b0c126f07aba9c24b1", func := "loop.example/slowworm/laws.FnExactTextFind", spec := "fnExactTextFind", inPlace := ["internal/bytealg.IndexByteString", "internal/bytealg.IndexString"], named := ["internal/bytealg.MaxLen"], apart := false, narrowed := true }
def FnExactTextFindUptoSaid : Prop := fnExactTextFindUptoRow.holds Try.pinned (OpenSpec.upto fnExactTextFindSpec)

/-- 'laws.FnExactTextJoin', WHERE WHAT IT READS IS OF BULK AT MOST 1048576: true; the input reads as it did. -/
def fnExactTextJoinUptoRow : OpenClaim := { program := "ytopianinclpmdaa", sum := "58511dcc41cb6870749d592976a1762c103550f0c82514b0c126f07aba9c24b1", func := "loop.example/slowworm/laws.FnExactTextJoin", spec := "fnExactTextJoin", apart := false, narrowed := true }
def FnExactTextJoinUptoSaid : Prop := fnExactTextJoinUptoRow.holds Try.pinned (OpenSpec.upto fnExactTextJoinSpec)

/-- 'laws.FnExactTextMany', WHERE WHAT IT READS IS OF BULK AT MOST 1048576: true; the input reads as it did. -/
def fnExactTextManyUptoRow : OpenClaim := { program := "ytopianinclpmdaa", sum := "58511dcc41cb6870749d592976a1762c103550f0c82514b0c126f07aba9c24b1", func := "loop.example/slowworm/laws.FnExactTextMany", spec := "fnExactTextMany", apart := false, narrowed := true }
def FnExactTextManyUptoSaid : Prop := fnExactTextManyUptoRow.holds Try.pinned (OpenSpec.upto fnExactTextManySpec)

/-- 'laws.FnExactTextQuote', WHERE WHAT IT READS IS OF BULK AT MOST 1048576: true; the input reads as it did. -/
def fnExactTextQuoteUptoRow : OpenClaim := { program := "ytopianinclpmdaa", sum := "58511dcc41cb6870749d592976a1762c103550f0c82514b0c126f07aba9c24b1", func := "loop.example/slowworm/laws.FnExactTextQuote", spec := "fnExactTextQuote", apart := false, narrowed := true }
def FnExactTextQuoteUptoSaid : Prop := fnExactTextQuoteUptoRow.holds Try.pinned (OpenSpec.upto fnExactTextQuoteSpec)

/-- 'laws.FnExactTextUnquote', WHERE WHAT IT READS IS OF BULK AT MOST 1048576: true; the input reads as it did. -/
def fnExactTextUnquoteUptoRow : OpenClaim := { program := "ytopianinclpmdaa", sum := "58511dcc41cb6870749d592976a1762c103550f0c82514b0c126f07aba9c24b1", func := "loop.example/slowworm/laws.FnExactTextUnquote", spec := "fnExactTextUnquote", inPlace := ["internal/bytealg.IndexByteString"], apart := false, narrowed := true }
def FnExactTextUnquoteUptoSaid : Prop := fnExactTextUnquoteUptoRow.holds Try.pinned (OpenSpec.upto fnExactTextUnquoteSpec)

/-- 'laws.FnCutOk', WHERE WHAT IT READS IS OF BULK AT MOST 1048576: true; the input reads as it did. -/
def fnCutOkUptoRow : OpenClaim := { program := "ytopianinclpmdaa", sum := "58511dcc41cb6870749d592976a1762c103550f0c82514b0c126f07aba9c24b1", func := "loop.example/slowworm/laws.FnCutOk", spec := "fnCutOk", apart := false, narrowed := true }
def FnCutOkUptoSaid : Prop := fnCutOkUptoRow.holds Try.pinned (OpenSpec.upto fnCutOkSpec)

/-- 'laws.FnCutRange', WHERE WHAT IT READS IS OF BULK AT MOST 1048576: true; the input reads as it did. -/
def fnCutRangeUptoRow : OpenClaim := { program := "ytopianinclpmdaa", sum := "58511dcc41cb6870749d592976a1762c103550f0c82514b0c126f07aba9c24b1", func := "loop.example/slowworm/laws.FnCutRange", spec := "fnCutRange", apart := false, narrowed := true }
def FnCutRangeUptoSaid : Prop := fnCutRangeUptoRow.holds Try.pinned (OpenSpec.upto fnCutRangeSpec)

/-- 'laws.FnTextAt', WHERE WHAT IT READS IS OF BULK AT MOST 1048576: true; the input reads as it did. -/
def fnTextAtUptoRow : OpenClaim := { program := "ytopianinclpmdaa", sum := "58511dcc41cb6870749d592976a1762c103550f0c82514b0c126f07aba9c24b1", func := "loop.example/slowworm/laws.FnTextAt", spec := "fnTextAt", apart := false, narrowed := true }
def FnTextAtUptoSaid : Prop := fnTextAtUptoRow.holds Try.pinned (OpenSpec.upto fnTextAtSpec)

end Rows
end Go.Proofs.Ytopianinclpmdaa
