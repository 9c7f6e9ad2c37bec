/-
  No cell of these rows narrows 'for every input' (looked for: loops, veiled, ifaces, maps, wideKeys, modest, calm, conditions, laid).
  DERIVED. THE GIVEN ROWS OF THIS SEAT. 12 by the template 'for every input the law returns true; each argument reads behind the call as it read before'; 0 by the template 'total and deterministic' (their statements: YtfmpplolhhjpoaaTotals.lean).
  GIVEN WITH THE SEED: the statements are not yours to turn. If you find one false, say at which input.
  Laid BY PROGRAM, IN A SANDBOX (cutbox-rows.mjs): the forced cells as the released guide's own fill.sh prints them over the translation 4c56b9e4fe234361… (all of the seat's roots in one cut). By AI agents, Wed Nov 11 2026. No macro, syntax, notation, axiom, sorry.
-/
import Derived.Test.YtfmpplolhhjpoaaChecked
import GoSem.Claim
import GoSem.ClaimJoined
import GoSem.ClaimMapViews
import Derived.JoinedTies
import Derived.KernelRfl
namespace Go.Proofs.Ytfmpplolhhjpoaa
/- THE CELL 'sum', in the pinned program and in every row, IS THE sha256 OF THE DUMP (.gsa) THAT YtfmpplolhhjpoaaProg.lean LOADS. Nothing in Lean hashes anything: it is a label: what it is worth is what the hold of that sum in a sandbox is worth. -/
noncomputable def Try.pinned : Pinned := { name := "ytfmpplolhhjpoaa", sum := "4c56b9e4fe23436178c261e55ad69fe483762b518af1ec0dcf4abc6ca2892760", checked := Try.checked }
namespace Rows
def none {H : Type} : Left H := { results := [], args := [] }

/-- 'laws.FnExactTextFind': WHATEVER THE INPUT: true; the input reads as it did. -/
def fnExactTextFindSpec : ChangeSpec := { name := "fnExactTextFind", fn := fun _ => fun
  | [d1, d2] => { results := [.lit (.bool true)], args := [d1, d2] }
  | _ => none }
def fnExactTextFindRow : OpenClaim := { program := "ytfmpplolhhjpoaa", sum := "4c56b9e4fe23436178c261e55ad69fe483762b518af1ec0dcf4abc6ca2892760", func := "loop.example/slowworm/laws.FnExactTextFind", spec := "fnExactTextFind", inPlace := ["internal/bytealg.IndexByteString", "internal/bytealg.IndexString"], named := ["internal/bytealg.MaxLen"], apart := false }
def FnExactTextFindSaid : Prop := fnExactTextFindRow.holds Try.pinned (OpenSpec.ofChange fnExactTextFindSpec)

/-- ITS FALSE NEIGHBOUR: 'it returns false'. Refute it at one input. -/
def fnExactTextFindWrong : ChangeSpec := { name := "fnExactTextFind", fn := fun _ => fun
  | [d1, d2] => { results := [.lit (.bool false)], args := [d1, d2] }
  | _ => none }
def FnExactTextFindWrongFalsely : Prop := fnExactTextFindRow.holds Try.pinned (OpenSpec.ofChange fnExactTextFindWrong)

/-- 'laws.FnExactTextJoin': WHATEVER THE INPUT: true; the input reads as it did. -/
def fnExactTextJoinSpec : ChangeSpec := { name := "fnExactTextJoin", fn := fun _ => fun
  | [d1, d2] => { results := [.lit (.bool true)], args := [d1, d2] }
  | _ => none }
def fnExactTextJoinRow : OpenClaim := { program := "ytfmpplolhhjpoaa", sum := "4c56b9e4fe23436178c261e55ad69fe483762b518af1ec0dcf4abc6ca2892760", func := "loop.example/slowworm/laws.FnExactTextJoin", spec := "fnExactTextJoin", apart := false }
def FnExactTextJoinSaid : Prop := fnExactTextJoinRow.holds Try.pinned (OpenSpec.ofChange fnExactTextJoinSpec)

/-- ITS FALSE NEIGHBOUR: 'it returns false'. Refute it at one input. -/
def fnExactTextJoinWrong : ChangeSpec := { name := "fnExactTextJoin", fn := fun _ => fun
  | [d1, d2] => { results := [.lit (.bool false)], args := [d1, d2] }
  | _ => none }
def FnExactTextJoinWrongFalsely : Prop := fnExactTextJoinRow.holds Try.pinned (OpenSpec.ofChange fnExactTextJoinWrong)

/-- 'laws.FnExactTextUnquote': WHATEVER THE INPUT: true; the input reads as it did. -/
def fnExactTextUnquoteSpec : ChangeSpec := { name := "fnExactTextUnquote", fn := fun _ => fun
  | [d] => { results := [.lit (.bool true)], args := [d] }
  | _ => none }
def fnExactTextUnquoteRow : OpenClaim := { program := "ytfmpplolhhjpoaa", sum := "4c56b9e4fe23436178c261e55ad69fe483762b518af1ec0dcf4abc6ca2892760", func := "loop.example/slowworm/laws.FnExactTextUnquote", spec := "fnExactTextUnquote", inPlace := ["internal/bytealg.IndexByteString"], apart := false }
def FnExactTextUnquoteSaid : Prop := fnExactTextUnquoteRow.holds Try.pinned (OpenSpec.ofChange fnExactTextUnquoteSpec)

/-- ITS FALSE NEIGHBOUR: 'it returns false'. Refute it at one input. -/
def fnExactTextUnquoteWrong : ChangeSpec := { name := "fnExactTextUnquote", fn := fun _ => fun
  | [d] => { results := [.lit (.bool false)], args := [d] }
  | _ => none }
def FnExactTextUnquoteWrongFalsely : Prop := fnExactTextUnquoteRow.holds Try.pinned (OpenSpec.ofChange fnExactTextUnquoteWrong)

/-- 'laws.FnCutOk': WHATEVER THE INPUT: true; the input reads as it did. -/
def fnCutOkSpec : ChangeSpec := { name := "fnCutOk", fn := fun _ => fun
  | [d] => { results := [.lit (.bool true)], args := [d] }
  | _ => none }
def fnCutOkRow : OpenClaim := { program := "ytfmpplolhhjpoaa", sum := "4c56b9e4fe23436178c261e55ad69fe483762b518af1ec0dcf4abc6ca2892760", func := "loop.example/slowworm/laws.FnCutOk", spec := "fnCutOk", apart := false }
def FnCutOkSaid : Prop := fnCutOkRow.holds Try.pinned (OpenSpec.ofChange fnCutOkSpec)

/-- ITS FALSE NEIGHBOUR: 'it returns false'. Refute it at one input. -/
def fnCutOkWrong : ChangeSpec := { name := "fnCutOk", fn := fun _ => fun
  | [d] => { results := [.lit (.bool false)], args := [d] }
  | _ => none }
def FnCutOkWrongFalsely : Prop := fnCutOkRow.holds Try.pinned (OpenSpec.ofChange fnCutOkWrong)

/-- 'laws.FnCutRange': WHATEVER THE INPUT: true; the input reads as it did. -/
def fnCutRangeSpec : ChangeSpec := { name := "fnCutRange", fn := fun _ => fun
  | [d] => { results := [.lit (.bool true)], args := [d] }
  | _ => none }
def fnCutRangeRow : OpenClaim := { program := "ytfmpplolhhjpoaa", sum := "4c56b9e4fe23436178c261e55ad69fe483762b518af1ec0dcf4abc6ca2892760", func := "loop.example/slowworm/laws.FnCutRange", spec := "fnCutRange", apart := false }
def FnCutRangeSaid : Prop := fnCutRangeRow.holds Try.pinned (OpenSpec.ofChange fnCutRangeSpec)

/-- ITS FALSE NEIGHBOUR: 'it returns false'. Refute it at one input. -/
def fnCutRangeWrong : ChangeSpec := { name := "fnCutRange", fn := fun _ => fun
  | [d] => { results := [.lit (.bool false)], args := [d] }
  | _ => none }
def FnCutRangeWrongFalsely : Prop := fnCutRangeRow.holds Try.pinned (OpenSpec.ofChange fnCutRangeWrong)

/-- 'laws.FnTextAt': WHATEVER THE INPUT: true; the input reads as it did. -/
def fnTextAtSpec : ChangeSpec := { name := "fnTextAt", fn := fun _ => fun
  | [d] => { results := [.lit (.bool true)], args := [d] }
  | _ => none }
def fnTextAtRow : OpenClaim := { program := "ytfmpplolhhjpoaa", sum := "4c56b9e4fe23436178c261e55ad69fe483762b518af1ec0dcf4abc6ca2892760", func := "loop.example/slowworm/laws.FnTextAt", spec := "fnTextAt", apart := false }
def FnTextAtSaid : Prop := fnTextAtRow.holds Try.pinned (OpenSpec.ofChange fnTextAtSpec)

/-- ITS FALSE NEIGHBOUR: 'it returns false'. Refute it at one input. -/
def fnTextAtWrong : ChangeSpec := { name := "fnTextAt", fn := fun _ => fun
  | [d] => { results := [.lit (.bool false)], args := [d] }
  | _ => none }
def FnTextAtWrongFalsely : Prop := fnTextAtRow.holds Try.pinned (OpenSpec.ofChange fnTextAtWrong)

/-- 'laws.FnTextMany': WHATEVER THE INPUT: true; the input reads as it did. -/
def fnTextManySpec : ChangeSpec := { name := "fnTextMany", fn := fun _ => fun
  | [d] => { results := [.lit (.bool true)], args := [d] }
  | _ => none }
def fnTextManyRow : OpenClaim := { program := "ytfmpplolhhjpoaa", sum := "4c56b9e4fe23436178c261e55ad69fe483762b518af1ec0dcf4abc6ca2892760", func := "loop.example/slowworm/laws.FnTextMany", spec := "fnTextMany", apart := false }
def FnTextManySaid : Prop := fnTextManyRow.holds Try.pinned (OpenSpec.ofChange fnTextManySpec)

/-- ITS FALSE NEIGHBOUR: 'it returns false'. Refute it at one input. -/
def fnTextManyWrong : ChangeSpec := { name := "fnTextMany", fn := fun _ => fun
  | [d] => { results := [.lit (.bool false)], args := [d] }
  | _ => none }
def FnTextManyWrongFalsely : Prop := fnTextManyRow.holds Try.pinned (OpenSpec.ofChange fnTextManyWrong)

/-- 'laws.FnTextQuote': WHATEVER THE INPUT: true; the input reads as it did. -/
def fnTextQuoteSpec : ChangeSpec := { name := "fnTextQuote", fn := fun _ => fun
  | [d] => { results := [.lit (.bool true)], args := [d] }
  | _ => none }
def fnTextQuoteRow : OpenClaim := { program := "ytfmpplolhhjpoaa", sum := "4c56b9e4fe23436178c261e55ad69fe483762b518af1ec0dcf4abc6ca2892760", func := "loop.example/slowworm/laws.FnTextQuote", spec := "fnTextQuote", inPlace := ["internal/bytealg.IndexByteString"], apart := false }
def FnTextQuoteSaid : Prop := fnTextQuoteRow.holds Try.pinned (OpenSpec.ofChange fnTextQuoteSpec)

/-- ITS FALSE NEIGHBOUR: 'it returns false'. Refute it at one input. -/
def fnTextQuoteWrong : ChangeSpec := { name := "fnTextQuote", fn := fun _ => fun
  | [d] => { results := [.lit (.bool false)], args := [d] }
  | _ => none }
def FnTextQuoteWrongFalsely : Prop := fnTextQuoteRow.holds Try.pinned (OpenSpec.ofChange fnTextQuoteWrong)

/-- 'laws.FnTextCut': WHATEVER THE INPUT: true; the input reads as it did. -/
def fnTextCutSpec : ChangeSpec := { name := "fnTextCut", fn := fun _ => fun
  | [d] => { results := [.lit (.bool true)], args := [d] }
  | _ => none }
def fnTextCutRow : OpenClaim := { program := "ytfmpplolhhjpoaa", sum := "4c56b9e4fe23436178c261e55ad69fe483762b518af1ec0dcf4abc6ca2892760", func := "loop.example/slowworm/laws.FnTextCut", spec := "fnTextCut", apart := false }
def FnTextCutSaid : Prop := fnTextCutRow.holds Try.pinned (OpenSpec.ofChange fnTextCutSpec)

/-- ITS FALSE NEIGHBOUR: 'it returns false'. Refute it at one input. -/
def fnTextCutWrong : ChangeSpec := { name := "fnTextCut", fn := fun _ => fun
  | [d] => { results := [.lit (.bool false)], args := [d] }
  | _ => none }
def FnTextCutWrongFalsely : Prop := fnTextCutRow.holds Try.pinned (OpenSpec.ofChange fnTextCutWrong)

/-- 'laws.FnTextFind': WHATEVER THE INPUT: true; the input reads as it did. -/
def fnTextFindSpec : ChangeSpec := { name := "fnTextFind", fn := fun _ => fun
  | [d] => { results := [.lit (.bool true)], args := [d] }
  | _ => none }
def fnTextFindRow : OpenClaim := { program := "ytfmpplolhhjpoaa", sum := "4c56b9e4fe23436178c261e55ad69fe483762b518af1ec0dcf4abc6ca2892760", func := "loop.example/slowworm/laws.FnTextFind", spec := "fnTextFind", inPlace := ["internal/bytealg.IndexByteString", "internal/bytealg.IndexString"], named := ["internal/bytealg.MaxLen"], apart := false }
def FnTextFindSaid : Prop := fnTextFindRow.holds Try.pinned (OpenSpec.ofChange fnTextFindSpec)

/-- ITS FALSE NEIGHBOUR: 'it returns false'. Refute it at one input. -/
def fnTextFindWrong : ChangeSpec := { name := "fnTextFind", fn := fun _ => fun
  | [d] => { results := [.lit (.bool false)], args := [d] }
  | _ => none }
def FnTextFindWrongFalsely : Prop := fnTextFindRow.holds Try.pinned (OpenSpec.ofChange fnTextFindWrong)

/-- 'laws.FnTextUnquote': WHATEVER THE INPUT: true; the input reads as it did. -/
def fnTextUnquoteSpec : ChangeSpec := { name := "fnTextUnquote", fn := fun _ => fun
  | [d] => { results := [.lit (.bool true)], args := [d] }
  | _ => none }
def fnTextUnquoteRow : OpenClaim := { program := "ytfmpplolhhjpoaa", sum := "4c56b9e4fe23436178c261e55ad69fe483762b518af1ec0dcf4abc6ca2892760", func := "loop.example/slowworm/laws.FnTextUnquote", spec := "fnTextUnquote", inPlace := ["internal/bytealg.IndexByteString"], apart := false }
def FnTextUnquoteSaid : Prop := fnTextUnquoteRow.holds Try.pinned (OpenSpec.ofChange fnTextUnquoteSpec)

/-- ITS FALSE NEIGHBOUR: 'it returns false'. Refute it at one input. -/
def fnTextUnquoteWrong : ChangeSpec := { name := "fnTextUnquote", fn := fun _ => fun
  | [d] => { results := [.lit (.bool false)], args := [d] }
  | _ => none }
def FnTextUnquoteWrongFalsely : Prop := fnTextUnquoteRow.holds Try.pinned (OpenSpec.ofChange fnTextUnquoteWrong)

/-- 'laws.FnTextJoin': WHATEVER THE INPUT: true; the input reads as it did. -/
def fnTextJoinSpec : ChangeSpec := { name := "fnTextJoin", fn := fun _ => fun
  | [d] => { results := [.lit (.bool true)], args := [d] }
  | _ => none }
def fnTextJoinRow : OpenClaim := { program := "ytfmpplolhhjpoaa", sum := "4c56b9e4fe23436178c261e55ad69fe483762b518af1ec0dcf4abc6ca2892760", func := "loop.example/slowworm/laws.FnTextJoin", spec := "fnTextJoin", apart := false }
def FnTextJoinSaid : Prop := fnTextJoinRow.holds Try.pinned (OpenSpec.ofChange fnTextJoinSpec)

/-- ITS FALSE NEIGHBOUR: 'it returns false'. Refute it at one input. -/
def fnTextJoinWrong : ChangeSpec := { name := "fnTextJoin", fn := fun _ => fun
  | [d] => { results := [.lit (.bool false)], args := [d] }
  | _ => none }
def FnTextJoinWrongFalsely : Prop := fnTextJoinRow.holds Try.pinned (OpenSpec.ofChange fnTextJoinWrong)

/- THE SECOND FORM. 'bulk': how many values and letters a reading holds, each counted each time it is reached (what is shared counts as often as it is met; a slice's spare places count too). A statement '..UptoSaid' is the law's where the arguments, and the package variables that the reading takes, are together of bulk at most 1048576: NARROWER than '..Said'. Prove '..Said' where nothing that the law and all that it calls make is longer than what came in: it says more and counts as full. Else prove '..UptoSaid'. A law counts once. -/
mutual
def uptoBulk {H : Type} : DataW H → Nat
  | .lit (.string bytes) => bytes.length + 1
  | .lit _ => 1
  | .nil => 1
  | .ptr d => uptoBulk d + 1
  | .slice elems spare => uptoBulkAll elems + uptoBulkAll spare + 1
  | .agg parts => uptoBulkAll parts + 1
  | .iface _ d => uptoBulk d + 1
  | .map entries => uptoBulkEntries entries + 1
  | .held _ => 1
def uptoBulkAll {H : Type} : List (DataW H) → Nat
  | [] => 0
  | d :: r => uptoBulk d + uptoBulkAll r
def uptoBulkEntries {H : Type} : List (Lit × DataW H) → Nat
  | [] => 0
  | x :: r => uptoBulkEntry x + uptoBulkEntries r
def uptoBulkEntry {H : Type} : Lit × DataW H → Nat
  | (.string bytes, d) => bytes.length + uptoBulk d + 1
  | (_, d) => uptoBulk d + 1
 end
def uptoSmall : (H : Type) → List (DataW H) → Bool := fun _ ds => decide (uptoBulkAll ds ≤ 1048576)
def OpenSpec.upto (s : _root_.Go.ChangeSpec) : _root_.Go.OpenSpec := { _root_.Go.OpenSpec.ofChange s with cond := some uptoSmall }

/-- 'laws.FnExactTextFind', WHERE WHAT IT READS IS OF BULK AT MOST 1048576: true; the input reads as it did. -/
def fnExactTextFindUptoRow : OpenClaim := { program := "ytfmpplolhhjpoaa", sum := "4c56b9e4fe23436178c261e55ad69fe483762b518af1ec0dcf4abc6ca2892760", func := "loop.example/slowworm/laws.FnExactTextFind", spec := "fnExactTextFind", inPlace := ["internal/bytealg.IndexByteString", "internal/bytealg.IndexString"], named := ["internal/bytealg.MaxLen"], apart := false, narrowed := true }
def FnExactTextFindUptoSaid : Prop := fnExactTextFindUptoRow.holds Try.pinned (OpenSpec.upto fnExactTextFindSpec)

/-- 'laws.FnExactTextJoin', WHERE WHAT IT READS IS OF BULK AT MOST 1048576: true; the input reads as it did. -/
def fnExactTextJoinUptoRow : OpenClaim := { program := "ytfmpplolhhjpoaa", sum := "4c56b9e4fe23436178c261e55ad69fe483762b518af1ec0dcf4abc6ca2892760", func := "loop.example/slowworm/laws.FnExactTextJoin", spec := "fnExactTextJoin", apart := false, narrowed := true }
def FnExactTextJoinUptoSaid : Prop := fnExactTextJoinUptoRow.holds Try.pinned (OpenSpec.upto fnExactTextJoinSpec)

/-- 'laws.FnExactTextUnquote', WHERE WHAT IT READS IS OF BULK AT MOST 1048576: true; the input reads as it did. -/
def fnExactTextUnquoteUptoRow : OpenClaim := { program := "ytfmpplolhhjpoaa", sum := "4c56b9e4fe23436178c261e55ad69fe483762b518af1ec0dcf4abc6ca2892760", func := "loop.example/slowworm/laws.FnExactTextUnquote", spec := "fnExactTextUnquote", inPlace := ["internal/bytealg.IndexByteString"], apart := false, narrowed := true }
def FnExactTextUnquoteUptoSaid : Prop := fnExactTextUnquoteUptoRow.holds Try.pinned (OpenSpec.upto fnExactTextUnquoteSpec)

/-- 'laws.FnCutOk', WHERE WHAT IT READS IS OF BULK AT MOST 1048576: true; the input reads as it did. -/
def fnCutOkUptoRow : OpenClaim := { program := "ytfmpplolhhjpoaa", sum := "4c56b9e4fe23436178c261e55ad69fe483762b518af1ec0dcf4abc6ca2892760", func := "loop.example/slowworm/laws.FnCutOk", spec := "fnCutOk", apart := false, narrowed := true }
def FnCutOkUptoSaid : Prop := fnCutOkUptoRow.holds Try.pinned (OpenSpec.upto fnCutOkSpec)

/-- 'laws.FnCutRange', WHERE WHAT IT READS IS OF BULK AT MOST 1048576: true; the input reads as it did. -/
def fnCutRangeUptoRow : OpenClaim := { program := "ytfmpplolhhjpoaa", sum := "4c56b9e4fe23436178c261e55ad69fe483762b518af1ec0dcf4abc6ca2892760", func := "loop.example/slowworm/laws.FnCutRange", spec := "fnCutRange", apart := false, narrowed := true }
def FnCutRangeUptoSaid : Prop := fnCutRangeUptoRow.holds Try.pinned (OpenSpec.upto fnCutRangeSpec)

/-- 'laws.FnTextAt', WHERE WHAT IT READS IS OF BULK AT MOST 1048576: true; the input reads as it did. -/
def fnTextAtUptoRow : OpenClaim := { program := "ytfmpplolhhjpoaa", sum := "4c56b9e4fe23436178c261e55ad69fe483762b518af1ec0dcf4abc6ca2892760", func := "loop.example/slowworm/laws.FnTextAt", spec := "fnTextAt", apart := false, narrowed := true }
def FnTextAtUptoSaid : Prop := fnTextAtUptoRow.holds Try.pinned (OpenSpec.upto fnTextAtSpec)

/-- 'laws.FnTextMany', WHERE WHAT IT READS IS OF BULK AT MOST 1048576: true; the input reads as it did. -/
def fnTextManyUptoRow : OpenClaim := { program := "ytfmpplolhhjpoaa", sum := "4c56b9e4fe23436178c261e55ad69fe483762b518af1ec0dcf4abc6ca2892760", func := "loop.example/slowworm/laws.FnTextMany", spec := "fnTextMany", apart := false, narrowed := true }
def FnTextManyUptoSaid : Prop := fnTextManyUptoRow.holds Try.pinned (OpenSpec.upto fnTextManySpec)

/-- 'laws.FnTextQuote', WHERE WHAT IT READS IS OF BULK AT MOST 1048576: true; the input reads as it did. -/
def fnTextQuoteUptoRow : OpenClaim := { program := "ytfmpplolhhjpoaa", sum := "4c56b9e4fe23436178c261e55ad69fe483762b518af1ec0dcf4abc6ca2892760", func := "loop.example/slowworm/laws.FnTextQuote", spec := "fnTextQuote", inPlace := ["internal/bytealg.IndexByteString"], apart := false, narrowed := true }
def FnTextQuoteUptoSaid : Prop := fnTextQuoteUptoRow.holds Try.pinned (OpenSpec.upto fnTextQuoteSpec)

/-- 'laws.FnTextCut', WHERE WHAT IT READS IS OF BULK AT MOST 1048576: true; the input reads as it did. -/
def fnTextCutUptoRow : OpenClaim := { program := "ytfmpplolhhjpoaa", sum := "4c56b9e4fe23436178c261e55ad69fe483762b518af1ec0dcf4abc6ca2892760", func := "loop.example/slowworm/laws.FnTextCut", spec := "fnTextCut", apart := false, narrowed := true }
def FnTextCutUptoSaid : Prop := fnTextCutUptoRow.holds Try.pinned (OpenSpec.upto fnTextCutSpec)

/-- 'laws.FnTextFind', WHERE WHAT IT READS IS OF BULK AT MOST 1048576: true; the input reads as it did. -/
def fnTextFindUptoRow : OpenClaim := { program := "ytfmpplolhhjpoaa", sum := "4c56b9e4fe23436178c261e55ad69fe483762b518af1ec0dcf4abc6ca2892760", func := "loop.example/slowworm/laws.FnTextFind", spec := "fnTextFind", inPlace := ["internal/bytealg.IndexByteString", "internal/bytealg.IndexString"], named := ["internal/bytealg.MaxLen"], apart := false, narrowed := true }
def FnTextFindUptoSaid : Prop := fnTextFindUptoRow.holds Try.pinned (OpenSpec.upto fnTextFindSpec)

/-- 'laws.FnTextUnquote', WHERE WHAT IT READS IS OF BULK AT MOST 1048576: true; the input reads as it did. -/
def fnTextUnquoteUptoRow : OpenClaim := { program := "ytfmpplolhhjpoaa", sum := "4c56b9e4fe23436178c261e55ad69fe483762b518af1ec0dcf4abc6ca2892760", func := "loop.example/slowworm/laws.FnTextUnquote", spec := "fnTextUnquote", inPlace := ["internal/bytealg.IndexByteString"], apart := false, narrowed := true }
def FnTextUnquoteUptoSaid : Prop := fnTextUnquoteUptoRow.holds Try.pinned (OpenSpec.upto fnTextUnquoteSpec)

/-- 'laws.FnTextJoin', WHERE WHAT IT READS IS OF BULK AT MOST 1048576: true; the input reads as it did. -/
def fnTextJoinUptoRow : OpenClaim := { program := "ytfmpplolhhjpoaa", sum := "4c56b9e4fe23436178c261e55ad69fe483762b518af1ec0dcf4abc6ca2892760", func := "loop.example/slowworm/laws.FnTextJoin", spec := "fnTextJoin", apart := false, narrowed := true }
def FnTextJoinUptoSaid : Prop := fnTextJoinUptoRow.holds Try.pinned (OpenSpec.upto fnTextJoinSpec)

end Rows
end Go.Proofs.Ytfmpplolhhjpoaa
