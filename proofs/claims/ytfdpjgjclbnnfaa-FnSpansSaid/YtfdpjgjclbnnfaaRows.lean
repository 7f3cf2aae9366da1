/-
  No cell of these rows narrows 'for every input' (looked for: loops, veiled, ifaces, maps, wideKeys, modest, calm, conditions, laid).
  DERIVED. THE GIVEN ROWS OF THIS SEAT. 11 by the template 'for every input the law returns true; each argument reads behind the call as it read before'; 0 by the template 'total and deterministic' (their statements: YtfdpjgjclbnnfaaTotals.lean).
  GIVEN WITH THE SEED: the statements are not yours to turn. If you find one false, say at which input.
  Laid BY PROGRAM, IN A SANDBOX (cutbox-rows.mjs): the forced cells as the released guide's own fill.sh prints them over the translation 95582d9c80be355d… (all of the seat's roots in one cut). By AI agents, Wed Nov 11 2026. No macro, syntax, notation, axiom, sorry.
-/
import Derived.Test.YtfdpjgjclbnnfaaChecked
import GoSem.Claim
import GoSem.ClaimJoined
import GoSem.ClaimMapViews
import Derived.JoinedTies
import Derived.KernelRfl
namespace Go.Proofs.Ytfdpjgjclbnnfaa
/- THE CELL 'sum', in the pinned program and in every row, IS THE sha256 OF THE DUMP (.gsa) THAT YtfdpjgjclbnnfaaProg.lean LOADS. Nothing in Lean hashes anything: it is a label: what it is worth is what the hold of that sum in a sandbox is worth. -/
noncomputable def Try.pinned : Pinned := { name := "ytfdpjgjclbnnfaa", sum := "95582d9c80be355dc016e06dbc06f5e82dcd576cad9a6ba22b2b0caefa96c620", checked := Try.checked }
namespace Rows
def none {H : Type} : Left H := { results := [], args := [] }

/-- 'laws.FnSerials': WHATEVER THE INPUT: true; the input reads as it did. -/
def fnSerialsSpec : ChangeSpec := { name := "fnSerials", fn := fun _ => fun
  | [d] => { results := [.lit (.bool true)], args := [d] }
  | _ => none }
def fnSerialsRow : OpenClaim := { program := "ytfdpjgjclbnnfaa", sum := "95582d9c80be355dc016e06dbc06f5e82dcd576cad9a6ba22b2b0caefa96c620", func := "loop.example/g00840/laws.FnSerials", spec := "fnSerials", apart := false }
def FnSerialsSaid : Prop := fnSerialsRow.holds Try.pinned (OpenSpec.ofChange fnSerialsSpec)

/-- ITS FALSE NEIGHBOUR: 'it returns false'. Refute it at one input. -/
def fnSerialsWrong : ChangeSpec := { name := "fnSerials", fn := fun _ => fun
  | [d] => { results := [.lit (.bool false)], args := [d] }
  | _ => none }
def FnSerialsWrongFalsely : Prop := fnSerialsRow.holds Try.pinned (OpenSpec.ofChange fnSerialsWrong)

/-- 'laws.FnSpans': WHATEVER THE INPUT: true; the input reads as it did. -/
def fnSpansSpec : ChangeSpec := { name := "fnSpans", fn := fun _ => fun
  | [d] => { results := [.lit (.bool true)], args := [d] }
  | _ => none }
def fnSpansRow : OpenClaim := { program := "ytfdpjgjclbnnfaa", sum := "95582d9c80be355dc016e06dbc06f5e82dcd576cad9a6ba22b2b0caefa96c620", func := "loop.example/g00840/laws.FnSpans", spec := "fnSpans", unfollowed := true, recurses := true, apart := false }
def FnSpansSaid : Prop := fnSpansRow.holds Try.pinned (OpenSpec.ofChange fnSpansSpec)

/-- ITS FALSE NEIGHBOUR: 'it returns false'. Refute it at one input. -/
def fnSpansWrong : ChangeSpec := { name := "fnSpans", fn := fun _ => fun
  | [d] => { results := [.lit (.bool false)], args := [d] }
  | _ => none }
def FnSpansWrongFalsely : Prop := fnSpansRow.holds Try.pinned (OpenSpec.ofChange fnSpansWrong)

/-- 'laws.FnExactIsSerial': WHATEVER THE INPUT: true; the input reads as it did. -/
def fnExactIsSerialSpec : ChangeSpec := { name := "fnExactIsSerial", fn := fun _ => fun
  | [d] => { results := [.lit (.bool true)], args := [d] }
  | _ => none }
def fnExactIsSerialRow : OpenClaim := { program := "ytfdpjgjclbnnfaa", sum := "95582d9c80be355dc016e06dbc06f5e82dcd576cad9a6ba22b2b0caefa96c620", func := "loop.example/g00840/laws.FnExactIsSerial", spec := "fnExactIsSerial", apart := false }
def FnExactIsSerialSaid : Prop := fnExactIsSerialRow.holds Try.pinned (OpenSpec.ofChange fnExactIsSerialSpec)

/-- ITS FALSE NEIGHBOUR: 'it returns false'. Refute it at one input. -/
def fnExactIsSerialWrong : ChangeSpec := { name := "fnExactIsSerial", fn := fun _ => fun
  | [d] => { results := [.lit (.bool false)], args := [d] }
  | _ => none }
def FnExactIsSerialWrongFalsely : Prop := fnExactIsSerialRow.holds Try.pinned (OpenSpec.ofChange fnExactIsSerialWrong)

/-- 'laws.FnExactAfterSerial': WHATEVER THE INPUT: true; the input reads as it did. -/
def fnExactAfterSerialSpec : ChangeSpec := { name := "fnExactAfterSerial", fn := fun _ => fun
  | [d1, d2] => { results := [.lit (.bool true)], args := [d1, d2] }
  | _ => none }
def fnExactAfterSerialRow : OpenClaim := { program := "ytfdpjgjclbnnfaa", sum := "95582d9c80be355dc016e06dbc06f5e82dcd576cad9a6ba22b2b0caefa96c620", func := "loop.example/g00840/laws.FnExactAfterSerial", spec := "fnExactAfterSerial", apart := false }
def FnExactAfterSerialSaid : Prop := fnExactAfterSerialRow.holds Try.pinned (OpenSpec.ofChange fnExactAfterSerialSpec)

/-- ITS FALSE NEIGHBOUR: 'it returns false'. Refute it at one input. -/
def fnExactAfterSerialWrong : ChangeSpec := { name := "fnExactAfterSerial", fn := fun _ => fun
  | [d1, d2] => { results := [.lit (.bool false)], args := [d1, d2] }
  | _ => none }
def FnExactAfterSerialWrongFalsely : Prop := fnExactAfterSerialRow.holds Try.pinned (OpenSpec.ofChange fnExactAfterSerialWrong)

/-- 'laws.FnExactSerialGap': WHATEVER THE INPUT: true; the input reads as it did. -/
def fnExactSerialGapSpec : ChangeSpec := { name := "fnExactSerialGap", fn := fun _ => fun
  | [d1, d2] => { results := [.lit (.bool true)], args := [d1, d2] }
  | _ => none }
def fnExactSerialGapRow : OpenClaim := { program := "ytfdpjgjclbnnfaa", sum := "95582d9c80be355dc016e06dbc06f5e82dcd576cad9a6ba22b2b0caefa96c620", func := "loop.example/g00840/laws.FnExactSerialGap", spec := "fnExactSerialGap", apart := false }
def FnExactSerialGapSaid : Prop := fnExactSerialGapRow.holds Try.pinned (OpenSpec.ofChange fnExactSerialGapSpec)

/-- ITS FALSE NEIGHBOUR: 'it returns false'. Refute it at one input. -/
def fnExactSerialGapWrong : ChangeSpec := { name := "fnExactSerialGap", fn := fun _ => fun
  | [d1, d2] => { results := [.lit (.bool false)], args := [d1, d2] }
  | _ => none }
def FnExactSerialGapWrongFalsely : Prop := fnExactSerialGapRow.holds Try.pinned (OpenSpec.ofChange fnExactSerialGapWrong)

/-- 'laws.FnExactIsBefore': WHATEVER THE INPUT: true; the input reads as it did. -/
def fnExactIsBeforeSpec : ChangeSpec := { name := "fnExactIsBefore", fn := fun _ => fun
  | [d1, d2] => { results := [.lit (.bool true)], args := [d1, d2] }
  | _ => none }
def fnExactIsBeforeRow : OpenClaim := { program := "ytfdpjgjclbnnfaa", sum := "95582d9c80be355dc016e06dbc06f5e82dcd576cad9a6ba22b2b0caefa96c620", func := "loop.example/g00840/laws.FnExactIsBefore", spec := "fnExactIsBefore", apart := false }
def FnExactIsBeforeSaid : Prop := fnExactIsBeforeRow.holds Try.pinned (OpenSpec.ofChange fnExactIsBeforeSpec)

/-- ITS FALSE NEIGHBOUR: 'it returns false'. Refute it at one input. -/
def fnExactIsBeforeWrong : ChangeSpec := { name := "fnExactIsBefore", fn := fun _ => fun
  | [d1, d2] => { results := [.lit (.bool false)], args := [d1, d2] }
  | _ => none }
def FnExactIsBeforeWrongFalsely : Prop := fnExactIsBeforeRow.holds Try.pinned (OpenSpec.ofChange fnExactIsBeforeWrong)

/-- 'laws.FnExactInSpan': WHATEVER THE INPUT: true; the input reads as it did. -/
def fnExactInSpanSpec : ChangeSpec := { name := "fnExactInSpan", fn := fun _ => fun
  | [d1, d2, d3] => { results := [.lit (.bool true)], args := [d1, d2, d3] }
  | _ => none }
def fnExactInSpanRow : OpenClaim := { program := "ytfdpjgjclbnnfaa", sum := "95582d9c80be355dc016e06dbc06f5e82dcd576cad9a6ba22b2b0caefa96c620", func := "loop.example/g00840/laws.FnExactInSpan", spec := "fnExactInSpan", apart := false }
def FnExactInSpanSaid : Prop := fnExactInSpanRow.holds Try.pinned (OpenSpec.ofChange fnExactInSpanSpec)

/-- ITS FALSE NEIGHBOUR: 'it returns false'. Refute it at one input. -/
def fnExactInSpanWrong : ChangeSpec := { name := "fnExactInSpan", fn := fun _ => fun
  | [d1, d2, d3] => { results := [.lit (.bool false)], args := [d1, d2, d3] }
  | _ => none }
def FnExactInSpanWrongFalsely : Prop := fnExactInSpanRow.holds Try.pinned (OpenSpec.ofChange fnExactInSpanWrong)

/-- 'laws.FnExactLaterSerial': WHATEVER THE INPUT: true; the input reads as it did. -/
def fnExactLaterSerialSpec : ChangeSpec := { name := "fnExactLaterSerial", fn := fun _ => fun
  | [d1, d2] => { results := [.lit (.bool true)], args := [d1, d2] }
  | _ => none }
def fnExactLaterSerialRow : OpenClaim := { program := "ytfdpjgjclbnnfaa", sum := "95582d9c80be355dc016e06dbc06f5e82dcd576cad9a6ba22b2b0caefa96c620", func := "loop.example/g00840/laws.FnExactLaterSerial", spec := "fnExactLaterSerial", apart := false }
def FnExactLaterSerialSaid : Prop := fnExactLaterSerialRow.holds Try.pinned (OpenSpec.ofChange fnExactLaterSerialSpec)

/-- ITS FALSE NEIGHBOUR: 'it returns false'. Refute it at one input. -/
def fnExactLaterSerialWrong : ChangeSpec := { name := "fnExactLaterSerial", fn := fun _ => fun
  | [d1, d2] => { results := [.lit (.bool false)], args := [d1, d2] }
  | _ => none }
def FnExactLaterSerialWrongFalsely : Prop := fnExactLaterSerialRow.holds Try.pinned (OpenSpec.ofChange fnExactLaterSerialWrong)

/-- 'laws.FnExactSerialSpan': WHATEVER THE INPUT: true; the input reads as it did. -/
def fnExactSerialSpanSpec : ChangeSpec := { name := "fnExactSerialSpan", fn := fun _ => fun
  | [d1, d2] => { results := [.lit (.bool true)], args := [d1, d2] }
  | _ => none }
def fnExactSerialSpanRow : OpenClaim := { program := "ytfdpjgjclbnnfaa", sum := "95582d9c80be355dc016e06dbc06f5e82dcd576cad9a6ba22b2b0caefa96c620", func := "loop.example/g00840/laws.FnExactSerialSpan", spec := "fnExactSerialSpan", apart := false }
def FnExactSerialSpanSaid : Prop := fnExactSerialSpanRow.holds Try.pinned (OpenSpec.ofChange fnExactSerialSpanSpec)

/-- ITS FALSE NEIGHBOUR: 'it returns false'. Refute it at one input. -/
def fnExactSerialSpanWrong : ChangeSpec := { name := "fnExactSerialSpan", fn := fun _ => fun
  | [d1, d2] => { results := [.lit (.bool false)], args := [d1, d2] }
  | _ => none }
def FnExactSerialSpanWrongFalsely : Prop := fnExactSerialSpanRow.holds Try.pinned (OpenSpec.ofChange fnExactSerialSpanWrong)

/-- 'laws.FnExactSortSerials': WHATEVER THE INPUT: true; the input reads as it did. -/
def fnExactSortSerialsSpec : ChangeSpec := { name := "fnExactSortSerials", fn := fun _ => fun
  | [d1, d2] => { results := [.lit (.bool true)], args := [d1, d2] }
  | _ => none }
def fnExactSortSerialsRow : OpenClaim := { program := "ytfdpjgjclbnnfaa", sum := "95582d9c80be355dc016e06dbc06f5e82dcd576cad9a6ba22b2b0caefa96c620", func := "loop.example/g00840/laws.FnExactSortSerials", spec := "fnExactSortSerials", unfollowed := true, recurses := true, apart := false }
def FnExactSortSerialsSaid : Prop := fnExactSortSerialsRow.holds Try.pinned (OpenSpec.ofChange fnExactSortSerialsSpec)

/-- ITS FALSE NEIGHBOUR: 'it returns false'. Refute it at one input. -/
def fnExactSortSerialsWrong : ChangeSpec := { name := "fnExactSortSerials", fn := fun _ => fun
  | [d1, d2] => { results := [.lit (.bool false)], args := [d1, d2] }
  | _ => none }
def FnExactSortSerialsWrongFalsely : Prop := fnExactSortSerialsRow.holds Try.pinned (OpenSpec.ofChange fnExactSortSerialsWrong)

/-- 'laws.FnExactSpanOf': WHATEVER THE INPUT: true; the input reads as it did. -/
def fnExactSpanOfSpec : ChangeSpec := { name := "fnExactSpanOf", fn := fun _ => fun
  | [d] => { results := [.lit (.bool true)], args := [d] }
  | _ => none }
def fnExactSpanOfRow : OpenClaim := { program := "ytfdpjgjclbnnfaa", sum := "95582d9c80be355dc016e06dbc06f5e82dcd576cad9a6ba22b2b0caefa96c620", func := "loop.example/g00840/laws.FnExactSpanOf", spec := "fnExactSpanOf", apart := false }
def FnExactSpanOfSaid : Prop := fnExactSpanOfRow.holds Try.pinned (OpenSpec.ofChange fnExactSpanOfSpec)

/-- ITS FALSE NEIGHBOUR: 'it returns false'. Refute it at one input. -/
def fnExactSpanOfWrong : ChangeSpec := { name := "fnExactSpanOf", fn := fun _ => fun
  | [d] => { results := [.lit (.bool false)], args := [d] }
  | _ => none }
def FnExactSpanOfWrongFalsely : Prop := fnExactSpanOfRow.holds Try.pinned (OpenSpec.ofChange fnExactSpanOfWrong)

/- THE SECOND FORM. 'bulk': how many values and letters a reading holds, each counted each time it is reached (what is shared counts as often as it is met; a slice's spare places count too). A statement '..UptoSaid' is the law's where the arguments, and the package variables that the reading takes, are together of bulk at most 1048576: NARROWER than '..Said'. Prove '..Said' where nothing that the law and all that it calls make is longer than what came in: it says more and counts as full. Else prove '..UptoSaid'. A law counts once. -/
mutual
def uptoBulk {H : Type} : DataW H → Nat
  | .lit (.string bytes) => bytes.length + 1
  | .lit _ => 1
  | .nil => 1
  | .ptr d => uptoBulk d + 1
  | .slice elems spare => uptoBulkAll elems + uptoBulkAll spare + 1
  | .agg parts => uptoBulkAll parts + 1
  | .iface _ d => uptoBulk d + 1
  | .map entries => uptoBulkEntries entries + 1
  | .held _ => 1
def uptoBulkAll {H : Type} : List (DataW H) → Nat
  | [] => 0
  | d :: r => uptoBulk d + uptoBulkAll r
def uptoBulkEntries {H : Type} : List (Lit × DataW H) → Nat
  | [] => 0
  | x :: r => uptoBulkEntry x + uptoBulkEntries r
def uptoBulkEntry {H : Type} : Lit × DataW H → Nat
  | (.string bytes, d) => bytes.length + uptoBulk d + 1
  | (_, d) => uptoBulk d + 1
 end
def uptoSmall : (H : Type) → List (DataW H) → Bool := fun _ ds => decide (uptoBulkAll ds ≤ 1048576)
def OpenSpec.upto (s : _root_.Go.ChangeSpec) : _root_.Go.OpenSpec := { _root_.Go.OpenSpec.ofChange s with cond := some uptoSmall }

/-- 'laws.FnSerials', WHERE WHAT IT READS IS OF BULK AT MOST 1048576: true; the input reads as it did. -/
def fnSerialsUptoRow : OpenClaim := { program := "ytfdpjgjclbnnfaa", sum := "95582d9c80be355dc016e06dbc06f5e82dcd576cad9a6ba22b2b0caefa96c620", func := "loop.example/g00840/laws.FnSerials", spec := "fnSerials", apart := false, narrowed := true }
def FnSerialsUptoSaid : Prop := fnSerialsUptoRow.holds Try.pinned (OpenSpec.upto fnSerialsSpec)

/-- 'laws.FnSpans', WHERE WHAT IT READS IS OF BULK AT MOST 1048576: true; the input reads as it did. -/
def fnSpansUptoRow : OpenClaim := { program := "ytfdpjgjclbnnfaa", sum := "95582d9c80be355dc016e06dbc06f5e82dcd576cad9a6ba22b2b0caefa96c620", func := "loop.example/g00840/laws.FnSpans", spec := "fnSpans", unfollowed := true, recurses := true, apart := false, narrowed := true }
def FnSpansUptoSaid : Prop := fnSpansUptoRow.holds Try.pinned (OpenSpec.upto fnSpansSpec)

/-- 'laws.FnExactIsSerial', WHERE WHAT IT READS IS OF BULK AT MOST 1048576: true; the input reads as it did. -/
def fnExactIsSerialUptoRow : OpenClaim := { program := "ytfdpjgjclbnnfaa", sum := "95582d9c80be355dc016e06dbc06f5e82dcd576cad9a6ba22b2b0caefa96c620", func := "loop.example/g00840/laws.FnExactIsSerial", spec := "fnExactIsSerial", apart := false, narrowed := true }
def FnExactIsSerialUptoSaid : Prop := fnExactIsSerialUptoRow.holds Try.pinned (OpenSpec.upto fnExactIsSerialSpec)

/-- 'laws.FnExactAfterSerial', WHERE WHAT IT READS IS OF BULK AT MOST 1048576: true; the input reads as it did. -/
def fnExactAfterSerialUptoRow : OpenClaim := { program := "ytfdpjgjclbnnfaa", sum := "95582d9c80be355dc016e06dbc06f5e82dcd576cad9a6ba22b2b0caefa96c620", func := "loop.example/g00840/laws.FnExactAfterSerial", spec := "fnExactAfterSerial", apart := false, narrowed := true }
def FnExactAfterSerialUptoSaid : Prop := fnExactAfterSerialUptoRow.holds Try.pinned (OpenSpec.upto fnExactAfterSerialSpec)

/-- 'laws.FnExactSerialGap', WHERE WHAT IT READS IS OF BULK AT MOST 1048576: true; the input reads as it did. -/
def fnExactSerialGapUptoRow : OpenClaim := { program := "ytfdpjgjclbnnfaa", sum := "95582d9c80be355dc016e06dbc06f5e82dcd576cad9a6ba22b2b0caefa96c620", func := "loop.example/g00840/laws.FnExactSerialGap", spec := "fnExactSerialGap", apart := false, narrowed := true }
def FnExactSerialGapUptoSaid : Prop := fnExactSerialGapUptoRow.holds Try.pinned (OpenSpec.upto fnExactSerialGapSpec)

/-- 'laws.FnExactIsBefore', WHERE WHAT IT READS IS OF BULK AT MOST 1048576: true; the input reads as it did. -/
def fnExactIsBeforeUptoRow : OpenClaim := { program := "ytfdpjgjclbnnfaa", sum := "95582d9c80be355dc016e06dbc06f5e82dcd576cad9a6ba22b2b0caefa96c620", func := "loop.example/g00840/laws.FnExactIsBefore", spec := "fnExactIsBefore", apart := false, narrowed := true }
def FnExactIsBeforeUptoSaid : Prop := fnExactIsBeforeUptoRow.holds Try.pinned (OpenSpec.upto fnExactIsBeforeSpec)

/-- 'laws.FnExactInSpan', WHERE WHAT IT READS IS OF BULK AT MOST 1048576: true; the input reads as it did. -/
def fnExactInSpanUptoRow : OpenClaim := { program := "ytfdpjgjclbnnfaa", sum := "95582d9c80be355dc016e06dbc06f5e82dcd576cad9a6ba22b2b0caefa96c620", func := "loop.example/g00840/laws.FnExactInSpan", spec := "fnExactInSpan", apart := false, narrowed := true }
def FnExactInSpanUptoSaid : Prop := fnExactInSpanUptoRow.holds Try.pinned (OpenSpec.upto fnExactInSpanSpec)

/-- 'laws.FnExactLaterSerial', WHERE WHAT IT READS IS OF BULK AT MOST 1048576: true; the input reads as it did. -/
def fnExactLaterSerialUptoRow : OpenClaim := { program := "ytfdpjgjclbnnfaa", sum := "95582d9c80be355dc016e06dbc06f5e82dcd576cad9a6ba22b2b0caefa96c620", func := "loop.example/g00840/laws.FnExactLaterSerial", spec := "fnExactLaterSerial", apart := false, narrowed := true }
def FnExactLaterSerialUptoSaid : Prop := fnExactLaterSerialUptoRow.holds Try.pinned (OpenSpec.upto fnExactLaterSerialSpec)

/-- 'laws.FnExactSerialSpan', WHERE WHAT IT READS IS OF BULK AT MOST 1048576: true; the input reads as it did. -/
def fnExactSerialSpanUptoRow : OpenClaim := { program := "ytfdpjgjclbnnfaa", sum := "95582d9c80be355dc016e06dbc06f5e82dcd576cad9a6ba22b2b0caefa96c620", func := "loop.example/g00840/laws.FnExactSerialSpan", spec := "fnExactSerialSpan", apart := false, narrowed := true }
def FnExactSerialSpanUptoSaid : Prop := fnExactSerialSpanUptoRow.holds Try.pinned (OpenSpec.upto fnExactSerialSpanSpec)

/-- 'laws.FnExactSortSerials', WHERE WHAT IT READS IS OF BULK AT MOST 1048576: true; the input reads as it did. -/
def fnExactSortSerialsUptoRow : OpenClaim := { program := "ytfdpjgjclbnnfaa", sum := "95582d9c80be355dc016e06dbc06f5e82dcd576cad9a6ba22b2b0caefa96c620", func := "loop.example/g00840/laws.FnExactSortSerials", spec := "fnExactSortSerials", unfollowed := true, recurses := true, apart := false, narrowed := true }
def FnExactSortSerialsUptoSaid : Prop := fnExactSortSerialsUptoRow.holds Try.pinned (OpenSpec.upto fnExactSortSerialsSpec)

/-- 'laws.FnExactSpanOf', WHERE WHAT IT READS IS OF BULK AT MOST 1048576: true; the input reads as it did. -/
def fnExactSpanOfUptoRow : OpenClaim := { program := "ytfdpjgjclbnnfaa", sum := "95582d9c80be355dc016e06dbc06f5e82dcd576cad9a6ba22b2b0caefa96c620", func := "loop.example/g00840/laws.FnExactSpanOf", spec := "fnExactSpanOf", apart := false, narrowed := true }
def FnExactSpanOfUptoSaid : Prop := fnExactSpanOfUptoRow.holds Try.pinned (OpenSpec.upto fnExactSpanOfSpec)

end Rows
end Go.Proofs.Ytfdpjgjclbnnfaa
