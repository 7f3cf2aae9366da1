/-
  No cell of these rows narrows 'for every input' (looked for: loops, veiled, ifaces, maps, wideKeys, modest, calm, conditions, laid).
  DERIVED. THE GIVEN ROWS OF THIS SEAT. 8 by the template 'for every input the law returns true; each argument reads behind the call as it read before'; 0 by the template 'total and deterministic' (their statements: YtlendmiolhgecaaTotals.lean).
  GIVEN WITH THE SEED: the statements are not yours to turn. If you find one false, say at which input.
  Laid BY PROGRAM, IN A SANDBOX (cutbox-rows.mjs): the forced cells as the released guide's own fill.sh prints them over the translation dd48695f4c428fcf… (all of the seat's roots in one cut). By AI agents, Wed Nov 11 2026. No macro, syntax, notation, axiom, sorry.
-/
import Derived.Test.YtlendmiolhgecaaChecked
import GoSem.Claim
import GoSem.ClaimJoined
import GoSem.ClaimMapViews
import Derived.JoinedTies
import Derived.KernelRfl
namespace Go.Proofs.Ytlendmiolhgecaa
/- THE CELL 'sum', in the pinned program and in every row, IS THE sha256 OF THE DUMP (.gsa) THAT YtlendmiolhgecaaProg.lean LOADS. Nothing in Lean hashes anything: it is a label: what it is worth is what the hold of that sum in a sandbox is worth. -/
noncomputable def Try.pinned : Pinned := { name := "ytlendmiolhgecaa", sum := "dd48695f4c428fcf295a4edc5e9b1660a04d3fbe8b4ed431d70353506ceefad9", checked := Try.checked }
namespace Rows
def none {H : Type} : Left H := { results := [], args := [] }

/-- 'laws.FnHolds': WHATEVER THE INPUT: true; the input reads as it did. -/
def fnHoldsSpec : ChangeSpec := { name := "fnHolds", fn := fun _ => fun
  | [d] => { results := [.lit (.bool true)], args := [d] }
  | _ => none }
def fnHoldsRow : OpenClaim := { program := "ytlendmiolhgecaa", sum := "dd48695f4c428fcf295a4edc5e9b1660a04d3fbe8b4ed431d70353506ceefad9", func := "loop.example/g00840/laws.FnHolds", spec := "fnHolds", unfollowed := true, recurses := true, apart := false }
def FnHoldsSaid : Prop := fnHoldsRow.holds Try.pinned (OpenSpec.ofChange fnHoldsSpec)

/-- ITS FALSE NEIGHBOUR: 'it returns false'. Refute it at one input. -/
def fnHoldsWrong : ChangeSpec := { name := "fnHolds", fn := fun _ => fun
  | [d] => { results := [.lit (.bool false)], args := [d] }
  | _ => none }
def FnHoldsWrongFalsely : Prop := fnHoldsRow.holds Try.pinned (OpenSpec.ofChange fnHoldsWrong)

/-- 'laws.FnExactNewSource': WHATEVER THE INPUT: true; the input reads as it did. -/
def fnExactNewSourceSpec : ChangeSpec := { name := "fnExactNewSource", fn := fun _ => fun
  | [d1, d2] => { results := [.lit (.bool true)], args := [d1, d2] }
  | _ => none }
def fnExactNewSourceRow : OpenClaim := { program := "ytlendmiolhgecaa", sum := "dd48695f4c428fcf295a4edc5e9b1660a04d3fbe8b4ed431d70353506ceefad9", func := "loop.example/g00840/laws.FnExactNewSource", spec := "fnExactNewSource", apart := false }
def FnExactNewSourceSaid : Prop := fnExactNewSourceRow.holds Try.pinned (OpenSpec.ofChange fnExactNewSourceSpec)

/-- ITS FALSE NEIGHBOUR: 'it returns false'. Refute it at one input. -/
def fnExactNewSourceWrong : ChangeSpec := { name := "fnExactNewSource", fn := fun _ => fun
  | [d1, d2] => { results := [.lit (.bool false)], args := [d1, d2] }
  | _ => none }
def FnExactNewSourceWrongFalsely : Prop := fnExactNewSourceRow.holds Try.pinned (OpenSpec.ofChange fnExactNewSourceWrong)

/-- 'laws.FnExactIsValidSource': WHATEVER THE INPUT: true; the input reads as it did. -/
def fnExactIsValidSourceSpec : ChangeSpec := { name := "fnExactIsValidSource", fn := fun _ => fun
  | [d] => { results := [.lit (.bool true)], args := [d] }
  | _ => none }
def fnExactIsValidSourceRow : OpenClaim := { program := "ytlendmiolhgecaa", sum := "dd48695f4c428fcf295a4edc5e9b1660a04d3fbe8b4ed431d70353506ceefad9", func := "loop.example/g00840/laws.FnExactIsValidSource", spec := "fnExactIsValidSource", apart := false }
def FnExactIsValidSourceSaid : Prop := fnExactIsValidSourceRow.holds Try.pinned (OpenSpec.ofChange fnExactIsValidSourceSpec)

/-- ITS FALSE NEIGHBOUR: 'it returns false'. Refute it at one input. -/
def fnExactIsValidSourceWrong : ChangeSpec := { name := "fnExactIsValidSource", fn := fun _ => fun
  | [d] => { results := [.lit (.bool false)], args := [d] }
  | _ => none }
def FnExactIsValidSourceWrongFalsely : Prop := fnExactIsValidSourceRow.holds Try.pinned (OpenSpec.ofChange fnExactIsValidSourceWrong)

/-- 'laws.FnExactSendFrom': WHATEVER THE INPUT: true; the input reads as it did. -/
def fnExactSendFromSpec : ChangeSpec := { name := "fnExactSendFrom", fn := fun _ => fun
  | [d1, d2] => { results := [.lit (.bool true)], args := [d1, d2] }
  | _ => none }
def fnExactSendFromRow : OpenClaim := { program := "ytlendmiolhgecaa", sum := "dd48695f4c428fcf295a4edc5e9b1660a04d3fbe8b4ed431d70353506ceefad9", func := "loop.example/g00840/laws.FnExactSendFrom", spec := "fnExactSendFrom", unfollowed := true, recurses := true, apart := false }
def FnExactSendFromSaid : Prop := fnExactSendFromRow.holds Try.pinned (OpenSpec.ofChange fnExactSendFromSpec)

/-- ITS FALSE NEIGHBOUR: 'it returns false'. Refute it at one input. -/
def fnExactSendFromWrong : ChangeSpec := { name := "fnExactSendFrom", fn := fun _ => fun
  | [d1, d2] => { results := [.lit (.bool false)], args := [d1, d2] }
  | _ => none }
def FnExactSendFromWrongFalsely : Prop := fnExactSendFromRow.holds Try.pinned (OpenSpec.ofChange fnExactSendFromWrong)

/-- 'laws.FnExactTickSource': WHATEVER THE INPUT: true; the input reads as it did. -/
def fnExactTickSourceSpec : ChangeSpec := { name := "fnExactTickSource", fn := fun _ => fun
  | [d] => { results := [.lit (.bool true)], args := [d] }
  | _ => none }
def fnExactTickSourceRow : OpenClaim := { program := "ytlendmiolhgecaa", sum := "dd48695f4c428fcf295a4edc5e9b1660a04d3fbe8b4ed431d70353506ceefad9", func := "loop.example/g00840/laws.FnExactTickSource", spec := "fnExactTickSource", unfollowed := true, recurses := true, apart := false }
def FnExactTickSourceSaid : Prop := fnExactTickSourceRow.holds Try.pinned (OpenSpec.ofChange fnExactTickSourceSpec)

/-- ITS FALSE NEIGHBOUR: 'it returns false'. Refute it at one input. -/
def fnExactTickSourceWrong : ChangeSpec := { name := "fnExactTickSource", fn := fun _ => fun
  | [d] => { results := [.lit (.bool false)], args := [d] }
  | _ => none }
def FnExactTickSourceWrongFalsely : Prop := fnExactTickSourceRow.holds Try.pinned (OpenSpec.ofChange fnExactTickSourceWrong)

/-- 'laws.FnExactTrimSource': WHATEVER THE INPUT: true; the input reads as it did. -/
def fnExactTrimSourceSpec : ChangeSpec := { name := "fnExactTrimSource", fn := fun _ => fun
  | [d1, d2] => { results := [.lit (.bool true)], args := [d1, d2] }
  | _ => none }
def fnExactTrimSourceRow : OpenClaim := { program := "ytlendmiolhgecaa", sum := "dd48695f4c428fcf295a4edc5e9b1660a04d3fbe8b4ed431d70353506ceefad9", func := "loop.example/g00840/laws.FnExactTrimSource", spec := "fnExactTrimSource", unfollowed := true, recurses := true, apart := false }
def FnExactTrimSourceSaid : Prop := fnExactTrimSourceRow.holds Try.pinned (OpenSpec.ofChange fnExactTrimSourceSpec)

/-- ITS FALSE NEIGHBOUR: 'it returns false'. Refute it at one input. -/
def fnExactTrimSourceWrong : ChangeSpec := { name := "fnExactTrimSource", fn := fun _ => fun
  | [d1, d2] => { results := [.lit (.bool false)], args := [d1, d2] }
  | _ => none }
def FnExactTrimSourceWrongFalsely : Prop := fnExactTrimSourceRow.holds Try.pinned (OpenSpec.ofChange fnExactTrimSourceWrong)

/-- 'laws.FnExactIsOnHold': WHATEVER THE INPUT: true; the input reads as it did. -/
def fnExactIsOnHoldSpec : ChangeSpec := { name := "fnExactIsOnHold", fn := fun _ => fun
  | [d1, d2] => { results := [.lit (.bool true)], args := [d1, d2] }
  | _ => none }
def fnExactIsOnHoldRow : OpenClaim := { program := "ytlendmiolhgecaa", sum := "dd48695f4c428fcf295a4edc5e9b1660a04d3fbe8b4ed431d70353506ceefad9", func := "loop.example/g00840/laws.FnExactIsOnHold", spec := "fnExactIsOnHold", unfollowed := true, recurses := true, apart := false }
def FnExactIsOnHoldSaid : Prop := fnExactIsOnHoldRow.holds Try.pinned (OpenSpec.ofChange fnExactIsOnHoldSpec)

/-- ITS FALSE NEIGHBOUR: 'it returns false'. Refute it at one input. -/
def fnExactIsOnHoldWrong : ChangeSpec := { name := "fnExactIsOnHold", fn := fun _ => fun
  | [d1, d2] => { results := [.lit (.bool false)], args := [d1, d2] }
  | _ => none }
def FnExactIsOnHoldWrongFalsely : Prop := fnExactIsOnHoldRow.holds Try.pinned (OpenSpec.ofChange fnExactIsOnHoldWrong)

/-- 'laws.FnExactTicksToStatus': WHATEVER THE INPUT: true; the input reads as it did. -/
def fnExactTicksToStatusSpec : ChangeSpec := { name := "fnExactTicksToStatus", fn := fun _ => fun
  | [d] => { results := [.lit (.bool true)], args := [d] }
  | _ => none }
def fnExactTicksToStatusRow : OpenClaim := { program := "ytlendmiolhgecaa", sum := "dd48695f4c428fcf295a4edc5e9b1660a04d3fbe8b4ed431d70353506ceefad9", func := "loop.example/g00840/laws.FnExactTicksToStatus", spec := "fnExactTicksToStatus", apart := false }
def FnExactTicksToStatusSaid : Prop := fnExactTicksToStatusRow.holds Try.pinned (OpenSpec.ofChange fnExactTicksToStatusSpec)

/-- ITS FALSE NEIGHBOUR: 'it returns false'. Refute it at one input. -/
def fnExactTicksToStatusWrong : ChangeSpec := { name := "fnExactTicksToStatus", fn := fun _ => fun
  | [d] => { results := [.lit (.bool false)], args := [d] }
  | _ => none }
def FnExactTicksToStatusWrongFalsely : Prop := fnExactTicksToStatusRow.holds Try.pinned (OpenSpec.ofChange fnExactTicksToStatusWrong)

/- THE SECOND FORM. 'bulk': how many values and letters a reading holds, each counted each time it is reached (what is shared counts as often as it is met; a slice's spare places count too). A statement '..UptoSaid' is the law's where the arguments, and the package variables that the reading takes, are together of bulk at most 1048576: NARROWER than '..Said'. Prove '..Said' where nothing that the law and all that it calls make is longer than what came in: it says more and counts as full. Else prove '..UptoSaid'. A law counts once. -/
mutual
def uptoBulk {H : Type} : DataW H → Nat
  | .lit (.string bytes) => bytes.length + 1
  | .lit _ => 1
  | .nil => 1
  | .ptr d => uptoBulk d + 1
  | .slice elems spare => uptoBulkAll elems + uptoBulkAll spare + 1
  | .agg parts => uptoBulkAll parts + 1
  | .iface _ d => uptoBulk d + 1
  | .map entries => uptoBulkEntries entries + 1
  | .held _ => 1
def uptoBulkAll {H : Type} : List (DataW H) → Nat
  | [] => 0
  | d :: r => uptoBulk d + uptoBulkAll r
def uptoBulkEntries {H : Type} : List (Lit × DataW H) → Nat
  | [] => 0
  | x :: r => uptoBulkEntry x + uptoBulkEntries r
def uptoBulkEntry {H : Type} : Lit × DataW H → Nat
  | (.string bytes, d) => bytes.length + uptoBulk d + 1
  | (_, d) => uptoBulk d + 1
 end
def uptoSmall : (H : Type) → List (DataW H) → Bool := fun _ ds => decide (uptoBulkAll ds ≤ 1048576)
def OpenSpec.upto (s : _root_.Go.ChangeSpec) : _root_.Go.OpenSpec := { _root_.Go.OpenSpec.ofChange s with cond := some uptoSmall }

/-- 'laws.FnHolds', WHERE WHAT IT READS IS OF BULK AT MOST 1048576: true; the input reads as it did. -/
def fnHoldsUptoRow : OpenClaim := { program := "ytlendmiolhgecaa", sum := "dd48695f4c428fcf295a4edc5e9b1660a04d3fbe8b4ed431d70353506ceefad9", func := "loop.example/g00840/laws.FnHolds", spec := "fnHolds", unfollowed := true, recurses := true, apart := false, narrowed := true }
def FnHoldsUptoSaid : Prop := fnHoldsUptoRow.holds Try.pinned (OpenSpec.upto fnHoldsSpec)

/-- 'laws.FnExactNewSource', WHERE WHAT IT READS IS OF BULK AT MOST 1048576: true; the input reads as it did. -/
def fnExactNewSourceUptoRow : OpenClaim := { program := "ytlendmiolhgecaa", sum := "dd48695f4c428fcf295a4edc5e9b1660a04d3fbe8b4ed431d70353506ceefad9", func := "loop.example/g00840/laws.FnExactNewSource", spec := "fnExactNewSource", apart := false, narrowed := true }
def FnExactNewSourceUptoSaid : Prop := fnExactNewSourceUptoRow.holds Try.pinned (OpenSpec.upto fnExactNewSourceSpec)

/-- 'laws.FnExactIsValidSource', WHERE WHAT IT READS IS OF BULK AT MOST 1048576: true; the input reads as it did. -/
def fnExactIsValidSourceUptoRow : OpenClaim := { program := "ytlendmiolhgecaa", sum := "dd48695f4c428fcf295a4edc5e9b1660a04d3fbe8b4ed431d70353506ceefad9", func := "loop.example/g00840/laws.FnExactIsValidSource", spec := "fnExactIsValidSource", apart := false, narrowed := true }
def FnExactIsValidSourceUptoSaid : Prop := fnExactIsValidSourceUptoRow.holds Try.pinned (OpenSpec.upto fnExactIsValidSourceSpec)

/-- 'laws.FnExactSendFrom', WHERE WHAT IT READS IS OF BULK AT MOST 1048576: true; the input reads as it did. -/
def fnExactSendFromUptoRow : OpenClaim := { program := "ytlendmiolhgecaa", sum := "dd48695f4c428fcf295a4edc5e9b1660a04d3fbe8b4ed431d70353506ceefad9", func := "loop.example/g00840/laws.FnExactSendFrom", spec := "fnExactSendFrom", unfollowed := true, recurses := true, apart := false, narrowed := true }
def FnExactSendFromUptoSaid : Prop := fnExactSendFromUptoRow.holds Try.pinned (OpenSpec.upto fnExactSendFromSpec)

/-- 'laws.FnExactTickSource', WHERE WHAT IT READS IS OF BULK AT MOST 1048576: true; the input reads as it did. -/
def fnExactTickSourceUptoRow : OpenClaim := { program := "ytlendmiolhgecaa", sum := "dd48695f4c428fcf295a4edc5e9b1660a04d3fbe8b4ed431d70353506ceefad9", func := "loop.example/g00840/laws.FnExactTickSource", spec := "fnExactTickSource", unfollowed := true, recurses := true, apart := false, narrowed := true }
def FnExactTickSourceUptoSaid : Prop := fnExactTickSourceUptoRow.holds Try.pinned (OpenSpec.upto fnExactTickSourceSpec)

/-- 'laws.FnExactTrimSource', WHERE WHAT IT READS IS OF BULK AT MOST 1048576: true; the input reads as it did. -/
def fnExactTrimSourceUptoRow : OpenClaim := { program := "ytlendmiolhgecaa", sum := "dd48695f4c428fcf295a4edc5e9b1660a04d3fbe8b4ed431d70353506ceefad9", func := "loop.example/g00840/laws.FnExactTrimSource", spec := "fnExactTrimSource", unfollowed := true, recurses := true, apart := false, narrowed := true }
def FnExactTrimSourceUptoSaid : Prop := fnExactTrimSourceUptoRow.holds Try.pinned (OpenSpec.upto fnExactTrimSourceSpec)

/-- 'laws.FnExactIsOnHold', WHERE WHAT IT READS IS OF BULK AT MOST 1048576: true; the input reads as it did. -/
def fnExactIsOnHoldUptoRow : OpenClaim := { program := "ytlendmiolhgecaa", sum := "dd48695f4c428fcf295a4edc5e9b1660a04d3fbe8b4ed431d70353506ceefad9", func := "loop.example/g00840/laws.FnExactIsOnHold", spec := "fnExactIsOnHold", unfollowed := true, recurses := true, apart := false, narrowed := true }
def FnExactIsOnHoldUptoSaid : Prop := fnExactIsOnHoldUptoRow.holds Try.pinned (OpenSpec.upto fnExactIsOnHoldSpec)

/-- 'laws.FnExactTicksToStatus', WHERE WHAT IT READS IS OF BULK AT MOST 1048576: true; the input reads as it did. -/
def fnExactTicksToStatusUptoRow : OpenClaim := { program := "ytlendmiolhgecaa", sum := "dd48695f4c428fcf295a4edc5e9b1660a04d3fbe8b4ed431d70353506ceefad9", func := "loop.example/g00840/laws.FnExactTicksToStatus", spec := "fnExactTicksToStatus", apart := false, narrowed := true }
def FnExactTicksToStatusUptoSaid : Prop := fnExactTicksToStatusUptoRow.holds Try.pinned (OpenSpec.upto fnExactTicksToStatusSpec)

end Rows
end Go.Proofs.Ytlendmiolhgecaa
