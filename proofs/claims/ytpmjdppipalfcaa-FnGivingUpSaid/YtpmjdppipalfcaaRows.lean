/-
  No cell of these rows narrows 'for every input' (looked for: loops, veiled, ifaces, maps, wideKeys, modest, calm, conditions, laid).
  DERIVED. THE GIVEN ROWS OF THIS SEAT. 8 by the template 'for every input the law returns true; each argument reads behind the call as it read before'; 0 by the template 'total and deterministic' (their statements: YtpmjdppipalfcaaTotals.lean).
  GIVEN WITH THE SEED: the statements are not yours to turn. If you find one false, say at which input.
  Laid BY PROGRAM, IN A SANDBOX (cutbox-rows.mjs): the forced cells as the released guide's own fill.sh prints them over the translation b3f7582ad8a93a66… (all of the seat's roots in one cut). By AI agents, Wed Nov 11 2026. No macro, syntax, notation, axiom, sorry.
-/
import Derived.Test.YtpmjdppipalfcaaChecked
import GoSem.Claim
import GoSem.ClaimJoined
import GoSem.ClaimMapViews
import Derived.JoinedTies
import Derived.KernelRfl
namespace Go.Proofs.Ytpmjdppipalfcaa
/- THE CELL 'sum', in the pinned program and in every row, IS THE sha256 OF THE DUMP (.gsa) THAT YtpmjdppipalfcaaProg.lean LOADS. Nothing in Lean hashes anything: it is a label: what it is worth is what the hold of that sum in a sandbox is worth. -/
noncomputable def Try.pinned : Pinned := { name := "ytpmjdppipalfcaa", sum := "b3f7582ad8a93a669db3211ed907842e654fd0688ba2e369490fa256712282d6", checked := Try.checked }
namespace Rows
def none {H : Type} : Left H := { results := [], args := [] }

/-- 'laws.FnGivingUp': WHATEVER THE INPUT: true; the input reads as it did. -/
def fnGivingUpSpec : ChangeSpec := { name := "fnGivingUp", fn := fun _ => fun
  | [d] => { results := [.lit (.bool true)], args := [d] }
  | _ => none }
def fnGivingUpRow : OpenClaim := { program := "ytpmjdppipalfcaa", sum := "b3f7582ad8a93a669db3211ed907842e654fd0688ba2e369490fa256712282d6", func := "loop.example/g00840/laws.FnGivingUp", spec := "fnGivingUp", apart := false }
def FnGivingUpSaid : Prop := fnGivingUpRow.holds Try.pinned (OpenSpec.ofChange fnGivingUpSpec)

/-- ITS FALSE NEIGHBOUR: 'it returns false'. Refute it at one input. -/
def fnGivingUpWrong : ChangeSpec := { name := "fnGivingUp", fn := fun _ => fun
  | [d] => { results := [.lit (.bool false)], args := [d] }
  | _ => none }
def FnGivingUpWrongFalsely : Prop := fnGivingUpRow.holds Try.pinned (OpenSpec.ofChange fnGivingUpWrong)

/-- 'laws.FnExactIsValidReceiveWindow': WHATEVER THE INPUT: true; the input reads as it did. -/
def fnExactIsValidReceiveWindowSpec : ChangeSpec := { name := "fnExactIsValidReceiveWindow", fn := fun _ => fun
  | [d] => { results := [.lit (.bool true)], args := [d] }
  | _ => none }
def fnExactIsValidReceiveWindowRow : OpenClaim := { program := "ytpmjdppipalfcaa", sum := "b3f7582ad8a93a669db3211ed907842e654fd0688ba2e369490fa256712282d6", func := "loop.example/g00840/laws.FnExactIsValidReceiveWindow", spec := "fnExactIsValidReceiveWindow", apart := false }
def FnExactIsValidReceiveWindowSaid : Prop := fnExactIsValidReceiveWindowRow.holds Try.pinned (OpenSpec.ofChange fnExactIsValidReceiveWindowSpec)

/-- ITS FALSE NEIGHBOUR: 'it returns false'. Refute it at one input. -/
def fnExactIsValidReceiveWindowWrong : ChangeSpec := { name := "fnExactIsValidReceiveWindow", fn := fun _ => fun
  | [d] => { results := [.lit (.bool false)], args := [d] }
  | _ => none }
def FnExactIsValidReceiveWindowWrongFalsely : Prop := fnExactIsValidReceiveWindowRow.holds Try.pinned (OpenSpec.ofChange fnExactIsValidReceiveWindowWrong)

/-- 'laws.FnExactTakeItem': WHATEVER THE INPUT: true; the input reads as it did. -/
def fnExactTakeItemSpec : ChangeSpec := { name := "fnExactTakeItem", fn := fun _ => fun
  | [d1, d2, d3] => { results := [.lit (.bool true)], args := [d1, d2, d3] }
  | _ => none }
def fnExactTakeItemRow : OpenClaim := { program := "ytpmjdppipalfcaa", sum := "b3f7582ad8a93a669db3211ed907842e654fd0688ba2e369490fa256712282d6", func := "loop.example/g00840/laws.FnExactTakeItem", spec := "fnExactTakeItem", apart := false }
def FnExactTakeItemSaid : Prop := fnExactTakeItemRow.holds Try.pinned (OpenSpec.ofChange fnExactTakeItemSpec)

/-- ITS FALSE NEIGHBOUR: 'it returns false'. Refute it at one input. -/
def fnExactTakeItemWrong : ChangeSpec := { name := "fnExactTakeItem", fn := fun _ => fun
  | [d1, d2, d3] => { results := [.lit (.bool false)], args := [d1, d2, d3] }
  | _ => none }
def FnExactTakeItemWrongFalsely : Prop := fnExactTakeItemRow.holds Try.pinned (OpenSpec.ofChange fnExactTakeItemWrong)

/-- 'laws.FnExactMissingSerials': WHATEVER THE INPUT: true; the input reads as it did. -/
def fnExactMissingSerialsSpec : ChangeSpec := { name := "fnExactMissingSerials", fn := fun _ => fun
  | [d1, d2] => { results := [.lit (.bool true)], args := [d1, d2] }
  | _ => none }
def fnExactMissingSerialsRow : OpenClaim := { program := "ytpmjdppipalfcaa", sum := "b3f7582ad8a93a669db3211ed907842e654fd0688ba2e369490fa256712282d6", func := "loop.example/g00840/laws.FnExactMissingSerials", spec := "fnExactMissingSerials", apart := false }
def FnExactMissingSerialsSaid : Prop := fnExactMissingSerialsRow.holds Try.pinned (OpenSpec.ofChange fnExactMissingSerialsSpec)

/-- ITS FALSE NEIGHBOUR: 'it returns false'. Refute it at one input. -/
def fnExactMissingSerialsWrong : ChangeSpec := { name := "fnExactMissingSerials", fn := fun _ => fun
  | [d1, d2] => { results := [.lit (.bool false)], args := [d1, d2] }
  | _ => none }
def FnExactMissingSerialsWrongFalsely : Prop := fnExactMissingSerialsRow.holds Try.pinned (OpenSpec.ofChange fnExactMissingSerialsWrong)

/-- 'laws.FnExactGiveUpTo': WHATEVER THE INPUT: true; the input reads as it did. -/
def fnExactGiveUpToSpec : ChangeSpec := { name := "fnExactGiveUpTo", fn := fun _ => fun
  | [d1, d2] => { results := [.lit (.bool true)], args := [d1, d2] }
  | _ => none }
def fnExactGiveUpToRow : OpenClaim := { program := "ytpmjdppipalfcaa", sum := "b3f7582ad8a93a669db3211ed907842e654fd0688ba2e369490fa256712282d6", func := "loop.example/g00840/laws.FnExactGiveUpTo", spec := "fnExactGiveUpTo", apart := false }
def FnExactGiveUpToSaid : Prop := fnExactGiveUpToRow.holds Try.pinned (OpenSpec.ofChange fnExactGiveUpToSpec)

/-- ITS FALSE NEIGHBOUR: 'it returns false'. Refute it at one input. -/
def fnExactGiveUpToWrong : ChangeSpec := { name := "fnExactGiveUpTo", fn := fun _ => fun
  | [d1, d2] => { results := [.lit (.bool false)], args := [d1, d2] }
  | _ => none }
def FnExactGiveUpToWrongFalsely : Prop := fnExactGiveUpToRow.holds Try.pinned (OpenSpec.ofChange fnExactGiveUpToWrong)

/-- 'laws.FnExactHaveItem': WHATEVER THE INPUT: true; the input reads as it did. -/
def fnExactHaveItemSpec : ChangeSpec := { name := "fnExactHaveItem", fn := fun _ => fun
  | [d1, d2] => { results := [.lit (.bool true)], args := [d1, d2] }
  | _ => none }
def fnExactHaveItemRow : OpenClaim := { program := "ytpmjdppipalfcaa", sum := "b3f7582ad8a93a669db3211ed907842e654fd0688ba2e369490fa256712282d6", func := "loop.example/g00840/laws.FnExactHaveItem", spec := "fnExactHaveItem", apart := false }
def FnExactHaveItemSaid : Prop := fnExactHaveItemRow.holds Try.pinned (OpenSpec.ofChange fnExactHaveItemSpec)

/-- ITS FALSE NEIGHBOUR: 'it returns false'. Refute it at one input. -/
def fnExactHaveItemWrong : ChangeSpec := { name := "fnExactHaveItem", fn := fun _ => fun
  | [d1, d2] => { results := [.lit (.bool false)], args := [d1, d2] }
  | _ => none }
def FnExactHaveItemWrongFalsely : Prop := fnExactHaveItemRow.holds Try.pinned (OpenSpec.ofChange fnExactHaveItemWrong)

/-- 'laws.FnExactHighestSeen': WHATEVER THE INPUT: true; the input reads as it did. -/
def fnExactHighestSeenSpec : ChangeSpec := { name := "fnExactHighestSeen", fn := fun _ => fun
  | [d] => { results := [.lit (.bool true)], args := [d] }
  | _ => none }
def fnExactHighestSeenRow : OpenClaim := { program := "ytpmjdppipalfcaa", sum := "b3f7582ad8a93a669db3211ed907842e654fd0688ba2e369490fa256712282d6", func := "loop.example/g00840/laws.FnExactHighestSeen", spec := "fnExactHighestSeen", apart := false }
def FnExactHighestSeenSaid : Prop := fnExactHighestSeenRow.holds Try.pinned (OpenSpec.ofChange fnExactHighestSeenSpec)

/-- ITS FALSE NEIGHBOUR: 'it returns false'. Refute it at one input. -/
def fnExactHighestSeenWrong : ChangeSpec := { name := "fnExactHighestSeen", fn := fun _ => fun
  | [d] => { results := [.lit (.bool false)], args := [d] }
  | _ => none }
def FnExactHighestSeenWrongFalsely : Prop := fnExactHighestSeenRow.holds Try.pinned (OpenSpec.ofChange fnExactHighestSeenWrong)

/-- 'laws.FnExactCountWaiting': WHATEVER THE INPUT: true; the input reads as it did. -/
def fnExactCountWaitingSpec : ChangeSpec := { name := "fnExactCountWaiting", fn := fun _ => fun
  | [d] => { results := [.lit (.bool true)], args := [d] }
  | _ => none }
def fnExactCountWaitingRow : OpenClaim := { program := "ytpmjdppipalfcaa", sum := "b3f7582ad8a93a669db3211ed907842e654fd0688ba2e369490fa256712282d6", func := "loop.example/g00840/laws.FnExactCountWaiting", spec := "fnExactCountWaiting", apart := false }
def FnExactCountWaitingSaid : Prop := fnExactCountWaitingRow.holds Try.pinned (OpenSpec.ofChange fnExactCountWaitingSpec)

/-- ITS FALSE NEIGHBOUR: 'it returns false'. Refute it at one input. -/
def fnExactCountWaitingWrong : ChangeSpec := { name := "fnExactCountWaiting", fn := fun _ => fun
  | [d] => { results := [.lit (.bool false)], args := [d] }
  | _ => none }
def FnExactCountWaitingWrongFalsely : Prop := fnExactCountWaitingRow.holds Try.pinned (OpenSpec.ofChange fnExactCountWaitingWrong)

/- THE SECOND FORM. 'bulk': how many values and letters a reading holds, each counted each time it is reached (what is shared counts as often as it is met; a slice's spare places count too). A statement '..UptoSaid' is the law's where the arguments, and the package variables that the reading takes, are together of bulk at most 1048576: NARROWER than '..Said'. Prove '..Said' where nothing that the law and all that it calls make is longer than what came in: it says more and counts as full. Else prove '..UptoSaid'. A law counts once. -/
mutual
def uptoBulk {H : Type} : DataW H → Nat
  | .lit (.string bytes) => bytes.length + 1
  | .lit _ => 1
  | .nil => 1
  | .ptr d => uptoBulk d + 1
  | .slice elems spare => uptoBulkAll elems + uptoBulkAll spare + 1
  | .agg parts => uptoBulkAll parts + 1
  | .iface _ d => uptoBulk d + 1
  | .map entries => uptoBulkEntries entries + 1
  | .held _ => 1
def uptoBulkAll {H : Type} : List (DataW H) → Nat
  | [] => 0
  | d :: r => uptoBulk d + uptoBulkAll r
def uptoBulkEntries {H : Type} : List (Lit × DataW H) → Nat
  | [] => 0
  | x :: r => uptoBulkEntry x + uptoBulkEntries r
def uptoBulkEntry {H : Type} : Lit × DataW H → Nat
  | (.string bytes, d) => bytes.length + uptoBulk d + 1
  | (_, d) => uptoBulk d + 1
 end
def uptoSmall : (H : Type) → List (DataW H) → Bool := fun _ ds => decide (uptoBulkAll ds ≤ 1048576)
def OpenSpec.upto (s : _root_.Go.ChangeSpec) : _root_.Go.OpenSpec := { _root_.Go.OpenSpec.ofChange s with cond := some uptoSmall }

/-- 'laws.FnGivingUp', WHERE WHAT IT READS IS OF BULK AT MOST 1048576: true; the input reads as it did. -/
def fnGivingUpUptoRow : OpenClaim := { program := "ytpmjdppipalfcaa", sum := "b3f7582ad8a93a669db3211ed907842e654fd0688ba2e369490fa256712282d6", func := "loop.example/g00840/laws.FnGivingUp", spec := "fnGivingUp", apart := false, narrowed := true }
def FnGivingUpUptoSaid : Prop := fnGivingUpUptoRow.holds Try.pinned (OpenSpec.upto fnGivingUpSpec)

/-- 'laws.FnExactIsValidReceiveWindow', WHERE WHAT IT READS IS OF BULK AT MOST 1048576: true; the input reads as it did. -/
def fnExactIsValidReceiveWindowUptoRow : OpenClaim := { program := "ytpmjdppipalfcaa", sum := "b3f7582ad8a93a669db3211ed907842e654fd0688ba2e369490fa256712282d6", func := "loop.example/g00840/laws.FnExactIsValidReceiveWindow", spec := "fnExactIsValidReceiveWindow", apart := false, narrowed := true }
def FnExactIsValidReceiveWindowUptoSaid : Prop := fnExactIsValidReceiveWindowUptoRow.holds Try.pinned (OpenSpec.upto fnExactIsValidReceiveWindowSpec)

/-- 'laws.FnExactTakeItem', WHERE WHAT IT READS IS OF BULK AT MOST 1048576: true; the input reads as it did. -/
def fnExactTakeItemUptoRow : OpenClaim := { program := "ytpmjdppipalfcaa", sum := "b3f7582ad8a93a669db3211ed907842e654fd0688ba2e369490fa256712282d6", func := "loop.example/g00840/laws.FnExactTakeItem", spec := "fnExactTakeItem", apart := false, narrowed := true }
def FnExactTakeItemUptoSaid : Prop := fnExactTakeItemUptoRow.holds Try.pinned (OpenSpec.upto fnExactTakeItemSpec)

/-- 'laws.FnExactMissingSerials', WHERE WHAT IT READS IS OF BULK AT MOST 1048576: true; the input reads as it did. -/
def fnExactMissingSerialsUptoRow : OpenClaim := { program := "ytpmjdppipalfcaa", sum := "b3f7582ad8a93a669db3211ed907842e654fd0688ba2e369490fa256712282d6", func := "loop.example/g00840/laws.FnExactMissingSerials", spec := "fnExactMissingSerials", apart := false, narrowed := true }
def FnExactMissingSerialsUptoSaid : Prop := fnExactMissingSerialsUptoRow.holds Try.pinned (OpenSpec.upto fnExactMissingSerialsSpec)

/-- 'laws.FnExactGiveUpTo', WHERE WHAT IT READS IS OF BULK AT MOST 1048576: true; the input reads as it did. -/
def fnExactGiveUpToUptoRow : OpenClaim := { program := "ytpmjdppipalfcaa", sum := "b3f7582ad8a93a669db3211ed907842e654fd0688ba2e369490fa256712282d6", func := "loop.example/g00840/laws.FnExactGiveUpTo", spec := "fnExactGiveUpTo", apart := false, narrowed := true }
def FnExactGiveUpToUptoSaid : Prop := fnExactGiveUpToUptoRow.holds Try.pinned (OpenSpec.upto fnExactGiveUpToSpec)

/-- 'laws.FnExactHaveItem', WHERE WHAT IT READS IS OF BULK AT MOST 1048576: true; the input reads as it did. -/
def fnExactHaveItemUptoRow : OpenClaim := { program := "ytpmjdppipalfcaa", sum := "b3f7582ad8a93a669db3211ed907842e654fd0688ba2e369490fa256712282d6", func := "loop.example/g00840/laws.FnExactHaveItem", spec := "fnExactHaveItem", apart := false, narrowed := true }
def FnExactHaveItemUptoSaid : Prop := fnExactHaveItemUptoRow.holds Try.pinned (OpenSpec.upto fnExactHaveItemSpec)

/-- 'laws.FnExactHighestSeen', WHERE WHAT IT READS IS OF BULK AT MOST 1048576: true; the input reads as it did. -/
def fnExactHighestSeenUptoRow : OpenClaim := { program := "ytpmjdppipalfcaa", sum := "b3f7582ad8a93a669db3211ed907842e654fd0688ba2e369490fa256712282d6", func := "loop.example/g00840/laws.FnExactHighestSeen", spec := "fnExactHighestSeen", apart := false, narrowed := true }
def FnExactHighestSeenUptoSaid : Prop := fnExactHighestSeenUptoRow.holds Try.pinned (OpenSpec.upto fnExactHighestSeenSpec)

/-- 'laws.FnExactCountWaiting', WHERE WHAT IT READS IS OF BULK AT MOST 1048576: true; the input reads as it did. -/
def fnExactCountWaitingUptoRow : OpenClaim := { program := "ytpmjdppipalfcaa", sum := "b3f7582ad8a93a669db3211ed907842e654fd0688ba2e369490fa256712282d6", func := "loop.example/g00840/laws.FnExactCountWaiting", spec := "fnExactCountWaiting", apart := false, narrowed := true }
def FnExactCountWaitingUptoSaid : Prop := fnExactCountWaitingUptoRow.holds Try.pinned (OpenSpec.upto fnExactCountWaitingSpec)

end Rows
end Go.Proofs.Ytpmjdppipalfcaa
