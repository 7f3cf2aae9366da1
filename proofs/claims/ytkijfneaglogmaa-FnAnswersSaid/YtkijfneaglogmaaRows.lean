/-
  No cell of these rows narrows 'for every input' (looked for: loops, veiled, ifaces, maps, wideKeys, modest, calm, conditions, laid).
  DERIVED. THE GIVEN ROWS OF THIS SEAT. 11 by the template 'for every input the law returns true; each argument reads behind the call as it read before'; 0 by the template 'total and deterministic' (their statements: YtkijfneaglogmaaTotals.lean).
  GIVEN WITH THE SEED: the statements are not yours to turn. If you find one false, say at which input.
  Laid BY PROGRAM, IN A SANDBOX (cutbox-rows.mjs): the forced cells as the released guide's own fill.sh prints them over the translation 69701321c961d02f… (all of the seat's roots in one cut). By AI agents, Wed Nov 11 2026. No macro, syntax, notation, axiom, sorry.
-/
import Derived.Test.YtkijfneaglogmaaChecked
import GoSem.Claim
import GoSem.ClaimJoined
import GoSem.ClaimMapViews
import Derived.JoinedTies
import Derived.KernelRfl
namespace Go.Proofs.Ytkijfneaglogmaa
/- THE CELL 'sum', in the pinned program and in every row, IS THE sha256 OF THE DUMP (.gsa) THAT YtkijfneaglogmaaProg.lean LOADS. Nothing in Lean hashes anything: it is a label: what it is worth is what the hold of that sum in a sandbox is worth. -/
noncomputable def Try.pinned : Pinned := { name := "ytkijfneaglogmaa", sum := "69701321c961d02f1e3e9dcf9b9155b66f5ac242d361afe311e74edf41fbfc41", checked := Try.checked }
namespace Rows
def none {H : Type} : Left H := { results := [], args := [] }

/-- 'laws.FnSendWindow': WHATEVER THE INPUT: true; the input reads as it did. -/
def fnSendWindowSpec : ChangeSpec := { name := "fnSendWindow", fn := fun _ => fun
  | [d] => { results := [.lit (.bool true)], args := [d] }
  | _ => none }
def fnSendWindowRow : OpenClaim := { program := "ytkijfneaglogmaa", sum := "69701321c961d02f1e3e9dcf9b9155b66f5ac242d361afe311e74edf41fbfc41", func := "loop.example/g00840/laws.FnSendWindow", spec := "fnSendWindow", apart := false }
def FnSendWindowSaid : Prop := fnSendWindowRow.holds Try.pinned (OpenSpec.ofChange fnSendWindowSpec)

/-- ITS FALSE NEIGHBOUR: 'it returns false'. Refute it at one input. -/
def fnSendWindowWrong : ChangeSpec := { name := "fnSendWindow", fn := fun _ => fun
  | [d] => { results := [.lit (.bool false)], args := [d] }
  | _ => none }
def FnSendWindowWrongFalsely : Prop := fnSendWindowRow.holds Try.pinned (OpenSpec.ofChange fnSendWindowWrong)

/-- 'laws.FnAnswers': WHATEVER THE INPUT: true; the input reads as it did. -/
def fnAnswersSpec : ChangeSpec := { name := "fnAnswers", fn := fun _ => fun
  | [d] => { results := [.lit (.bool true)], args := [d] }
  | _ => none }
def fnAnswersRow : OpenClaim := { program := "ytkijfneaglogmaa", sum := "69701321c961d02f1e3e9dcf9b9155b66f5ac242d361afe311e74edf41fbfc41", func := "loop.example/g00840/laws.FnAnswers", spec := "fnAnswers", apart := false }
def FnAnswersSaid : Prop := fnAnswersRow.holds Try.pinned (OpenSpec.ofChange fnAnswersSpec)

/-- ITS FALSE NEIGHBOUR: 'it returns false'. Refute it at one input. -/
def fnAnswersWrong : ChangeSpec := { name := "fnAnswers", fn := fun _ => fun
  | [d] => { results := [.lit (.bool false)], args := [d] }
  | _ => none }
def FnAnswersWrongFalsely : Prop := fnAnswersRow.holds Try.pinned (OpenSpec.ofChange fnAnswersWrong)

/-- 'laws.FnExactIsValidSendWindow': WHATEVER THE INPUT: true; the input reads as it did. -/
def fnExactIsValidSendWindowSpec : ChangeSpec := { name := "fnExactIsValidSendWindow", fn := fun _ => fun
  | [d] => { results := [.lit (.bool true)], args := [d] }
  | _ => none }
def fnExactIsValidSendWindowRow : OpenClaim := { program := "ytkijfneaglogmaa", sum := "69701321c961d02f1e3e9dcf9b9155b66f5ac242d361afe311e74edf41fbfc41", func := "loop.example/g00840/laws.FnExactIsValidSendWindow", spec := "fnExactIsValidSendWindow", apart := false }
def FnExactIsValidSendWindowSaid : Prop := fnExactIsValidSendWindowRow.holds Try.pinned (OpenSpec.ofChange fnExactIsValidSendWindowSpec)

/-- ITS FALSE NEIGHBOUR: 'it returns false'. Refute it at one input. -/
def fnExactIsValidSendWindowWrong : ChangeSpec := { name := "fnExactIsValidSendWindow", fn := fun _ => fun
  | [d] => { results := [.lit (.bool false)], args := [d] }
  | _ => none }
def FnExactIsValidSendWindowWrongFalsely : Prop := fnExactIsValidSendWindowRow.holds Try.pinned (OpenSpec.ofChange fnExactIsValidSendWindowWrong)

/-- 'laws.FnExactLeadOf': WHATEVER THE INPUT: true; the input reads as it did. -/
def fnExactLeadOfSpec : ChangeSpec := { name := "fnExactLeadOf", fn := fun _ => fun
  | [d] => { results := [.lit (.bool true)], args := [d] }
  | _ => none }
def fnExactLeadOfRow : OpenClaim := { program := "ytkijfneaglogmaa", sum := "69701321c961d02f1e3e9dcf9b9155b66f5ac242d361afe311e74edf41fbfc41", func := "loop.example/g00840/laws.FnExactLeadOf", spec := "fnExactLeadOf", apart := false }
def FnExactLeadOfSaid : Prop := fnExactLeadOfRow.holds Try.pinned (OpenSpec.ofChange fnExactLeadOfSpec)

/-- ITS FALSE NEIGHBOUR: 'it returns false'. Refute it at one input. -/
def fnExactLeadOfWrong : ChangeSpec := { name := "fnExactLeadOf", fn := fun _ => fun
  | [d] => { results := [.lit (.bool false)], args := [d] }
  | _ => none }
def FnExactLeadOfWrongFalsely : Prop := fnExactLeadOfRow.holds Try.pinned (OpenSpec.ofChange fnExactLeadOfWrong)

/-- 'laws.FnExactPushItem': WHATEVER THE INPUT: true; the input reads as it did. -/
def fnExactPushItemSpec : ChangeSpec := { name := "fnExactPushItem", fn := fun _ => fun
  | [d1, d2] => { results := [.lit (.bool true)], args := [d1, d2] }
  | _ => none }
def fnExactPushItemRow : OpenClaim := { program := "ytkijfneaglogmaa", sum := "69701321c961d02f1e3e9dcf9b9155b66f5ac242d361afe311e74edf41fbfc41", func := "loop.example/g00840/laws.FnExactPushItem", spec := "fnExactPushItem", apart := false }
def FnExactPushItemSaid : Prop := fnExactPushItemRow.holds Try.pinned (OpenSpec.ofChange fnExactPushItemSpec)

/-- ITS FALSE NEIGHBOUR: 'it returns false'. Refute it at one input. -/
def fnExactPushItemWrong : ChangeSpec := { name := "fnExactPushItem", fn := fun _ => fun
  | [d1, d2] => { results := [.lit (.bool false)], args := [d1, d2] }
  | _ => none }
def FnExactPushItemWrongFalsely : Prop := fnExactPushItemRow.holds Try.pinned (OpenSpec.ofChange fnExactPushItemWrong)

/-- 'laws.FnExactHeldItem': WHATEVER THE INPUT: true; the input reads as it did. -/
def fnExactHeldItemSpec : ChangeSpec := { name := "fnExactHeldItem", fn := fun _ => fun
  | [d1, d2] => { results := [.lit (.bool true)], args := [d1, d2] }
  | _ => none }
def fnExactHeldItemRow : OpenClaim := { program := "ytkijfneaglogmaa", sum := "69701321c961d02f1e3e9dcf9b9155b66f5ac242d361afe311e74edf41fbfc41", func := "loop.example/g00840/laws.FnExactHeldItem", spec := "fnExactHeldItem", apart := false }
def FnExactHeldItemSaid : Prop := fnExactHeldItemRow.holds Try.pinned (OpenSpec.ofChange fnExactHeldItemSpec)

/-- ITS FALSE NEIGHBOUR: 'it returns false'. Refute it at one input. -/
def fnExactHeldItemWrong : ChangeSpec := { name := "fnExactHeldItem", fn := fun _ => fun
  | [d1, d2] => { results := [.lit (.bool false)], args := [d1, d2] }
  | _ => none }
def FnExactHeldItemWrongFalsely : Prop := fnExactHeldItemRow.holds Try.pinned (OpenSpec.ofChange fnExactHeldItemWrong)

/-- 'laws.FnExactDropItems': WHATEVER THE INPUT: true; the input reads as it did. -/
def fnExactDropItemsSpec : ChangeSpec := { name := "fnExactDropItems", fn := fun _ => fun
  | [d1, d2] => { results := [.lit (.bool true)], args := [d1, d2] }
  | _ => none }
def fnExactDropItemsRow : OpenClaim := { program := "ytkijfneaglogmaa", sum := "69701321c961d02f1e3e9dcf9b9155b66f5ac242d361afe311e74edf41fbfc41", func := "loop.example/g00840/laws.FnExactDropItems", spec := "fnExactDropItems", apart := false }
def FnExactDropItemsSaid : Prop := fnExactDropItemsRow.holds Try.pinned (OpenSpec.ofChange fnExactDropItemsSpec)

/-- ITS FALSE NEIGHBOUR: 'it returns false'. Refute it at one input. -/
def fnExactDropItemsWrong : ChangeSpec := { name := "fnExactDropItems", fn := fun _ => fun
  | [d1, d2] => { results := [.lit (.bool false)], args := [d1, d2] }
  | _ => none }
def FnExactDropItemsWrongFalsely : Prop := fnExactDropItemsRow.holds Try.pinned (OpenSpec.ofChange fnExactDropItemsWrong)

/-- 'laws.FnExactResizeWindow': WHATEVER THE INPUT: true; the input reads as it did. -/
def fnExactResizeWindowSpec : ChangeSpec := { name := "fnExactResizeWindow", fn := fun _ => fun
  | [d1, d2] => { results := [.lit (.bool true)], args := [d1, d2] }
  | _ => none }
def fnExactResizeWindowRow : OpenClaim := { program := "ytkijfneaglogmaa", sum := "69701321c961d02f1e3e9dcf9b9155b66f5ac242d361afe311e74edf41fbfc41", func := "loop.example/g00840/laws.FnExactResizeWindow", spec := "fnExactResizeWindow", apart := false }
def FnExactResizeWindowSaid : Prop := fnExactResizeWindowRow.holds Try.pinned (OpenSpec.ofChange fnExactResizeWindowSpec)

/-- ITS FALSE NEIGHBOUR: 'it returns false'. Refute it at one input. -/
def fnExactResizeWindowWrong : ChangeSpec := { name := "fnExactResizeWindow", fn := fun _ => fun
  | [d1, d2] => { results := [.lit (.bool false)], args := [d1, d2] }
  | _ => none }
def FnExactResizeWindowWrongFalsely : Prop := fnExactResizeWindowRow.holds Try.pinned (OpenSpec.ofChange fnExactResizeWindowWrong)

/-- 'laws.FnExactStatusOf': WHATEVER THE INPUT: true; the input reads as it did. -/
def fnExactStatusOfSpec : ChangeSpec := { name := "fnExactStatusOf", fn := fun _ => fun
  | [d] => { results := [.lit (.bool true)], args := [d] }
  | _ => none }
def fnExactStatusOfRow : OpenClaim := { program := "ytkijfneaglogmaa", sum := "69701321c961d02f1e3e9dcf9b9155b66f5ac242d361afe311e74edf41fbfc41", func := "loop.example/g00840/laws.FnExactStatusOf", spec := "fnExactStatusOf", apart := false }
def FnExactStatusOfSaid : Prop := fnExactStatusOfRow.holds Try.pinned (OpenSpec.ofChange fnExactStatusOfSpec)

/-- ITS FALSE NEIGHBOUR: 'it returns false'. Refute it at one input. -/
def fnExactStatusOfWrong : ChangeSpec := { name := "fnExactStatusOf", fn := fun _ => fun
  | [d] => { results := [.lit (.bool false)], args := [d] }
  | _ => none }
def FnExactStatusOfWrongFalsely : Prop := fnExactStatusOfRow.holds Try.pinned (OpenSpec.ofChange fnExactStatusOfWrong)

/-- 'laws.FnExactAnswerTo': WHATEVER THE INPUT: true; the input reads as it did. -/
def fnExactAnswerToSpec : ChangeSpec := { name := "fnExactAnswerTo", fn := fun _ => fun
  | [d1, d2] => { results := [.lit (.bool true)], args := [d1, d2] }
  | _ => none }
def fnExactAnswerToRow : OpenClaim := { program := "ytkijfneaglogmaa", sum := "69701321c961d02f1e3e9dcf9b9155b66f5ac242d361afe311e74edf41fbfc41", func := "loop.example/g00840/laws.FnExactAnswerTo", spec := "fnExactAnswerTo", apart := false }
def FnExactAnswerToSaid : Prop := fnExactAnswerToRow.holds Try.pinned (OpenSpec.ofChange fnExactAnswerToSpec)

/-- ITS FALSE NEIGHBOUR: 'it returns false'. Refute it at one input. -/
def fnExactAnswerToWrong : ChangeSpec := { name := "fnExactAnswerTo", fn := fun _ => fun
  | [d1, d2] => { results := [.lit (.bool false)], args := [d1, d2] }
  | _ => none }
def FnExactAnswerToWrongFalsely : Prop := fnExactAnswerToRow.holds Try.pinned (OpenSpec.ofChange fnExactAnswerToWrong)

/-- 'laws.FnExactHeldSerials': WHATEVER THE INPUT: true; the input reads as it did. -/
def fnExactHeldSerialsSpec : ChangeSpec := { name := "fnExactHeldSerials", fn := fun _ => fun
  | [d] => { results := [.lit (.bool true)], args := [d] }
  | _ => none }
def fnExactHeldSerialsRow : OpenClaim := { program := "ytkijfneaglogmaa", sum := "69701321c961d02f1e3e9dcf9b9155b66f5ac242d361afe311e74edf41fbfc41", func := "loop.example/g00840/laws.FnExactHeldSerials", spec := "fnExactHeldSerials", apart := false }
def FnExactHeldSerialsSaid : Prop := fnExactHeldSerialsRow.holds Try.pinned (OpenSpec.ofChange fnExactHeldSerialsSpec)

/-- ITS FALSE NEIGHBOUR: 'it returns false'. Refute it at one input. -/
def fnExactHeldSerialsWrong : ChangeSpec := { name := "fnExactHeldSerials", fn := fun _ => fun
  | [d] => { results := [.lit (.bool false)], args := [d] }
  | _ => none }
def FnExactHeldSerialsWrongFalsely : Prop := fnExactHeldSerialsRow.holds Try.pinned (OpenSpec.ofChange fnExactHeldSerialsWrong)

/- THE SECOND FORM. 'bulk': how many values and letters a reading holds, each counted each time it is reached (what is shared counts as often as it is met; a slice's spare places count too). A statement '..UptoSaid' is the law's where the arguments, and the package variables that the reading takes, are together of bulk at most 1048576: NARROWER than '..Said'. Prove '..Said' where nothing that the law and all that it calls make is longer than what came in: it says more and counts as full. Else prove '..UptoSaid'. A law counts once. -/
mutual
def uptoBulk {H : Type} : DataW H → Nat
  | .lit (.string bytes) => bytes.length + 1
  | .lit _ => 1
  | .nil => 1
  | .ptr d => uptoBulk d + 1
  | .slice elems spare => uptoBulkAll elems + uptoBulkAll spare + 1
  | .agg parts => uptoBulkAll parts + 1
  | .iface _ d => uptoBulk d + 1
  | .map entries => uptoBulkEntries entries + 1
  | .held _ => 1
def uptoBulkAll {H : Type} : List (DataW H) → Nat
  | [] => 0
  | d :: r => uptoBulk d + uptoBulkAll r
def uptoBulkEntries {H : Type} : List (Lit × DataW H) → Nat
  | [] => 0
  | x :: r => uptoBulkEntry x + uptoBulkEntries r
def uptoBulkEntry {H : Type} : Lit × DataW H → Nat
  | (.string bytes, d) => bytes.length + uptoBulk d + 1
  | (_, d) => uptoBulk d + 1
 end
def uptoSmall : (H : Type) → List (DataW H) → Bool := fun _ ds => decide (uptoBulkAll ds ≤ 1048576)
def OpenSpec.upto (s : _root_.Go.ChangeSpec) : _root_.Go.OpenSpec := { _root_.Go.OpenSpec.ofChange s with cond := some uptoSmall }

/-- 'laws.FnSendWindow', WHERE WHAT IT READS IS OF BULK AT MOST 1048576: true; the input reads as it did. -/
def fnSendWindowUptoRow : OpenClaim := { program := "ytkijfneaglogmaa", sum := "69701321c961d02f1e3e9dcf9b9155b66f5ac242d361afe311e74edf41fbfc41", func := "loop.example/g00840/laws.FnSendWindow", spec := "fnSendWindow", apart := false, narrowed := true }
def FnSendWindowUptoSaid : Prop := fnSendWindowUptoRow.holds Try.pinned (OpenSpec.upto fnSendWindowSpec)

/-- 'laws.FnAnswers', WHERE WHAT IT READS IS OF BULK AT MOST 1048576: true; the input reads as it did. -/
def fnAnswersUptoRow : OpenClaim := { program := "ytkijfneaglogmaa", sum := "69701321c961d02f1e3e9dcf9b9155b66f5ac242d361afe311e74edf41fbfc41", func := "loop.example/g00840/laws.FnAnswers", spec := "fnAnswers", apart := false, narrowed := true }
def FnAnswersUptoSaid : Prop := fnAnswersUptoRow.holds Try.pinned (OpenSpec.upto fnAnswersSpec)

/-- 'laws.FnExactIsValidSendWindow', WHERE WHAT IT READS IS OF BULK AT MOST 1048576: true; the input reads as it did. -/
def fnExactIsValidSendWindowUptoRow : OpenClaim := { program := "ytkijfneaglogmaa", sum := "69701321c961d02f1e3e9dcf9b9155b66f5ac242d361afe311e74edf41fbfc41", func := "loop.example/g00840/laws.FnExactIsValidSendWindow", spec := "fnExactIsValidSendWindow", apart := false, narrowed := true }
def FnExactIsValidSendWindowUptoSaid : Prop := fnExactIsValidSendWindowUptoRow.holds Try.pinned (OpenSpec.upto fnExactIsValidSendWindowSpec)

/-- 'laws.FnExactLeadOf', WHERE WHAT IT READS IS OF BULK AT MOST 1048576: true; the input reads as it did. -/
def fnExactLeadOfUptoRow : OpenClaim := { program := "ytkijfneaglogmaa", sum := "69701321c961d02f1e3e9dcf9b9155b66f5ac242d361afe311e74edf41fbfc41", func := "loop.example/g00840/laws.FnExactLeadOf", spec := "fnExactLeadOf", apart := false, narrowed := true }
def FnExactLeadOfUptoSaid : Prop := fnExactLeadOfUptoRow.holds Try.pinned (OpenSpec.upto fnExactLeadOfSpec)

/-- 'laws.FnExactPushItem', WHERE WHAT IT READS IS OF BULK AT MOST 1048576: true; the input reads as it did. -/
def fnExactPushItemUptoRow : OpenClaim := { program := "ytkijfneaglogmaa", sum := "69701321c961d02f1e3e9dcf9b9155b66f5ac242d361afe311e74edf41fbfc41", func := "loop.example/g00840/laws.FnExactPushItem", spec := "fnExactPushItem", apart := false, narrowed := true }
def FnExactPushItemUptoSaid : Prop := fnExactPushItemUptoRow.holds Try.pinned (OpenSpec.upto fnExactPushItemSpec)

/-- 'laws.FnExactHeldItem', WHERE WHAT IT READS IS OF BULK AT MOST 1048576: true; the input reads as it did. -/
def fnExactHeldItemUptoRow : OpenClaim := { program := "ytkijfneaglogmaa", sum := "69701321c961d02f1e3e9dcf9b9155b66f5ac242d361afe311e74edf41fbfc41", func := "loop.example/g00840/laws.FnExactHeldItem", spec := "fnExactHeldItem", apart := false, narrowed := true }
def FnExactHeldItemUptoSaid : Prop := fnExactHeldItemUptoRow.holds Try.pinned (OpenSpec.upto fnExactHeldItemSpec)

/-- 'laws.FnExactDropItems', WHERE WHAT IT READS IS OF BULK AT MOST 1048576: true; the input reads as it did. -/
def fnExactDropItemsUptoRow : OpenClaim := { program := "ytkijfneaglogmaa", sum := "69701321c961d02f1e3e9dcf9b9155b66f5ac242d361afe311e74edf41fbfc41", func := "loop.example/g00840/laws.FnExactDropItems", spec := "fnExactDropItems", apart := false, narrowed := true }
def FnExactDropItemsUptoSaid : Prop := fnExactDropItemsUptoRow.holds Try.pinned (OpenSpec.upto fnExactDropItemsSpec)

/-- 'laws.FnExactResizeWindow', WHERE WHAT IT READS IS OF BULK AT MOST 1048576: true; the input reads as it did. -/
def fnExactResizeWindowUptoRow : OpenClaim := { program := "ytkijfneaglogmaa", sum := "69701321c961d02f1e3e9dcf9b9155b66f5ac242d361afe311e74edf41fbfc41", func := "loop.example/g00840/laws.FnExactResizeWindow", spec := "fnExactResizeWindow", apart := false, narrowed := true }
def FnExactResizeWindowUptoSaid : Prop := fnExactResizeWindowUptoRow.holds Try.pinned (OpenSpec.upto fnExactResizeWindowSpec)

/-- 'laws.FnExactStatusOf', WHERE WHAT IT READS IS OF BULK AT MOST 1048576: true; the input reads as it did. -/
def fnExactStatusOfUptoRow : OpenClaim := { program := "ytkijfneaglogmaa", sum := "69701321c961d02f1e3e9dcf9b9155b66f5ac242d361afe311e74edf41fbfc41", func := "loop.example/g00840/laws.FnExactStatusOf", spec := "fnExactStatusOf", apart := false, narrowed := true }
def FnExactStatusOfUptoSaid : Prop := fnExactStatusOfUptoRow.holds Try.pinned (OpenSpec.upto fnExactStatusOfSpec)

/-- 'laws.FnExactAnswerTo', WHERE WHAT IT READS IS OF BULK AT MOST 1048576: true; the input reads as it did. -/
def fnExactAnswerToUptoRow : OpenClaim := { program := "ytkijfneaglogmaa", sum := "69701321c961d02f1e3e9dcf9b9155b66f5ac242d361afe311e74edf41fbfc41", func := "loop.example/g00840/laws.FnExactAnswerTo", spec := "fnExactAnswerTo", apart := false, narrowed := true }
def FnExactAnswerToUptoSaid : Prop := fnExactAnswerToUptoRow.holds Try.pinned (OpenSpec.upto fnExactAnswerToSpec)

/-- 'laws.FnExactHeldSerials', WHERE WHAT IT READS IS OF BULK AT MOST 1048576: true; the input reads as it did. -/
def fnExactHeldSerialsUptoRow : OpenClaim := { program := "ytkijfneaglogmaa", sum := "69701321c961d02f1e3e9dcf9b9155b66f5ac242d361afe311e74edf41fbfc41", func := "loop.example/g00840/laws.FnExactHeldSerials", spec := "fnExactHeldSerials", apart := false, narrowed := true }
def FnExactHeldSerialsUptoSaid : Prop := fnExactHeldSerialsUptoRow.holds Try.pinned (OpenSpec.upto fnExactHeldSerialsSpec)

end Rows
end Go.Proofs.Ytkijfneaglogmaa
