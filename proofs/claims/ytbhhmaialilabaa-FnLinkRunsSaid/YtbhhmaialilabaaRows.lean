/-
  No cell of these rows narrows 'for every input' (looked for: loops, veiled, ifaces, maps, wideKeys, modest, calm, conditions, laid).
  DERIVED. THE GIVEN ROWS OF THIS SEAT. 11 by the template 'for every input the law returns true; each argument reads behind the call as it read before'; 0 by the template 'total and deterministic' (their statements: YtbhhmaialilabaaTotals.lean).
  GIVEN WITH THE SEED: the statements are not yours to turn. If you find one false, say at which input.
  Laid BY PROGRAM, IN A SANDBOX (cutbox-rows.mjs): the forced cells as the released guide's own fill.sh prints them over the translation 8b06df7f801c8313… (all of the seat's roots in one cut). By AI agents, Wed Nov 11 2026. No macro, syntax, notation, axiom, sorry.
-/
import Derived.Test.YtbhhmaialilabaaChecked
import GoSem.Claim
import GoSem.ClaimJoined
import GoSem.ClaimMapViews
import Derived.JoinedTies
import Derived.KernelRfl
namespace Go.Proofs.Ytbhhmaialilabaa
/- THE CELL 'sum', in the pinned program and in every row, IS THE sha256 OF THE DUMP (.gsa) THAT YtbhhmaialilabaaProg.lean LOADS. Nothing in Lean hashes anything: it is a label: what it is worth is what the hold of that sum in a sandbox is worth. -/
noncomputable def Try.pinned : Pinned := { name := "ytbhhmaialilabaa", sum := "8b06df7f801c83137cfed5f6132aa10b614e081510b0243ac9d0e10bb24cd25c", checked := Try.checked }
namespace Rows
def none {H : Type} : Left H := { results := [], args := [] }

/-- 'laws.FnLinks': WHATEVER THE INPUT: true; the input reads as it did. -/
def fnLinksSpec : ChangeSpec := { name := "fnLinks", fn := fun _ => fun
  | [d] => { results := [.lit (.bool true)], args := [d] }
  | _ => none }
def fnLinksRow : OpenClaim := { program := "ytbhhmaialilabaa", sum := "8b06df7f801c83137cfed5f6132aa10b614e081510b0243ac9d0e10bb24cd25c", func := "loop.example/g00840/laws.FnLinks", spec := "fnLinks", unfollowed := true, recurses := true, apart := false }
def FnLinksSaid : Prop := fnLinksRow.holds Try.pinned (OpenSpec.ofChange fnLinksSpec)

/-- ITS FALSE NEIGHBOUR: 'it returns false'. Refute it at one input. -/
def fnLinksWrong : ChangeSpec := { name := "fnLinks", fn := fun _ => fun
  | [d] => { results := [.lit (.bool false)], args := [d] }
  | _ => none }
def FnLinksWrongFalsely : Prop := fnLinksRow.holds Try.pinned (OpenSpec.ofChange fnLinksWrong)

/-- 'laws.FnLinkRuns': WHATEVER THE INPUT: true; the input reads as it did. -/
def fnLinkRunsSpec : ChangeSpec := { name := "fnLinkRuns", fn := fun _ => fun
  | [d] => { results := [.lit (.bool true)], args := [d] }
  | _ => none }
def fnLinkRunsRow : OpenClaim := { program := "ytbhhmaialilabaa", sum := "8b06df7f801c83137cfed5f6132aa10b614e081510b0243ac9d0e10bb24cd25c", func := "loop.example/g00840/laws.FnLinkRuns", spec := "fnLinkRuns", inPlace := ["internal/bytealg.IndexByteString"], unfollowed := true, recurses := true, apart := false }
def FnLinkRunsSaid : Prop := fnLinkRunsRow.holds Try.pinned (OpenSpec.ofChange fnLinkRunsSpec)

/-- ITS FALSE NEIGHBOUR: 'it returns false'. Refute it at one input. -/
def fnLinkRunsWrong : ChangeSpec := { name := "fnLinkRuns", fn := fun _ => fun
  | [d] => { results := [.lit (.bool false)], args := [d] }
  | _ => none }
def FnLinkRunsWrongFalsely : Prop := fnLinkRunsRow.holds Try.pinned (OpenSpec.ofChange fnLinkRunsWrong)

/-- 'laws.FnExactIsValidLink': WHATEVER THE INPUT: true; the input reads as it did. -/
def fnExactIsValidLinkSpec : ChangeSpec := { name := "fnExactIsValidLink", fn := fun _ => fun
  | [d] => { results := [.lit (.bool true)], args := [d] }
  | _ => none }
def fnExactIsValidLinkRow : OpenClaim := { program := "ytbhhmaialilabaa", sum := "8b06df7f801c83137cfed5f6132aa10b614e081510b0243ac9d0e10bb24cd25c", func := "loop.example/g00840/laws.FnExactIsValidLink", spec := "fnExactIsValidLink", unfollowed := true, recurses := true, apart := false }
def FnExactIsValidLinkSaid : Prop := fnExactIsValidLinkRow.holds Try.pinned (OpenSpec.ofChange fnExactIsValidLinkSpec)

/-- ITS FALSE NEIGHBOUR: 'it returns false'. Refute it at one input. -/
def fnExactIsValidLinkWrong : ChangeSpec := { name := "fnExactIsValidLink", fn := fun _ => fun
  | [d] => { results := [.lit (.bool false)], args := [d] }
  | _ => none }
def FnExactIsValidLinkWrongFalsely : Prop := fnExactIsValidLinkRow.holds Try.pinned (OpenSpec.ofChange fnExactIsValidLinkWrong)

/-- 'laws.FnExactNewLink': WHATEVER THE INPUT: true; the input reads as it did. -/
def fnExactNewLinkSpec : ChangeSpec := { name := "fnExactNewLink", fn := fun _ => fun
  | [d] => { results := [.lit (.bool true)], args := [d] }
  | _ => none }
def fnExactNewLinkRow : OpenClaim := { program := "ytbhhmaialilabaa", sum := "8b06df7f801c83137cfed5f6132aa10b614e081510b0243ac9d0e10bb24cd25c", func := "loop.example/g00840/laws.FnExactNewLink", spec := "fnExactNewLink", apart := false }
def FnExactNewLinkSaid : Prop := fnExactNewLinkRow.holds Try.pinned (OpenSpec.ofChange fnExactNewLinkSpec)

/-- ITS FALSE NEIGHBOUR: 'it returns false'. Refute it at one input. -/
def fnExactNewLinkWrong : ChangeSpec := { name := "fnExactNewLink", fn := fun _ => fun
  | [d] => { results := [.lit (.bool false)], args := [d] }
  | _ => none }
def FnExactNewLinkWrongFalsely : Prop := fnExactNewLinkRow.holds Try.pinned (OpenSpec.ofChange fnExactNewLinkWrong)

/-- 'laws.FnExactSendOn': WHATEVER THE INPUT: true; the input reads as it did. -/
def fnExactSendOnSpec : ChangeSpec := { name := "fnExactSendOn", fn := fun _ => fun
  | [d1, d2] => { results := [.lit (.bool true)], args := [d1, d2] }
  | _ => none }
def fnExactSendOnRow : OpenClaim := { program := "ytbhhmaialilabaa", sum := "8b06df7f801c83137cfed5f6132aa10b614e081510b0243ac9d0e10bb24cd25c", func := "loop.example/g00840/laws.FnExactSendOn", spec := "fnExactSendOn", unfollowed := true, recurses := true, apart := false }
def FnExactSendOnSaid : Prop := fnExactSendOnRow.holds Try.pinned (OpenSpec.ofChange fnExactSendOnSpec)

/-- ITS FALSE NEIGHBOUR: 'it returns false'. Refute it at one input. -/
def fnExactSendOnWrong : ChangeSpec := { name := "fnExactSendOn", fn := fun _ => fun
  | [d1, d2] => { results := [.lit (.bool false)], args := [d1, d2] }
  | _ => none }
def FnExactSendOnWrongFalsely : Prop := fnExactSendOnRow.holds Try.pinned (OpenSpec.ofChange fnExactSendOnWrong)

/-- 'laws.FnExactTakeFrom': WHATEVER THE INPUT: true; the input reads as it did. -/
def fnExactTakeFromSpec : ChangeSpec := { name := "fnExactTakeFrom", fn := fun _ => fun
  | [d] => { results := [.lit (.bool true)], args := [d] }
  | _ => none }
def fnExactTakeFromRow : OpenClaim := { program := "ytbhhmaialilabaa", sum := "8b06df7f801c83137cfed5f6132aa10b614e081510b0243ac9d0e10bb24cd25c", func := "loop.example/g00840/laws.FnExactTakeFrom", spec := "fnExactTakeFrom", unfollowed := true, recurses := true, apart := false }
def FnExactTakeFromSaid : Prop := fnExactTakeFromRow.holds Try.pinned (OpenSpec.ofChange fnExactTakeFromSpec)

/-- ITS FALSE NEIGHBOUR: 'it returns false'. Refute it at one input. -/
def fnExactTakeFromWrong : ChangeSpec := { name := "fnExactTakeFrom", fn := fun _ => fun
  | [d] => { results := [.lit (.bool false)], args := [d] }
  | _ => none }
def FnExactTakeFromWrongFalsely : Prop := fnExactTakeFromRow.holds Try.pinned (OpenSpec.ofChange fnExactTakeFromWrong)

/-- 'laws.FnExactDropFrom': WHATEVER THE INPUT: true; the input reads as it did. -/
def fnExactDropFromSpec : ChangeSpec := { name := "fnExactDropFrom", fn := fun _ => fun
  | [d1, d2] => { results := [.lit (.bool true)], args := [d1, d2] }
  | _ => none }
def fnExactDropFromRow : OpenClaim := { program := "ytbhhmaialilabaa", sum := "8b06df7f801c83137cfed5f6132aa10b614e081510b0243ac9d0e10bb24cd25c", func := "loop.example/g00840/laws.FnExactDropFrom", spec := "fnExactDropFrom", unfollowed := true, recurses := true, apart := false }
def FnExactDropFromSaid : Prop := fnExactDropFromRow.holds Try.pinned (OpenSpec.ofChange fnExactDropFromSpec)

/-- ITS FALSE NEIGHBOUR: 'it returns false'. Refute it at one input. -/
def fnExactDropFromWrong : ChangeSpec := { name := "fnExactDropFrom", fn := fun _ => fun
  | [d1, d2] => { results := [.lit (.bool false)], args := [d1, d2] }
  | _ => none }
def FnExactDropFromWrongFalsely : Prop := fnExactDropFromRow.holds Try.pinned (OpenSpec.ofChange fnExactDropFromWrong)

/-- 'laws.FnExactNextFate': WHATEVER THE INPUT: true; the input reads as it did. -/
def fnExactNextFateSpec : ChangeSpec := { name := "fnExactNextFate", fn := fun _ => fun
  | [d] => { results := [.lit (.bool true)], args := [d] }
  | _ => none }
def fnExactNextFateRow : OpenClaim := { program := "ytbhhmaialilabaa", sum := "8b06df7f801c83137cfed5f6132aa10b614e081510b0243ac9d0e10bb24cd25c", func := "loop.example/g00840/laws.FnExactNextFate", spec := "fnExactNextFate", unfollowed := true, recurses := true, apart := false }
def FnExactNextFateSaid : Prop := fnExactNextFateRow.holds Try.pinned (OpenSpec.ofChange fnExactNextFateSpec)

/-- ITS FALSE NEIGHBOUR: 'it returns false'. Refute it at one input. -/
def fnExactNextFateWrong : ChangeSpec := { name := "fnExactNextFate", fn := fun _ => fun
  | [d] => { results := [.lit (.bool false)], args := [d] }
  | _ => none }
def FnExactNextFateWrongFalsely : Prop := fnExactNextFateRow.holds Try.pinned (OpenSpec.ofChange fnExactNextFateWrong)

/-- 'laws.FnExactSendAll': WHATEVER THE INPUT: true; the input reads as it did. -/
def fnExactSendAllSpec : ChangeSpec := { name := "fnExactSendAll", fn := fun _ => fun
  | [d1, d2] => { results := [.lit (.bool true)], args := [d1, d2] }
  | _ => none }
def fnExactSendAllRow : OpenClaim := { program := "ytbhhmaialilabaa", sum := "8b06df7f801c83137cfed5f6132aa10b614e081510b0243ac9d0e10bb24cd25c", func := "loop.example/g00840/laws.FnExactSendAll", spec := "fnExactSendAll", unfollowed := true, recurses := true, apart := false }
def FnExactSendAllSaid : Prop := fnExactSendAllRow.holds Try.pinned (OpenSpec.ofChange fnExactSendAllSpec)

/-- ITS FALSE NEIGHBOUR: 'it returns false'. Refute it at one input. -/
def fnExactSendAllWrong : ChangeSpec := { name := "fnExactSendAll", fn := fun _ => fun
  | [d1, d2] => { results := [.lit (.bool false)], args := [d1, d2] }
  | _ => none }
def FnExactSendAllWrongFalsely : Prop := fnExactSendAllRow.holds Try.pinned (OpenSpec.ofChange fnExactSendAllWrong)

/-- 'laws.FnExactDrain': WHATEVER THE INPUT: true; the input reads as it did. -/
def fnExactDrainSpec : ChangeSpec := { name := "fnExactDrain", fn := fun _ => fun
  | [d] => { results := [.lit (.bool true)], args := [d] }
  | _ => none }
def fnExactDrainRow : OpenClaim := { program := "ytbhhmaialilabaa", sum := "8b06df7f801c83137cfed5f6132aa10b614e081510b0243ac9d0e10bb24cd25c", func := "loop.example/g00840/laws.FnExactDrain", spec := "fnExactDrain", unfollowed := true, recurses := true, apart := false }
def FnExactDrainSaid : Prop := fnExactDrainRow.holds Try.pinned (OpenSpec.ofChange fnExactDrainSpec)

/-- ITS FALSE NEIGHBOUR: 'it returns false'. Refute it at one input. -/
def fnExactDrainWrong : ChangeSpec := { name := "fnExactDrain", fn := fun _ => fun
  | [d] => { results := [.lit (.bool false)], args := [d] }
  | _ => none }
def FnExactDrainWrongFalsely : Prop := fnExactDrainRow.holds Try.pinned (OpenSpec.ofChange fnExactDrainWrong)

/-- 'laws.FnExactCountFates': WHATEVER THE INPUT: true; the input reads as it did. -/
def fnExactCountFatesSpec : ChangeSpec := { name := "fnExactCountFates", fn := fun _ => fun
  | [d] => { results := [.lit (.bool true)], args := [d] }
  | _ => none }
def fnExactCountFatesRow : OpenClaim := { program := "ytbhhmaialilabaa", sum := "8b06df7f801c83137cfed5f6132aa10b614e081510b0243ac9d0e10bb24cd25c", func := "loop.example/g00840/laws.FnExactCountFates", spec := "fnExactCountFates", inPlace := ["internal/bytealg.IndexByteString"], unfollowed := true, recurses := true, apart := false }
def FnExactCountFatesSaid : Prop := fnExactCountFatesRow.holds Try.pinned (OpenSpec.ofChange fnExactCountFatesSpec)

/-- ITS FALSE NEIGHBOUR: 'it returns false'. Refute it at one input. -/
def fnExactCountFatesWrong : ChangeSpec := { name := "fnExactCountFates", fn := fun _ => fun
  | [d] => { results := [.lit (.bool false)], args := [d] }
  | _ => none }
def FnExactCountFatesWrongFalsely : Prop := fnExactCountFatesRow.holds Try.pinned (OpenSpec.ofChange fnExactCountFatesWrong)

/- THE SECOND FORM. 'bulk': how many values and letters a reading holds, each counted each time it is reached (what is shared counts as often as it is met; a slice's spare places count too). A statement '..UptoSaid' is the law's where the arguments, and the package variables that the reading takes, are together of bulk at most 1048576: NARROWER than '..Said'. Prove '..Said' where nothing that the law and all that it calls make is longer than what came in: it says more and counts as full. Else prove '..UptoSaid'. A law counts once. -/
mutual
def uptoBulk {H : Type} : DataW H → Nat
  | .lit (.string bytes) => bytes.length + 1
  | .lit _ => 1
  | .nil => 1
  | .ptr d => uptoBulk d + 1
  | .slice elems spare => uptoBulkAll elems + uptoBulkAll spare + 1
  | .agg parts => uptoBulkAll parts + 1
  | .iface _ d => uptoBulk d + 1
  | .map entries => uptoBulkEntries entries + 1
  | .held _ => 1
def uptoBulkAll {H : Type} : List (DataW H) → Nat
  | [] => 0
  | d :: r => uptoBulk d + uptoBulkAll r
def uptoBulkEntries {H : Type} : List (Lit × DataW H) → Nat
  | [] => 0
  | x :: r => uptoBulkEntry x + uptoBulkEntries r
def uptoBulkEntry {H : Type} : Lit × DataW H → Nat
  | (.string bytes, d) => bytes.length + uptoBulk d + 1
  | (_, d) => uptoBulk d + 1
 end
def uptoSmall : (H : Type) → List (DataW H) → Bool := fun _ ds => decide (uptoBulkAll ds ≤ 1048576)
def OpenSpec.upto (s : _root_.Go.ChangeSpec) : _root_.Go.OpenSpec := { _root_.Go.OpenSpec.ofChange s with cond := some uptoSmall }

/-- 'laws.FnLinks', WHERE WHAT IT READS IS OF BULK AT MOST 1048576: true; the input reads as it did. -/
def fnLinksUptoRow : OpenClaim := { program := "ytbhhmaialilabaa", sum := "8b06df7f801c83137cfed5f6132aa10b614e081510b0243ac9d0e10bb24cd25c", func := "loop.example/g00840/laws.FnLinks", spec := "fnLinks", unfollowed := true, recurses := true, apart := false, narrowed := true }
def FnLinksUptoSaid : Prop := fnLinksUptoRow.holds Try.pinned (OpenSpec.upto fnLinksSpec)

/-- 'laws.FnLinkRuns', WHERE WHAT IT READS IS OF BULK AT MOST 1048576: true; the input reads as it did. -/
def fnLinkRunsUptoRow : OpenClaim := { program := "ytbhhmaialilabaa", sum := "8b06df7f801c83137cfed5f6132aa10b614e081510b0243ac9d0e10bb24cd25c", func := "loop.example/g00840/laws.FnLinkRuns", spec := "fnLinkRuns", inPlace := ["internal/bytealg.IndexByteString"], unfollowed := true, recurses := true, apart := false, narrowed := true }
def FnLinkRunsUptoSaid : Prop := fnLinkRunsUptoRow.holds Try.pinned (OpenSpec.upto fnLinkRunsSpec)

/-- 'laws.FnExactIsValidLink', WHERE WHAT IT READS IS OF BULK AT MOST 1048576: true; the input reads as it did. -/
def fnExactIsValidLinkUptoRow : OpenClaim := { program := "ytbhhmaialilabaa", sum := "8b06df7f801c83137cfed5f6132aa10b614e081510b0243ac9d0e10bb24cd25c", func := "loop.example/g00840/laws.FnExactIsValidLink", spec := "fnExactIsValidLink", unfollowed := true, recurses := true, apart := false, narrowed := true }
def FnExactIsValidLinkUptoSaid : Prop := fnExactIsValidLinkUptoRow.holds Try.pinned (OpenSpec.upto fnExactIsValidLinkSpec)

/-- 'laws.FnExactNewLink', WHERE WHAT IT READS IS OF BULK AT MOST 1048576: true; the input reads as it did. -/
def fnExactNewLinkUptoRow : OpenClaim := { program := "ytbhhmaialilabaa", sum := "8b06df7f801c83137cfed5f6132aa10b614e081510b0243ac9d0e10bb24cd25c", func := "loop.example/g00840/laws.FnExactNewLink", spec := "fnExactNewLink", apart := false, narrowed := true }
def FnExactNewLinkUptoSaid : Prop := fnExactNewLinkUptoRow.holds Try.pinned (OpenSpec.upto fnExactNewLinkSpec)

/-- 'laws.FnExactSendOn', WHERE WHAT IT READS IS OF BULK AT MOST 1048576: true; the input reads as it did. -/
def fnExactSendOnUptoRow : OpenClaim := { program := "ytbhhmaialilabaa", sum := "8b06df7f801c83137cfed5f6132aa10b614e081510b0243ac9d0e10bb24cd25c", func := "loop.example/g00840/laws.FnExactSendOn", spec := "fnExactSendOn", unfollowed := true, recurses := true, apart := false, narrowed := true }
def FnExactSendOnUptoSaid : Prop := fnExactSendOnUptoRow.holds Try.pinned (OpenSpec.upto fnExactSendOnSpec)

/-- 'laws.FnExactTakeFrom', WHERE WHAT IT READS IS OF BULK AT MOST 1048576: true; the input reads as it did. -/
def fnExactTakeFromUptoRow : OpenClaim := { program := "ytbhhmaialilabaa", sum := "8b06df7f801c83137cfed5f6132aa10b614e081510b0243ac9d0e10bb24cd25c", func := "loop.example/g00840/laws.FnExactTakeFrom", spec := "fnExactTakeFrom", unfollowed := true, recurses := true, apart := false, narrowed := true }
def FnExactTakeFromUptoSaid : Prop := fnExactTakeFromUptoRow.holds Try.pinned (OpenSpec.upto fnExactTakeFromSpec)

/-- 'laws.FnExactDropFrom', WHERE WHAT IT READS IS OF BULK AT MOST 1048576: true; the input reads as it did. -/
def fnExactDropFromUptoRow : OpenClaim := { program := "ytbhhmaialilabaa", sum := "8b06df7f801c83137cfed5f6132aa10b614e081510b0243ac9d0e10bb24cd25c", func := "loop.example/g00840/laws.FnExactDropFrom", spec := "fnExactDropFrom", unfollowed := true, recurses := true, apart := false, narrowed := true }
def FnExactDropFromUptoSaid : Prop := fnExactDropFromUptoRow.holds Try.pinned (OpenSpec.upto fnExactDropFromSpec)

/-- 'laws.FnExactNextFate', WHERE WHAT IT READS IS OF BULK AT MOST 1048576: true; the input reads as it did. -/
def fnExactNextFateUptoRow : OpenClaim := { program := "ytbhhmaialilabaa", sum := "8b06df7f801c83137cfed5f6132aa10b614e081510b0243ac9d0e10bb24cd25c", func := "loop.example/g00840/laws.FnExactNextFate", spec := "fnExactNextFate", unfollowed := true, recurses := true, apart := false, narrowed := true }
def FnExactNextFateUptoSaid : Prop := fnExactNextFateUptoRow.holds Try.pinned (OpenSpec.upto fnExactNextFateSpec)

/-- 'laws.FnExactSendAll', WHERE WHAT IT READS IS OF BULK AT MOST 1048576: true; the input reads as it did. -/
def fnExactSendAllUptoRow : OpenClaim := { program := "ytbhhmaialilabaa", sum := "8b06df7f801c83137cfed5f6132aa10b614e081510b0243ac9d0e10bb24cd25c", func := "loop.example/g00840/laws.FnExactSendAll", spec := "fnExactSendAll", unfollowed := true, recurses := true, apart := false, narrowed := true }
def FnExactSendAllUptoSaid : Prop := fnExactSendAllUptoRow.holds Try.pinned (OpenSpec.upto fnExactSendAllSpec)

/-- 'laws.FnExactDrain', WHERE WHAT IT READS IS OF BULK AT MOST 1048576: true; the input reads as it did. -/
def fnExactDrainUptoRow : OpenClaim := { program := "ytbhhmaialilabaa", sum := "8b06df7f801c83137cfed5f6132aa10b614e081510b0243ac9d0e10bb24cd25c", func := "loop.example/g00840/laws.FnExactDrain", spec := "fnExactDrain", unfollowed := true, recurses := true, apart := false, narrowed := true }
def FnExactDrainUptoSaid : Prop := fnExactDrainUptoRow.holds Try.pinned (OpenSpec.upto fnExactDrainSpec)

/-- 'laws.FnExactCountFates', WHERE WHAT IT READS IS OF BULK AT MOST 1048576: true; the input reads as it did. -/
def fnExactCountFatesUptoRow : OpenClaim := { program := "ytbhhmaialilabaa", sum := "8b06df7f801c83137cfed5f6132aa10b614e081510b0243ac9d0e10bb24cd25c", func := "loop.example/g00840/laws.FnExactCountFates", spec := "fnExactCountFates", inPlace := ["internal/bytealg.IndexByteString"], unfollowed := true, recurses := true, apart := false, narrowed := true }
def FnExactCountFatesUptoSaid : Prop := fnExactCountFatesUptoRow.holds Try.pinned (OpenSpec.upto fnExactCountFatesSpec)

end Rows
end Go.Proofs.Ytbhhmaialilabaa
