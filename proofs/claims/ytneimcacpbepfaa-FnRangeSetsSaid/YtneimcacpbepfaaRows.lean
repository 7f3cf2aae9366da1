/-
  No cell of these rows narrows 'for every input' (looked for: loops, veiled, ifaces, maps, wideKeys, modest, calm, conditions, laid).
  DERIVED. THE GIVEN ROWS OF THIS SEAT. 10 by the template 'for every input the law returns true; each argument reads behind the call as it read before'; 0 by the template 'total and deterministic' (their statements: YtneimcacpbepfaaTotals.lean).
  GIVEN WITH THE SEED: the statements are not yours to turn. If you find one false, say at which input.
  Laid BY PROGRAM, IN A SANDBOX (cutbox-rows.mjs): the forced cells as the released guide's own fill.sh prints them over the translation 7a884db3eeadcbfd… (all of the seat's roots in one cut). By AI agents, Wed Nov 11 2026. No macro, syntax, notation, axiom, sorry.
-/
import Derived.Test.YtneimcacpbepfaaChecked
import GoSem.Claim
import GoSem.ClaimJoined
import GoSem.ClaimMapViews
import Derived.JoinedTies
import Derived.KernelRfl
namespace Go.Proofs.Ytneimcacpbepfaa
/- THE CELL 'sum', in the pinned program and in every row, IS THE sha256 OF THE DUMP (.gsa) THAT YtneimcacpbepfaaProg.lean LOADS. Nothing in Lean hashes anything: it is a label: what it is worth is what the hold of that sum in a sandbox is worth. -/
noncomputable def Try.pinned : Pinned := { name := "ytneimcacpbepfaa", sum := "7a884db3eeadcbfda315a1efce4a7de63575951bfe75fcecd79e4f2ba5c42ec4", checked := Try.checked }
namespace Rows
def none {H : Type} : Left H := { results := [], args := [] }

/-- 'laws.FnRangeSets': WHATEVER THE INPUT: true; the input reads as it did. -/
def fnRangeSetsSpec : ChangeSpec := { name := "fnRangeSets", fn := fun _ => fun
  | [d] => { results := [.lit (.bool true)], args := [d] }
  | _ => none }
def fnRangeSetsRow : OpenClaim := { program := "ytneimcacpbepfaa", sum := "7a884db3eeadcbfda315a1efce4a7de63575951bfe75fcecd79e4f2ba5c42ec4", func := "loop.example/g00840/laws.FnRangeSets", spec := "fnRangeSets", unfollowed := true, recurses := true, apart := false }
def FnRangeSetsSaid : Prop := fnRangeSetsRow.holds Try.pinned (OpenSpec.ofChange fnRangeSetsSpec)

/-- ITS FALSE NEIGHBOUR: 'it returns false'. Refute it at one input. -/
def fnRangeSetsWrong : ChangeSpec := { name := "fnRangeSets", fn := fun _ => fun
  | [d] => { results := [.lit (.bool false)], args := [d] }
  | _ => none }
def FnRangeSetsWrongFalsely : Prop := fnRangeSetsRow.holds Try.pinned (OpenSpec.ofChange fnRangeSetsWrong)

/-- 'laws.FnExactIsRangeSet': WHATEVER THE INPUT: true; the input reads as it did. -/
def fnExactIsRangeSetSpec : ChangeSpec := { name := "fnExactIsRangeSet", fn := fun _ => fun
  | [d] => { results := [.lit (.bool true)], args := [d] }
  | _ => none }
def fnExactIsRangeSetRow : OpenClaim := { program := "ytneimcacpbepfaa", sum := "7a884db3eeadcbfda315a1efce4a7de63575951bfe75fcecd79e4f2ba5c42ec4", func := "loop.example/g00840/laws.FnExactIsRangeSet", spec := "fnExactIsRangeSet", unfollowed := true, recurses := true, apart := false }
def FnExactIsRangeSetSaid : Prop := fnExactIsRangeSetRow.holds Try.pinned (OpenSpec.ofChange fnExactIsRangeSetSpec)

/-- ITS FALSE NEIGHBOUR: 'it returns false'. Refute it at one input. -/
def fnExactIsRangeSetWrong : ChangeSpec := { name := "fnExactIsRangeSet", fn := fun _ => fun
  | [d] => { results := [.lit (.bool false)], args := [d] }
  | _ => none }
def FnExactIsRangeSetWrongFalsely : Prop := fnExactIsRangeSetRow.holds Try.pinned (OpenSpec.ofChange fnExactIsRangeSetWrong)

/-- 'laws.FnExactHasNumber': WHATEVER THE INPUT: true; the input reads as it did. -/
def fnExactHasNumberSpec : ChangeSpec := { name := "fnExactHasNumber", fn := fun _ => fun
  | [d1, d2] => { results := [.lit (.bool true)], args := [d1, d2] }
  | _ => none }
def fnExactHasNumberRow : OpenClaim := { program := "ytneimcacpbepfaa", sum := "7a884db3eeadcbfda315a1efce4a7de63575951bfe75fcecd79e4f2ba5c42ec4", func := "loop.example/g00840/laws.FnExactHasNumber", spec := "fnExactHasNumber", unfollowed := true, recurses := true, apart := false }
def FnExactHasNumberSaid : Prop := fnExactHasNumberRow.holds Try.pinned (OpenSpec.ofChange fnExactHasNumberSpec)

/-- ITS FALSE NEIGHBOUR: 'it returns false'. Refute it at one input. -/
def fnExactHasNumberWrong : ChangeSpec := { name := "fnExactHasNumber", fn := fun _ => fun
  | [d1, d2] => { results := [.lit (.bool false)], args := [d1, d2] }
  | _ => none }
def FnExactHasNumberWrongFalsely : Prop := fnExactHasNumberRow.holds Try.pinned (OpenSpec.ofChange fnExactHasNumberWrong)

/-- 'laws.FnExactAddRange': WHATEVER THE INPUT: true; the input reads as it did. -/
def fnExactAddRangeSpec : ChangeSpec := { name := "fnExactAddRange", fn := fun _ => fun
  | [d1, d2, d3] => { results := [.lit (.bool true)], args := [d1, d2, d3] }
  | _ => none }
def fnExactAddRangeRow : OpenClaim := { program := "ytneimcacpbepfaa", sum := "7a884db3eeadcbfda315a1efce4a7de63575951bfe75fcecd79e4f2ba5c42ec4", func := "loop.example/g00840/laws.FnExactAddRange", spec := "fnExactAddRange", unfollowed := true, recurses := true, apart := false }
def FnExactAddRangeSaid : Prop := fnExactAddRangeRow.holds Try.pinned (OpenSpec.ofChange fnExactAddRangeSpec)

/-- ITS FALSE NEIGHBOUR: 'it returns false'. Refute it at one input. -/
def fnExactAddRangeWrong : ChangeSpec := { name := "fnExactAddRange", fn := fun _ => fun
  | [d1, d2, d3] => { results := [.lit (.bool false)], args := [d1, d2, d3] }
  | _ => none }
def FnExactAddRangeWrongFalsely : Prop := fnExactAddRangeRow.holds Try.pinned (OpenSpec.ofChange fnExactAddRangeWrong)

/-- 'laws.FnExactRemoveRange': WHATEVER THE INPUT: true; the input reads as it did. -/
def fnExactRemoveRangeSpec : ChangeSpec := { name := "fnExactRemoveRange", fn := fun _ => fun
  | [d1, d2, d3] => { results := [.lit (.bool true)], args := [d1, d2, d3] }
  | _ => none }
def fnExactRemoveRangeRow : OpenClaim := { program := "ytneimcacpbepfaa", sum := "7a884db3eeadcbfda315a1efce4a7de63575951bfe75fcecd79e4f2ba5c42ec4", func := "loop.example/g00840/laws.FnExactRemoveRange", spec := "fnExactRemoveRange", unfollowed := true, recurses := true, apart := false }
def FnExactRemoveRangeSaid : Prop := fnExactRemoveRangeRow.holds Try.pinned (OpenSpec.ofChange fnExactRemoveRangeSpec)

/-- ITS FALSE NEIGHBOUR: 'it returns false'. Refute it at one input. -/
def fnExactRemoveRangeWrong : ChangeSpec := { name := "fnExactRemoveRange", fn := fun _ => fun
  | [d1, d2, d3] => { results := [.lit (.bool false)], args := [d1, d2, d3] }
  | _ => none }
def FnExactRemoveRangeWrongFalsely : Prop := fnExactRemoveRangeRow.holds Try.pinned (OpenSpec.ofChange fnExactRemoveRangeWrong)

/-- 'laws.FnExactUnionOf': WHATEVER THE INPUT: true; the input reads as it did. -/
def fnExactUnionOfSpec : ChangeSpec := { name := "fnExactUnionOf", fn := fun _ => fun
  | [d1, d2] => { results := [.lit (.bool true)], args := [d1, d2] }
  | _ => none }
def fnExactUnionOfRow : OpenClaim := { program := "ytneimcacpbepfaa", sum := "7a884db3eeadcbfda315a1efce4a7de63575951bfe75fcecd79e4f2ba5c42ec4", func := "loop.example/g00840/laws.FnExactUnionOf", spec := "fnExactUnionOf", unfollowed := true, recurses := true, apart := false }
def FnExactUnionOfSaid : Prop := fnExactUnionOfRow.holds Try.pinned (OpenSpec.ofChange fnExactUnionOfSpec)

/-- ITS FALSE NEIGHBOUR: 'it returns false'. Refute it at one input. -/
def fnExactUnionOfWrong : ChangeSpec := { name := "fnExactUnionOf", fn := fun _ => fun
  | [d1, d2] => { results := [.lit (.bool false)], args := [d1, d2] }
  | _ => none }
def FnExactUnionOfWrongFalsely : Prop := fnExactUnionOfRow.holds Try.pinned (OpenSpec.ofChange fnExactUnionOfWrong)

/-- 'laws.FnExactCommonOf': WHATEVER THE INPUT: true; the input reads as it did. -/
def fnExactCommonOfSpec : ChangeSpec := { name := "fnExactCommonOf", fn := fun _ => fun
  | [d1, d2] => { results := [.lit (.bool true)], args := [d1, d2] }
  | _ => none }
def fnExactCommonOfRow : OpenClaim := { program := "ytneimcacpbepfaa", sum := "7a884db3eeadcbfda315a1efce4a7de63575951bfe75fcecd79e4f2ba5c42ec4", func := "loop.example/g00840/laws.FnExactCommonOf", spec := "fnExactCommonOf", unfollowed := true, recurses := true, apart := false }
def FnExactCommonOfSaid : Prop := fnExactCommonOfRow.holds Try.pinned (OpenSpec.ofChange fnExactCommonOfSpec)

/-- ITS FALSE NEIGHBOUR: 'it returns false'. Refute it at one input. -/
def fnExactCommonOfWrong : ChangeSpec := { name := "fnExactCommonOf", fn := fun _ => fun
  | [d1, d2] => { results := [.lit (.bool false)], args := [d1, d2] }
  | _ => none }
def FnExactCommonOfWrongFalsely : Prop := fnExactCommonOfRow.holds Try.pinned (OpenSpec.ofChange fnExactCommonOfWrong)

/-- 'laws.FnExactWithoutOf': WHATEVER THE INPUT: true; the input reads as it did. -/
def fnExactWithoutOfSpec : ChangeSpec := { name := "fnExactWithoutOf", fn := fun _ => fun
  | [d1, d2] => { results := [.lit (.bool true)], args := [d1, d2] }
  | _ => none }
def fnExactWithoutOfRow : OpenClaim := { program := "ytneimcacpbepfaa", sum := "7a884db3eeadcbfda315a1efce4a7de63575951bfe75fcecd79e4f2ba5c42ec4", func := "loop.example/g00840/laws.FnExactWithoutOf", spec := "fnExactWithoutOf", unfollowed := true, recurses := true, apart := false }
def FnExactWithoutOfSaid : Prop := fnExactWithoutOfRow.holds Try.pinned (OpenSpec.ofChange fnExactWithoutOfSpec)

/-- ITS FALSE NEIGHBOUR: 'it returns false'. Refute it at one input. -/
def fnExactWithoutOfWrong : ChangeSpec := { name := "fnExactWithoutOf", fn := fun _ => fun
  | [d1, d2] => { results := [.lit (.bool false)], args := [d1, d2] }
  | _ => none }
def FnExactWithoutOfWrongFalsely : Prop := fnExactWithoutOfRow.holds Try.pinned (OpenSpec.ofChange fnExactWithoutOfWrong)

/-- 'laws.FnExactSetSize': WHATEVER THE INPUT: true; the input reads as it did. -/
def fnExactSetSizeSpec : ChangeSpec := { name := "fnExactSetSize", fn := fun _ => fun
  | [d] => { results := [.lit (.bool true)], args := [d] }
  | _ => none }
def fnExactSetSizeRow : OpenClaim := { program := "ytneimcacpbepfaa", sum := "7a884db3eeadcbfda315a1efce4a7de63575951bfe75fcecd79e4f2ba5c42ec4", func := "loop.example/g00840/laws.FnExactSetSize", spec := "fnExactSetSize", unfollowed := true, recurses := true, apart := false }
def FnExactSetSizeSaid : Prop := fnExactSetSizeRow.holds Try.pinned (OpenSpec.ofChange fnExactSetSizeSpec)

/-- ITS FALSE NEIGHBOUR: 'it returns false'. Refute it at one input. -/
def fnExactSetSizeWrong : ChangeSpec := { name := "fnExactSetSize", fn := fun _ => fun
  | [d] => { results := [.lit (.bool false)], args := [d] }
  | _ => none }
def FnExactSetSizeWrongFalsely : Prop := fnExactSetSizeRow.holds Try.pinned (OpenSpec.ofChange fnExactSetSizeWrong)

/-- 'laws.FnExactNextMissing': WHATEVER THE INPUT: true; the input reads as it did. -/
def fnExactNextMissingSpec : ChangeSpec := { name := "fnExactNextMissing", fn := fun _ => fun
  | [d1, d2] => { results := [.lit (.bool true)], args := [d1, d2] }
  | _ => none }
def fnExactNextMissingRow : OpenClaim := { program := "ytneimcacpbepfaa", sum := "7a884db3eeadcbfda315a1efce4a7de63575951bfe75fcecd79e4f2ba5c42ec4", func := "loop.example/g00840/laws.FnExactNextMissing", spec := "fnExactNextMissing", unfollowed := true, recurses := true, apart := false }
def FnExactNextMissingSaid : Prop := fnExactNextMissingRow.holds Try.pinned (OpenSpec.ofChange fnExactNextMissingSpec)

/-- ITS FALSE NEIGHBOUR: 'it returns false'. Refute it at one input. -/
def fnExactNextMissingWrong : ChangeSpec := { name := "fnExactNextMissing", fn := fun _ => fun
  | [d1, d2] => { results := [.lit (.bool false)], args := [d1, d2] }
  | _ => none }
def FnExactNextMissingWrongFalsely : Prop := fnExactNextMissingRow.holds Try.pinned (OpenSpec.ofChange fnExactNextMissingWrong)

/- THE SECOND FORM. 'bulk': how many values and letters a reading holds, each counted each time it is reached (what is shared counts as often as it is met; a slice's spare places count too). A statement '..UptoSaid' is the law's where the arguments, and the package variables that the reading takes, are together of bulk at most 1048576: NARROWER than '..Said'. Prove '..Said' where nothing that the law and all that it calls make is longer than what came in: it says more and counts as full. Else prove '..UptoSaid'. A law counts once. -/
mutual
def uptoBulk {H : Type} : DataW H → Nat
  | .lit (.string bytes) => bytes.length + 1
  | .lit _ => 1
  | .nil => 1
  | .ptr d => uptoBulk d + 1
  | .slice elems spare => uptoBulkAll elems + uptoBulkAll spare + 1
  | .agg parts => uptoBulkAll parts + 1
  | .iface _ d => uptoBulk d + 1
  | .map entries => uptoBulkEntries entries + 1
  | .held _ => 1
def uptoBulkAll {H : Type} : List (DataW H) → Nat
  | [] => 0
  | d :: r => uptoBulk d + uptoBulkAll r
def uptoBulkEntries {H : Type} : List (Lit × DataW H) → Nat
  | [] => 0
  | x :: r => uptoBulkEntry x + uptoBulkEntries r
def uptoBulkEntry {H : Type} : Lit × DataW H → Nat
  | (.string bytes, d) => bytes.length + uptoBulk d + 1
  | (_, d) => uptoBulk d + 1
 end
def uptoSmall : (H : Type) → List (DataW H) → Bool := fun _ ds => decide (uptoBulkAll ds ≤ 1048576)
def OpenSpec.upto (s : _root_.Go.ChangeSpec) : _root_.Go.OpenSpec := { _root_.Go.OpenSpec.ofChange s with cond := some uptoSmall }

/-- 'laws.FnRangeSets', WHERE WHAT IT READS IS OF BULK AT MOST 1048576: true; the input reads as it did. -/
def fnRangeSetsUptoRow : OpenClaim := { program := "ytneimcacpbepfaa", sum := "7a884db3eeadcbfda315a1efce4a7de63575951bfe75fcecd79e4f2ba5c42ec4", func := "loop.example/g00840/laws.FnRangeSets", spec := "fnRangeSets", unfollowed := true, recurses := true, apart := false, narrowed := true }
def FnRangeSetsUptoSaid : Prop := fnRangeSetsUptoRow.holds Try.pinned (OpenSpec.upto fnRangeSetsSpec)

/-- 'laws.FnExactIsRangeSet', WHERE WHAT IT READS IS OF BULK AT MOST 1048576: true; the input reads as it did. -/
def fnExactIsRangeSetUptoRow : OpenClaim := { program := "ytneimcacpbepfaa", sum := "7a884db3eeadcbfda315a1efce4a7de63575951bfe75fcecd79e4f2ba5c42ec4", func := "loop.example/g00840/laws.FnExactIsRangeSet", spec := "fnExactIsRangeSet", unfollowed := true, recurses := true, apart := false, narrowed := true }
def FnExactIsRangeSetUptoSaid : Prop := fnExactIsRangeSetUptoRow.holds Try.pinned (OpenSpec.upto fnExactIsRangeSetSpec)

/-- 'laws.FnExactHasNumber', WHERE WHAT IT READS IS OF BULK AT MOST 1048576: true; the input reads as it did. -/
def fnExactHasNumberUptoRow : OpenClaim := { program := "ytneimcacpbepfaa", sum := "7a884db3eeadcbfda315a1efce4a7de63575951bfe75fcecd79e4f2ba5c42ec4", func := "loop.example/g00840/laws.FnExactHasNumber", spec := "fnExactHasNumber", unfollowed := true, recurses := true, apart := false, narrowed := true }
def FnExactHasNumberUptoSaid : Prop := fnExactHasNumberUptoRow.holds Try.pinned (OpenSpec.upto fnExactHasNumberSpec)

/-- 'laws.FnExactAddRange', WHERE WHAT IT READS IS OF BULK AT MOST 1048576: true; the input reads as it did. -/
def fnExactAddRangeUptoRow : OpenClaim := { program := "ytneimcacpbepfaa", sum := "7a884db3eeadcbfda315a1efce4a7de63575951bfe75fcecd79e4f2ba5c42ec4", func := "loop.example/g00840/laws.FnExactAddRange", spec := "fnExactAddRange", unfollowed := true, recurses := true, apart := false, narrowed := true }
def FnExactAddRangeUptoSaid : Prop := fnExactAddRangeUptoRow.holds Try.pinned (OpenSpec.upto fnExactAddRangeSpec)

/-- 'laws.FnExactRemoveRange', WHERE WHAT IT READS IS OF BULK AT MOST 1048576: true; the input reads as it did. -/
def fnExactRemoveRangeUptoRow : OpenClaim := { program := "ytneimcacpbepfaa", sum := "7a884db3eeadcbfda315a1efce4a7de63575951bfe75fcecd79e4f2ba5c42ec4", func := "loop.example/g00840/laws.FnExactRemoveRange", spec := "fnExactRemoveRange", unfollowed := true, recurses := true, apart := false, narrowed := true }
def FnExactRemoveRangeUptoSaid : Prop := fnExactRemoveRangeUptoRow.holds Try.pinned (OpenSpec.upto fnExactRemoveRangeSpec)

/-- 'laws.FnExactUnionOf', WHERE WHAT IT READS IS OF BULK AT MOST 1048576: true; the input reads as it did. -/
def fnExactUnionOfUptoRow : OpenClaim := { program := "ytneimcacpbepfaa", sum := "7a884db3eeadcbfda315a1efce4a7de63575951bfe75fcecd79e4f2ba5c42ec4", func := "loop.example/g00840/laws.FnExactUnionOf", spec := "fnExactUnionOf", unfollowed := true, recurses := true, apart := false, narrowed := true }
def FnExactUnionOfUptoSaid : Prop := fnExactUnionOfUptoRow.holds Try.pinned (OpenSpec.upto fnExactUnionOfSpec)

/-- 'laws.FnExactCommonOf', WHERE WHAT IT READS IS OF BULK AT MOST 1048576: true; the input reads as it did. -/
def fnExactCommonOfUptoRow : OpenClaim := { program := "ytneimcacpbepfaa", sum := "7a884db3eeadcbfda315a1efce4a7de63575951bfe75fcecd79e4f2ba5c42ec4", func := "loop.example/g00840/laws.FnExactCommonOf", spec := "fnExactCommonOf", unfollowed := true, recurses := true, apart := false, narrowed := true }
def FnExactCommonOfUptoSaid : Prop := fnExactCommonOfUptoRow.holds Try.pinned (OpenSpec.upto fnExactCommonOfSpec)

/-- 'laws.FnExactWithoutOf', WHERE WHAT IT READS IS OF BULK AT MOST 1048576: true; the input reads as it did. -/
def fnExactWithoutOfUptoRow : OpenClaim := { program := "ytneimcacpbepfaa", sum := "7a884db3eeadcbfda315a1efce4a7de63575951bfe75fcecd79e4f2ba5c42ec4", func := "loop.example/g00840/laws.FnExactWithoutOf", spec := "fnExactWithoutOf", unfollowed := true, recurses := true, apart := false, narrowed := true }
def FnExactWithoutOfUptoSaid : Prop := fnExactWithoutOfUptoRow.holds Try.pinned (OpenSpec.upto fnExactWithoutOfSpec)

/-- 'laws.FnExactSetSize', WHERE WHAT IT READS IS OF BULK AT MOST 1048576: true; the input reads as it did. -/
def fnExactSetSizeUptoRow : OpenClaim := { program := "ytneimcacpbepfaa", sum := "7a884db3eeadcbfda315a1efce4a7de63575951bfe75fcecd79e4f2ba5c42ec4", func := "loop.example/g00840/laws.FnExactSetSize", spec := "fnExactSetSize", unfollowed := true, recurses := true, apart := false, narrowed := true }
def FnExactSetSizeUptoSaid : Prop := fnExactSetSizeUptoRow.holds Try.pinned (OpenSpec.upto fnExactSetSizeSpec)

/-- 'laws.FnExactNextMissing', WHERE WHAT IT READS IS OF BULK AT MOST 1048576: true; the input reads as it did. -/
def fnExactNextMissingUptoRow : OpenClaim := { program := "ytneimcacpbepfaa", sum := "7a884db3eeadcbfda315a1efce4a7de63575951bfe75fcecd79e4f2ba5c42ec4", func := "loop.example/g00840/laws.FnExactNextMissing", spec := "fnExactNextMissing", unfollowed := true, recurses := true, apart := false, narrowed := true }
def FnExactNextMissingUptoSaid : Prop := fnExactNextMissingUptoRow.holds Try.pinned (OpenSpec.upto fnExactNextMissingSpec)

end Rows
end Go.Proofs.Ytneimcacpbepfaa
