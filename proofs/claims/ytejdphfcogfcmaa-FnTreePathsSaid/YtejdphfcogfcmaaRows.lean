/-
  No cell of these rows narrows 'for every input' (looked for: loops, veiled, ifaces, maps, wideKeys, modest, calm, conditions, laid).
  DERIVED. THE GIVEN ROWS OF THIS SEAT. 9 by the template 'for every input the law returns true; each argument reads behind the call as it read before'; 0 by the template 'total and deterministic' (their statements: YtejdphfcogfcmaaTotals.lean).
  GIVEN WITH THE SEED: the statements are not yours to turn. If you find one false, say at which input.
  Laid BY PROGRAM, IN A SANDBOX (cutbox-rows.mjs): the forced cells as the released guide's own fill.sh prints them over the translation 41f44fe8a3eade68… (all of the seat's roots in one cut). By AI agents, Wed Nov 11 2026. No macro, syntax, notation, axiom, sorry.
-/
import Derived.Test.YtejdphfcogfcmaaChecked
import GoSem.Claim
import GoSem.ClaimJoined
import GoSem.ClaimMapViews
import Derived.JoinedTies
import Derived.KernelRfl
namespace Go.Proofs.Ytejdphfcogfcmaa
/- THE CELL 'sum', in the pinned program and in every row, IS THE sha256 OF THE DUMP (.gsa) THAT YtejdphfcogfcmaaProg.lean LOADS. Nothing in Lean hashes anything: it is a label: what it is worth is what the hold of that sum in a sandbox is worth. -/
noncomputable def Try.pinned : Pinned := { name := "ytejdphfcogfcmaa", sum := "41f44fe8a3eade6854fb2b9031f684a896fd1cd377a6f956026ebc7ed7bff86d", checked := Try.checked }
namespace Rows
def none {H : Type} : Left H := { results := [], args := [] }

/-- 'laws.FnTreePaths': WHATEVER THE INPUT: true; the input reads as it did. -/
def fnTreePathsSpec : ChangeSpec := { name := "fnTreePaths", fn := fun _ => fun
  | [d] => { results := [.lit (.bool true)], args := [d] }
  | _ => none }
def fnTreePathsRow : OpenClaim := { program := "ytejdphfcogfcmaa", sum := "41f44fe8a3eade6854fb2b9031f684a896fd1cd377a6f956026ebc7ed7bff86d", func := "loop.example/g00840/laws.FnTreePaths", spec := "fnTreePaths", unfollowed := true, recurses := true, apart := false }
def FnTreePathsSaid : Prop := fnTreePathsRow.holds Try.pinned (OpenSpec.ofChange fnTreePathsSpec)

/-- ITS FALSE NEIGHBOUR: 'it returns false'. Refute it at one input. -/
def fnTreePathsWrong : ChangeSpec := { name := "fnTreePaths", fn := fun _ => fun
  | [d] => { results := [.lit (.bool false)], args := [d] }
  | _ => none }
def FnTreePathsWrongFalsely : Prop := fnTreePathsRow.holds Try.pinned (OpenSpec.ofChange fnTreePathsWrong)

/-- 'laws.FnExactIsValidTree': WHATEVER THE INPUT: true; the input reads as it did. -/
def fnExactIsValidTreeSpec : ChangeSpec := { name := "fnExactIsValidTree", fn := fun _ => fun
  | [d] => { results := [.lit (.bool true)], args := [d] }
  | _ => none }
def fnExactIsValidTreeRow : OpenClaim := { program := "ytejdphfcogfcmaa", sum := "41f44fe8a3eade6854fb2b9031f684a896fd1cd377a6f956026ebc7ed7bff86d", func := "loop.example/g00840/laws.FnExactIsValidTree", spec := "fnExactIsValidTree", apart := false }
def FnExactIsValidTreeSaid : Prop := fnExactIsValidTreeRow.holds Try.pinned (OpenSpec.ofChange fnExactIsValidTreeSpec)

/-- ITS FALSE NEIGHBOUR: 'it returns false'. Refute it at one input. -/
def fnExactIsValidTreeWrong : ChangeSpec := { name := "fnExactIsValidTree", fn := fun _ => fun
  | [d] => { results := [.lit (.bool false)], args := [d] }
  | _ => none }
def FnExactIsValidTreeWrongFalsely : Prop := fnExactIsValidTreeRow.holds Try.pinned (OpenSpec.ofChange fnExactIsValidTreeWrong)

/-- 'laws.FnExactChildrenOf': WHATEVER THE INPUT: true; the input reads as it did. -/
def fnExactChildrenOfSpec : ChangeSpec := { name := "fnExactChildrenOf", fn := fun _ => fun
  | [d1, d2] => { results := [.lit (.bool true)], args := [d1, d2] }
  | _ => none }
def fnExactChildrenOfRow : OpenClaim := { program := "ytejdphfcogfcmaa", sum := "41f44fe8a3eade6854fb2b9031f684a896fd1cd377a6f956026ebc7ed7bff86d", func := "loop.example/g00840/laws.FnExactChildrenOf", spec := "fnExactChildrenOf", unfollowed := true, recurses := true, apart := false }
def FnExactChildrenOfSaid : Prop := fnExactChildrenOfRow.holds Try.pinned (OpenSpec.ofChange fnExactChildrenOfSpec)

/-- ITS FALSE NEIGHBOUR: 'it returns false'. Refute it at one input. -/
def fnExactChildrenOfWrong : ChangeSpec := { name := "fnExactChildrenOf", fn := fun _ => fun
  | [d1, d2] => { results := [.lit (.bool false)], args := [d1, d2] }
  | _ => none }
def FnExactChildrenOfWrongFalsely : Prop := fnExactChildrenOfRow.holds Try.pinned (OpenSpec.ofChange fnExactChildrenOfWrong)

/-- 'laws.FnExactLeavesOf': WHATEVER THE INPUT: true; the input reads as it did. -/
def fnExactLeavesOfSpec : ChangeSpec := { name := "fnExactLeavesOf", fn := fun _ => fun
  | [d] => { results := [.lit (.bool true)], args := [d] }
  | _ => none }
def fnExactLeavesOfRow : OpenClaim := { program := "ytejdphfcogfcmaa", sum := "41f44fe8a3eade6854fb2b9031f684a896fd1cd377a6f956026ebc7ed7bff86d", func := "loop.example/g00840/laws.FnExactLeavesOf", spec := "fnExactLeavesOf", apart := false }
def FnExactLeavesOfSaid : Prop := fnExactLeavesOfRow.holds Try.pinned (OpenSpec.ofChange fnExactLeavesOfSpec)

/-- ITS FALSE NEIGHBOUR: 'it returns false'. Refute it at one input. -/
def fnExactLeavesOfWrong : ChangeSpec := { name := "fnExactLeavesOf", fn := fun _ => fun
  | [d] => { results := [.lit (.bool false)], args := [d] }
  | _ => none }
def FnExactLeavesOfWrongFalsely : Prop := fnExactLeavesOfRow.holds Try.pinned (OpenSpec.ofChange fnExactLeavesOfWrong)

/-- 'laws.FnExactPathTo': WHATEVER THE INPUT: true; the input reads as it did. -/
def fnExactPathToSpec : ChangeSpec := { name := "fnExactPathTo", fn := fun _ => fun
  | [d1, d2] => { results := [.lit (.bool true)], args := [d1, d2] }
  | _ => none }
def fnExactPathToRow : OpenClaim := { program := "ytejdphfcogfcmaa", sum := "41f44fe8a3eade6854fb2b9031f684a896fd1cd377a6f956026ebc7ed7bff86d", func := "loop.example/g00840/laws.FnExactPathTo", spec := "fnExactPathTo", unfollowed := true, recurses := true, apart := false }
def FnExactPathToSaid : Prop := fnExactPathToRow.holds Try.pinned (OpenSpec.ofChange fnExactPathToSpec)

/-- ITS FALSE NEIGHBOUR: 'it returns false'. Refute it at one input. -/
def fnExactPathToWrong : ChangeSpec := { name := "fnExactPathTo", fn := fun _ => fun
  | [d1, d2] => { results := [.lit (.bool false)], args := [d1, d2] }
  | _ => none }
def FnExactPathToWrongFalsely : Prop := fnExactPathToRow.holds Try.pinned (OpenSpec.ofChange fnExactPathToWrong)

/-- 'laws.FnExactNodesBelow': WHATEVER THE INPUT: true; the input reads as it did. -/
def fnExactNodesBelowSpec : ChangeSpec := { name := "fnExactNodesBelow", fn := fun _ => fun
  | [d1, d2] => { results := [.lit (.bool true)], args := [d1, d2] }
  | _ => none }
def fnExactNodesBelowRow : OpenClaim := { program := "ytejdphfcogfcmaa", sum := "41f44fe8a3eade6854fb2b9031f684a896fd1cd377a6f956026ebc7ed7bff86d", func := "loop.example/g00840/laws.FnExactNodesBelow", spec := "fnExactNodesBelow", unfollowed := true, recurses := true, apart := false }
def FnExactNodesBelowSaid : Prop := fnExactNodesBelowRow.holds Try.pinned (OpenSpec.ofChange fnExactNodesBelowSpec)

/-- ITS FALSE NEIGHBOUR: 'it returns false'. Refute it at one input. -/
def fnExactNodesBelowWrong : ChangeSpec := { name := "fnExactNodesBelow", fn := fun _ => fun
  | [d1, d2] => { results := [.lit (.bool false)], args := [d1, d2] }
  | _ => none }
def FnExactNodesBelowWrongFalsely : Prop := fnExactNodesBelowRow.holds Try.pinned (OpenSpec.ofChange fnExactNodesBelowWrong)

/-- 'laws.FnExactMeetingNode': WHATEVER THE INPUT: true; the input reads as it did. -/
def fnExactMeetingNodeSpec : ChangeSpec := { name := "fnExactMeetingNode", fn := fun _ => fun
  | [d1, d2, d3] => { results := [.lit (.bool true)], args := [d1, d2, d3] }
  | _ => none }
def fnExactMeetingNodeRow : OpenClaim := { program := "ytejdphfcogfcmaa", sum := "41f44fe8a3eade6854fb2b9031f684a896fd1cd377a6f956026ebc7ed7bff86d", func := "loop.example/g00840/laws.FnExactMeetingNode", spec := "fnExactMeetingNode", unfollowed := true, recurses := true, apart := false }
def FnExactMeetingNodeSaid : Prop := fnExactMeetingNodeRow.holds Try.pinned (OpenSpec.ofChange fnExactMeetingNodeSpec)

/-- ITS FALSE NEIGHBOUR: 'it returns false'. Refute it at one input. -/
def fnExactMeetingNodeWrong : ChangeSpec := { name := "fnExactMeetingNode", fn := fun _ => fun
  | [d1, d2, d3] => { results := [.lit (.bool false)], args := [d1, d2, d3] }
  | _ => none }
def FnExactMeetingNodeWrongFalsely : Prop := fnExactMeetingNodeRow.holds Try.pinned (OpenSpec.ofChange fnExactMeetingNodeWrong)

/-- 'laws.FnExactFaceTo': WHATEVER THE INPUT: true; the input reads as it did. -/
def fnExactFaceToSpec : ChangeSpec := { name := "fnExactFaceTo", fn := fun _ => fun
  | [d1, d2, d3] => { results := [.lit (.bool true)], args := [d1, d2, d3] }
  | _ => none }
def fnExactFaceToRow : OpenClaim := { program := "ytejdphfcogfcmaa", sum := "41f44fe8a3eade6854fb2b9031f684a896fd1cd377a6f956026ebc7ed7bff86d", func := "loop.example/g00840/laws.FnExactFaceTo", spec := "fnExactFaceTo", unfollowed := true, recurses := true, apart := false }
def FnExactFaceToSaid : Prop := fnExactFaceToRow.holds Try.pinned (OpenSpec.ofChange fnExactFaceToSpec)

/-- ITS FALSE NEIGHBOUR: 'it returns false'. Refute it at one input. -/
def fnExactFaceToWrong : ChangeSpec := { name := "fnExactFaceTo", fn := fun _ => fun
  | [d1, d2, d3] => { results := [.lit (.bool false)], args := [d1, d2, d3] }
  | _ => none }
def FnExactFaceToWrongFalsely : Prop := fnExactFaceToRow.holds Try.pinned (OpenSpec.ofChange fnExactFaceToWrong)

/-- 'laws.FnExactAddLeaf': WHATEVER THE INPUT: true; the input reads as it did. -/
def fnExactAddLeafSpec : ChangeSpec := { name := "fnExactAddLeaf", fn := fun _ => fun
  | [d1, d2] => { results := [.lit (.bool true)], args := [d1, d2] }
  | _ => none }
def fnExactAddLeafRow : OpenClaim := { program := "ytejdphfcogfcmaa", sum := "41f44fe8a3eade6854fb2b9031f684a896fd1cd377a6f956026ebc7ed7bff86d", func := "loop.example/g00840/laws.FnExactAddLeaf", spec := "fnExactAddLeaf", unfollowed := true, recurses := true, apart := false }
def FnExactAddLeafSaid : Prop := fnExactAddLeafRow.holds Try.pinned (OpenSpec.ofChange fnExactAddLeafSpec)

/-- ITS FALSE NEIGHBOUR: 'it returns false'. Refute it at one input. -/
def fnExactAddLeafWrong : ChangeSpec := { name := "fnExactAddLeaf", fn := fun _ => fun
  | [d1, d2] => { results := [.lit (.bool false)], args := [d1, d2] }
  | _ => none }
def FnExactAddLeafWrongFalsely : Prop := fnExactAddLeafRow.holds Try.pinned (OpenSpec.ofChange fnExactAddLeafWrong)

/- THE SECOND FORM. 'bulk': how many values and letters a reading holds, each counted each time it is reached (what is shared counts as often as it is met; a slice's spare places count too). A statement '..UptoSaid' is the law's where the arguments, and the package variables that the reading takes, are together of bulk at most 1048576: NARROWER than '..Said'. Prove '..Said' where nothing that the law and all that it calls make is longer than what came in: it says more and counts as full. Else prove '..UptoSaid'. A law counts once. -/
mutual
def uptoBulk {H : Type} : DataW H → Nat
  | .lit (.string bytes) => bytes.length + 1
  | .lit _ => 1
  | .nil => 1
  | .ptr d => uptoBulk d + 1
  | .slice elems spare => uptoBulkAll elems + uptoBulkAll spare + 1
  | .agg parts => uptoBulkAll parts + 1
  | .iface _ d => uptoBulk d + 1
  | .map entries => uptoBulkEntries entries + 1
  | .held _ => 1
def uptoBulkAll {H : Type} : List (DataW H) → Nat
  | [] => 0
  | d :: r => uptoBulk d + uptoBulkAll r
def uptoBulkEntries {H : Type} : List (Lit × DataW H) → Nat
  | [] => 0
  | x :: r => uptoBulkEntry x + uptoBulkEntries r
def uptoBulkEntry {H : Type} : Lit × DataW H → Nat
  | (.string bytes, d) => bytes.length + uptoBulk d + 1
  | (_, d) => uptoBulk d + 1
 end
def uptoSmall : (H : Type) → List (DataW H) → Bool := fun _ ds => decide (uptoBulkAll ds ≤ 1048576)
def OpenSpec.upto (s : _root_.Go.ChangeSpec) : _root_.Go.OpenSpec := { _root_.Go.OpenSpec.ofChange s with cond := some uptoSmall }

/-- 'laws.FnTreePaths', WHERE WHAT IT READS IS OF BULK AT MOST 1048576: true; the input reads as it did. -/
def fnTreePathsUptoRow : OpenClaim := { program := "ytejdphfcogfcmaa", sum := "41f44fe8a3eade6854fb2b9031f684a896fd1cd377a6f956026ebc7ed7bff86d", func := "loop.example/g00840/laws.FnTreePaths", spec := "fnTreePaths", unfollowed := true, recurses := true, apart := false, narrowed := true }
def FnTreePathsUptoSaid : Prop := fnTreePathsUptoRow.holds Try.pinned (OpenSpec.upto fnTreePathsSpec)

/-- 'laws.FnExactIsValidTree', WHERE WHAT IT READS IS OF BULK AT MOST 1048576: true; the input reads as it did. -/
def fnExactIsValidTreeUptoRow : OpenClaim := { program := "ytejdphfcogfcmaa", sum := "41f44fe8a3eade6854fb2b9031f684a896fd1cd377a6f956026ebc7ed7bff86d", func := "loop.example/g00840/laws.FnExactIsValidTree", spec := "fnExactIsValidTree", apart := false, narrowed := true }
def FnExactIsValidTreeUptoSaid : Prop := fnExactIsValidTreeUptoRow.holds Try.pinned (OpenSpec.upto fnExactIsValidTreeSpec)

/-- 'laws.FnExactChildrenOf', WHERE WHAT IT READS IS OF BULK AT MOST 1048576: true; the input reads as it did. -/
def fnExactChildrenOfUptoRow : OpenClaim := { program := "ytejdphfcogfcmaa", sum := "41f44fe8a3eade6854fb2b9031f684a896fd1cd377a6f956026ebc7ed7bff86d", func := "loop.example/g00840/laws.FnExactChildrenOf", spec := "fnExactChildrenOf", unfollowed := true, recurses := true, apart := false, narrowed := true }
def FnExactChildrenOfUptoSaid : Prop := fnExactChildrenOfUptoRow.holds Try.pinned (OpenSpec.upto fnExactChildrenOfSpec)

/-- 'laws.FnExactLeavesOf', WHERE WHAT IT READS IS OF BULK AT MOST 1048576: true; the input reads as it did. -/
def fnExactLeavesOfUptoRow : OpenClaim := { program := "ytejdphfcogfcmaa", sum := "41f44fe8a3eade6854fb2b9031f684a896fd1cd377a6f956026ebc7ed7bff86d", func := "loop.example/g00840/laws.FnExactLeavesOf", spec := "fnExactLeavesOf", apart := false, narrowed := true }
def FnExactLeavesOfUptoSaid : Prop := fnExactLeavesOfUptoRow.holds Try.pinned (OpenSpec.upto fnExactLeavesOfSpec)

/-- 'laws.FnExactPathTo', WHERE WHAT IT READS IS OF BULK AT MOST 1048576: true; the input reads as it did. -/
def fnExactPathToUptoRow : OpenClaim := { program := "ytejdphfcogfcmaa", sum := "41f44fe8a3eade6854fb2b9031f684a896fd1cd377a6f956026ebc7ed7bff86d", func := "loop.example/g00840/laws.FnExactPathTo", spec := "fnExactPathTo", unfollowed := true, recurses := true, apart := false, narrowed := true }
def FnExactPathToUptoSaid : Prop := fnExactPathToUptoRow.holds Try.pinned (OpenSpec.upto fnExactPathToSpec)

/-- 'laws.FnExactNodesBelow', WHERE WHAT IT READS IS OF BULK AT MOST 1048576: true; the input reads as it did. -/
def fnExactNodesBelowUptoRow : OpenClaim := { program := "ytejdphfcogfcmaa", sum := "41f44fe8a3eade6854fb2b9031f684a896fd1cd377a6f956026ebc7ed7bff86d", func := "loop.example/g00840/laws.FnExactNodesBelow", spec := "fnExactNodesBelow", unfollowed := true, recurses := true, apart := false, narrowed := true }
def FnExactNodesBelowUptoSaid : Prop := fnExactNodesBelowUptoRow.holds Try.pinned (OpenSpec.upto fnExactNodesBelowSpec)

/-- 'laws.FnExactMeetingNode', WHERE WHAT IT READS IS OF BULK AT MOST 1048576: true; the input reads as it did. -/
def fnExactMeetingNodeUptoRow : OpenClaim := { program := "ytejdphfcogfcmaa", sum := "41f44fe8a3eade6854fb2b9031f684a896fd1cd377a6f956026ebc7ed7bff86d", func := "loop.example/g00840/laws.FnExactMeetingNode", spec := "fnExactMeetingNode", unfollowed := true, recurses := true, apart := false, narrowed := true }
def FnExactMeetingNodeUptoSaid : Prop := fnExactMeetingNodeUptoRow.holds Try.pinned (OpenSpec.upto fnExactMeetingNodeSpec)

/-- 'laws.FnExactFaceTo', WHERE WHAT IT READS IS OF BULK AT MOST 1048576: true; the input reads as it did. -/
def fnExactFaceToUptoRow : OpenClaim := { program := "ytejdphfcogfcmaa", sum := "41f44fe8a3eade6854fb2b9031f684a896fd1cd377a6f956026ebc7ed7bff86d", func := "loop.example/g00840/laws.FnExactFaceTo", spec := "fnExactFaceTo", unfollowed := true, recurses := true, apart := false, narrowed := true }
def FnExactFaceToUptoSaid : Prop := fnExactFaceToUptoRow.holds Try.pinned (OpenSpec.upto fnExactFaceToSpec)

/-- 'laws.FnExactAddLeaf', WHERE WHAT IT READS IS OF BULK AT MOST 1048576: true; the input reads as it did. -/
def fnExactAddLeafUptoRow : OpenClaim := { program := "ytejdphfcogfcmaa", sum := "41f44fe8a3eade6854fb2b9031f684a896fd1cd377a6f956026ebc7ed7bff86d", func := "loop.example/g00840/laws.FnExactAddLeaf", spec := "fnExactAddLeaf", unfollowed := true, recurses := true, apart := false, narrowed := true }
def FnExactAddLeafUptoSaid : Prop := fnExactAddLeafUptoRow.holds Try.pinned (OpenSpec.upto fnExactAddLeafSpec)

end Rows
end Go.Proofs.Ytejdphfcogfcmaa
