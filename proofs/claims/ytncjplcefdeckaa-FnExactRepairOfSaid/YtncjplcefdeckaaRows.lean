/-
  No cell of these rows narrows 'for every input' (looked for: loops, veiled, ifaces, maps, wideKeys, modest, calm, conditions, laid).
  DERIVED. THE GIVEN ROWS OF THIS SEAT. 5 by the template 'for every input the law returns true; each argument reads behind the call as it read before'; 0 by the template 'total and deterministic' (their statements: YtncjplcefdeckaaTotals.lean).
  GIVEN WITH THE SEED: the statements are not yours to turn. If you find one false, say at which input.
  Laid BY PROGRAM, IN A SANDBOX (cutbox-rows.mjs): the forced cells as the released guide's own fill.sh prints them over the translation 3e8352bacb29204f… (all of the seat's roots in one cut). By AI agents, Wed Nov 11 2026. No macro, syntax, notation, axiom, sorry.
-/
import Derived.Test.YtncjplcefdeckaaChecked
import GoSem.Claim
import GoSem.ClaimJoined
import GoSem.ClaimMapViews
import Derived.JoinedTies
import Derived.KernelRfl
namespace Go.Proofs.Ytncjplcefdeckaa
/- THE CELL 'sum', in the pinned program and in every row, IS THE sha256 OF THE DUMP (.gsa) THAT YtncjplcefdeckaaProg.lean LOADS. Nothing in Lean hashes anything: it is a label: what it is worth is what the hold of that sum in a sandbox is worth. -/
noncomputable def Try.pinned : Pinned := { name := "ytncjplcefdeckaa", sum := "3e8352bacb29204fa797add3ae1f7f12da0d3cb68cbce3e3d8e29b89bc1cc0c6", checked := Try.checked }
namespace Rows
def none {H : Type} : Left H := { results := [], args := [] }

/-- 'laws.FnExactIsValidPacket': WHATEVER THE INPUT: true; the input reads as it did. -/
def fnExactIsValidPacketSpec : ChangeSpec := { name := "fnExactIsValidPacket", fn := fun _ => fun
  | [d] => { results := [.lit (.bool true)], args := [d] }
  | _ => none }
def fnExactIsValidPacketRow : OpenClaim := { program := "ytncjplcefdeckaa", sum := "3e8352bacb29204fa797add3ae1f7f12da0d3cb68cbce3e3d8e29b89bc1cc0c6", func := "loop.example/g00840/laws.FnExactIsValidPacket", spec := "fnExactIsValidPacket", apart := false }
def FnExactIsValidPacketSaid : Prop := fnExactIsValidPacketRow.holds Try.pinned (OpenSpec.ofChange fnExactIsValidPacketSpec)

/-- ITS FALSE NEIGHBOUR: 'it returns false'. Refute it at one input. -/
def fnExactIsValidPacketWrong : ChangeSpec := { name := "fnExactIsValidPacket", fn := fun _ => fun
  | [d] => { results := [.lit (.bool false)], args := [d] }
  | _ => none }
def FnExactIsValidPacketWrongFalsely : Prop := fnExactIsValidPacketRow.holds Try.pinned (OpenSpec.ofChange fnExactIsValidPacketWrong)

/-- 'laws.FnExactOctetsOf': WHATEVER THE INPUT: true; the input reads as it did. -/
def fnExactOctetsOfSpec : ChangeSpec := { name := "fnExactOctetsOf", fn := fun _ => fun
  | [d] => { results := [.lit (.bool true)], args := [d] }
  | _ => none }
def fnExactOctetsOfRow : OpenClaim := { program := "ytncjplcefdeckaa", sum := "3e8352bacb29204fa797add3ae1f7f12da0d3cb68cbce3e3d8e29b89bc1cc0c6", func := "loop.example/g00840/laws.FnExactOctetsOf", spec := "fnExactOctetsOf", apart := false }
def FnExactOctetsOfSaid : Prop := fnExactOctetsOfRow.holds Try.pinned (OpenSpec.ofChange fnExactOctetsOfSpec)

/-- ITS FALSE NEIGHBOUR: 'it returns false'. Refute it at one input. -/
def fnExactOctetsOfWrong : ChangeSpec := { name := "fnExactOctetsOf", fn := fun _ => fun
  | [d] => { results := [.lit (.bool false)], args := [d] }
  | _ => none }
def FnExactOctetsOfWrongFalsely : Prop := fnExactOctetsOfRow.holds Try.pinned (OpenSpec.ofChange fnExactOctetsOfWrong)

/-- 'laws.FnExactCheckOf': WHATEVER THE INPUT: true; the input reads as it did. -/
def fnExactCheckOfSpec : ChangeSpec := { name := "fnExactCheckOf", fn := fun _ => fun
  | [d] => { results := [.lit (.bool true)], args := [d] }
  | _ => none }
def fnExactCheckOfRow : OpenClaim := { program := "ytncjplcefdeckaa", sum := "3e8352bacb29204fa797add3ae1f7f12da0d3cb68cbce3e3d8e29b89bc1cc0c6", func := "loop.example/g00840/laws.FnExactCheckOf", spec := "fnExactCheckOf", apart := false }
def FnExactCheckOfSaid : Prop := fnExactCheckOfRow.holds Try.pinned (OpenSpec.ofChange fnExactCheckOfSpec)

/-- ITS FALSE NEIGHBOUR: 'it returns false'. Refute it at one input. -/
def fnExactCheckOfWrong : ChangeSpec := { name := "fnExactCheckOf", fn := fun _ => fun
  | [d] => { results := [.lit (.bool false)], args := [d] }
  | _ => none }
def FnExactCheckOfWrongFalsely : Prop := fnExactCheckOfRow.holds Try.pinned (OpenSpec.ofChange fnExactCheckOfWrong)

/-- 'laws.FnExactEncodePacket': WHATEVER THE INPUT: true; the input reads as it did. -/
def fnExactEncodePacketSpec : ChangeSpec := { name := "fnExactEncodePacket", fn := fun _ => fun
  | [d] => { results := [.lit (.bool true)], args := [d] }
  | _ => none }
def fnExactEncodePacketRow : OpenClaim := { program := "ytncjplcefdeckaa", sum := "3e8352bacb29204fa797add3ae1f7f12da0d3cb68cbce3e3d8e29b89bc1cc0c6", func := "loop.example/g00840/laws.FnExactEncodePacket", spec := "fnExactEncodePacket", apart := false }
def FnExactEncodePacketSaid : Prop := fnExactEncodePacketRow.holds Try.pinned (OpenSpec.ofChange fnExactEncodePacketSpec)

/-- ITS FALSE NEIGHBOUR: 'it returns false'. Refute it at one input. -/
def fnExactEncodePacketWrong : ChangeSpec := { name := "fnExactEncodePacket", fn := fun _ => fun
  | [d] => { results := [.lit (.bool false)], args := [d] }
  | _ => none }
def FnExactEncodePacketWrongFalsely : Prop := fnExactEncodePacketRow.holds Try.pinned (OpenSpec.ofChange fnExactEncodePacketWrong)

/-- 'laws.FnExactRepairOf': WHATEVER THE INPUT: true; the input reads as it did. -/
def fnExactRepairOfSpec : ChangeSpec := { name := "fnExactRepairOf", fn := fun _ => fun
  | [d1, d2, d3] => { results := [.lit (.bool true)], args := [d1, d2, d3] }
  | _ => none }
def fnExactRepairOfRow : OpenClaim := { program := "ytncjplcefdeckaa", sum := "3e8352bacb29204fa797add3ae1f7f12da0d3cb68cbce3e3d8e29b89bc1cc0c6", func := "loop.example/g00840/laws.FnExactRepairOf", spec := "fnExactRepairOf", apart := false }
def FnExactRepairOfSaid : Prop := fnExactRepairOfRow.holds Try.pinned (OpenSpec.ofChange fnExactRepairOfSpec)

/-- ITS FALSE NEIGHBOUR: 'it returns false'. Refute it at one input. -/
def fnExactRepairOfWrong : ChangeSpec := { name := "fnExactRepairOf", fn := fun _ => fun
  | [d1, d2, d3] => { results := [.lit (.bool false)], args := [d1, d2, d3] }
  | _ => none }
def FnExactRepairOfWrongFalsely : Prop := fnExactRepairOfRow.holds Try.pinned (OpenSpec.ofChange fnExactRepairOfWrong)

/- THE SECOND FORM. 'bulk': how many values and letters a reading holds, each counted each time it is reached (what is shared counts as often as it is met; a slice's spare places count too). A statement '..UptoSaid' is the law's where the arguments, and the package variables that the reading takes, are together of bulk at most 1048576: NARROWER than '..Said'. Prove '..Said' where nothing that the law and all that it calls make is longer than what came in: it says more and counts as full. Else prove '..UptoSaid'. A law counts once. -/
mutual
def uptoBulk {H : Type} : DataW H → Nat
  | .lit (.string bytes) => bytes.length + 1
  | .lit _ => 1
  | .nil => 1
  | .ptr d => uptoBulk d + 1
  | .slice elems spare => uptoBulkAll elems + uptoBulkAll spare + 1
  | .agg parts => uptoBulkAll parts + 1
  | .iface _ d => uptoBulk d + 1
  | .map entries => uptoBulkEntries entries + 1
  | .held _ => 1
def uptoBulkAll {H : Type} : List (DataW H) → Nat
  | [] => 0
  | d :: r => uptoBulk d + uptoBulkAll r
def uptoBulkEntries {H : Type} : List (Lit × DataW H) → Nat
  | [] => 0
  | x :: r => uptoBulkEntry x + uptoBulkEntries r
def uptoBulkEntry {H : Type} : Lit × DataW H → Nat
  | (.string bytes, d) => bytes.length + uptoBulk d + 1
  | (_, d) => uptoBulk d + 1
 end
def uptoSmall : (H : Type) → List (DataW H) → Bool := fun _ ds => decide (uptoBulkAll ds ≤ 1048576)
def OpenSpec.upto (s : _root_.Go.ChangeSpec) : _root_.Go.OpenSpec := { _root_.Go.OpenSpec.ofChange s with cond := some uptoSmall }

/-- 'laws.FnExactIsValidPacket', WHERE WHAT IT READS IS OF BULK AT MOST 1048576: true; the input reads as it did. -/
def fnExactIsValidPacketUptoRow : OpenClaim := { program := "ytncjplcefdeckaa", sum := "3e8352bacb29204fa797add3ae1f7f12da0d3cb68cbce3e3d8e29b89bc1cc0c6", func := "loop.example/g00840/laws.FnExactIsValidPacket", spec := "fnExactIsValidPacket", apart := false, narrowed := true }
def FnExactIsValidPacketUptoSaid : Prop := fnExactIsValidPacketUptoRow.holds Try.pinned (OpenSpec.upto fnExactIsValidPacketSpec)

/-- 'laws.FnExactOctetsOf', WHERE WHAT IT READS IS OF BULK AT MOST 1048576: true; the input reads as it did. -/
def fnExactOctetsOfUptoRow : OpenClaim := { program := "ytncjplcefdeckaa", sum := "3e8352bacb29204fa797add3ae1f7f12da0d3cb68cbce3e3d8e29b89bc1cc0c6", func := "loop.example/g00840/laws.FnExactOctetsOf", spec := "fnExactOctetsOf", apart := false, narrowed := true }
def FnExactOctetsOfUptoSaid : Prop := fnExactOctetsOfUptoRow.holds Try.pinned (OpenSpec.upto fnExactOctetsOfSpec)

/-- 'laws.FnExactCheckOf', WHERE WHAT IT READS IS OF BULK AT MOST 1048576: true; the input reads as it did. -/
def fnExactCheckOfUptoRow : OpenClaim := { program := "ytncjplcefdeckaa", sum := "3e8352bacb29204fa797add3ae1f7f12da0d3cb68cbce3e3d8e29b89bc1cc0c6", func := "loop.example/g00840/laws.FnExactCheckOf", spec := "fnExactCheckOf", apart := false, narrowed := true }
def FnExactCheckOfUptoSaid : Prop := fnExactCheckOfUptoRow.holds Try.pinned (OpenSpec.upto fnExactCheckOfSpec)

/-- 'laws.FnExactEncodePacket', WHERE WHAT IT READS IS OF BULK AT MOST 1048576: true; the input reads as it did. -/
def fnExactEncodePacketUptoRow : OpenClaim := { program := "ytncjplcefdeckaa", sum := "3e8352bacb29204fa797add3ae1f7f12da0d3cb68cbce3e3d8e29b89bc1cc0c6", func := "loop.example/g00840/laws.FnExactEncodePacket", spec := "fnExactEncodePacket", apart := false, narrowed := true }
def FnExactEncodePacketUptoSaid : Prop := fnExactEncodePacketUptoRow.holds Try.pinned (OpenSpec.upto fnExactEncodePacketSpec)

/-- 'laws.FnExactRepairOf', WHERE WHAT IT READS IS OF BULK AT MOST 1048576: true; the input reads as it did. -/
def fnExactRepairOfUptoRow : OpenClaim := { program := "ytncjplcefdeckaa", sum := "3e8352bacb29204fa797add3ae1f7f12da0d3cb68cbce3e3d8e29b89bc1cc0c6", func := "loop.example/g00840/laws.FnExactRepairOf", spec := "fnExactRepairOf", apart := false, narrowed := true }
def FnExactRepairOfUptoSaid : Prop := fnExactRepairOfUptoRow.holds Try.pinned (OpenSpec.upto fnExactRepairOfSpec)

end Rows
end Go.Proofs.Ytncjplcefdeckaa
