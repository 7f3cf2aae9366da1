/-
  No cell of these rows narrows 'for every input' (looked for: loops, veiled, ifaces, maps, wideKeys, modest, calm, conditions, laid).
  DERIVED. THE GIVEN ROWS OF THIS SEAT. 11 by the template 'for every input the law returns true; each argument reads behind the call as it read before'; 0 by the template 'total and deterministic' (their statements: YtofpajbfajcjgaaTotals.lean).
  GIVEN WITH THE SEED: the statements are not yours to turn. If you find one false, say at which input.
  Laid BY PROGRAM, IN A SANDBOX (cutbox-rows.mjs): the forced cells as the released guide's own fill.sh prints them over the translation 81842481bcf777fa… (all of the seat's roots in one cut). By AI agents, Wed Nov 11 2026. No macro, syntax, notation, axiom, sorry.
-/
import Derived.Test.YtofpajbfajcjgaaChecked
import GoSem.Claim
import GoSem.ClaimJoined
import GoSem.ClaimMapViews
import Derived.JoinedTies
import Derived.KernelRfl
namespace Go.Proofs.Ytofpajbfajcjgaa
/- THE CELL 'sum', in the pinned program and in every row, IS THE sha256 OF THE DUMP (.gsa) THAT YtofpajbfajcjgaaProg.lean LOADS. Nothing in Lean hashes anything: it is a label: what it is worth is what the hold of that sum in a sandbox is worth. -/
noncomputable def Try.pinned : Pinned := { name := "ytofpajbfajcjgaa", sum := "81842481bcf777fa3bf061005f3f8d38812a4e768954d4e3a63f714b3e818f85", checked := Try.checked }
namespace Rows
def none {H : Type} : Left H := { results := [], args := [] }

/-- 'laws.FnWordSums': WHATEVER THE INPUT: true; the input reads as it did. -/
def fnWordSumsSpec : ChangeSpec := { name := "fnWordSums", fn := fun _ => fun
  | [d] => { results := [.lit (.bool true)], args := [d] }
  | _ => none }
def fnWordSumsRow : OpenClaim := { program := "ytofpajbfajcjgaa", sum := "81842481bcf777fa3bf061005f3f8d38812a4e768954d4e3a63f714b3e818f85", func := "loop.example/g00840/laws.FnWordSums", spec := "fnWordSums", unfollowed := true, recurses := true, apart := false }
def FnWordSumsSaid : Prop := fnWordSumsRow.holds Try.pinned (OpenSpec.ofChange fnWordSumsSpec)

/-- ITS FALSE NEIGHBOUR: 'it returns false'. Refute it at one input. -/
def fnWordSumsWrong : ChangeSpec := { name := "fnWordSums", fn := fun _ => fun
  | [d] => { results := [.lit (.bool false)], args := [d] }
  | _ => none }
def FnWordSumsWrongFalsely : Prop := fnWordSumsRow.holds Try.pinned (OpenSpec.ofChange fnWordSumsWrong)

/-- 'laws.FnChecks': WHATEVER THE INPUT: true; the input reads as it did. -/
def fnChecksSpec : ChangeSpec := { name := "fnChecks", fn := fun _ => fun
  | [d] => { results := [.lit (.bool true)], args := [d] }
  | _ => none }
def fnChecksRow : OpenClaim := { program := "ytofpajbfajcjgaa", sum := "81842481bcf777fa3bf061005f3f8d38812a4e768954d4e3a63f714b3e818f85", func := "loop.example/g00840/laws.FnChecks", spec := "fnChecks", unfollowed := true, recurses := true, apart := false }
def FnChecksSaid : Prop := fnChecksRow.holds Try.pinned (OpenSpec.ofChange fnChecksSpec)

/-- ITS FALSE NEIGHBOUR: 'it returns false'. Refute it at one input. -/
def fnChecksWrong : ChangeSpec := { name := "fnChecks", fn := fun _ => fun
  | [d] => { results := [.lit (.bool false)], args := [d] }
  | _ => none }
def FnChecksWrongFalsely : Prop := fnChecksRow.holds Try.pinned (OpenSpec.ofChange fnChecksWrong)

/-- 'laws.FnExactAddWords': WHATEVER THE INPUT: true; the input reads as it did. -/
def fnExactAddWordsSpec : ChangeSpec := { name := "fnExactAddWords", fn := fun _ => fun
  | [d1, d2] => { results := [.lit (.bool true)], args := [d1, d2] }
  | _ => none }
def fnExactAddWordsRow : OpenClaim := { program := "ytofpajbfajcjgaa", sum := "81842481bcf777fa3bf061005f3f8d38812a4e768954d4e3a63f714b3e818f85", func := "loop.example/g00840/laws.FnExactAddWords", spec := "fnExactAddWords", unfollowed := true, recurses := true, apart := false }
def FnExactAddWordsSaid : Prop := fnExactAddWordsRow.holds Try.pinned (OpenSpec.ofChange fnExactAddWordsSpec)

/-- ITS FALSE NEIGHBOUR: 'it returns false'. Refute it at one input. -/
def fnExactAddWordsWrong : ChangeSpec := { name := "fnExactAddWords", fn := fun _ => fun
  | [d1, d2] => { results := [.lit (.bool false)], args := [d1, d2] }
  | _ => none }
def FnExactAddWordsWrongFalsely : Prop := fnExactAddWordsRow.holds Try.pinned (OpenSpec.ofChange fnExactAddWordsWrong)

/-- 'laws.FnExactWordSum': WHATEVER THE INPUT: true; the input reads as it did. -/
def fnExactWordSumSpec : ChangeSpec := { name := "fnExactWordSum", fn := fun _ => fun
  | [d] => { results := [.lit (.bool true)], args := [d] }
  | _ => none }
def fnExactWordSumRow : OpenClaim := { program := "ytofpajbfajcjgaa", sum := "81842481bcf777fa3bf061005f3f8d38812a4e768954d4e3a63f714b3e818f85", func := "loop.example/g00840/laws.FnExactWordSum", spec := "fnExactWordSum", unfollowed := true, recurses := true, apart := false }
def FnExactWordSumSaid : Prop := fnExactWordSumRow.holds Try.pinned (OpenSpec.ofChange fnExactWordSumSpec)

/-- ITS FALSE NEIGHBOUR: 'it returns false'. Refute it at one input. -/
def fnExactWordSumWrong : ChangeSpec := { name := "fnExactWordSum", fn := fun _ => fun
  | [d] => { results := [.lit (.bool false)], args := [d] }
  | _ => none }
def FnExactWordSumWrongFalsely : Prop := fnExactWordSumRow.holds Try.pinned (OpenSpec.ofChange fnExactWordSumWrong)

/-- 'laws.FnExactWordCheck': WHATEVER THE INPUT: true; the input reads as it did. -/
def fnExactWordCheckSpec : ChangeSpec := { name := "fnExactWordCheck", fn := fun _ => fun
  | [d] => { results := [.lit (.bool true)], args := [d] }
  | _ => none }
def fnExactWordCheckRow : OpenClaim := { program := "ytofpajbfajcjgaa", sum := "81842481bcf777fa3bf061005f3f8d38812a4e768954d4e3a63f714b3e818f85", func := "loop.example/g00840/laws.FnExactWordCheck", spec := "fnExactWordCheck", unfollowed := true, recurses := true, apart := false }
def FnExactWordCheckSaid : Prop := fnExactWordCheckRow.holds Try.pinned (OpenSpec.ofChange fnExactWordCheckSpec)

/-- ITS FALSE NEIGHBOUR: 'it returns false'. Refute it at one input. -/
def fnExactWordCheckWrong : ChangeSpec := { name := "fnExactWordCheck", fn := fun _ => fun
  | [d] => { results := [.lit (.bool false)], args := [d] }
  | _ => none }
def FnExactWordCheckWrongFalsely : Prop := fnExactWordCheckRow.holds Try.pinned (OpenSpec.ofChange fnExactWordCheckWrong)

/-- 'laws.FnExactIsSoundList': WHATEVER THE INPUT: true; the input reads as it did. -/
def fnExactIsSoundListSpec : ChangeSpec := { name := "fnExactIsSoundList", fn := fun _ => fun
  | [d] => { results := [.lit (.bool true)], args := [d] }
  | _ => none }
def fnExactIsSoundListRow : OpenClaim := { program := "ytofpajbfajcjgaa", sum := "81842481bcf777fa3bf061005f3f8d38812a4e768954d4e3a63f714b3e818f85", func := "loop.example/g00840/laws.FnExactIsSoundList", spec := "fnExactIsSoundList", unfollowed := true, recurses := true, apart := false }
def FnExactIsSoundListSaid : Prop := fnExactIsSoundListRow.holds Try.pinned (OpenSpec.ofChange fnExactIsSoundListSpec)

/-- ITS FALSE NEIGHBOUR: 'it returns false'. Refute it at one input. -/
def fnExactIsSoundListWrong : ChangeSpec := { name := "fnExactIsSoundList", fn := fun _ => fun
  | [d] => { results := [.lit (.bool false)], args := [d] }
  | _ => none }
def FnExactIsSoundListWrongFalsely : Prop := fnExactIsSoundListRow.holds Try.pinned (OpenSpec.ofChange fnExactIsSoundListWrong)

/-- 'laws.FnExactSealWords': WHATEVER THE INPUT: true; the input reads as it did. -/
def fnExactSealWordsSpec : ChangeSpec := { name := "fnExactSealWords", fn := fun _ => fun
  | [d] => { results := [.lit (.bool true)], args := [d] }
  | _ => none }
def fnExactSealWordsRow : OpenClaim := { program := "ytofpajbfajcjgaa", sum := "81842481bcf777fa3bf061005f3f8d38812a4e768954d4e3a63f714b3e818f85", func := "loop.example/g00840/laws.FnExactSealWords", spec := "fnExactSealWords", unfollowed := true, recurses := true, apart := false }
def FnExactSealWordsSaid : Prop := fnExactSealWordsRow.holds Try.pinned (OpenSpec.ofChange fnExactSealWordsSpec)

/-- ITS FALSE NEIGHBOUR: 'it returns false'. Refute it at one input. -/
def fnExactSealWordsWrong : ChangeSpec := { name := "fnExactSealWords", fn := fun _ => fun
  | [d] => { results := [.lit (.bool false)], args := [d] }
  | _ => none }
def FnExactSealWordsWrongFalsely : Prop := fnExactSealWordsRow.holds Try.pinned (OpenSpec.ofChange fnExactSealWordsWrong)

/-- 'laws.FnExactUpdateCheck': WHATEVER THE INPUT: true; the input reads as it did. -/
def fnExactUpdateCheckSpec : ChangeSpec := { name := "fnExactUpdateCheck", fn := fun _ => fun
  | [d1, d2, d3] => { results := [.lit (.bool true)], args := [d1, d2, d3] }
  | _ => none }
def fnExactUpdateCheckRow : OpenClaim := { program := "ytofpajbfajcjgaa", sum := "81842481bcf777fa3bf061005f3f8d38812a4e768954d4e3a63f714b3e818f85", func := "loop.example/g00840/laws.FnExactUpdateCheck", spec := "fnExactUpdateCheck", unfollowed := true, recurses := true, apart := false }
def FnExactUpdateCheckSaid : Prop := fnExactUpdateCheckRow.holds Try.pinned (OpenSpec.ofChange fnExactUpdateCheckSpec)

/-- ITS FALSE NEIGHBOUR: 'it returns false'. Refute it at one input. -/
def fnExactUpdateCheckWrong : ChangeSpec := { name := "fnExactUpdateCheck", fn := fun _ => fun
  | [d1, d2, d3] => { results := [.lit (.bool false)], args := [d1, d2, d3] }
  | _ => none }
def FnExactUpdateCheckWrongFalsely : Prop := fnExactUpdateCheckRow.holds Try.pinned (OpenSpec.ofChange fnExactUpdateCheckWrong)

/-- 'laws.FnExactSwapWord': WHATEVER THE INPUT: true; the input reads as it did. -/
def fnExactSwapWordSpec : ChangeSpec := { name := "fnExactSwapWord", fn := fun _ => fun
  | [d] => { results := [.lit (.bool true)], args := [d] }
  | _ => none }
def fnExactSwapWordRow : OpenClaim := { program := "ytofpajbfajcjgaa", sum := "81842481bcf777fa3bf061005f3f8d38812a4e768954d4e3a63f714b3e818f85", func := "loop.example/g00840/laws.FnExactSwapWord", spec := "fnExactSwapWord", unfollowed := true, recurses := true, apart := false }
def FnExactSwapWordSaid : Prop := fnExactSwapWordRow.holds Try.pinned (OpenSpec.ofChange fnExactSwapWordSpec)

/-- ITS FALSE NEIGHBOUR: 'it returns false'. Refute it at one input. -/
def fnExactSwapWordWrong : ChangeSpec := { name := "fnExactSwapWord", fn := fun _ => fun
  | [d] => { results := [.lit (.bool false)], args := [d] }
  | _ => none }
def FnExactSwapWordWrongFalsely : Prop := fnExactSwapWordRow.holds Try.pinned (OpenSpec.ofChange fnExactSwapWordWrong)

/-- 'laws.FnExactWordsOf': WHATEVER THE INPUT: true; the input reads as it did. -/
def fnExactWordsOfSpec : ChangeSpec := { name := "fnExactWordsOf", fn := fun _ => fun
  | [d] => { results := [.lit (.bool true)], args := [d] }
  | _ => none }
def fnExactWordsOfRow : OpenClaim := { program := "ytofpajbfajcjgaa", sum := "81842481bcf777fa3bf061005f3f8d38812a4e768954d4e3a63f714b3e818f85", func := "loop.example/g00840/laws.FnExactWordsOf", spec := "fnExactWordsOf", apart := false }
def FnExactWordsOfSaid : Prop := fnExactWordsOfRow.holds Try.pinned (OpenSpec.ofChange fnExactWordsOfSpec)

/-- ITS FALSE NEIGHBOUR: 'it returns false'. Refute it at one input. -/
def fnExactWordsOfWrong : ChangeSpec := { name := "fnExactWordsOf", fn := fun _ => fun
  | [d] => { results := [.lit (.bool false)], args := [d] }
  | _ => none }
def FnExactWordsOfWrongFalsely : Prop := fnExactWordsOfRow.holds Try.pinned (OpenSpec.ofChange fnExactWordsOfWrong)

/-- 'laws.FnExactTextSum': WHATEVER THE INPUT: true; the input reads as it did. -/
def fnExactTextSumSpec : ChangeSpec := { name := "fnExactTextSum", fn := fun _ => fun
  | [d1, d2] => { results := [.lit (.bool true)], args := [d1, d2] }
  | _ => none }
def fnExactTextSumRow : OpenClaim := { program := "ytofpajbfajcjgaa", sum := "81842481bcf777fa3bf061005f3f8d38812a4e768954d4e3a63f714b3e818f85", func := "loop.example/g00840/laws.FnExactTextSum", spec := "fnExactTextSum", unfollowed := true, recurses := true, apart := false }
def FnExactTextSumSaid : Prop := fnExactTextSumRow.holds Try.pinned (OpenSpec.ofChange fnExactTextSumSpec)

/-- ITS FALSE NEIGHBOUR: 'it returns false'. Refute it at one input. -/
def fnExactTextSumWrong : ChangeSpec := { name := "fnExactTextSum", fn := fun _ => fun
  | [d1, d2] => { results := [.lit (.bool false)], args := [d1, d2] }
  | _ => none }
def FnExactTextSumWrongFalsely : Prop := fnExactTextSumRow.holds Try.pinned (OpenSpec.ofChange fnExactTextSumWrong)

/- THE SECOND FORM. 'bulk': how many values and letters a reading holds, each counted each time it is reached (what is shared counts as often as it is met; a slice's spare places count too). A statement '..UptoSaid' is the law's where the arguments, and the package variables that the reading takes, are together of bulk at most 1048576: NARROWER than '..Said'. Prove '..Said' where nothing that the law and all that it calls make is longer than what came in: it says more and counts as full. Else prove '..UptoSaid'. A law counts once. -/
mutual
def uptoBulk {H : Type} : DataW H → Nat
  | .lit (.string bytes) => bytes.length + 1
  | .lit _ => 1
  | .nil => 1
  | .ptr d => uptoBulk d + 1
  | .slice elems spare => uptoBulkAll elems + uptoBulkAll spare + 1
  | .agg parts => uptoBulkAll parts + 1
  | .iface _ d => uptoBulk d + 1
  | .map entries => uptoBulkEntries entries + 1
  | .held _ => 1
def uptoBulkAll {H : Type} : List (DataW H) → Nat
  | [] => 0
  | d :: r => uptoBulk d + uptoBulkAll r
def uptoBulkEntries {H : Type} : List (Lit × DataW H) → Nat
  | [] => 0
  | x :: r => uptoBulkEntry x + uptoBulkEntries r
def uptoBulkEntry {H : Type} : Lit × DataW H → Nat
  | (.string bytes, d) => bytes.length + uptoBulk d + 1
  | (_, d) => uptoBulk d + 1
 end
def uptoSmall : (H : Type) → List (DataW H) → Bool := fun _ ds => decide (uptoBulkAll ds ≤ 1048576)
def OpenSpec.upto (s : _root_.Go.ChangeSpec) : _root_.Go.OpenSpec := { _root_.Go.OpenSpec.ofChange s with cond := some uptoSmall }

/-- 'laws.FnWordSums', WHERE WHAT IT READS IS OF BULK AT MOST 1048576: true; the input reads as it did. -/
def fnWordSumsUptoRow : OpenClaim := { program := "ytofpajbfajcjgaa", sum := "81842481bcf777fa3bf061005f3f8d38812a4e768954d4e3a63f714b3e818f85", func := "loop.example/g00840/laws.FnWordSums", spec := "fnWordSums", unfollowed := true, recurses := true, apart := false, narrowed := true }
def FnWordSumsUptoSaid : Prop := fnWordSumsUptoRow.holds Try.pinned (OpenSpec.upto fnWordSumsSpec)

/-- 'laws.FnChecks', WHERE WHAT IT READS IS OF BULK AT MOST 1048576: true; the input reads as it did. -/
def fnChecksUptoRow : OpenClaim := { program := "ytofpajbfajcjgaa", sum := "81842481bcf777fa3bf061005f3f8d38812a4e768954d4e3a63f714b3e818f85", func := "loop.example/g00840/laws.FnChecks", spec := "fnChecks", unfollowed := true, recurses := true, apart := false, narrowed := true }
def FnChecksUptoSaid : Prop := fnChecksUptoRow.holds Try.pinned (OpenSpec.upto fnChecksSpec)

/-- 'laws.FnExactAddWords', WHERE WHAT IT READS IS OF BULK AT MOST 1048576: true; the input reads as it did. -/
def fnExactAddWordsUptoRow : OpenClaim := { program := "ytofpajbfajcjgaa", sum := "81842481bcf777fa3bf061005f3f8d38812a4e768954d4e3a63f714b3e818f85", func := "loop.example/g00840/laws.FnExactAddWords", spec := "fnExactAddWords", unfollowed := true, recurses := true, apart := false, narrowed := true }
def FnExactAddWordsUptoSaid : Prop := fnExactAddWordsUptoRow.holds Try.pinned (OpenSpec.upto fnExactAddWordsSpec)

/-- 'laws.FnExactWordSum', WHERE WHAT IT READS IS OF BULK AT MOST 1048576: true; the input reads as it did. -/
def fnExactWordSumUptoRow : OpenClaim := { program := "ytofpajbfajcjgaa", sum := "81842481bcf777fa3bf061005f3f8d38812a4e768954d4e3a63f714b3e818f85", func := "loop.example/g00840/laws.FnExactWordSum", spec := "fnExactWordSum", unfollowed := true, recurses := true, apart := false, narrowed := true }
def FnExactWordSumUptoSaid : Prop := fnExactWordSumUptoRow.holds Try.pinned (OpenSpec.upto fnExactWordSumSpec)

/-- 'laws.FnExactWordCheck', WHERE WHAT IT READS IS OF BULK AT MOST 1048576: true; the input reads as it did. -/
def fnExactWordCheckUptoRow : OpenClaim := { program := "ytofpajbfajcjgaa", sum := "81842481bcf777fa3bf061005f3f8d38812a4e768954d4e3a63f714b3e818f85", func := "loop.example/g00840/laws.FnExactWordCheck", spec := "fnExactWordCheck", unfollowed := true, recurses := true, apart := false, narrowed := true }
def FnExactWordCheckUptoSaid : Prop := fnExactWordCheckUptoRow.holds Try.pinned (OpenSpec.upto fnExactWordCheckSpec)

/-- 'laws.FnExactIsSoundList', WHERE WHAT IT READS IS OF BULK AT MOST 1048576: true; the input reads as it did. -/
def fnExactIsSoundListUptoRow : OpenClaim := { program := "ytofpajbfajcjgaa", sum := "81842481bcf777fa3bf061005f3f8d38812a4e768954d4e3a63f714b3e818f85", func := "loop.example/g00840/laws.FnExactIsSoundList", spec := "fnExactIsSoundList", unfollowed := true, recurses := true, apart := false, narrowed := true }
def FnExactIsSoundListUptoSaid : Prop := fnExactIsSoundListUptoRow.holds Try.pinned (OpenSpec.upto fnExactIsSoundListSpec)

/-- 'laws.FnExactSealWords', WHERE WHAT IT READS IS OF BULK AT MOST 1048576: true; the input reads as it did. -/
def fnExactSealWordsUptoRow : OpenClaim := { program := "ytofpajbfajcjgaa", sum := "81842481bcf777fa3bf061005f3f8d38812a4e768954d4e3a63f714b3e818f85", func := "loop.example/g00840/laws.FnExactSealWords", spec := "fnExactSealWords", unfollowed := true, recurses := true, apart := false, narrowed := true }
def FnExactSealWordsUptoSaid : Prop := fnExactSealWordsUptoRow.holds Try.pinned (OpenSpec.upto fnExactSealWordsSpec)

/-- 'laws.FnExactUpdateCheck', WHERE WHAT IT READS IS OF BULK AT MOST 1048576: true; the input reads as it did. -/
def fnExactUpdateCheckUptoRow : OpenClaim := { program := "ytofpajbfajcjgaa", sum := "81842481bcf777fa3bf061005f3f8d38812a4e768954d4e3a63f714b3e818f85", func := "loop.example/g00840/laws.FnExactUpdateCheck", spec := "fnExactUpdateCheck", unfollowed := true, recurses := true, apart := false, narrowed := true }
def FnExactUpdateCheckUptoSaid : Prop := fnExactUpdateCheckUptoRow.holds Try.pinned (OpenSpec.upto fnExactUpdateCheckSpec)

/-- 'laws.FnExactSwapWord', WHERE WHAT IT READS IS OF BULK AT MOST 1048576: true; the input reads as it did. -/
def fnExactSwapWordUptoRow : OpenClaim := { program := "ytofpajbfajcjgaa", sum := "81842481bcf777fa3bf061005f3f8d38812a4e768954d4e3a63f714b3e818f85", func := "loop.example/g00840/laws.FnExactSwapWord", spec := "fnExactSwapWord", unfollowed := true, recurses := true, apart := false, narrowed := true }
def FnExactSwapWordUptoSaid : Prop := fnExactSwapWordUptoRow.holds Try.pinned (OpenSpec.upto fnExactSwapWordSpec)

/-- 'laws.FnExactWordsOf', WHERE WHAT IT READS IS OF BULK AT MOST 1048576: true; the input reads as it did. -/
def fnExactWordsOfUptoRow : OpenClaim := { program := "ytofpajbfajcjgaa", sum := "81842481bcf777fa3bf061005f3f8d38812a4e768954d4e3a63f714b3e818f85", func := "loop.example/g00840/laws.FnExactWordsOf", spec := "fnExactWordsOf", apart := false, narrowed := true }
def FnExactWordsOfUptoSaid : Prop := fnExactWordsOfUptoRow.holds Try.pinned (OpenSpec.upto fnExactWordsOfSpec)

/-- 'laws.FnExactTextSum', WHERE WHAT IT READS IS OF BULK AT MOST 1048576: true; the input reads as it did. -/
def fnExactTextSumUptoRow : OpenClaim := { program := "ytofpajbfajcjgaa", sum := "81842481bcf777fa3bf061005f3f8d38812a4e768954d4e3a63f714b3e818f85", func := "loop.example/g00840/laws.FnExactTextSum", spec := "fnExactTextSum", unfollowed := true, recurses := true, apart := false, narrowed := true }
def FnExactTextSumUptoSaid : Prop := fnExactTextSumUptoRow.holds Try.pinned (OpenSpec.upto fnExactTextSumSpec)

end Rows
end Go.Proofs.Ytofpajbfajcjgaa
