/-
  Packets: 'DecodePacket' of the specification, and the laws' comparison.
-/
import Derived.Test.YtlendmiolhgecaaPkt4
namespace Go.Proofs.Ytlendmiolhgecaa
open Go.RowKit Go.Lib Go.Joins
set_option linter.unusedVariables false

theorem decV_form (s : ByteArray) : ∃ k n t l d, decV s = pv k n t l d ∧ d.size ≤ 8 := by
  cases h : decOk s with
  | false => exact ⟨_, _, _, _, _, decV_no h, by decide⟩
  | true => exact ⟨_, _, _, _, _, decV_yes h, (pktOk_bd (decOk_pkt h)).2.2.2.2.2.2.1⟩
theorem heap_new1 (w : World) (k n t l : Int) (d : ByteArray) : Pb (w.alloc (.cells #[.int .i64 k, .int .i64 n, .int .i64 t, .int .i64 l, .string d] 64)) w.heap.size k n t l d := heap_alloc_new w _

set_option maxHeartbeats 1000000 in
theorem eqPacket_same (k n t l : Int) (d : ByteArray) (w : World) :
    Calls Try.prog 38 #[pv k n t l d, pv k n t l d] w fun e w' => e = .returned (.bool true) ∧ Below w.heap.size w w' := by
  unfold pv
  go_enter Try.func38, Try.ntmps38
  go_wp2_with fail
  go_ret
  exact ⟨rfl, ((Below.refl _ _).alloc (Nat.le_refl _) _).alloc (by simp) _⟩
end Go.Proofs.Ytlendmiolhgecaa
