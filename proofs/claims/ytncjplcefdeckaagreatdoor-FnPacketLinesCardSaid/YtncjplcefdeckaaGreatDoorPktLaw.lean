/-
  Packets: the laws' helpers: the size of a packet that comes in, its copy as a packet of the program.
-/
import Derived.Test.YtncjplcefdeckaaGreatDoorPkt4
namespace Go.Proofs.YtncjplcefdeckaaGreatDoor
open Go.RowKit Go.Lib Go.Joins
set_option linter.unusedVariables false

theorem results_pkt1 {fn : Func} {p : Tmp} (h : fn.results = #[.cell p 25]) (tmps : Array Value) (w : World) (g : Nat) {k n t l : Int} {d : ByteArray} (hp : tmps.getD p undef = .pointer (some ⟨g, 0, none⟩)) (hg : Pb w g k n t l d) :
    (results fn tmps).run Tryz.prog w = .ok (pv k n t l d) w := by
  have hp' : tmps[p]?.getD undef = .pointer (some ⟨g, 0, none⟩) := by simpa using hp
  unfold results
  rw [h]
  simp [asAddr, hp', run_loadVar_row w g 25 25 _ _ _ hg Tryz.underlying25 (by rfl) (by kernel_rfl)]
  rfl
end Go.Proofs.YtncjplcefdeckaaGreatDoor
