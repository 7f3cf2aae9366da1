/-
  Packets: the laws' helpers: the size of a packet that comes in, its copy as a packet of the program.
-/
import Derived.Test.YtkijfneaglogmaaPkt4
namespace Go.Proofs.Ytkijfneaglogmaa
open Go.RowKit Go.Lib Go.Joins
set_option linter.unusedVariables false

/-- A packet of the laws in a block of its own. -/
def Lb (w : World) (g : Nat) (k n t l : Int) (d : ByteArray) : Prop := w.heap[g]? = some (.cells #[.int .i64 k, .int .i64 n, .int .i64 t, .int .i64 l, .string d] 66 (0, 0))
theorem Lb.cells {w : World} {g : Nat} {k n t l : Int} {d : ByteArray} (h : Lb w g k n t l d) : w.cell? ⟨g, 0, none⟩ = some (.int .i64 k) ∧ w.cell? ⟨g, 1, none⟩ = some (.int .i64 n) ∧ w.cell? ⟨g, 2, none⟩ = some (.int .i64 t) ∧ w.cell? ⟨g, 3, none⟩ = some (.int .i64 l) ∧ w.cell? ⟨g, 4, none⟩ = some (.string d) := by
  unfold Lb at h
  refine ⟨?_, ?_, ?_, ?_, ?_⟩ <;> rw [cell_of_block h] <;> rfl
theorem Lb.lt {w : World} {g : Nat} {k n t l : Int} {d : ByteArray} (h : Lb w g k n t l d) : g < w.heap.size := (Array.getElem?_eq_some_iff.1 h).1
theorem Lb.below {w w' : World} {g : Nat} {k n t l : Int} {d : ByteArray} {B : Nat} (h : Lb w g k n t l d) (hb : Below B w w') (hB : g < B) : Lb w' g k n t l d := (hb.block g hB).trans h
set_option maxHeartbeats 400000 in
theorem szPacket_any (k n t l : Int) (d : ByteArray) (w : World) (hd : d.size ≤ 1048576) :
    Calls Try.prog 50 #[pv k n t l d, .int .i64 1048576] w fun e w' => ∃ q : Int, e = .returned (.int .i64 q) ∧ 0 ≤ q ∧ Below w.heap.size w w' := by
  have h0 : ¬ (1048576 : Int) - (d.size : Int) < 0 := by omega
  unfold pv
  go_enter Try.func50, Try.ntmps50
  go_wp2_with fail
  go_ret
  exact ⟨_, rfl, by omega, (Below.refl _ _).alloc (Nat.le_refl _) _⟩
set_option maxHeartbeats 400000 in
theorem szPacket_no (k n t l : Int) (d : ByteArray) (w : World) (hd : ¬ d.size ≤ 1048576) (hm : d.size ≤ maxLen) :
    Calls Try.prog 50 #[pv k n t l d, .int .i64 1048576] w fun e w' => e = .returned (.int .i64 (-1)) ∧ Below w.heap.size w w' := by
  unfold maxLen at hm
  have h0 : (1048576 : Int) - (d.size : Int) < 0 := by omega
  unfold pv
  go_enter Try.func50, Try.ntmps50
  go_wp2_with fail
  go_ret
  exact ⟨rfl, (Below.refl _ _).alloc (Nat.le_refl _) _⟩
theorem results_pkt1 {fn : Func} {p : Tmp} (h : fn.results = #[.cell p 30]) (tmps : Array Value) (w : World) (g : Nat) {k n t l : Int} {d : ByteArray} (hp : tmps.getD p undef = .pointer (some ⟨g, 0, none⟩)) (hg : Pb w g k n t l d) :
    (results fn tmps).run Try.prog w = .ok (pv k n t l d) w := by
  have hp' : tmps[p]?.getD undef = .pointer (some ⟨g, 0, none⟩) := by simpa using hp
  unfold results
  rw [h]
  simp [asAddr, hp', run_loadVar_row w g 30 30 _ _ _ hg Try.underlying30 (by rfl) (by kernel_rfl)]
  rfl
set_option maxHeartbeats 1000000 in
theorem toPacket_any (k n t l : Int) (d : ByteArray) (w : World) :
    Calls Try.prog 51 #[pv k n t l d] w fun e w' => e = .returned (pv k n t l d) ∧ Below w.heap.size w w' := by
  unfold pv
  go_enter Try.func51, Try.ntmps51
  go_wp2_with fail
  refine bodyPost_ret (results_pkt1 rfl _ _ (w.heap.size + 1) rfl ((heap_alloc_old _ _ (by simp)).trans (heap_second w _ _))) rfl ⟨rfl, ?_⟩
  exact (((Below.refl _ _).alloc (Nat.le_refl _) _).alloc (by simp) _).alloc (by simp; omega) _
end Go.Proofs.Ytkijfneaglogmaa
