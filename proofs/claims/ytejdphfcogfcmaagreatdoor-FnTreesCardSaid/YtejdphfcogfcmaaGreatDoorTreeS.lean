/-
  Trees: the laws' helpers: sizes, copies, comparisons, marks.
-/
import Derived.Test.YtejdphfcogfcmaaGreatDoorTree4
import Derived.Laws.ResultCell
import Derived.Laws.Rows
namespace Go.Proofs.YtejdphfcogfcmaaGreatDoor
open Go.RowKit Go.Lib Go.Joins
set_option linter.unusedVariables false

/-- A box of one cell. -/
def Bx (w : World) (R : Nat) (v : Value) (t : TypeId) : Prop := w.heap[R]? = some (.cells #[v] t (0, 0))
theorem Bx.cell {w : World} {R : Nat} {v : Value} {t : TypeId} (h : Bx w R v t) : w.cell? ⟨R, 0, none⟩ = some v := by rw [cell_of_block h]; rfl
theorem Bx.free {w : World} {R : Nat} {v : Value} {t : TypeId} (h : Bx w R v t) : w.frozen? ⟨R, 0, none⟩ = false := by
  unfold Bx at h
  simp [World.frozen?, h]
theorem Bx.lt {w : World} {R : Nat} {v : Value} {t : TypeId} (h : Bx w R v t) : R < w.heap.size := (Array.getElem?_eq_some_iff.1 h).1
theorem Bx.below {w w' : World} {R B : Nat} {v : Value} {t : TypeId} (h : Bx w R v t) (hb : Below B w w') (hB : R < B) : Bx w' R v t := (hb.block R hB).trans h
theorem Bx.grown {w w' : World} {R : Nat} {v : Value} {t : TypeId} {row : Option Nat} (h : Bx w R v t) (hg : w.grownBy w' row) (hr : some R ≠ row) : Bx w' R v t := (hg.block R h.lt hr).trans h
theorem Bx.put {w : World} {R : Nat} {v : Value} {t : TypeId} (h : Bx w R v t) (u : Value) : Bx (w.setCell ⟨R, 0, none⟩ u) R u t ∧ w.grownBy (w.setCell ⟨R, 0, none⟩ u) (some R) := by
  have e1 := setCell_eq_setRow w R 0 #[v] t (0, 0) u h
  refine ⟨block_setCell h u, ?_⟩
  rw [e1]
  exact ⟨rfl, rfl, rfl, by simp, fun q _ hne => setRow_other w R q _ (fun e => hne (by rw [e]))⟩
theorem Bx.new (w : World) (v : Value) (t : TypeId) : Bx (w.alloc (.cells #[v] t)) w.heap.size v t := heap_alloc_new w _
theorem results_tr1 {fn : Func} {p : Tmp} (h : fn.results = #[.cell p 26]) (tmps : Array Value) (w : World) (g : Nat) {v : Value} (hp : tmps.getD p undef = .pointer (some ⟨g, 0, none⟩)) (hg : Bx w g v 26) :
    (results fn tmps).run Tryz.prog w = .ok (.agg #[v]) w := by
  have hp' : tmps[p]?.getD undef = .pointer (some ⟨g, 0, none⟩) := by simpa using hp
  unfold results
  rw [h]
  simp [asAddr, hp', run_loadVar_row w g 26 26 _ _ _ hg Tryz.underlying26 (by rfl) (by kernel_rfl)]
end Go.Proofs.YtejdphfcogfcmaaGreatDoor
