/-
  Texts of zero bytes that the draws make.
-/
import Derived.Test.YtjdlkkhkaobpnaaDoorProg
import Derived.Test.YtjdlkkhkaobpnaaDoorFill
import Derived.Laws.IdiomStrings
namespace Go.Proofs.YtjdlkkhkaobpnaaDoor
open Go.RowKit

theorem infoByte : (Tryd.prog.info? 5).map (fun i => (i.zero, i.size, i.bytes)) = some (some (.int .u8 0), 1, 1) := by kernel_rfl
theorem zero_bytes (n : Nat) (hn : n ≤ 5000) (W : World) :
    (Instr.makeSlice 22 (.int .i64 (n : Int)) (.int .i64 (n : Int))).run Tryd.prog W = .ok (.slice (some ⟨W.heap.size, 0, none⟩) n n) (W.alloc (.cells (fillV (List.replicate n (.int .u8 0)) (.int .u8 0) 0) 5)) := by
  obtain ⟨i0, hi, hz0, hz1, hz2⟩ := info_parts infoByte
  rw [run_make (P := Tryd.prog) W 22 5 i0 (.int .u8 0) Tryd.underlying22 hi hz0 .i64 .i64 n n (by omega) (by omega) (by rw [hz2]; omega) (by omega), hz1, Int.toNat_natCast,
    made_is n (List.replicate n (.int .u8 0)) (by simp) rfl]
theorem zero_text (n : Nat) (W : World) :
    (convert 22 9 (.slice (some ⟨W.heap.size, 0, none⟩) n n)).run Tryd.prog (W.alloc (.cells (fillV (List.replicate n (.int .u8 0)) (.int .u8 0) 0) 5)) =
      .ok (.string ⟨(List.replicate n 0).toArray⟩) (W.alloc (.cells (fillV (List.replicate n (.int .u8 0)) (.int .u8 0) 0) 5)) := by
  have := run_convert_bytes_back (P := Tryd.prog) (W.alloc (.cells (fillV (List.replicate n (.int .u8 0)) (.int .u8 0) 0) 5)) 22 9 5 ⟨W.heap.size, 0, none⟩ n (List.replicate n 0) Tryd.underlying22 Tryd.underlying5 Tryd.underlying9
    (fun j hj => by
      rw [addr_add, Nat.zero_add, World.cell?_alloc_new, fillV_zero]
      rw [List.length_replicate] at hj
      simp [hj])
  rw [List.length_replicate] at this
  exact this

end Go.Proofs.YtjdlkkhkaobpnaaDoor
