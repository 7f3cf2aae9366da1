/-
  The laws' own helpers on slices of strings: 'toStringS', 'szStringS', 'eqStringS'.
-/
import Derived.Test.YtpmjdppipalfcaaDoorProg
import Derived.Test.YtpmjdppipalfcaaDoorFill
import Derived.Deep.QuietTactic
import Derived.BigQuiet
import Derived.IntWalk
namespace Go.Proofs.YtpmjdppipalfcaaDoor
open Go.RowKit

theorem infoStr : (Tryd.prog.info? 9).map (fun i => (i.zero, i.size, i.bytes)) = some (some (.string ⟨#[]⟩), 1, 16) := by kernel_rfl

theorem make_strs (n : Nat) (ss : List ByteArray) (h : n = ss.length) (hn : n ≤ 1048576) (W : World) :
    (Instr.makeSlice 29 (.int .i64 (n : Int)) (.int .i64 (n : Int))).run Tryd.prog W = .ok (.slice (some ⟨W.heap.size, 0, none⟩) n n) (W.alloc (.cells (fillV (ss.map Value.string) (.string ⟨#[]⟩) 0) 9)) := by
  obtain ⟨i0, hi, hz0, hz1, hz2⟩ := info_parts infoStr
  rw [run_make (P := Tryd.prog) W 29 9 i0 (.string ⟨#[]⟩) Tryd.underlying29 hi hz0 .i64 .i64 n n (by omega) (by omega) (by rw [hz2]; omega) (by omega), hz1, Int.toNat_natCast,
    made_is n (ss.map Value.string) (by rw [List.length_map]; exact h) rfl]

theorem bytes_eq {x y : ByteArray} (h : (!x.toList == y.toList) = false) : x = y := by
  have h1 : x.toList = y.toList := by simpa using h
  rw [ByteArray.toList_eq, ByteArray.toList_eq] at h1
  apply ByteArray.ext
  exact Array.toList_inj.1 h1
theorem bytes_ne {x y : ByteArray} (h : (!x.toList == y.toList) = true) : x ≠ y := fun e => by
  subst e; simp at h
theorem eq_take {α : Type} {xs ys : List α} {k : Nat} (ha : k < xs.length) (hb : k < ys.length) (h : xs.take k = ys.take k) (e : xs[k] = ys[k]) : xs.take (k + 1) = ys.take (k + 1) := by
  rw [List.take_succ_eq_append_getElem ha, List.take_succ_eq_append_getElem hb, h, e]

theorem list_at {α : Type} {xs ys : List α} (e : xs = ys) (k : Nat) (h1 : k < xs.length) (h2 : k < ys.length) : xs[k] = ys[k] := by subst e; rfl

theorem world_hid {w wr : World} (h : ∃ a, wr = w.drewN a) (n : Nat) : ∃ a, wr.drewN n = w.drewN a := by
  obtain ⟨a, rfl⟩ := h
  exact ⟨a + n, by rw [World.drewN_drewN]⟩

end Go.Proofs.YtpmjdppipalfcaaDoor
