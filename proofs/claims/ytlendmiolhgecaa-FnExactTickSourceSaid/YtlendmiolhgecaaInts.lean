/-
  The laws' own helpers on slices of int: 'toIntS', 'eqIntS', 'markIntS', 'heldIntS', 'vInts', 'vHas'.
-/
import Derived.Test.YtlendmiolhgecaaProg
import Derived.Test.YtlendmiolhgecaaFill
import Derived.Test.YtlendmiolhgecaaOwn
import Derived.Deep.QuietTactic
import Derived.BigQuiet
import Derived.IntWalk
namespace Go.Proofs.Ytlendmiolhgecaa
open Go.RowKit

theorem infoInt : (Try.prog.info? 3).map (fun i => (i.zero, i.size, i.bytes)) = some (some (.int .i64 0), 1, 8) := by kernel_rfl

theorem int_ne {x y : Int} (h : (!(x == y)) = true) : x ≠ y := by simpa using h
theorem int_eq {x y : Int} (h : (!(x == y)) = false) : x = y := by simpa using h
theorem eq_take_i {α : Type} {xs ys : List α} {k : Nat} (ha : k < xs.length) (hb : k < ys.length) (h : xs.take k = ys.take k) (e : xs[k] = ys[k]) : xs.take (k + 1) = ys.take (k + 1) := by
  rw [List.take_succ_eq_append_getElem ha, List.take_succ_eq_append_getElem hb, h, e]
theorem list_at_i {α : Type} {xs ys : List α} (e : xs = ys) (k : Nat) (h1 : k < xs.length) (h2 : k < ys.length) : xs[k] = ys[k] := by subst e; rfl
theorem world_hid_i {w wr : World} (h : ∃ a, wr = w.drewN a) (n : Nat) : ∃ a, wr.drewN n = w.drewN a := by
  obtain ⟨a, rfl⟩ := h
  exact ⟨a + n, by rw [World.drewN_drewN]⟩



end Go.Proofs.Ytlendmiolhgecaa
