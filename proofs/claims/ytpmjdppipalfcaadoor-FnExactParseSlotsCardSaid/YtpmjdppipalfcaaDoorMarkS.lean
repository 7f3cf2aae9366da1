/-
  'markStringS' and 'heldStringS': marks are written into a row of the call's own, and found there again.
-/
import Derived.Test.YtpmjdppipalfcaaDoorMark
import Derived.Test.YtpmjdppipalfcaaDoorOwn
import Derived.Laws.Tables
import Derived.Deep.QuietTactic
import Derived.Deep.RegionWith
namespace Go.Proofs.YtpmjdppipalfcaaDoor
open Go.RowKit

/-- n marks from k on. -/
def marks (k n : Nat) : List Value := (List.range n).map fun i => .string (mkT (k + i))

theorem marks_length (k n : Nat) : (marks k n).length = n := by simp [marks]
theorem marks_succ (k j : Nat) : marks k (j + 1) = marks k j ++ [.string (mkT (k + j))] := by simp [marks, List.range_succ]
theorem marks_at (k n i : Nat) (h : i < n) : (marks k n)[i]? = some (.string (mkT (k + i))) := by
  unfold marks
  rw [List.getElem?_map, List.getElem?_range h]; rfl

theorem marks_set (k j : Nat) (xs : List Value) (h : j < xs.length) : (marks k j ++ xs.drop j).set j (.string (mkT (k + j))) = marks k (j + 1) ++ xs.drop (j + 1) := by
  rw [List.set_append_right _ _ (by rw [marks_length]; omega), marks_length, Nat.sub_self, List.drop_eq_getElem_cons h, List.set_cons_zero, marks_succ]
  simp

theorem mk_eq {x : Value} {k i n : Nat} (h : (marks k n)[i]? = some x) (hi : i < n) : x = .string (mkT (k + i)) := by
  rw [marks_at k n i hi] at h
  injection h with h
  exact h.symm

end Go.Proofs.YtpmjdppipalfcaaDoor
