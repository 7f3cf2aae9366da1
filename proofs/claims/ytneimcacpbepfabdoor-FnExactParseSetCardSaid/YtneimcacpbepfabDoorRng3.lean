/-
  Sets as ranges: a range left out, by the specification.
-/
import Derived.Test.YtneimcacpbepfabDoorRng2
namespace Go.Proofs.YtneimcacpbepfabDoor
open Go.RowKit Go.Lib Go.Joins
set_option linter.unusedVariables false

theorem remG_cons (a : Rg) (s : List Rg) (r : Rg) : remG (a :: s) r = cutR r a ++ remG s r := by unfold remG; rw [List.flatMap_cons]
section
variable {zs l goal : List Rg} {p q f t : Int}
theorem rem_both (h : zs ++ remG ((p, q) :: l) (f, t) = goal) (hA : p < f) (hB : t < q) : zs ++ [(p, min q (f - 1))] ++ [(max p (t + 1), q)] ++ remG l (f, t) = goal := by
  rw [← h, remG_cons]
  simp [cutR, hA, hB]
theorem rem_left (h : zs ++ remG ((p, q) :: l) (f, t) = goal) (hA : p < f) (hB : ¬ t < q) : zs ++ [(p, min q (f - 1))] ++ remG l (f, t) = goal := by
  rw [← h, remG_cons]
  simp [cutR, hA, hB]
theorem rem_right (h : zs ++ remG ((p, q) :: l) (f, t) = goal) (hA : ¬ p < f) (hB : t < q) : zs ++ [(max p (t + 1), q)] ++ remG l (f, t) = goal := by
  rw [← h, remG_cons]
  simp [cutR, hA, hB]
theorem rem_none (h : zs ++ remG ((p, q) :: l) (f, t) = goal) (hA : ¬ p < f) (hB : ¬ t < q) : zs ++ remG l (f, t) = goal := by
  rw [← h, remG_cons]
  simp [cutR, hA, hB]
theorem rem_len3 {a : List Rg} (h : a ++ l = goal) : a.length ≤ goal.length := by rw [← h]; simp
end
end Go.Proofs.YtneimcacpbepfabDoor
