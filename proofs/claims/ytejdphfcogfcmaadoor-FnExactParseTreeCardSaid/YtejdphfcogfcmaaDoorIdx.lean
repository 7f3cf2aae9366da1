/-
  'slices.IndexFunc' and 'slices.ContainsFunc' at ints, over a closure that answers in every world.
-/
import Derived.Test.YtejdphfcogfcmaaDoorProg
import Derived.Test.YtejdphfcogfcmaaDoorBase
import Derived.Test.YtejdphfcogfcmaaDoorFill
import Derived.WalkKit
import Derived.Lib.Hide
import Derived.Shelf.Abstract
namespace Go.Proofs.YtejdphfcogfcmaaDoor
open Go.RowKit Go.Lib
set_option linter.unusedVariables false

/-- The place of the first element with p, or -1. -/
def idxP (p : Int → Bool) (xs : List Int) : Int := if xs.any p = true then ((xs.findIdx p : Nat) : Int) else -1
theorem idxP_no {p : Int → Bool} {xs : List Int} (h : xs.any p = false) : idxP p xs = -1 := by unfold idxP; rw [h]; rfl
theorem idxP_at {p : Int → Bool} {xs : List Int} {k : Nat} (hk : k < xs.length) (h : (xs.take k).any p = false) (hp : p xs[k] = true) : idxP p xs = (k : Int) := by
  have h1 : xs.any p = true := by rw [List.any_eq_true]; exact ⟨_, List.getElem_mem hk, hp⟩
  unfold idxP
  rw [if_pos h1]
  congr 1
  rw [List.findIdx_eq hk]
  refine ⟨hp, fun j hj => ?_⟩
  rw [List.any_eq_false] at h
  have := h xs[j] (by rw [List.mem_take_iff_getElem]; exact ⟨j, by omega, rfl⟩)
  simpa using this
theorem idxP_nonneg (p : Int → Bool) (xs : List Int) : decide (0 ≤ idxP p xs) = xs.any p := by
  cases h : xs.any p with
  | false => rw [idxP_no h]; rfl
  | true => unfold idxP; rw [if_pos h]; exact decide_eq_true (by omega)
theorem idxP_bd (p : Int → Bool) (xs : List Int) : -1 ≤ idxP p xs ∧ idxP p xs ≤ xs.length := by
  unfold idxP
  have := List.findIdx_le_length (p := p) (xs := xs)
  split <;> omega

end Go.Proofs.YtejdphfcogfcmaaDoor
