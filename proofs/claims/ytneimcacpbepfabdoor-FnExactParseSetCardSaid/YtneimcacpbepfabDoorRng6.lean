/-
  Sets as ranges: the specification's union, common numbers and difference.
-/
import Derived.Test.YtneimcacpbepfabDoorRng5
namespace Go.Proofs.YtneimcacpbepfabDoor
open Go.RowKit Go.Lib Go.Joins
set_option linter.unusedVariables false

/-- What a function of two sets returns whose list is z. -/
def twoOk (x y z : List Rg) : Bool := (rgOk x && rgOk y) && rgOk z
def twoL (x y z : List Rg) : List Rg := if twoOk x y z = true then z else []
theorem two_no {x y : List Rg} (z : List Rg) (h : (rgOk x && rgOk y) = false) : twoOk x y z = false ∧ twoL x y z = [] := by
  have e : twoOk x y z = false := by unfold twoOk; rw [h]; rfl
  exact ⟨e, by unfold twoL; rw [e]; rfl⟩
theorem two_yes {x y : List Rg} (z : List Rg) (h : (rgOk x && rgOk y) = true) : twoOk x y z = rgOk z ∧ twoL x y z = chkL z := by
  have e : twoOk x y z = rgOk z := by unfold twoOk; rw [h]; rfl
  exact ⟨e, by unfold twoL chkL; rw [e]⟩
end Go.Proofs.YtneimcacpbepfabDoor
