/-
  Sets as ranges: the specification's functions that answer of one set.
-/
import Derived.Test.YtneimcacpbepfaaGreatDoorRng3
import Derived.Test.YtneimcacpbepfaaGreatDoorSer2
namespace Go.Proofs.YtneimcacpbepfaaGreatDoor
open Go.RowKit Go.Lib Go.Joins
set_option linter.unusedVariables false

def hasOk (s : List Rg) (x : Int) : Bool := rgOk s && serB x
def hasV (s : List Rg) (x : Int) : Bool := hasOk s x && hasB s x
theorem sizG_take {s : List Rg} {k : Nat} (hk : k < s.length) : sizG (s.take (k + 1)) = sizG (s.take k) + (s[k].2 - s[k].1 + 1) := by
  rw [List.take_succ_eq_append_getElem hk]
  unfold sizG
  rw [List.map_append, List.sum_append]
  simp
def sizV (s : List Rg) : Int := if rgOk s = true then sizG s else 0
def nxOk (s : List Rg) (x : Int) : Bool := rgOk s && (serB x && serB (nextG s x))
def nxV (s : List Rg) (x : Int) : Int := if nxOk s x = true then nextG s x else 0
theorem nextG_take {s : List Rg} {k : Nat} (hk : k < s.length) (x : Int) : nextG (s.take (k + 1)) x = if s[k].1 ≤ nextG (s.take k) x ∧ nextG (s.take k) x ≤ s[k].2 then s[k].2 + 1 else nextG (s.take k) x := by
  rw [List.take_succ_eq_append_getElem hk]
  unfold nextG
  rw [List.foldl_append]
  rfl
end Go.Proofs.YtneimcacpbepfaaGreatDoor
