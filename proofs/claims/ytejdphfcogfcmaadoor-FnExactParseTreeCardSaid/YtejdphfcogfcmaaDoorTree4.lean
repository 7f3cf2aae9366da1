/-
  Trees: the specification's ChildrenOf, LeavesOf, PathTo, NodesBelow, FaceTo.
-/
import Derived.Test.YtejdphfcogfcmaaDoorTree3
namespace Go.Proofs.YtejdphfcogfcmaaDoor
open Go.RowKit Go.Lib Go.Joins
set_option linter.unusedVariables false

/-- A list where it is asked for, else nothing. -/
def okL (b : Bool) (l : List Int) : List Int := if b = true then l else []
theorem okL_yes (l : List Int) : okL true l = l := rfl
theorem okL_no (l : List Int) : okL false l = [] := rfl
end Go.Proofs.YtejdphfcogfcmaaDoor
