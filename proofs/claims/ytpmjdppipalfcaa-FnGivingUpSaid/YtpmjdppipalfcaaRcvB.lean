/-
  Receive windows: the block.
-/
import Derived.Test.YtpmjdppipalfcaaRcvMath
import Derived.Test.YtpmjdppipalfcaaSltR
import Derived.Test.YtpmjdppipalfcaaBox
import Derived.Test.YtpmjdppipalfcaaFit
import Derived.Deep.QuietTactic
import Derived.BigQuiet
import Derived.IntWalk
import Derived.Deep.CutRange
import Derived.WalkLawsBesides
import Derived.Lib.SmallJoins
import Derived.Deep.RegionHeld3
namespace Go.Proofs.Ytpmjdppipalfcaa
open Go.RowKit Go.Lib Go.Joins
set_option linter.unusedVariables false

theorem isRw : IsBox 26 2 := fun w g cs hn h => run_loadVar_row w g 26 26 cs (0, 0) _ h Try.underlying26 (by rfl) (by rw [hn]; kernel_rfl)
end Go.Proofs.Ytpmjdppipalfcaa
