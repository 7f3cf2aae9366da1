/-
  Windows of the source: items that are pushed (the specification's).
-/
import Derived.Test.YtlendmiolhgecaaSnd3
import Derived.Deep.QuietTactic
import Derived.BigQuiet
import Derived.IntWalk
import Derived.Deep.CutRange
import Derived.WalkLawsBesides
import Derived.Lib.SmallJoins
import Derived.Deep.RegionHeld3
namespace Go.Proofs.Ytlendmiolhgecaa
open Go.RowKit Go.Lib Go.Joins
set_option linter.unusedVariables false

end Go.Proofs.Ytlendmiolhgecaa
