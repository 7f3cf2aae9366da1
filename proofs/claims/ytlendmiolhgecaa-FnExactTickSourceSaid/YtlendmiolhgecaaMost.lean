/-
  The specification's least and most of two numbers.
-/
import Derived.Test.YtlendmiolhgecaaProg
import Derived.Test.YtlendmiolhgecaaBase
import Derived.Deep.QuietTactic
import Derived.IntWalk
namespace Go.Proofs.Ytlendmiolhgecaa
open Go.RowKit Go.Lib
set_option linter.unusedVariables false

end Go.Proofs.Ytlendmiolhgecaa
