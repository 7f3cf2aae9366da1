/-
  The laws' helpers at lists of strings: sizes, marks, copies.
-/
import Derived.Test.YtpmjdppipalfcaaDoorFit
import Derived.Test.YtpmjdppipalfcaaDoorMarkS
namespace Go.Proofs.YtpmjdppipalfcaaDoor
open Go.RowKit Go.Lib
set_option linter.unusedVariables false

end Go.Proofs.YtpmjdppipalfcaaDoor
