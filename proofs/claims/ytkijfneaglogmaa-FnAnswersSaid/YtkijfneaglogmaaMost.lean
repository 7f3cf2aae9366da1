/-
  The specification's least and most of two numbers.
-/
import Derived.Test.YtkijfneaglogmaaProg
import Derived.Test.YtkijfneaglogmaaBase
import Derived.Deep.QuietTactic
import Derived.IntWalk
namespace Go.Proofs.Ytkijfneaglogmaa
open Go.RowKit Go.Lib
set_option linter.unusedVariables false

theorem l1Most_any (x y : Int) (w : World) :
    Calls Try.prog 83 #[.int .i64 x, .int .i64 y] w fun e w' => e = .returned (.int .i64 (max x y)) ∧ w = w' := by
  by_cases h : y < x
  · go_enter Try.func83, Try.ntmps83
    go_wp2
    go_ret
    exact ⟨ret_int (by omega), rfl⟩
  · go_enter Try.func83, Try.ntmps83
    go_wp2
    go_ret
    exact ⟨ret_int (by omega), rfl⟩
end Go.Proofs.Ytkijfneaglogmaa
