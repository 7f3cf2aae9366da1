/-
  cmp.Compare at ints.
-/
import Derived.Test.YtoehedogdbafpaaProg
import Derived.Test.YtoehedogdbafpaaBase
namespace Go.Proofs.Ytoehedogdbafpaa
open Go.RowKit
set_option linter.unusedVariables false

/-- cmp.Compare at ints. -/
def cmpZ (u v : Int) : Int := if u < v then -1 else if v < u then 1 else 0
theorem cmpZ_neg (u v : Int) : decide (cmpZ u v < 0) = decide (u < v) := by
  unfold cmpZ
  rw [Bool.eq_iff_iff]
  simp
  split
  · simp; omega
  · split <;> simp <;> omega
set_option maxRecDepth 100000 in
theorem nanZ_any (x : Int) (w : World) : Calls Try.prog 89 #[.int .i64 x] w fun e w' => e = .returned (.bool false) ∧ w = w' := by
  go_enter Try.func89, Try.ntmps89
  go_wp2
  go_ret
  exact ⟨rfl, rfl⟩
set_option maxRecDepth 100000 in
theorem compareZ_any (u v : Int) (w : World) : Calls Try.prog 83 #[.int .i64 u, .int .i64 v] w fun e w' => e = .returned (.int .i64 (cmpZ u v)) ∧ w = w' := by
  by_cases h1 : u < v
  · go_enter Try.func83, Try.ntmps83
    go_wp2_with (go_at_call 89; refine (nanZ_any _ _).mono ?_; rintro e w' ⟨rfl, rfl⟩)
    go_ret
    exact ⟨ret_int (by unfold cmpZ; rw [if_pos h1]), rfl⟩
  · by_cases h2 : v < u
    · go_enter Try.func83, Try.ntmps83
      go_wp2_with (go_at_call 89; refine (nanZ_any _ _).mono ?_; rintro e w' ⟨rfl, rfl⟩)
      go_ret
      exact ⟨ret_int (by unfold cmpZ; rw [if_neg (by omega), if_pos (by omega)]), rfl⟩
    · go_enter Try.func83, Try.ntmps83
      go_wp2_with (go_at_call 89; refine (nanZ_any _ _).mono ?_; rintro e w' ⟨rfl, rfl⟩)
      go_ret
      exact ⟨ret_int (by unfold cmpZ; rw [if_neg (by omega), if_neg (by omega)]), rfl⟩
end Go.Proofs.Ytoehedogdbafpaa
