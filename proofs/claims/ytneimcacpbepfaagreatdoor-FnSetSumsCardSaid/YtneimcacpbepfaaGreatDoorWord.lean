/-
  Words: the functions of numbers and of lists of numbers, of both packages.
-/
import Derived.Test.YtneimcacpbepfaaGreatDoorWordMath
import Derived.Test.YtneimcacpbepfaaGreatDoorSer2
import Derived.Test.YtneimcacpbepfaaGreatDoorIdx
import Derived.Test.YtneimcacpbepfaaGreatDoorOwn
import Derived.WalkArith
import Derived.Laws.BitsAllLaws
namespace Go.Proofs.YtneimcacpbepfaaGreatDoor
open Go.RowKit Go.Lib
set_option linter.unusedVariables false

theorem row_one (w : World) (a : Int) : Row (w.alloc (.cells #[.int .i64 a] 3)) (.slice (some ⟨w.heap.size, 0, none⟩) 1 1) [a].length ([a].map (Value.int .i64)) :=
  row_made w [.int .i64 a] 3 1 rfl (by unfold maxLen; omega)
theorem row_three (w : World) (a b c : Int) : Row (w.alloc (.cells #[.int .i64 a, .int .i64 b, .int .i64 c] 3)) (.slice (some ⟨w.heap.size, 0, none⟩) 3 3) [a, b, c].length ([a, b, c].map (Value.int .i64)) :=
  row_made w [.int .i64 a, .int .i64 b, .int .i64 c] 3 3 rfl (by unfold maxLen; omega)

def outB (x : Int) : Bool := !serB x
theorem outB_lo {x : Int} (h : x < 0) : outB x = true := by unfold outB; rw [serB_no (by omega)]; rfl
theorem outB_hi {x : Int} (h : 65535 < x) : outB x = true := by unfold outB; rw [serB_no (by omega)]; rfl
theorem outB_in {x : Int} (h0 : 0 ≤ x) (h1 : x ≤ 65535) : outB x = false := by unfold outB; rw [serB_yes h0 h1]; rfl
theorem outB_any (xs : List Int) : (!xs.any outB) = xs.all serB := by
  induction xs with
  | nil => rfl
  | cons x xs ih =>
    rw [List.any_cons, List.all_cons, Bool.not_or, ih]
    unfold outB
    rw [Bool.not_not]

theorem areWords1_any (x : Int) (w : World) :
    Calls Tryz.prog 56 #[.int .i64 x] w fun e w' => e = .returned (.bool (outB x)) ∧ w = w' := by
  by_cases h0 : x < 0
  · go_enter Tryz.func56, Tryz.ntmps56
    go_wp2
    go_ret
    exact ⟨ret_bool (outB_lo h0).symm, rfl⟩
  · by_cases h1 : 65535 < x
    · go_enter Tryz.func56, Tryz.ntmps56
      go_wp2
      go_ret
      exact ⟨ret_bool (outB_hi h1).symm, rfl⟩
    · go_enter Tryz.func56, Tryz.ntmps56
      go_wp2
      go_ret
      exact ⟨ret_bool (outB_in (by omega) (by omega)).symm, rfl⟩
theorem areWords_any (v : Value) (xs : List Int) (w : World) (hrow : Row w v xs.length (xs.map (Value.int .i64))) :
    Calls Tryz.prog 35 #[v] w fun e w' => e = .returned (.bool (xs.all serB)) ∧ w = w' := by
  have eg : ∀ args w, (callFunc 56 args).run Tryz.prog w = .ok (.enter 56 args) w := enters_of Tryz.func56 (by kernel_rfl) rfl
  have HI := Lib.hid (containsFunc_any outB v xs 56 #[] w hrow eg (fun x => areWords1_any x w))
  obtain ⟨a, cap, rfl, _, _, _⟩ := row_open hrow
  have HB := Lib.hid (outB_any xs)
  clear hrow eg
  generalize xs.any outB = r at HI HB
  go_enter Tryz.func35, Tryz.ntmps35
  go_wp2_with (go_at_call 55; refine HI.out.mono ?_; rintro e w' ⟨rfl, rfl⟩)
  go_ret
  exact ⟨ret_bool HB.out, rfl⟩
end Go.Proofs.YtneimcacpbepfaaGreatDoor
