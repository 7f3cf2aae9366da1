/-
  Serials: the functions of numbers alone, of both packages.
-/
import Derived.Test.YtoehedogdbafpaaProg
import Derived.Test.YtoehedogdbafpaaBase
import Derived.Test.YtoehedogdbafpaaFill
import Derived.WalkKit
import Derived.Lib.Hide
namespace Go.Proofs.Ytoehedogdbafpaa
open Go.RowKit Go.Lib

/-- Whether a number is a serial. -/
def serB (x : Int) : Bool := decide (0 ≤ x ∧ x ≤ 65535)
theorem serB_yes {x : Int} (h0 : 0 ≤ x) (h1 : x ≤ 65535) : serB x = true := decide_eq_true ⟨h0, h1⟩
theorem serB_no {x : Int} (h : ¬ (0 ≤ x ∧ x ≤ 65535)) : serB x = false := decide_eq_false h
theorem serB_bd {x : Int} (h : serB x = true) : 0 ≤ x ∧ x ≤ 65535 := of_decide_eq_true h
/-- Whether a number lies between two others. -/
def inB (x lo hi : Int) : Bool := decide (lo ≤ x ∧ x ≤ hi)
theorem inB_yes {x lo hi : Int} (h0 : lo ≤ x) (h1 : x ≤ hi) : inB x lo hi = true := decide_eq_true ⟨h0, h1⟩
theorem inB_no {x lo hi : Int} (h : ¬ (lo ≤ x ∧ x ≤ hi)) : inB x lo hi = false := decide_eq_false h
theorem inB_bd {x lo hi : Int} (h : inB x lo hi = true) : lo ≤ x ∧ x ≤ hi := of_decide_eq_true h
theorem serB_in (x : Int) : inB x 0 65535 = serB x := rfl
/-- The serial n steps behind x. -/
def aftI (x n : Int) : Int := (x + n + 65536) % 65536
/-- The gap from a to b. -/
def gapI (a b : Int) : Int := (b - a + 65536) % 65536
theorem aftI_bd (x n : Int) : 0 ≤ aftI x n ∧ aftI x n ≤ 65535 := by unfold aftI; omega
theorem gapI_bd (a b : Int) : 0 ≤ gapI a b ∧ gapI a b ≤ 65535 := by unfold gapI; omega

theorem l1In_any (x lo hi : Int) (w : World) :
    Calls Try.prog 77 #[.int .i64 x, .int .i64 lo, .int .i64 hi] w fun e w' => e = .returned (.bool (inB x lo hi)) ∧ w = w' := by
  by_cases h0 : lo ≤ x
  · by_cases h1 : x ≤ hi
    · go_enter Try.func77, Try.ntmps77
      go_wp2
      go_ret
      exact ⟨ret_bool (inB_yes h0 h1).symm, rfl⟩
    · go_enter Try.func77, Try.ntmps77
      go_wp2
      go_ret
      exact ⟨ret_bool (inB_no (by omega)).symm, rfl⟩
  · go_enter Try.func77, Try.ntmps77
    go_wp2
    go_ret
    exact ⟨ret_bool (inB_no (by omega)).symm, rfl⟩
end Go.Proofs.Ytoehedogdbafpaa
