/-
  The walk of the exact law of FormatInt.
-/
import Derived.Test.YtjdlkkhkaobpnaaDoorTab

namespace Go.Proofs.YtjdlkkhkaobpnaaDoor
open Go.RowKit

set_option maxHeartbeats 400000 in
theorem fnExactFormatInt_walk (w : World) (a0 : Int) (_w0 : (Lit.int .i64 a0).wf = true) (_hsh : w.ShapedOpen Tryd.prog) (hL : laidMetH Tryd.prog Rows.fnExactFormatIntRow.laid w) :
    Calls Tryd.prog 4 #[.int .i64 a0] w fun e w' => e = .returned (.bool true) ∧ Below w.heap.size w w' := by
  have ht : Tab w := tab_of_laid hL rfl (by simp [Rows.fnExactFormatIntRow])
  clear hL
  by_cases h : -999999 ≤ a0 ∧ a0 ≤ 999999
  · have e1 := Lib.hid (fmtOut_yes h)
    clear h
    go_enter Tryd.func4, Tryd.ntmps4
    go_wp2_with (first | (go_at_call 11; refine (specFormatInt_any _ _).mono ?_; rintro e w' ⟨rfl, k, rfl⟩; rw [e1.out]) | (go_at_call 10; refine (implFormatInt_any _ _ (ht.below (bdrew _ _))).mono ?_; rintro e w' ⟨rfl, hb⟩; rw [e1.out]))
    go_ret
    exact ⟨rfl, (bdrew _ _).trans hb⟩
  · have e1 := Lib.hid (fmtOut_no h)
    clear h
    go_enter Tryd.func4, Tryd.ntmps4
    go_wp2_with (first | (go_at_call 11; refine (specFormatInt_any _ _).mono ?_; rintro e w' ⟨rfl, k, rfl⟩; rw [e1.out]) | (go_at_call 10; refine (implFormatInt_any _ _ (ht.below (bdrew _ _))).mono ?_; rintro e w' ⟨rfl, hb⟩; rw [e1.out]))
    go_ret
    exact ⟨rfl, (bdrew _ _).trans hb⟩
end Go.Proofs.YtjdlkkhkaobpnaaDoor
