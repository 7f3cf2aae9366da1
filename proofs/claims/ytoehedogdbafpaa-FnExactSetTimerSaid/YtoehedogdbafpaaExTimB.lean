/-
  What the exact laws of timers share: lengths of results.
-/
import Derived.Test.YtoehedogdbafpaaTimI6
import Derived.Test.YtoehedogdbafpaaTimB
import Derived.Test.YtoehedogdbafpaaTimS
import Derived.Test.YtoehedogdbafpaaTimW
import Derived.WalkLawsBesides
import Derived.Deep.RegionHeld3
import Derived.Deep.CutRange
namespace Go.Proofs.Ytoehedogdbafpaa
open Go.RowKit Go.Lib Go.Joins
set_option linter.unusedVariables false

theorem wo_len_n (xs : List Tm) (a : Int) (n : Nat) (h : xs.length ≤ n) : (wo xs a).length ≤ n := Nat.le_trans (wo_len xs a) h
theorem setV_len (s : List Tm) (t : Tm) : (setV s t).length ≤ 65536 := by
  unfold setV
  by_cases h : setOk s t = true
  · rw [if_pos h]
    have hv : tsOk (putT s t) = true := by unfold setOk at h; exact (Bool.and_eq_true_iff.1 h).2
    have := tsOk_len hv; omega
  · rw [if_neg h]; simp
theorem stopV_len (s : List Tm) (a : Int) : (stopV s a).length ≤ 65536 := by
  unfold stopV
  by_cases h : stopOk s a = true
  · rw [if_pos h]
    have := tsOk_len (stopOk_iff.1 h).1
    have := wo_len s a
    omega
  · rw [if_neg h]; simp
theorem fireV_len (s : List Tm) (a : Int) : (fireV s a).length ≤ 65536 := by
  by_cases h : stopOk s a = true
  · have := tsOk_len (fire_law h).2.1; omega
  · unfold fireV; rw [if_neg h]; simp
theorem dueV_len (s : List Tm) (now : Int) : (dueV s now).length ≤ 65536 := by
  unfold dueV
  by_cases h : dueOk s now = true
  · rw [if_pos h]
    have hv : tsOk s = true := by unfold dueOk at h; exact (Bool.and_eq_true_iff.1 h).1
    have := due_len s.length s (Nat.le_refl _) (tsOk_iff.1 hv).2.1 (now := now)
    have := tsOk_len hv
    have := List.length_filter_le (fun t : Tm => decide (t.d ≤ now)) s
    omega
  · rw [if_neg h]; simp
theorem runV_len (s : List Tm) (now : Int) : (runV s now).length ≤ 65536 ∧ (runF s now).length ≤ 65536 := by
  cases h : runOk s now with
  | true =>
    obtain ⟨_, _, h3, _, _, _, _, _, h9⟩ := runs_law h
    have := tsOk_len h3
    exact ⟨by omega, by omega⟩
  | false =>
    unfold runOk at h
    unfold runV runF
    cases hr : runR s now with
    | none => simp
    | some r => rw [hr] at h; cases h
end Go.Proofs.Ytoehedogdbafpaa
