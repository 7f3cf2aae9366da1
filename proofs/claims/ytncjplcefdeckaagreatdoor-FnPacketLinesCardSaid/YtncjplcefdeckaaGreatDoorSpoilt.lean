/-
  The draws that spoil a text, and the draw of a packet's text.
-/
import Derived.Test.YtncjplcefdeckaaGreatDoorDraw1
import Derived.Test.YtncjplcefdeckaaGreatDoorAmong
import Derived.Deep.QuietTactic
import Derived.BigQuiet
namespace Go.Proofs.YtncjplcefdeckaaGreatDoor
open Go.RowKit Go.Lib
set_option linter.unusedVariables false

theorem gdrewN (W : World) (n : Nat) (row : Option Nat) : W.grownBy (W.drewN n) row := ⟨rfl, rfl, rfl, Nat.le_refl _, fun _ _ _ => rfl⟩
set_option maxHeartbeats 1000000 in
theorem spoilt_any (B m : Nat) (z : List Int) (t u : ByteArray) (w : World) (h : Cu w B z m) (hm : m ≤ 600000) (ht : t.size ≤ 60000) (hu : 1 ≤ u.size) (hu2 : u.size ≤ 1000) :
    Calls Tryz.prog 26 #[.pointer (some ⟨B, 0, none⟩), .string t, .string u] w fun e w' => ∃ s : ByteArray, s.size ≤ t.size + 1 ∧ e = .returned (.string s) ∧ Cu w' B z (m + 6) ∧ w.grownBy w' (some B) := by
  have HH := Lib.hid h
  clear h
  have hu' : (1 : Int) ≤ (u.size : Int) := by omega
  by_cases h0 : t.size = 0
  · obtain rfl : t = ⟨#[]⟩ := ByteArray.ext (Array.eq_empty_of_size_eq_zero h0)
    clear h0
    go_enter Tryz.func26, Tryz.ntmps26
    go_wp2_with fail
    go_ret
    exact ⟨_, by simp; omega, rfl, HH.out.mono (by omega), g_refl _ _⟩
  · have hne : (t.toList == ([] : List UInt8)) = false := by
      rw [beq_eq_false_iff_ne]
      intro e
      apply h0
      rw [ByteArray.toList_eq] at e
      exact congrArg List.length e
    go_enter Tryz.func26, Tryz.ntmps26
    go_wp2_with fail
    refine (pick_any B m t.size z _ HH.out (by omega) (by omega) (by omega)).mono ?_
    rintro e w1 ⟨i, hi, rfl, hc, hg⟩
    have HC := Lib.hid hc
    have HG := Lib.hid hg
    clear hc hg HH
    go_wp2_with fail
    refine (pick_any B (m + 2) u.size z _ HC.out (by omega) (by omega) (by omega)).mono ?_
    rintro e w2 ⟨j, hj, rfl, hc, hg⟩
    have HC2 := Lib.hid hc
    have HG2 := Lib.hid (g_trans HG.out hg)
    clear hc hg HC HG
    go_wp2_with fail
    refine (pick_any B (m + 2 + 2) 3 z _ HC2.out (by omega) (by omega) (by omega)).mono ?_
    rintro e w3 ⟨p, hp, rfl, hc, hg⟩
    have HC3 := Lib.hid hc
    have HG3 := Lib.hid (g_trans HG2.out hg)
    clear hc hg HC2 HG2
    obtain ⟨c, hc⟩ : ∃ c, c = (u.extract j u.size).extract 0 1 := ⟨_, rfl⟩
    have hc1 : c.size ≤ 1 := by rw [hc]; simp; omega
    rw [← hc]
    clear hc
    have a1 : (t.extract 0 i).size = i := by simp; omega
    have a2 : (t.extract i t.size).size = t.size - i := by simp
    have a3 : (t.extract (i + 1) t.size).size = t.size - (i + 1) := by simp
    have a4 : (t.extract 0 i ++ c).size = i + c.size := by rw [ByteArray.size_append, a1]
    have b1 : (t.extract 0 i).size + c.size ≤ 9223372036854775807 := by omega
    have b2 : (t.extract 0 i ++ c).size + (t.extract i t.size).size ≤ 9223372036854775807 := by omega
    have b3 : (t.extract 0 i ++ c).size + (t.extract (i + 1) t.size).size ≤ 9223372036854775807 := by omega
    have b4 : (t.extract 0 i).size + (t.extract (i + 1) t.size).size ≤ 9223372036854775807 := by omega
    have i1 : (i : Int) ≤ (t.size : Int) := by omega
    have i2 : (i : Int) + 1 ≤ (t.size : Int) := by omega
    by_cases p0 : p = 0
    · subst p0
      go_wp2_with fail
      go_quiet (fail)
      go_wp2_with fail
      go_ret
      exact ⟨_, by rw [ByteArray.size_append, a4, a2]; omega, rfl, HC3.out, g_trans HG3.out (gdrewN _ _ _)⟩
    by_cases p1 : p = 1
    · subst p1
      go_wp2_with fail
      go_quiet (fail)
      go_wp2_with fail
      go_ret
      exact ⟨_, by rw [ByteArray.size_append, a4, a3]; omega, rfl, HC3.out, g_trans HG3.out (gdrewN _ _ _)⟩
    · have e0 : ¬ (p : Int) = 0 := by omega
      have e1 : ¬ (p : Int) = 1 := by omega
      clear p0 p1
      go_wp2_with fail
      go_quiet (fail)
      go_wp2_with fail
      go_ret
      exact ⟨_, by rw [ByteArray.size_append, a1, a3]; omega, rfl, HC3.out, g_trans HG3.out (gdrewN _ _ _)⟩
end Go.Proofs.YtncjplcefdeckaaGreatDoor
