/-
  The draw of a tree's text, mostly.
-/
import Derived.Test.YtejdphfcogfcmaaGreatDoorTl1
import Derived.Deep.QuietTactic
import Derived.BigQuiet
import Derived.Test.YtejdphfcogfcmaaGreatDoorTl4
import Derived.Test.YtejdphfcogfcmaaGreatDoorTree6
namespace Go.Proofs.YtejdphfcogfcmaaGreatDoor
open Go.RowKit Go.Lib
set_option linter.unusedVariables false

theorem gdrewN (W : World) (n : Nat) (row : Option Nat) : W.grownBy (W.drewN n) row := ⟨rfl, rfl, rfl, Nat.le_refl _, fun _ _ _ => rfl⟩
set_option maxHeartbeats 1000000 in
theorem spoilt_any (B m : Nat) (z : List Int) (t u : ByteArray) (w : World) (h : Cu w B z m) (hm : m ≤ 600000) (ht : t.size ≤ 60000) (hu : 1 ≤ u.size) (hu2 : u.size ≤ 1000) :
    Calls Tryz.prog 29 #[.pointer (some ⟨B, 0, none⟩), .string t, .string u] w fun e w' => ∃ s : ByteArray, s.size ≤ t.size + 1 ∧ e = .returned (.string s) ∧ Cu w' B z (m + 6) ∧ w.grownBy w' (some B) := by
  have HH := Lib.hid h
  clear h
  have hu' : (1 : Int) ≤ (u.size : Int) := by omega
  by_cases h0 : t.size = 0
  · obtain rfl : t = ⟨#[]⟩ := ByteArray.ext (Array.eq_empty_of_size_eq_zero h0)
    clear h0
    go_enter Tryz.func29, Tryz.ntmps29
    go_wp2_with fail
    go_ret
    exact ⟨_, by simp; omega, rfl, HH.out.mono (by omega), g_refl _ _⟩
  · have hne : (t.toList == ([] : List UInt8)) = false := by
      rw [beq_eq_false_iff_ne]
      intro e
      apply h0
      rw [ByteArray.toList_eq] at e
      exact congrArg List.length e
    go_enter Tryz.func29, Tryz.ntmps29
    go_wp2_with fail
    refine (pick_any B m t.size z _ HH.out (by omega) (by omega) (by omega)).mono ?_
    rintro e w1 ⟨i, hi, rfl, hc, hg⟩
    have HC := Lib.hid hc
    have HG := Lib.hid hg
    clear hc hg HH
    go_wp2_with fail
    refine (pick_any B (m + 2) u.size z _ HC.out (by omega) (by omega) (by omega)).mono ?_
    rintro e w2 ⟨j, hj, rfl, hc, hg⟩
    have HC2 := Lib.hid hc
    have HG2 := Lib.hid (g_trans HG.out hg)
    clear hc hg HC HG
    go_wp2_with fail
    refine (pick_any B (m + 2 + 2) 3 z _ HC2.out (by omega) (by omega) (by omega)).mono ?_
    rintro e w3 ⟨p, hp, rfl, hc, hg⟩
    have HC3 := Lib.hid hc
    have HG3 := Lib.hid (g_trans HG2.out hg)
    clear hc hg HC2 HG2
    obtain ⟨c, hc⟩ : ∃ c, c = (u.extract j u.size).extract 0 1 := ⟨_, rfl⟩
    have hc1 : c.size ≤ 1 := by rw [hc]; simp; omega
    rw [← hc]
    clear hc
    have a1 : (t.extract 0 i).size = i := by simp; omega
    have a2 : (t.extract i t.size).size = t.size - i := by simp
    have a3 : (t.extract (i + 1) t.size).size = t.size - (i + 1) := by simp
    have a4 : (t.extract 0 i ++ c).size = i + c.size := by rw [ByteArray.size_append, a1]
    have b1 : (t.extract 0 i).size + c.size ≤ 9223372036854775807 := by omega
    have b2 : (t.extract 0 i ++ c).size + (t.extract i t.size).size ≤ 9223372036854775807 := by omega
    have b3 : (t.extract 0 i ++ c).size + (t.extract (i + 1) t.size).size ≤ 9223372036854775807 := by omega
    have b4 : (t.extract 0 i).size + (t.extract (i + 1) t.size).size ≤ 9223372036854775807 := by omega
    have i1 : (i : Int) ≤ (t.size : Int) := by omega
    have i2 : (i : Int) + 1 ≤ (t.size : Int) := by omega
    by_cases p0 : p = 0
    · subst p0
      go_wp2_with fail
      go_quiet (fail)
      go_wp2_with fail
      go_ret
      exact ⟨_, by rw [ByteArray.size_append, a4, a2]; omega, rfl, HC3.out, g_trans HG3.out (gdrewN _ _ _)⟩
    by_cases p1 : p = 1
    · subst p1
      go_wp2_with fail
      go_quiet (fail)
      go_wp2_with fail
      go_ret
      exact ⟨_, by rw [ByteArray.size_append, a4, a3]; omega, rfl, HC3.out, g_trans HG3.out (gdrewN _ _ _)⟩
    · have e0 : ¬ (p : Int) = 0 := by omega
      have e1 : ¬ (p : Int) = 1 := by omega
      clear p0 p1
      go_wp2_with fail
      go_quiet (fail)
      go_wp2_with fail
      go_ret
      exact ⟨_, by rw [ByteArray.size_append, a1, a3]; omega, rfl, HC3.out, g_trans HG3.out (gdrewN _ _ _)⟩
end Go.Proofs.YtejdphfcogfcmaaGreatDoor

namespace Go.Proofs.YtejdphfcogfcmaaGreatDoor
open Go.RowKit
set_option linter.unusedVariables false

theorem g_of_below6 {w w' : World} {row : Option Nat} (h : Below w.heap.size w w') : w.grownBy w' row := ⟨h.os, h.tape, h.output, h.size, fun k hk _ => h.block k hk⟩
set_option maxRecDepth 100000 in
set_option maxHeartbeats 1000000 in
theorem drawParseTree_any (v : Value) (z : List Int) (w : World) (hrow : Row w v z.length (z.map (Value.int .u8))) (hz : ∀ x ∈ z, 0 ≤ x ∧ x < 256) :
    Calls Tryz.prog 11 #[v] w fun e w' => ∃ s : ByteArray, e = .returned (.string s) ∧ s.size ≤ 1000 ∧ Below w.heap.size w w' := by
  have HC0 := Lib.hid (cu_new w v z hrow hz)
  obtain ⟨a0, cap0, rfl, _, _, _⟩ := row_open hrow
  clear hrow hz
  go_enter Tryz.func11, Tryz.ntmps11
  go_wp2_with fail
  refine (tree_any w.heap.size 0 z _ HC0.out (by omega)).mono ?_
  rintro e w1 ⟨g, c, p, rfl, ht, hd⟩
  have HD := Lib.hid hd
  have HB1 : Hid (Below w.heap.size w w1) := Lib.hid (((Below.refl _ _).alloc (Nat.le_refl _) _).trans (gbelow hd.2.2.1 (by simp) (Nat.le_refl _)))
  have HX := Lib.hid (l6Text_any (.slice (some ⟨g, 0, none⟩) p.length c) p w1 (row_own hd.1) ht)
  have htx := treeB_size ht
  generalize treeB p = tx at HX htx
  clear hd HC0 ht
  go_wp2_with fail
  refine HX.out.mono ?_
  rintro e w2 ⟨rfl, l2⟩
  have HCu := Lib.hid (HD.out.2.1.grown (g_of_below6 l2))
  have HB2 := Lib.hid (HB1.out.trans (l2.mono HB1.out.size))
  clear l2 HX HD HB1
  go_wp2_with fail
  refine (one_any w.heap.size (0 + 20) 4 z _ HCu.out (by omega) (by omega) (by omega)).mono ?_
  rintro e w3 ⟨b, rfl, hc, hg⟩
  have HCu3 := Lib.hid hc
  have HB3 := Lib.hid (HB2.out.trans (gbelow hg HB2.out.size (Nat.le_refl _)))
  clear hc hg HCu HB2
  cases b with
  | true =>
    go_wp2_with fail
    refine (spoilt_any w.heap.size (0 + 20 + 2) z tx ⟨#[48, 32, 49, 45]⟩ _ HCu3.out (by omega) (by omega) (by decide) (by decide)).mono ?_
    rintro e w4 ⟨s, hs, rfl, hc, hg⟩
    have HB4 := Lib.hid (HB3.out.trans (gbelow hg HB3.out.size (Nat.le_refl _)))
    clear hc hg
    go_wp2_with fail
    go_ret
    exact ⟨s, rfl, by omega, HB4.out⟩
  | false =>
    go_wp2_with fail
    go_ret
    exact ⟨tx, rfl, by omega, HB3.out⟩
end Go.Proofs.YtejdphfcogfcmaaGreatDoor
