/-
  Serials: 'SerialGap', 'IsBefore', 'InSpan', 'LaterSerial' of the program, and the exact laws of the functions of numbers alone.
-/
import Derived.Test.YtlendmiolhgecaaSer2
namespace Go.Proofs.Ytlendmiolhgecaa
open Go.RowKit Go.Lib
set_option linter.unusedVariables false

theorem two_all (a b : Int) : [a, b].all serB = gapOk a b := by simp [gapOk]
theorem below_row (w : World) (xs : Array Value) (t : TypeId) : Below w.heap.size w (w.alloc (.cells xs t)) := (Below.refl _ _).alloc (Nat.le_refl _) _

theorem areTwo_any (a b : Int) (w : World) :
    Calls Try.prog 124 #[.slice (some ⟨w.heap.size, 0, none⟩) 2 2] (w.alloc (.cells #[.int .i64 a, .int .i64 b] 3)) fun e w' => e = .returned (.bool (gapOk a b)) ∧ w.alloc (.cells #[.int .i64 a, .int .i64 b] 3) = w' := by
  have := areSerials_any (.slice (some ⟨w.heap.size, 0, none⟩) 2 2) [a, b] _ (row_two w a b)
  rw [two_all] at this
  exact this

theorem implGap_any (a b : Int) (w : World) :
    Calls Try.prog 102 #[.int .i64 a, .int .i64 b] w fun e w' => e = .returned (.tuple #[.int .i64 (gapV a b), .bool (gapOk a b)]) ∧ Below w.heap.size w w' := by
  have H2 := Lib.hid (areTwo_any a b w)
  cases ho : gapOk a b with
  | false =>
    go_enter Try.func102, Try.ntmps102
    go_wp2_with (go_at_call 124; refine H2.out.mono ?_; rintro e w' ⟨rfl, rfl⟩)
    go_ret2
    exact ⟨ret_ib (by unfold gapV; rw [ho]; rfl) rfl, below_row _ _ _⟩
  | true =>
    obtain ⟨h1, h2, h3, h4⟩ := gapOk_bd ho
    go_enter Try.func102, Try.ntmps102
    go_wp2_with (first | (go_at_call 124; refine H2.out.mono ?_; rintro e w' ⟨rfl, rfl⟩) | (go_at_call 55; refine (implGapB_any _ _ _ h1 h2 h3 h4).mono ?_; rintro e w' ⟨rfl, rfl⟩))
    go_ret2
    exact ⟨ret_ib (by unfold gapV; rw [if_pos ho]) rfl, below_row _ _ _⟩
theorem gapV_bd (a b : Int) : 0 ≤ gapV a b ∧ gapV a b ≤ 65535 := by
  unfold gapV; split
  · exact gapI_bd a b
  · omega
theorem gapV_bef {a b : Int} : befV a b = (decide (1 ≤ gapV a b) && decide (gapV a b < 32768)) := by
  unfold befV gapV befB inB
  cases gapOk a b with
  | false => simp
  | true => simp; rw [Bool.eq_iff_iff]; simp; omega


end Go.Proofs.Ytlendmiolhgecaa
