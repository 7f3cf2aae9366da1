/-
  Serials: 'SerialGap', 'IsBefore', 'InSpan', 'LaterSerial' of the program, and the exact laws of the functions of numbers alone.
-/
import Derived.Test.YtfdpjgjclbnnfaaSer2
namespace Go.Proofs.Ytfdpjgjclbnnfaa
open Go.RowKit Go.Lib
set_option linter.unusedVariables false

theorem two_all (a b : Int) : [a, b].all serB = gapOk a b := by simp [gapOk]
theorem below_row (w : World) (xs : Array Value) (t : TypeId) : Below w.heap.size w (w.alloc (.cells xs t)) := (Below.refl _ _).alloc (Nat.le_refl _) _

theorem areTwo_any (a b : Int) (w : World) :
    Calls Try.prog 51 #[.slice (some ⟨w.heap.size, 0, none⟩) 2 2] (w.alloc (.cells #[.int .i64 a, .int .i64 b] 3)) fun e w' => e = .returned (.bool (gapOk a b)) ∧ w.alloc (.cells #[.int .i64 a, .int .i64 b] 3) = w' := by
  have := areSerials_any (.slice (some ⟨w.heap.size, 0, none⟩) 2 2) [a, b] _ (row_two w a b)
  rw [two_all] at this
  exact this

theorem implGap_any (a b : Int) (w : World) :
    Calls Try.prog 18 #[.int .i64 a, .int .i64 b] w fun e w' => e = .returned (.tuple #[.int .i64 (gapV a b), .bool (gapOk a b)]) ∧ Below w.heap.size w w' := by
  have H2 := Lib.hid (areTwo_any a b w)
  cases ho : gapOk a b with
  | false =>
    go_enter Try.func18, Try.ntmps18
    go_wp2_with (go_at_call 51; refine H2.out.mono ?_; rintro e w' ⟨rfl, rfl⟩)
    go_ret2
    exact ⟨ret_ib (by unfold gapV; rw [ho]; rfl) rfl, below_row _ _ _⟩
  | true =>
    obtain ⟨h1, h2, h3, h4⟩ := gapOk_bd ho
    go_enter Try.func18, Try.ntmps18
    go_wp2_with (first | (go_at_call 51; refine H2.out.mono ?_; rintro e w' ⟨rfl, rfl⟩) | (go_at_call 52; refine (implGapB_any _ _ _ h1 h2 h3 h4).mono ?_; rintro e w' ⟨rfl, rfl⟩))
    go_ret2
    exact ⟨ret_ib (by unfold gapV; rw [if_pos ho]) rfl, below_row _ _ _⟩
theorem gapV_bd (a b : Int) : 0 ≤ gapV a b ∧ gapV a b ≤ 65535 := by
  unfold gapV; split
  · exact gapI_bd a b
  · omega
theorem gapV_bef {a b : Int} : befV a b = (decide (1 ≤ gapV a b) && decide (gapV a b < 32768)) := by
  unfold befV gapV befB inB
  cases gapOk a b with
  | false => simp
  | true => simp; rw [Bool.eq_iff_iff]; simp; omega

theorem implBefore_any (a b : Int) (w : World) :
    Calls Try.prog 21 #[.int .i64 a, .int .i64 b] w fun e w' => e = .returned (.tuple #[.bool (befV a b), .bool (gapOk a b)]) ∧ Below w.heap.size w w' := by
  have HG := Lib.hid (fun w => implGap_any a b w)
  have HB := Lib.hid (@gapV_bef a b)
  obtain ⟨h0, h1⟩ := gapV_bd a b
  generalize gapV a b = g at HG HB h0 h1
  by_cases hl : 1 ≤ g
  · by_cases hh : g < 32768
    · go_enter Try.func21, Try.ntmps21
      go_wp2_with (go_at_call 18; refine (HG.out _).mono ?_; rintro e w1 ⟨rfl, hb⟩)
      go_ret2
      exact ⟨ret_bb (by rw [HB.out, decide_eq_true hl, decide_eq_true hh]; rfl) rfl, hb⟩
    · go_enter Try.func21, Try.ntmps21
      go_wp2_with (go_at_call 18; refine (HG.out _).mono ?_; rintro e w1 ⟨rfl, hb⟩)
      go_ret2
      exact ⟨ret_bb (by rw [HB.out, show decide (1 ≤ g) = true from decide_eq_true hl, Bool.true_and]) rfl, hb⟩
  · go_enter Try.func21, Try.ntmps21
    go_wp2_with (go_at_call 18; refine (HG.out _).mono ?_; rintro e w1 ⟨rfl, hb⟩)
    go_ret2
    exact ⟨ret_bb (by rw [HB.out, show decide (1 ≤ g) = false from decide_eq_false (by omega), Bool.false_and]) rfl, hb⟩
theorem implLater_any (a b : Int) (w : World) :
    Calls Try.prog 23 #[.int .i64 a, .int .i64 b] w fun e w' => e = .returned (.tuple #[.int .i64 (latV a b), .bool (gapOk a b)]) ∧ Below w.heap.size w w' := by
  have HG := Lib.hid (fun w => implBefore_any a b w)
  have HV : Hid (latV a b = if gapOk a b = true then (if befV a b = true then b else a) else 0) := Lib.hid (by
    unfold latV befV; cases gapOk a b <;> simp)
  generalize befV a b = g at HG HV
  generalize gapOk a b = o at HG HV ⊢
  cases o with
  | false =>
    go_enter Try.func23, Try.ntmps23
    go_wp2_with (go_at_call 21; refine (HG.out _).mono ?_; rintro e w1 ⟨rfl, hb⟩)
    go_ret2
    exact ⟨ret_ib (by rw [HV.out]; rfl) rfl, hb⟩
  | true =>
    cases g with
    | false =>
      go_enter Try.func23, Try.ntmps23
      go_wp2_with (go_at_call 21; refine (HG.out _).mono ?_; rintro e w1 ⟨rfl, hb⟩)
      go_ret2
      exact ⟨ret_ib (by rw [HV.out]; rfl) rfl, hb⟩
    | true =>
      go_enter Try.func23, Try.ntmps23
      go_wp2_with (go_at_call 21; refine (HG.out _).mono ?_; rintro e w1 ⟨rfl, hb⟩)
      go_ret2
      exact ⟨ret_ib (by rw [HV.out]; rfl) rfl, hb⟩
theorem implInSpan_any (x a n : Int) (w : World) :
    Calls Try.prog 26 #[.int .i64 x, .int .i64 a, .int .i64 n] w fun e w' => e = .returned (.tuple #[.bool (spanV x a n), .bool (spanOk x a n)]) ∧ Below w.heap.size w w' := by
  have H2 := Lib.hid (areTwo_any x a w)
  cases ho : spanOk x a n with
  | true =>
    obtain ⟨h1, h2, h3, h4, h5, h6⟩ := spanOk_bd ho
    have hg2 : gapOk x a = true := by unfold gapOk; rw [serB_yes h1 h2, serB_yes h3 h4]; rfl
    have HO := Lib.hid ho
    clear ho
    obtain ⟨g, hg⟩ : ∃ g, g = gapI a x := ⟨_, rfl⟩
    have HG := Lib.hid hg
    have HL := Lib.hid (fun w => implGapB_any a x w h3 h4 h1 h2)
    rw [← hg] at HL
    clear hg
    go_enter Try.func26, Try.ntmps26
    go_wp2_with (first | (go_at_call 51; refine H2.out.mono ?_; rintro e w' ⟨rfl, rfl⟩) | (go_at_call 52; refine (HL.out _).mono ?_; rintro e w' ⟨rfl, rfl⟩))
    go_ret2
    exact ⟨ret_bb (by unfold spanV; rw [HO.out, ← HG.out]; rfl) rfl, below_row _ _ _⟩
  | false =>
    have HV : Hid (spanV x a n = false) := Lib.hid (by unfold spanV; rw [ho]; rfl)
    cases hg2 : gapOk x a with
    | false =>
      clear ho
      go_enter Try.func26, Try.ntmps26
      go_wp2_with (go_at_call 51; refine H2.out.mono ?_; rintro e w' ⟨rfl, rfl⟩)
      go_ret2
      exact ⟨ret_bb HV.out.symm rfl, below_row _ _ _⟩
    | true =>
      obtain ⟨h1, h2, h3, h4⟩ := gapOk_bd hg2
      have hb : n < 0 ∨ 65536 < n := by
        rcases Classical.em (0 ≤ n ∧ n ≤ 65536) with h | h
        · unfold spanOk at ho; rw [serB_yes h1 h2, serB_yes h3 h4, inB_yes h.1 h.2] at ho; cases ho
        · omega
      clear ho
      by_cases hlo : n < 0
      · clear hb
        go_enter Try.func26, Try.ntmps26
        go_wp2_with (go_at_call 51; refine H2.out.mono ?_; rintro e w' ⟨rfl, rfl⟩)
        go_ret2
        exact ⟨ret_bb HV.out.symm rfl, below_row _ _ _⟩
      · have hhi : 65536 < n := by omega
        clear hb
        go_enter Try.func26, Try.ntmps26
        go_wp2_with (go_at_call 51; refine H2.out.mono ?_; rintro e w' ⟨rfl, rfl⟩)
        go_ret2
        exact ⟨ret_bb HV.out.symm rfl, below_row _ _ _⟩

theorem fnExactIsSerial_walk (w : World) (a0 : Int) (w0 : (Lit.int .i64 a0).wf = true) (_hsh : w.ShapedOpen Try.prog) :
    Calls Try.prog 5 #[.int .i64 a0] w fun e w' => e = .returned (.bool true) ∧ Below w.heap.size w w' := by
  go_enter Try.func5, Try.ntmps5
  go_wp2_with (first | (go_at_call 28; refine (specIsSerial_any _ _).mono ?_; rintro e w' ⟨rfl, rfl⟩) | (go_at_call 19; refine (implIsSerial_any _ _).mono ?_; rintro e w' ⟨rfl, rfl⟩))
  go_ret
  exact ⟨rfl, Below.refl _ _⟩
theorem fnExactAfterSerial_walk (w : World) (a0 : Int) (w0 : (Lit.int .i64 a0).wf = true) (a1 : Int) (w1 : (Lit.int .i64 a1).wf = true) (_hsh : w.ShapedOpen Try.prog) :
    Calls Try.prog 6 #[.int .i64 a0, .int .i64 a1] w fun e w' => e = .returned (.bool true) ∧ Below w.heap.size w w' := by
  go_enter Try.func6, Try.ntmps6
  go_wp2_with (first | (go_at_call 17; refine (specAfter_any _ _ _).mono ?_; rintro e w' ⟨rfl, rfl⟩) | (go_at_call 16; refine (implAfter_any _ _ _).mono ?_; rintro e w' ⟨rfl, rfl⟩))
  go_ret
  exact ⟨rfl, Below.refl _ _⟩
theorem fnExactSerialGap_walk (w : World) (a0 : Int) (w0 : (Lit.int .i64 a0).wf = true) (a1 : Int) (w1 : (Lit.int .i64 a1).wf = true) (_hsh : w.ShapedOpen Try.prog) :
    Calls Try.prog 7 #[.int .i64 a0, .int .i64 a1] w fun e w' => e = .returned (.bool true) ∧ Below w.heap.size w w' := by
  go_enter Try.func7, Try.ntmps7
  go_wp2_with (first | (go_at_call 40; refine (specGap_any _ _ _).mono ?_; rintro e w' ⟨rfl, rfl⟩) | (go_at_call 18; refine (implGap_any _ _ _).mono ?_; rintro e w1 ⟨rfl, hb⟩))
  go_ret
  exact ⟨rfl, hb⟩
theorem fnExactIsBefore_walk (w : World) (a0 : Int) (w0 : (Lit.int .i64 a0).wf = true) (a1 : Int) (w1 : (Lit.int .i64 a1).wf = true) (_hsh : w.ShapedOpen Try.prog) :
    Calls Try.prog 8 #[.int .i64 a0, .int .i64 a1] w fun e w' => e = .returned (.bool true) ∧ Below w.heap.size w w' := by
  go_enter Try.func8, Try.ntmps8
  go_wp2_with (first | (go_at_call 22; refine (specBefore_any _ _ _).mono ?_; rintro e w' ⟨rfl, rfl⟩) | (go_at_call 21; refine (implBefore_any _ _ _).mono ?_; rintro e w1 ⟨rfl, hb⟩))
  go_ret
  exact ⟨rfl, hb⟩
theorem fnExactLaterSerial_walk (w : World) (a0 : Int) (w0 : (Lit.int .i64 a0).wf = true) (a1 : Int) (w1 : (Lit.int .i64 a1).wf = true) (_hsh : w.ShapedOpen Try.prog) :
    Calls Try.prog 10 #[.int .i64 a0, .int .i64 a1] w fun e w' => e = .returned (.bool true) ∧ Below w.heap.size w w' := by
  go_enter Try.func10, Try.ntmps10
  go_wp2_with (first | (go_at_call 24; refine (specLater_any _ _ _).mono ?_; rintro e w' ⟨rfl, rfl⟩) | (go_at_call 23; refine (implLater_any _ _ _).mono ?_; rintro e w1 ⟨rfl, hb⟩))
  go_ret
  exact ⟨rfl, hb⟩
theorem fnExactInSpan_walk (w : World) (a0 : Int) (w0 : (Lit.int .i64 a0).wf = true) (a1 : Int) (w1 : (Lit.int .i64 a1).wf = true) (a2 : Int) (w2 : (Lit.int .i64 a2).wf = true) (_hsh : w.ShapedOpen Try.prog) :
    Calls Try.prog 9 #[.int .i64 a0, .int .i64 a1, .int .i64 a2] w fun e w' => e = .returned (.bool true) ∧ Below w.heap.size w w' := by
  go_enter Try.func9, Try.ntmps9
  go_wp2_with (first | (go_at_call 27; refine (specInSpan_any _ _ _ _).mono ?_; rintro e w' ⟨rfl, rfl⟩) | (go_at_call 26; refine (implInSpan_any _ _ _ _).mono ?_; rintro e w1 ⟨rfl, hb⟩))
  go_ret
  exact ⟨rfl, hb⟩
end Go.Proofs.Ytfdpjgjclbnnfaa
