/-
  Timers, the program's way: ticks, timers, valid lists; where a timer goes.
-/
import Derived.Test.YtoehedogdbafpaaTim5
import Derived.Test.YtoehedogdbafpaaCmpZ
import Derived.Shelf.Abstract
import Derived.Deep.CutRange
namespace Go.Proofs.Ytoehedogdbafpaa
open Go.RowKit Go.Lib Go.Joins
set_option linter.unusedVariables false

set_option maxRecDepth 100000 in
theorem isTick_any (x : Int) (w : World) :
    Calls Try.prog 54 #[.int .i64 x] w fun e w' => e = .returned (.bool (tk x)) ∧ w = w' := by
  by_cases h1 : 0 ≤ x
  · have d1 : decide (0 ≤ x) = true := decide_eq_true h1
    by_cases h2 : x ≤ 10000
    · have d2 : decide (x ≤ 10000) = true := decide_eq_true h2
      rw [tk_iff.2 ⟨h1, h2⟩]
      go_enter Try.func54, Try.ntmps54
      go_wp2_with fail
      go_ret
      exact ⟨rfl, rfl⟩
    · have d2 : decide (x ≤ 10000) = false := decide_eq_false h2
      rw [tk_no (fun h => h2 h.2)]
      go_enter Try.func54, Try.ntmps54
      go_wp2_with fail
      go_ret
      exact ⟨rfl, rfl⟩
  · have d1 : decide (0 ≤ x) = false := decide_eq_false h1
    rw [tk_no (fun h => h1 h.1)]
    go_enter Try.func54, Try.ntmps54
    go_wp2_with fail
    go_ret
    exact ⟨rfl, rfl⟩
set_option maxRecDepth 100000 in
set_option maxHeartbeats 2000000 in
theorem isTimer_any (t : Tm) (w : World) :
    Calls Try.prog 63 #[.agg #[.int .i64 t.i, .int .i64 t.d, .int .i64 t.p]] w fun e w' => e = .returned (.bool (tmOk t)) ∧ Below w.heap.size w w' := by
  obtain ⟨W, hW⟩ : ∃ W, W = w.alloc (.cells #[.int .i64 t.i, .int .i64 t.d, .int .i64 t.p] 42) := ⟨_, rfl⟩
  have HB : Hid (Below w.heap.size w W) := Lib.hid (by rw [hW]; exact (Below.refl w.heap.size w).alloc (Nat.le_refl _) _)
  have hT : Tb W w.heap.size t := by rw [hW]; exact Tb.new w t
  have HW := Lib.hid hW
  obtain ⟨x0, x1, x2⟩ := hT.cells
  obtain ⟨R, hR⟩ : ∃ R, R = w.heap.size := ⟨_, rfl⟩
  rw [← hR] at x0 x1 x2
  have HR := Lib.hid hR
  have e0 : tmOk t = (decide (1 ≤ t.i ∧ t.i ≤ 99) && (tk t.d && tk t.p)) := rfl
  rw [e0]
  have C1 := Lib.hid (isTick_any t.d)
  have C2 := Lib.hid (isTick_any t.p)
  clear hW hT hR e0
  generalize tk t.d = b1 at C1 ⊢
  generalize tk t.p = b2 at C2 ⊢
  by_cases h1 : 1 ≤ t.i
  · have d1 : decide (1 ≤ t.i) = true := decide_eq_true h1
    by_cases h2 : t.i ≤ 99
    · have d2 : decide (t.i ≤ 99) = true := decide_eq_true h2
      have e1 : decide (1 ≤ t.i ∧ t.i ≤ 99) = true := decide_eq_true ⟨h1, h2⟩
      rw [e1]
      clear e1
      cases b1 <;> cases b2
      all_goals
        go_enter Try.func63, Try.ntmps63
        go_upto_region 1 with fail
        rw [← HW.out, ← HR.out]
        go_wp2_with ((go_at_call 54; first | (refine (C1.out _).mono ?_; rintro e w' ⟨rfl, rfl⟩) | (refine (C2.out _).mono ?_; rintro e w' ⟨rfl, rfl⟩)))
        go_ret
        exact ⟨rfl, HB.out⟩
    · have d2 : decide (t.i ≤ 99) = false := decide_eq_false h2
      have e1 : decide (1 ≤ t.i ∧ t.i ≤ 99) = false := decide_eq_false (fun h => h2 h.2)
      rw [e1]
      clear e1
      go_enter Try.func63, Try.ntmps63
      go_upto_region 1 with fail
      rw [← HW.out, ← HR.out]
      go_wp2_with fail
      go_ret
      exact ⟨rfl, HB.out⟩
  · have d1 : decide (1 ≤ t.i) = false := decide_eq_false h1
    have e1 : decide (1 ≤ t.i ∧ t.i ≤ 99) = false := decide_eq_false (fun h => h1 h.1)
    rw [e1]
    clear e1
    go_enter Try.func63, Try.ntmps63
    go_upto_region 1 with fail
    rw [← HW.out, ← HR.out]
    go_wp2_with fail
    go_ret
    exact ⟨rfl, HB.out⟩
set_option maxRecDepth 100000 in
theorem placeKey_any (t : Tm) (x : Int) (w : World) :
    Calls Try.prog 87 #[.agg #[.int .i64 t.i, .int .i64 t.d, .int .i64 t.p], .int .i64 x] w fun e w' => e = .returned (.int .i64 (cmpZ t.i x)) ∧ Below w.heap.size w w' := by
  have HB : Hid (Below w.heap.size w (w.alloc (.cells #[.int .i64 t.i, .int .i64 t.d, .int .i64 t.p] 42))) := Lib.hid ((Below.refl w.heap.size w).alloc (Nat.le_refl _) _)
  have HC := Lib.hid (compareZ_any t.i x)
  generalize cmpZ t.i x = c at HC ⊢
  go_enter Try.func87, Try.ntmps87
  go_wp2_with (go_at_call 83; refine (HC.out _).mono ?_; rintro e w' ⟨rfl, rfl⟩)
  go_ret
  exact ⟨rfl, HB.out⟩
theorem cmpZ_lt {u v : Int} (h : u < v) : cmpZ u v = -1 := by unfold cmpZ; rw [if_pos h]
theorem cmpZ_ge {u v : Int} (h : ¬ u < v) : ¬ cmpZ u v < 0 := by
  have := cmpZ_neg u v
  rw [decide_eq_false h] at this
  exact of_decide_eq_false this
theorem cmpZ_eq (u v : Int) : (cmpZ u v == 0) = decide (u = v) := by
  unfold cmpZ
  by_cases h1 : u < v
  · rw [if_pos h1]; simp; omega
  · rw [if_neg h1]
    by_cases h2 : v < u
    · rw [if_pos h2]; simp; omega
    · rw [if_neg h2]; simp; omega
theorem asc_lo {s : List Tm} (h : Asc s) {x : Int} {k : Nat} (hk : k < s.length) (hx : s[k].i < x) : ∀ j (hj : j < s.length), j < k + 1 → s[j].i < x := by
  intro j hj hjk
  by_cases e : j = k
  · subst e; exact hx
  · have := List.pairwise_iff_getElem.1 h j k hj hk (by omega)
    omega
theorem asc_hi {s : List Tm} (h : Asc s) {x : Int} {k : Nat} (hk : k < s.length) (hx : ¬ s[k].i < x) : ∀ j (hj : j < s.length), k ≤ j → ¬ s[j].i < x := by
  intro j hj hjk
  by_cases e : j = k
  · subst e; exact hx
  · have := List.pairwise_iff_getElem.1 h k j hk hj (by omega)
    omega
end Go.Proofs.Ytoehedogdbafpaa
