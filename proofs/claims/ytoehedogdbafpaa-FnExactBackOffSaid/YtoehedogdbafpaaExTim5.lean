/-
  The exact law of a timer that backs off.
-/
import Derived.Test.YtoehedogdbafpaaExTimB
import Derived.WalkLawsBesides
namespace Go.Proofs.Ytoehedogdbafpaa
open Go.RowKit Go.Lib Go.Joins
set_option linter.unusedVariables false

set_option maxRecDepth 100000 in
set_option maxHeartbeats 2000000 in
theorem fnExactBackOff_walk (w : World) (a0_0 : Int) (w0_0 : (Lit.int .i64 a0_0).wf = true) (a0_1 : Int) (w0_1 : (Lit.int .i64 a0_1).wf = true) (a0_2 : Int) (w0_2 : (Lit.int .i64 a0_2).wf = true) (a1 : Int) (w1 : (Lit.int .i64 a1).wf = true) (_hsh : w.ShapedOpen Try.prog) :
    Calls Try.prog 13 #[.agg #[.int .i64 a0_0, .int .i64 a0_1, .int .i64 a0_2], .int .i64 a1] w fun e w' => e = .returned (.bool true) ∧ Below w.heap.size w w' := by
  obtain ⟨t, ht⟩ : ∃ t : Tm, t = ⟨a0_0, a0_1, a0_2⟩ := ⟨_, rfl⟩
  rw [show (Value.agg #[.int .i64 a0_0, .int .i64 a0_1, .int .i64 a0_2]) = .agg #[.int .i64 t.i, .int .i64 t.d, .int .i64 t.p] by rw [ht]]
  clear ht
  obtain ⟨W0, hW0⟩ : ∃ W0, W0 = w.alloc (.cells #[.int .i64 t.i, .int .i64 t.d, .int .i64 t.p] 58) := ⟨_, rfl⟩
  obtain ⟨R0, hR0⟩ : ∃ R, R = w.heap.size := ⟨_, rfl⟩
  have HA0 : Hid (W0.heap[R0]? = some (.cells #[.int .i64 t.i, .int .i64 t.d, .int .i64 t.p] 58 (0, 0))) := Lib.hid (by rw [hW0, hR0]; exact heap_alloc_new w _)
  have HB0 : Hid (Below w.heap.size w W0) := Lib.hid (by rw [hW0]; exact (Below.refl w.heap.size w).alloc (Nat.le_refl _) _)
  have HC := Lib.hid (fun (W : World) (hb : Below W0.heap.size W0 W) => (show W.cell? ⟨R0, 0, none⟩ = some (.int .i64 t.i) ∧ W.cell? ⟨R0, 1, none⟩ = some (.int .i64 t.d) ∧ W.cell? ⟨R0, 2, none⟩ = some (.int .i64 t.p) from by
    have h := (hb.block R0 (Array.getElem?_eq_some_iff.1 HA0.out).1).trans HA0.out
    refine ⟨?_, ?_, ?_⟩ <;> simp [World.cell?, h]))
  have HW0 := Lib.hid hW0
  have HR0 := Lib.hid hR0
  have HSp := Lib.hid (fun W => specBack_any t a1 W w1)
  have HIm := Lib.hid (fun W => implBack_any t a1 W w1)
  generalize backV t a1 = r at HSp HIm
  generalize backOk t a1 = b at HSp HIm
  clear hW0 hR0
  go_enter Try.func13, Try.ntmps13
  go_upto_region 1 with fail
  rw [← HW0.out, ← HR0.out]
  obtain ⟨x0, x1, x2⟩ := HC.out W0 (Below.refl _ _)
  go_wp2_with fail
  refine (toT_any t _).mono ?_
  rintro e W1 ⟨rfl, l1⟩
  clear x0 x1 x2
  have HB1 := Lib.hid l1
  clear l1
  go_wp2_with fail
  refine (HSp.out _).mono ?_
  rintro e W2 ⟨rfl, l2⟩
  have HB2 : Hid (Below W0.heap.size W0 (W2.alloc (.cells #[.int .i64 r.i, .int .i64 r.d, .int .i64 r.p] 42))) := Lib.hid (b_a (HB1.out.trans (l2.mono HB1.out.size)) _)
  have HT2 := Lib.hid (Tb.new W2 r)
  clear l2
  obtain ⟨x0, x1, x2⟩ := HC.out _ HB2.out
  go_wp2_with fail
  refine (toT_any t _).mono ?_
  rintro e W3 ⟨rfl, l3⟩
  clear x0 x1 x2
  have HB3 := Lib.hid (HB2.out.trans (l3.mono HB2.out.size))
  have HT3 := Lib.hid (HT2.out.below l3 HT2.out.lt)
  clear l3
  go_wp2_with fail
  refine (HIm.out _).mono ?_
  rintro e W4 ⟨rfl, l4⟩
  have HT4 := Lib.hid ((HT3.out.below l4 HT3.out.lt).below ((Below.refl _ _).alloc (Nat.le_refl _) (.cells #[.int .i64 r.i, .int .i64 r.d, .int .i64 r.p] 42)) (Nat.lt_of_lt_of_le HT3.out.lt l4.size))
  have HB4 : Hid (Below W0.heap.size W0 (W4.alloc (.cells #[.int .i64 r.i, .int .i64 r.d, .int .i64 r.p] 42))) := Lib.hid (b_a (HB3.out.trans (l4.mono HB3.out.size)) _)
  clear l4
  obtain ⟨y0, y1, y2⟩ := HT4.out.cells
  go_wp2_with fail
  refine (eqT_same r _).mono ?_
  rintro e W5 ⟨rfl, l5⟩
  go_wp2_with fail
  go_ret
  exact ⟨rfl, HB0.out.trans ((HB4.out.trans (l5.mono HB4.out.size)).mono HB0.out.size)⟩
end Go.Proofs.Ytoehedogdbafpaa
