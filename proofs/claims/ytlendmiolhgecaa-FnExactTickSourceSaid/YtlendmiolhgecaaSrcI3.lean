/-
  Sources: copies, ticks (the program's).
-/
import Derived.Test.YtlendmiolhgecaaSrcI
import Derived.Test.YtlendmiolhgecaaPksB
import Derived.Deep.QuietTactic
import Derived.BigQuiet
import Derived.IntWalk
import Derived.Deep.CutRange
import Derived.WalkLawsBesides
import Derived.Lib.SmallJoins
import Derived.Deep.RegionHeld3
namespace Go.Proofs.Ytlendmiolhgecaa
open Go.RowKit Go.Lib Go.Joins
set_option linter.unusedVariables false

set_option maxRecDepth 100000 in
set_option maxHeartbeats 4000000 in
theorem copyOf_any (v hv : Value) (s : So) (w : World) (hrow : Row w v s.w.q.length (s.w.q.map Value.string)) (hhr : Row w hv s.h.length (hdF s.h)) (hfit : FitA v s.w.q.length) (hfh : Fit hv s.h.length) (hl : s.w.q.length ≤ 1000) (hl2 : s.h.length ≤ 1000) :
    Calls Try.prog 59 #[.agg #[.int .i64 s.w.t, .int .i64 s.w.z, v, .int .i64 s.c, .int .i64 s.u, hv]] w fun e w' => ∃ v' hv', e = .returned (.agg #[.int .i64 s.w.t, .int .i64 s.w.z, v', .int .i64 s.c, .int .i64 s.u, hv']) ∧ w'.ownsRow w.heap.size 9 1 v' s.w.q.length (s.w.q.map Value.string) ∧ w'.ownsRow w.heap.size 82 2 hv' s.h.length (hdF s.h) ∧ (∀ k, v'.ownBlock = some k → hv'.ownBlock ≠ some k) ∧ Below w.heap.size w w' := by
  obtain ⟨⟨t, z, q⟩, c, u, h⟩ := s
  dsimp only at hrow hhr ⊢
  obtain ⟨a, cap, rfl, hc1, hm1, -⟩ := row_open hrow
  obtain ⟨b, caph, rfl, hc2, hm2, -⟩ := hd_open hhr
  unfold maxLen at hm1 hm2
  have HP := Lib.hid hrow
  have HH := Lib.hid hhr
  clear hrow hhr
  dsimp only at hfit hfh hl hl2
  have HFit := Lib.hid hfit
  have HFh := Lib.hid hfh
  clear hfit hfh
  obtain ⟨W0, R_T, R_A, hW0, hR_T, hR_A, hX_T, hX_A, hB0⟩ := entry2 w #[.int .i64 t, .int .i64 z, .slice a q.length cap, .int .i64 c, .int .i64 u, .slice b h.length caph] #[.int .i64 0, .int .i64 0, .slice none 0 0, .int .i64 0, .int .i64 0, .slice none 0 0] 29 29
  have HW0 := Lib.hid hW0
  have HB0 := Lib.hid hB0
  have HR_T := Lib.hid hR_T
  have HX_T := Lib.hid hX_T
  have HR_A := Lib.hid hR_A
  have HX_A := Lib.hid hX_A
  clear hW0 hB0 hR_T hX_T hR_A hX_A
  have c1_T_0 := HX_T.out.at 0 (v := .int .i64 t) rfl
  have c1_T_1 := HX_T.out.at 1 (v := .int .i64 z) rfl
  have c1_T_2 := HX_T.out.at 2 (v := .slice a q.length cap) rfl
  have c1_T_3 := HX_T.out.at 3 (v := .int .i64 c) rfl
  have c1_T_4 := HX_T.out.at 4 (v := .int .i64 u) rfl
  have c1_T_5 := HX_T.out.at 5 (v := .slice b h.length caph) rfl
  have c2_A_0 := HX_A.out.at 0 (v := .int .i64 0) rfl
  have c2_A_1 := HX_A.out.at 1 (v := .int .i64 0) rfl
  have c2_A_2 := HX_A.out.at 2 (v := .slice none 0 0) rfl
  have c2_A_3 := HX_A.out.at 3 (v := .int .i64 0) rfl
  have c2_A_4 := HX_A.out.at 4 (v := .int .i64 0) rfl
  have c2_A_5 := HX_A.out.at 5 (v := .slice none 0 0) rfl
  have HC1 := Lib.hid (fun (W1 : World) (hr : Row W1 (.slice a q.length cap) q.length (q.map Value.string)) => cloneS_any (.slice a q.length cap) q W1 hr HFit.out.fitS (by omega))
  have HC2 := Lib.hid (fun (W1 : World) (hh : Row W1 (.slice b h.length caph) h.length (hdF h)) => cloneHd0_any (.slice b h.length caph) h W1 hh HFh.out (by omega))
  go_enter Try.func59, Try.ntmps59
  go_upto_region 1 with fail
  rw [← HW0.out, ← HR_A.out, ← HR_T.out]
  go_wp2_with fail
  refine (HC1.out _ (HP.out.below HB0.out (Nat.le_refl _))).mono ?_
  rintro e W3 ⟨v_y, rfl, o_y, l3⟩
  obtain ⟨a_y, c_y, rfl, _, _⟩ := ownz_slice o_y
  have O_y := Lib.hid (ownz_base o_y HB0.out.size)
  have BX_T_y : Hid (∀ k, (.slice a_y q.length c_y : Value).ownBlock = some k → k ≠ R_T) := Lib.hid (fun k h1 h2 => absurd HX_T.out.lt (Nat.not_lt.2 (by rw [← h2]; exact (o_y.lt k h1).1)))
  have BX_A_y : Hid (∀ k, (.slice a_y q.length c_y : Value).ownBlock = some k → k ≠ R_A) := Lib.hid (fun k h1 h2 => absurd HX_A.out.lt (Nat.not_lt.2 (by rw [← h2]; exact (o_y.lt k h1).1)))
  clear o_y
  clear c1_T_0 c1_T_1 c1_T_2 c1_T_3 c1_T_4 c1_T_5
  clear c2_A_0 c2_A_1 c2_A_2 c2_A_3 c2_A_4 c2_A_5
  have HB_4 := Lib.hid (HB0.out.trans (l3.mono HB0.out.size))
  have T_4 := Lib.hid (HX_T.out.below l3 HX_T.out.lt)
  have A_4 := Lib.hid (HX_A.out.below l3 HX_A.out.lt)
  clear l3
  have c5_T_0 := T_4.out.at 0 (v := .int .i64 t) rfl
  have c5_T_1 := T_4.out.at 1 (v := .int .i64 z) rfl
  have c5_T_2 := T_4.out.at 2 (v := .slice a q.length cap) rfl
  have c5_T_3 := T_4.out.at 3 (v := .int .i64 c) rfl
  have c5_T_4 := T_4.out.at 4 (v := .int .i64 u) rfl
  have c5_T_5 := T_4.out.at 5 (v := .slice b h.length caph) rfl
  have c6_A_0 := A_4.out.at 0 (v := .int .i64 0) rfl
  have c6_A_1 := A_4.out.at 1 (v := .int .i64 0) rfl
  have c6_A_2 := A_4.out.at 2 (v := .slice none 0 0) rfl
  have c6_A_3 := A_4.out.at 3 (v := .int .i64 0) rfl
  have c6_A_4 := A_4.out.at 4 (v := .int .i64 0) rfl
  have c6_A_5 := A_4.out.at 5 (v := .slice none 0 0) rfl
  have fr7_T_0 := T_4.out.free 0
  have fr7_T_1 := T_4.out.free 1
  have fr7_T_2 := T_4.out.free 2
  have fr7_T_3 := T_4.out.free 3
  have fr7_T_4 := T_4.out.free 4
  have fr7_T_5 := T_4.out.free 5
  go_upto_region 2 with fail
  clear c5_T_0 c5_T_1 c5_T_2 c5_T_3 c5_T_4 c5_T_5
  clear fr7_T_0 fr7_T_1 fr7_T_2 fr7_T_3 fr7_T_4 fr7_T_5
  clear c6_A_0 c6_A_1 c6_A_2 c6_A_3 c6_A_4 c6_A_5
  obtain ⟨p8, q8⟩ := T_4.out.set 2 (.slice a_y q.length c_y)
  obtain ⟨W8, hW8⟩ : ∃ W8, W8 = (W3.setCell ⟨R_T, 2, none⟩ (.slice a_y q.length c_y)) := ⟨_, rfl⟩
  rw [← hW8] at p8 q8 ⊢
  have X8_T : Hid (Bx W8 R_T #[.int .i64 t, .int .i64 z, .slice a_y q.length c_y, .int .i64 c, .int .i64 u, .slice b h.length caph] 29) := Lib.hid p8
  have HB_9 := Lib.hid (HB_4.out.grown q8 HB_4.out.size (fun k hk => by have e2 : R_T = k := Option.some.inj hk; have := HR_T.out; omega))
  have y_9 := Lib.hid (O_y.out.kept q8 (by
    cases hv : (.slice a_y q.length c_y : Value).ownBlock with
    | none => exact .inl rfl
    | some k => exact .inr (fun e => BX_T_y.out k hv (Option.some.inj e))))
  clear O_y
  have A_9 := Lib.hid (A_4.out.grown q8 (by intro e; have e2 : R_A = R_T := Option.some.inj e; have h1 := HR_A.out; have h2 := HR_T.out; omega))
  clear A_4
  clear T_4
  clear hW8 p8 q8
  have c10_T_0 := X8_T.out.at 0 (v := .int .i64 t) rfl
  have c10_T_1 := X8_T.out.at 1 (v := .int .i64 z) rfl
  have c10_T_2 := X8_T.out.at 2 (v := .slice a_y q.length c_y) rfl
  have c10_T_3 := X8_T.out.at 3 (v := .int .i64 c) rfl
  have c10_T_4 := X8_T.out.at 4 (v := .int .i64 u) rfl
  have c10_T_5 := X8_T.out.at 5 (v := .slice b h.length caph) rfl
  have c11_A_0 := A_9.out.at 0 (v := .int .i64 0) rfl
  have c11_A_1 := A_9.out.at 1 (v := .int .i64 0) rfl
  have c11_A_2 := A_9.out.at 2 (v := .slice none 0 0) rfl
  have c11_A_3 := A_9.out.at 3 (v := .int .i64 0) rfl
  have c11_A_4 := A_9.out.at 4 (v := .int .i64 0) rfl
  have c11_A_5 := A_9.out.at 5 (v := .slice none 0 0) rfl
  go_wp2_with fail
  refine (HC2.out _ (HH.out.below HB_9.out (Nat.le_refl _))).mono ?_
  rintro e W12 ⟨v_k, rfl, o_k, l12⟩
  obtain ⟨a_k, c_k, rfl, _, _⟩ := ownz_slice o_k
  have AP_y_k : Hid (∀ k, (.slice a_y q.length c_y : Value).ownBlock = some k → (.slice a_k h.length c_k : Value).ownBlock ≠ some k) := Lib.hid (fun k h1 h2 => absurd (y_9.out.lt k h1).2 (Nat.not_lt.2 (o_k.lt k h2).1))
  have O_k := Lib.hid (ownz_base o_k HB_9.out.size)
  have BX_T_k : Hid (∀ k, (.slice a_k h.length c_k : Value).ownBlock = some k → k ≠ R_T) := Lib.hid (fun k h1 h2 => absurd X8_T.out.lt (Nat.not_lt.2 (by rw [← h2]; exact (o_k.lt k h1).1)))
  have BX_A_k : Hid (∀ k, (.slice a_k h.length c_k : Value).ownBlock = some k → k ≠ R_A) := Lib.hid (fun k h1 h2 => absurd A_9.out.lt (Nat.not_lt.2 (by rw [← h2]; exact (o_k.lt k h1).1)))
  clear o_k
  clear c10_T_0 c10_T_1 c10_T_2 c10_T_3 c10_T_4 c10_T_5
  clear c11_A_0 c11_A_1 c11_A_2 c11_A_3 c11_A_4 c11_A_5
  have HB_13 := Lib.hid (HB_9.out.trans (l12.mono HB_9.out.size))
  have y_13 := Lib.hid (ownz_below y_9.out l12 (Nat.le_refl _))
  clear y_9
  have T_13 := Lib.hid (X8_T.out.below l12 X8_T.out.lt)
  clear X8_T
  have A_13 := Lib.hid (A_9.out.below l12 A_9.out.lt)
  clear A_9
  clear l12
  have c14_T_0 := T_13.out.at 0 (v := .int .i64 t) rfl
  have c14_T_1 := T_13.out.at 1 (v := .int .i64 z) rfl
  have c14_T_2 := T_13.out.at 2 (v := .slice a_y q.length c_y) rfl
  have c14_T_3 := T_13.out.at 3 (v := .int .i64 c) rfl
  have c14_T_4 := T_13.out.at 4 (v := .int .i64 u) rfl
  have c14_T_5 := T_13.out.at 5 (v := .slice b h.length caph) rfl
  have c15_A_0 := A_13.out.at 0 (v := .int .i64 0) rfl
  have c15_A_1 := A_13.out.at 1 (v := .int .i64 0) rfl
  have c15_A_2 := A_13.out.at 2 (v := .slice none 0 0) rfl
  have c15_A_3 := A_13.out.at 3 (v := .int .i64 0) rfl
  have c15_A_4 := A_13.out.at 4 (v := .int .i64 0) rfl
  have c15_A_5 := A_13.out.at 5 (v := .slice none 0 0) rfl
  have fr16_T_0 := T_13.out.free 0
  have fr16_T_1 := T_13.out.free 1
  have fr16_T_2 := T_13.out.free 2
  have fr16_T_3 := T_13.out.free 3
  have fr16_T_4 := T_13.out.free 4
  have fr16_T_5 := T_13.out.free 5
  go_upto_region 3 with fail
  clear c14_T_0 c14_T_1 c14_T_2 c14_T_3 c14_T_4 c14_T_5
  clear fr16_T_0 fr16_T_1 fr16_T_2 fr16_T_3 fr16_T_4 fr16_T_5
  clear c15_A_0 c15_A_1 c15_A_2 c15_A_3 c15_A_4 c15_A_5
  obtain ⟨p17, q17⟩ := T_13.out.set 5 (.slice a_k h.length c_k)
  obtain ⟨W17, hW17⟩ : ∃ W17, W17 = (W12.setCell ⟨R_T, 5, none⟩ (.slice a_k h.length c_k)) := ⟨_, rfl⟩
  rw [← hW17] at p17 q17 ⊢
  have X17_T : Hid (Bx W17 R_T #[.int .i64 t, .int .i64 z, .slice a_y q.length c_y, .int .i64 c, .int .i64 u, .slice a_k h.length c_k] 29) := Lib.hid p17
  have HB_18 := Lib.hid (HB_13.out.grown q17 HB_13.out.size (fun k hk => by have e2 : R_T = k := Option.some.inj hk; have := HR_T.out; omega))
  have y_18 := Lib.hid (y_13.out.kept q17 (by
    cases hv : (.slice a_y q.length c_y : Value).ownBlock with
    | none => exact .inl rfl
    | some k => exact .inr (fun e => BX_T_y.out k hv (Option.some.inj e))))
  clear y_13
  have k_18 := Lib.hid (O_k.out.kept q17 (by
    cases hv : (.slice a_k h.length c_k : Value).ownBlock with
    | none => exact .inl rfl
    | some k => exact .inr (fun e => BX_T_k.out k hv (Option.some.inj e))))
  clear O_k
  have A_18 := Lib.hid (A_13.out.grown q17 (by intro e; have e2 : R_A = R_T := Option.some.inj e; have h1 := HR_A.out; have h2 := HR_T.out; omega))
  clear A_13
  clear T_13
  clear hW17 p17 q17
  have c19_T_0 := X17_T.out.at 0 (v := .int .i64 t) rfl
  have c19_T_1 := X17_T.out.at 1 (v := .int .i64 z) rfl
  have c19_T_2 := X17_T.out.at 2 (v := .slice a_y q.length c_y) rfl
  have c19_T_3 := X17_T.out.at 3 (v := .int .i64 c) rfl
  have c19_T_4 := X17_T.out.at 4 (v := .int .i64 u) rfl
  have c19_T_5 := X17_T.out.at 5 (v := .slice a_k h.length c_k) rfl
  have c20_A_0 := A_18.out.at 0 (v := .int .i64 0) rfl
  have c20_A_1 := A_18.out.at 1 (v := .int .i64 0) rfl
  have c20_A_2 := A_18.out.at 2 (v := .slice none 0 0) rfl
  have c20_A_3 := A_18.out.at 3 (v := .int .i64 0) rfl
  have c20_A_4 := A_18.out.at 4 (v := .int .i64 0) rfl
  have c20_A_5 := A_18.out.at 5 (v := .slice none 0 0) rfl
  have fr21_A_0 := A_18.out.free 0
  have fr21_A_1 := A_18.out.free 1
  have fr21_A_2 := A_18.out.free 2
  have fr21_A_3 := A_18.out.free 3
  have fr21_A_4 := A_18.out.free 4
  have fr21_A_5 := A_18.out.free 5
  go_wp2_with fail
  obtain ⟨p1, q1⟩ := A_18.out.store6 (.int .i64 t) (.int .i64 z) (.slice a_y q.length c_y) (.int .i64 c) (.int .i64 u) (.slice a_k h.length c_k)
  exact bodyPost_ret (results_bx rfl isSo _ _ R_A rfl rfl p1) rfl ⟨_, _, rfl, (y_18.out.kept q1 (by
    cases hv : (.slice a_y q.length c_y : Value).ownBlock with
    | none => exact .inl rfl
    | some k => exact .inr (fun e => BX_A_y.out k hv (Option.some.inj e)))), (k_18.out.kept q1 (by
    cases hv : (.slice a_k h.length c_k : Value).ownBlock with
    | none => exact .inl rfl
    | some k => exact .inr (fun e => BX_A_k.out k hv (Option.some.inj e)))), AP_y_k.out, (HB_18.out.grown q1 HB_18.out.size (fun k hk => by have e2 : R_A = k := Option.some.inj hk; have := HR_A.out; omega))⟩
set_option maxRecDepth 100000 in
set_option maxHeartbeats 2000000 in
theorem statFrom_any (v hv : Value) (s : So) (w : World) (hrow : Row w v s.w.q.length (s.w.q.map Value.string)) (hhr : Row w hv s.h.length (hdF s.h)) (ht : 0 ≤ s.w.t ∧ s.w.t ≤ 65535) (hl : s.w.q.length ≤ 1000) :
    Calls Try.prog 62 #[.agg #[.int .i64 s.w.t, .int .i64 s.w.z, v, .int .i64 s.c, .int .i64 s.u, hv]] w fun e w' => e = .returned (.agg #[.int .i64 5, .int .i64 s.w.t, .int .i64 s.w.t, .int .i64 (leadI s.w), .string ⟨#[]⟩]) ∧ Below w.heap.size w w' := by
  obtain ⟨⟨t, z, q⟩, c, u, h⟩ := s
  dsimp only at hrow hhr ⊢
  obtain ⟨a, cap, rfl, hc1, hm1, -⟩ := row_open hrow
  obtain ⟨b, caph, rfl, hc2, hm2, -⟩ := hd_open hhr
  unfold maxLen at hm1 hm2
  have HP := Lib.hid hrow
  have HH := Lib.hid hhr
  clear hrow hhr
  dsimp only at ht hl ⊢
  have HT := Lib.hid ht
  clear ht
  obtain ⟨W0, R_T, R_A, hW0, hR_T, hR_A, hX_T, hX_A, hB0⟩ := entry2 w #[.int .i64 t, .int .i64 z, .slice a q.length cap, .int .i64 c, .int .i64 u, .slice b h.length caph] #[.int .i64 0, .int .i64 0, .int .i64 0, .int .i64 0, .string ⟨#[]⟩] 29 64
  have HW0 := Lib.hid hW0
  have HB0 := Lib.hid hB0
  have HR_T := Lib.hid hR_T
  have HX_T := Lib.hid hX_T
  have HR_A := Lib.hid hR_A
  have HX_A := Lib.hid hX_A
  clear hW0 hB0 hR_T hX_T hR_A hX_A
  have c22_T_0 := HX_T.out.at 0 (v := .int .i64 t) rfl
  have c22_T_1 := HX_T.out.at 1 (v := .int .i64 z) rfl
  have c22_T_2 := HX_T.out.at 2 (v := .slice a q.length cap) rfl
  have c22_T_3 := HX_T.out.at 3 (v := .int .i64 c) rfl
  have c22_T_4 := HX_T.out.at 4 (v := .int .i64 u) rfl
  have c22_T_5 := HX_T.out.at 5 (v := .slice b h.length caph) rfl
  have c23_A_0 := HX_A.out.at 0 (v := .int .i64 0) rfl
  have c23_A_1 := HX_A.out.at 1 (v := .int .i64 0) rfl
  have c23_A_2 := HX_A.out.at 2 (v := .int .i64 0) rfl
  have c23_A_3 := HX_A.out.at 3 (v := .int .i64 0) rfl
  have c23_A_4 := HX_A.out.at 4 (v := .string ⟨#[]⟩) rfl
  have HC := Lib.hid (fun (W1 : World) (hr : Row W1 (.slice a q.length cap) q.length (q.map Value.string)) => pktFrom_any (.slice a q.length cap) ⟨t, z, q⟩ 5 t ⟨#[]⟩ W1 hr HT.out (by dsimp only; omega))
  dsimp only at HC
  generalize leadI ⟨t, z, q⟩ = le at HC ⊢
  go_enter Try.func62, Try.ntmps62
  go_upto_region 1 with fail
  rw [← HW0.out, ← HR_A.out, ← HR_T.out]
  go_wp2_with fail
  refine (HC.out _ (HP.out.below HB0.out (Nat.le_refl _))).mono ?_
  rintro e W24 ⟨rfl, l24⟩
  clear c22_T_0 c22_T_1 c22_T_2 c22_T_3 c22_T_4 c22_T_5
  clear c23_A_0 c23_A_1 c23_A_2 c23_A_3 c23_A_4
  have HB_25 := Lib.hid (HB0.out.trans (l24.mono HB0.out.size))
  have T_25 := Lib.hid (HX_T.out.below l24 HX_T.out.lt)
  have A_25 := Lib.hid (HX_A.out.below l24 HX_A.out.lt)
  clear l24
  have c26_T_0 := T_25.out.at 0 (v := .int .i64 t) rfl
  have c26_T_1 := T_25.out.at 1 (v := .int .i64 z) rfl
  have c26_T_2 := T_25.out.at 2 (v := .slice a q.length cap) rfl
  have c26_T_3 := T_25.out.at 3 (v := .int .i64 c) rfl
  have c26_T_4 := T_25.out.at 4 (v := .int .i64 u) rfl
  have c26_T_5 := T_25.out.at 5 (v := .slice b h.length caph) rfl
  have c27_A_0 := A_25.out.at 0 (v := .int .i64 0) rfl
  have c27_A_1 := A_25.out.at 1 (v := .int .i64 0) rfl
  have c27_A_2 := A_25.out.at 2 (v := .int .i64 0) rfl
  have c27_A_3 := A_25.out.at 3 (v := .int .i64 0) rfl
  have c27_A_4 := A_25.out.at 4 (v := .string ⟨#[]⟩) rfl
  have fr28_A_0 := A_25.out.free 0
  have fr28_A_1 := A_25.out.free 1
  have fr28_A_2 := A_25.out.free 2
  have fr28_A_3 := A_25.out.free 3
  have fr28_A_4 := A_25.out.free 4
  go_wp2_with fail
  obtain ⟨p1, q1⟩ := A_25.out.store5 (.int .i64 5) (.int .i64 t) (.int .i64 t) (.int .i64 le) (.string ⟨#[]⟩)
  exact bodyPost_ret (results_bx rfl isPk _ _ R_A rfl rfl p1) rfl ⟨rfl, (HB_25.out.grown q1 HB_25.out.size (fun k hk => by have e2 : R_A = k := Option.some.inj hk; have := HR_A.out; omega))⟩
set_option maxRecDepth 100000 in
set_option maxHeartbeats 400000 in
theorem tick1_any (x : Hd) (R : Nat) (c1 : Int) (w : World) (hR : w.cell? ⟨R, 3, none⟩ = some (.int .i64 c1)) (hl : R < w.heap.size) :
    Calls Try.prog 61 #[.agg #[.int .i64 x.n, .int .i64 x.u], .pointer (some ⟨R, 0, none⟩)] w fun e w' => e = .returned (.bool (decide (x.u ≤ c1))) ∧ Below w.heap.size w w' := by
  obtain ⟨xn, xu⟩ := x
  dsimp only
  obtain ⟨W0, R_X, hW0, hR_X, hX_X, hB0⟩ := entry1 w #[.int .i64 xn, .int .i64 xu] 82
  have HW0 := Lib.hid hW0
  have HB0 := Lib.hid hB0
  have HR_X := Lib.hid hR_X
  have HX_X := Lib.hid hX_X
  clear hW0 hB0 hR_X hX_X
  have hR2 := (HB0.out.cell (p := ⟨R, 3, none⟩) hl).trans hR
  have c29_X_0 := HX_X.out.at 0 (v := .int .i64 xn) rfl
  have c29_X_1 := HX_X.out.at 1 (v := .int .i64 xu) rfl
  go_enter Try.func61, Try.ntmps61
  go_upto_region 1 with fail
  rw [← HW0.out, ← HR_X.out]
  go_wp2_with fail
  go_ret
  exact ⟨rfl, HB0.out⟩
set_option maxRecDepth 100000 in
set_option maxHeartbeats 16000000 in
theorem implTick_any (v hv : Value) (s : So) (w : World) (hrow : Row w v s.w.q.length (s.w.q.map Value.string)) (hhr : Row w hv s.h.length (hdF s.h)) (hs : ∀ x ∈ s.w.q, x.size ≤ maxLen) (hfit : FitA v s.w.q.length) (hfh : Fit hv s.h.length) :
    Calls Try.prog 23 #[.agg #[.int .i64 s.w.t, .int .i64 s.w.z, v, .int .i64 s.c, .int .i64 s.u, hv]] w fun e w' => ∃ v' hv' pv, e = .returned (.tuple #[.agg #[.int .i64 (tickV s).w.t, .int .i64 (tickV s).w.z, v', .int .i64 (tickV s).c, .int .i64 (tickV s).u, hv'], pv, .bool (tickOk s)]) ∧ w'.ownsRow w.heap.size 9 1 v' (tickV s).w.q.length ((tickV s).w.q.map Value.string) ∧ w'.ownsRow w.heap.size 82 2 hv' (tickV s).h.length (hdF (tickV s).h) ∧ (∀ k, v'.ownBlock = some k → hv'.ownBlock ≠ some k) ∧ w'.ownsRow w.heap.size 64 5 pv (tickL s).length (pqF (tickL s)) ∧ (∀ k, v'.ownBlock = some k → pv.ownBlock ≠ some k) ∧ (∀ k, hv'.ownBlock = some k → pv.ownBlock ≠ some k) ∧ Below w.heap.size w w' := by
  obtain ⟨⟨t, z, q⟩, c, u, h⟩ := s
  dsimp only at hrow hhr hs ⊢
  obtain ⟨a, cap, rfl, hc1, hm1, -⟩ := row_open hrow
  obtain ⟨b, caph, rfl, hc2, hm2, -⟩ := hd_open hhr
  unfold maxLen at hm1 hm2
  have HP := Lib.hid hrow
  have HH := Lib.hid hhr
  clear hrow hhr
  have HS := Lib.hid hs
  clear hs
  have HFit := Lib.hid hfit
  have HFh := Lib.hid hfh
  clear hfit hfh
  dsimp only at HFit HFh
  obtain ⟨W0, R_T, R_A, hW0, hR_T, hR_A, hX_T, hX_A, hB0⟩ := entry2 w #[.int .i64 t, .int .i64 z, .slice a q.length cap, .int .i64 c, .int .i64 u, .slice b h.length caph] #[.int .i64 0, .int .i64 0, .slice none 0 0, .int .i64 0, .int .i64 0, .slice none 0 0] 29 29
  have HW0 := Lib.hid hW0
  have HB0 := Lib.hid hB0
  have HR_T := Lib.hid hR_T
  have HX_T := Lib.hid hX_T
  have HR_A := Lib.hid hR_A
  have HX_A := Lib.hid hX_A
  clear hW0 hB0 hR_T hX_T hR_A hX_A
  have HG := Lib.hid (fun (W1 : World) (hr : Row W1 (.slice a q.length cap) q.length (q.map Value.string)) (hh : Row W1 (.slice b h.length caph) h.length (hdF h)) => implIsSo_any (.slice a q.length cap) (.slice b h.length caph) ⟨⟨t, z, q⟩, c, u, h⟩ W1 hr hh HS.out)
  cases ok : soOk ⟨⟨t, z, q⟩, c, u, h⟩ with
  | false =>
    rw [ok] at HG
    have ho : tickOk ⟨⟨t, z, q⟩, c, u, h⟩ = false := by unfold tickOk; rw [ok]; rfl
    have hv : tickV ⟨⟨t, z, q⟩, c, u, h⟩ = so0 := by unfold tickV; rw [ho]; rfl
    have hl : tickL ⟨⟨t, z, q⟩, c, u, h⟩ = [] := by unfold tickL; rw [ho]; rfl
    rw [hv, ho, hl]
    clear hv ho hl
    (try clear hc)
    dsimp only [so0, sw0]
    have c30_T_0 := HX_T.out.at 0 (v := .int .i64 t) rfl
    have c30_T_1 := HX_T.out.at 1 (v := .int .i64 z) rfl
    have c30_T_2 := HX_T.out.at 2 (v := .slice a q.length cap) rfl
    have c30_T_3 := HX_T.out.at 3 (v := .int .i64 c) rfl
    have c30_T_4 := HX_T.out.at 4 (v := .int .i64 u) rfl
    have c30_T_5 := HX_T.out.at 5 (v := .slice b h.length caph) rfl
    have c31_A_0 := HX_A.out.at 0 (v := .int .i64 0) rfl
    have c31_A_1 := HX_A.out.at 1 (v := .int .i64 0) rfl
    have c31_A_2 := HX_A.out.at 2 (v := .slice none 0 0) rfl
    have c31_A_3 := HX_A.out.at 3 (v := .int .i64 0) rfl
    have c31_A_4 := HX_A.out.at 4 (v := .int .i64 0) rfl
    have c31_A_5 := HX_A.out.at 5 (v := .slice none 0 0) rfl
    go_enter Try.func23, Try.ntmps23
    go_upto_region 1 with fail
    rw [← HW0.out, ← HR_A.out, ← HR_T.out]
    go_wp2_with fail
    refine (HG.out _ (HP.out.below HB0.out (Nat.le_refl _)) (HH.out.below HB0.out (Nat.le_refl _))).mono ?_
    rintro e W32 ⟨rfl, l32⟩
    clear c30_T_0 c30_T_1 c30_T_2 c30_T_3 c30_T_4 c30_T_5
    clear c31_A_0 c31_A_1 c31_A_2 c31_A_3 c31_A_4 c31_A_5
    have HB_33 := Lib.hid (HB0.out.trans (l32.mono HB0.out.size))
    have T_33 := Lib.hid (HX_T.out.below l32 HX_T.out.lt)
    have A_33 := Lib.hid (HX_A.out.below l32 HX_A.out.lt)
    clear l32
    have c34_T_0 := T_33.out.at 0 (v := .int .i64 t) rfl
    have c34_T_1 := T_33.out.at 1 (v := .int .i64 z) rfl
    have c34_T_2 := T_33.out.at 2 (v := .slice a q.length cap) rfl
    have c34_T_3 := T_33.out.at 3 (v := .int .i64 c) rfl
    have c34_T_4 := T_33.out.at 4 (v := .int .i64 u) rfl
    have c34_T_5 := T_33.out.at 5 (v := .slice b h.length caph) rfl
    have c35_A_0 := A_33.out.at 0 (v := .int .i64 0) rfl
    have c35_A_1 := A_33.out.at 1 (v := .int .i64 0) rfl
    have c35_A_2 := A_33.out.at 2 (v := .slice none 0 0) rfl
    have c35_A_3 := A_33.out.at 3 (v := .int .i64 0) rfl
    have c35_A_4 := A_33.out.at 4 (v := .int .i64 0) rfl
    have c35_A_5 := A_33.out.at 5 (v := .slice none 0 0) rfl
    have hAl := A_33.out.alloc (.cells #[] 64)
    have z0 := hAl.at 0 (v := .int .i64 0) rfl
    have y0 := hAl.free 0
    have z1 := hAl.at 1 (v := .int .i64 0) rfl
    have y1 := hAl.free 1
    have z2 := hAl.at 2 (v := .slice none 0 0) rfl
    have y2 := hAl.free 2
    have z3 := hAl.at 3 (v := .int .i64 0) rfl
    have y3 := hAl.free 3
    have z4 := hAl.at 4 (v := .int .i64 0) rfl
    have y4 := hAl.free 4
    have z5 := hAl.at 5 (v := .slice none 0 0) rfl
    have y5 := hAl.free 5
    have HAl := Lib.hid hAl
    clear hAl
    go_wp2_with fail
    obtain ⟨p1, q1⟩ := HAl.out.store6 (.int .i64 0) (.int .i64 0) (.slice none 0 0) (.int .i64 0) (.int .i64 0) (.slice none 0 0)
    have hB9 := HB_33.out.alloc HB_33.out.size (.cells #[] 64)
    refine bodyPost_ret (results_bx2 rfl isSo _ _ R_A rfl rfl rfl rfl p1) rfl ?_
    exact ⟨_, _, _, rfl, World.ownsRow_nil _ _ _ _, World.ownsRow_nil _ _ _ _, (fun k h => by cases h), (litz W32 w.heap.size 64 5 HB_33.out.size).kept q1 (.inr (fun e => by have e2 : W32.heap.size = R_A := Option.some.inj e; have h1 := A_33.out.lt; omega)), (fun k h => by cases h), (fun k h => by cases h), hB9.grown q1 hB9.size (fun k hk => by have e2 : R_A = k := Option.some.inj hk; have := HR_A.out; omega)⟩
  | true =>
    rw [ok] at HG
    by_cases hc : c = 9999
    · have i1 : ((c : Int) == 9999) = true := by rw [beq_iff_eq]; exact hc
      have ho : tickOk ⟨⟨t, z, q⟩, c, u, h⟩ = false := by unfold tickOk; rw [ok, hc]; rfl
      have hv : tickV ⟨⟨t, z, q⟩, c, u, h⟩ = so0 := by unfold tickV; rw [ho]; rfl
      have hl : tickL ⟨⟨t, z, q⟩, c, u, h⟩ = [] := by unfold tickL; rw [ho]; rfl
      rw [hv, ho, hl]
      clear hv ho hl
      (try clear hc)
      dsimp only [so0, sw0]
      have c36_T_0 := HX_T.out.at 0 (v := .int .i64 t) rfl
      have c36_T_1 := HX_T.out.at 1 (v := .int .i64 z) rfl
      have c36_T_2 := HX_T.out.at 2 (v := .slice a q.length cap) rfl
      have c36_T_3 := HX_T.out.at 3 (v := .int .i64 c) rfl
      have c36_T_4 := HX_T.out.at 4 (v := .int .i64 u) rfl
      have c36_T_5 := HX_T.out.at 5 (v := .slice b h.length caph) rfl
      have c37_A_0 := HX_A.out.at 0 (v := .int .i64 0) rfl
      have c37_A_1 := HX_A.out.at 1 (v := .int .i64 0) rfl
      have c37_A_2 := HX_A.out.at 2 (v := .slice none 0 0) rfl
      have c37_A_3 := HX_A.out.at 3 (v := .int .i64 0) rfl
      have c37_A_4 := HX_A.out.at 4 (v := .int .i64 0) rfl
      have c37_A_5 := HX_A.out.at 5 (v := .slice none 0 0) rfl
      go_enter Try.func23, Try.ntmps23
      go_upto_region 1 with fail
      rw [← HW0.out, ← HR_A.out, ← HR_T.out]
      go_wp2_with fail
      refine (HG.out _ (HP.out.below HB0.out (Nat.le_refl _)) (HH.out.below HB0.out (Nat.le_refl _))).mono ?_
      rintro e W38 ⟨rfl, l38⟩
      clear c36_T_0 c36_T_1 c36_T_2 c36_T_3 c36_T_4 c36_T_5
      clear c37_A_0 c37_A_1 c37_A_2 c37_A_3 c37_A_4 c37_A_5
      have HB_39 := Lib.hid (HB0.out.trans (l38.mono HB0.out.size))
      have T_39 := Lib.hid (HX_T.out.below l38 HX_T.out.lt)
      have A_39 := Lib.hid (HX_A.out.below l38 HX_A.out.lt)
      clear l38
      have c40_T_0 := T_39.out.at 0 (v := .int .i64 t) rfl
      have c40_T_1 := T_39.out.at 1 (v := .int .i64 z) rfl
      have c40_T_2 := T_39.out.at 2 (v := .slice a q.length cap) rfl
      have c40_T_3 := T_39.out.at 3 (v := .int .i64 c) rfl
      have c40_T_4 := T_39.out.at 4 (v := .int .i64 u) rfl
      have c40_T_5 := T_39.out.at 5 (v := .slice b h.length caph) rfl
      have c41_A_0 := A_39.out.at 0 (v := .int .i64 0) rfl
      have c41_A_1 := A_39.out.at 1 (v := .int .i64 0) rfl
      have c41_A_2 := A_39.out.at 2 (v := .slice none 0 0) rfl
      have c41_A_3 := A_39.out.at 3 (v := .int .i64 0) rfl
      have c41_A_4 := A_39.out.at 4 (v := .int .i64 0) rfl
      have c41_A_5 := A_39.out.at 5 (v := .slice none 0 0) rfl
      have hAl := A_39.out.alloc (.cells #[] 64)
      have z0 := hAl.at 0 (v := .int .i64 0) rfl
      have y0 := hAl.free 0
      have z1 := hAl.at 1 (v := .int .i64 0) rfl
      have y1 := hAl.free 1
      have z2 := hAl.at 2 (v := .slice none 0 0) rfl
      have y2 := hAl.free 2
      have z3 := hAl.at 3 (v := .int .i64 0) rfl
      have y3 := hAl.free 3
      have z4 := hAl.at 4 (v := .int .i64 0) rfl
      have y4 := hAl.free 4
      have z5 := hAl.at 5 (v := .slice none 0 0) rfl
      have y5 := hAl.free 5
      have HAl := Lib.hid hAl
      clear hAl
      go_wp2_with fail
      obtain ⟨p1, q1⟩ := HAl.out.store6 (.int .i64 0) (.int .i64 0) (.slice none 0 0) (.int .i64 0) (.int .i64 0) (.slice none 0 0)
      have hB9 := HB_39.out.alloc HB_39.out.size (.cells #[] 64)
      refine bodyPost_ret (results_bx2 rfl isSo _ _ R_A rfl rfl rfl rfl p1) rfl ?_
      exact ⟨_, _, _, rfl, World.ownsRow_nil _ _ _ _, World.ownsRow_nil _ _ _ _, (fun k h => by cases h), (litz W38 w.heap.size 64 5 HB_39.out.size).kept q1 (.inr (fun e => by have e2 : W38.heap.size = R_A := Option.some.inj e; have h1 := A_39.out.lt; omega)), (fun k h => by cases h), (fun k h => by cases h), hB9.grown q1 hB9.size (fun k hk => by have e2 : R_A = k := Option.some.inj hk; have := HR_A.out; omega)⟩
    have i1 : ((c : Int) == 9999) = false := by rw [beq_eq_false_iff_ne]; exact hc
    have ho : tickOk ⟨⟨t, z, q⟩, c, u, h⟩ = true := by unfold tickOk; rw [ok, decide_eq_true hc]; rfl
    have hv : tickV ⟨⟨t, z, q⟩, c, u, h⟩ = ⟨⟨t, z, q⟩, c + 1, if u = 3 then 0 else u + 1, keepH ⟨t, z, q⟩ (c + 1) h⟩ := if_pos ho
    have hl : tickL ⟨⟨t, z, q⟩, c, u, h⟩ = if u = 3 then [⟨5, t, t, leadI ⟨t, z, q⟩, ⟨#[]⟩⟩] else [] := if_pos ho
    rw [hv, ho, hl]
    dsimp only
    obtain ⟨k1, ⟨hc0, hc9⟩, ⟨hu0, hu9⟩, -, -⟩ := soOk_iff.1 ok
    obtain ⟨hl6, hq6⟩ := soOk_len ok
    have hke := keep_tick ok (c + 1)
    dsimp only at k1 hc0 hc9 hu0 hu9 hl6 hq6 hke
    have ht := (swOk_iff.1 k1).1
    dsimp only at ht
    have HT := Lib.hid ht
    obtain ⟨kp, hkp⟩ : ∃ kp, kp = keepH ⟨t, z, q⟩ (c + 1) h := ⟨_, rfl⟩
    rw [← hkp] at hke ⊢
    have HFe := Lib.hid hke
    clear hkp hke hv ho hl ok hc k1 ht
    have HCo := Lib.hid (fun (W1 : World) (hr : Row W1 (.slice a q.length cap) q.length (q.map Value.string)) (hh : Row W1 (.slice b h.length caph) h.length (hdF h)) => copyOf_any (.slice a q.length cap) (.slice b h.length caph) ⟨⟨t, z, q⟩, c, u, h⟩ W1 hr hh HFit.out HFh.out (by dsimp only; omega) (by dsimp only; omega))
    dsimp only at HCo
    have w1 : IntKind.i64.wrap (c + 1) = c + 1 := IntWalk.i64_in _ (by omega)
    have w2 : IntKind.i64.wrap (u + 1) = u + 1 := IntWalk.i64_in _ (by omega)
    obtain ⟨uu, huu⟩ : ∃ uu, uu = if u = 3 then (0 : Int) else u + 1 := ⟨_, rfl⟩
    have w3 : Int.tmod (u + 1) 4 = uu := by
      rw [huu]
      by_cases e : u = 3
      · rw [if_pos e, e]; rfl
      · rw [if_neg e, Int.tmod_eq_emod_of_nonneg (by omega)]; omega
    rw [← huu]
    by_cases hu : u = 3
    · rw [if_pos hu] at huu
      rw [if_pos hu]
      have hup : ¬ (0 : Int) < uu := by omega
      clear hu huu
      have HSt := Lib.hid (fun (v1 hv1 : Value) (W1 : World) (hr : Row W1 v1 q.length (q.map Value.string)) (hh : Row W1 hv1 kp.length (hdF kp)) => statFrom_any v1 hv1 ⟨⟨t, z, q⟩, c + 1, uu, kp⟩ W1 hr hh HT.out (by dsimp only; omega))
      dsimp only at HSt
      generalize leadI ⟨t, z, q⟩ = le at HSt ⊢
      have c42_T_0 := HX_T.out.at 0 (v := .int .i64 t) rfl
      have c42_T_1 := HX_T.out.at 1 (v := .int .i64 z) rfl
      have c42_T_2 := HX_T.out.at 2 (v := .slice a q.length cap) rfl
      have c42_T_3 := HX_T.out.at 3 (v := .int .i64 c) rfl
      have c42_T_4 := HX_T.out.at 4 (v := .int .i64 u) rfl
      have c42_T_5 := HX_T.out.at 5 (v := .slice b h.length caph) rfl
      have c43_A_0 := HX_A.out.at 0 (v := .int .i64 0) rfl
      have c43_A_1 := HX_A.out.at 1 (v := .int .i64 0) rfl
      have c43_A_2 := HX_A.out.at 2 (v := .slice none 0 0) rfl
      have c43_A_3 := HX_A.out.at 3 (v := .int .i64 0) rfl
      have c43_A_4 := HX_A.out.at 4 (v := .int .i64 0) rfl
      have c43_A_5 := HX_A.out.at 5 (v := .slice none 0 0) rfl
      go_enter Try.func23, Try.ntmps23
      go_upto_region 1 with fail
      rw [← HW0.out, ← HR_A.out, ← HR_T.out]
      go_wp2_with fail
      refine (HG.out _ (HP.out.below HB0.out (Nat.le_refl _)) (HH.out.below HB0.out (Nat.le_refl _))).mono ?_
      rintro e W44 ⟨rfl, l44⟩
      clear c42_T_0 c42_T_1 c42_T_2 c42_T_3 c42_T_4 c42_T_5
      clear c43_A_0 c43_A_1 c43_A_2 c43_A_3 c43_A_4 c43_A_5
      have HB_45 := Lib.hid (HB0.out.trans (l44.mono HB0.out.size))
      have T_45 := Lib.hid (HX_T.out.below l44 HX_T.out.lt)
      have A_45 := Lib.hid (HX_A.out.below l44 HX_A.out.lt)
      clear l44
      have c46_T_0 := T_45.out.at 0 (v := .int .i64 t) rfl
      have c46_T_1 := T_45.out.at 1 (v := .int .i64 z) rfl
      have c46_T_2 := T_45.out.at 2 (v := .slice a q.length cap) rfl
      have c46_T_3 := T_45.out.at 3 (v := .int .i64 c) rfl
      have c46_T_4 := T_45.out.at 4 (v := .int .i64 u) rfl
      have c46_T_5 := T_45.out.at 5 (v := .slice b h.length caph) rfl
      have c47_A_0 := A_45.out.at 0 (v := .int .i64 0) rfl
      have c47_A_1 := A_45.out.at 1 (v := .int .i64 0) rfl
      have c47_A_2 := A_45.out.at 2 (v := .slice none 0 0) rfl
      have c47_A_3 := A_45.out.at 3 (v := .int .i64 0) rfl
      have c47_A_4 := A_45.out.at 4 (v := .int .i64 0) rfl
      have c47_A_5 := A_45.out.at 5 (v := .slice none 0 0) rfl
      go_wp2_with fail
      refine (HCo.out _ (HP.out.below HB_45.out (Nat.le_refl _)) (HH.out.below HB_45.out (Nat.le_refl _))).mono ?_
      rintro e W48 ⟨v_y, v_k, rfl, o_y, o_k, ap_y_k, l48⟩
      obtain ⟨a_y, c_y, rfl, _, _⟩ := ownz_slice o_y
      have O_y := Lib.hid (ownz_base o_y HB_45.out.size)
      have BX_T_y : Hid (∀ k, (.slice a_y q.length c_y : Value).ownBlock = some k → k ≠ R_T) := Lib.hid (fun k h1 h2 => absurd T_45.out.lt (Nat.not_lt.2 (by rw [← h2]; exact (o_y.lt k h1).1)))
      have BX_A_y : Hid (∀ k, (.slice a_y q.length c_y : Value).ownBlock = some k → k ≠ R_A) := Lib.hid (fun k h1 h2 => absurd A_45.out.lt (Nat.not_lt.2 (by rw [← h2]; exact (o_y.lt k h1).1)))
      clear o_y
      obtain ⟨a_k, c_k, rfl, _, _⟩ := ownz_slice o_k
      have O_k := Lib.hid (ownz_base o_k HB_45.out.size)
      have BX_T_k : Hid (∀ k, (.slice a_k h.length c_k : Value).ownBlock = some k → k ≠ R_T) := Lib.hid (fun k h1 h2 => absurd T_45.out.lt (Nat.not_lt.2 (by rw [← h2]; exact (o_k.lt k h1).1)))
      have BX_A_k : Hid (∀ k, (.slice a_k h.length c_k : Value).ownBlock = some k → k ≠ R_A) := Lib.hid (fun k h1 h2 => absurd A_45.out.lt (Nat.not_lt.2 (by rw [← h2]; exact (o_k.lt k h1).1)))
      clear o_k
      have AP_y_k := Lib.hid ap_y_k
      clear ap_y_k
      clear c46_T_0 c46_T_1 c46_T_2 c46_T_3 c46_T_4 c46_T_5
      clear c47_A_0 c47_A_1 c47_A_2 c47_A_3 c47_A_4 c47_A_5
      have HB_49 := Lib.hid (HB_45.out.trans (l48.mono HB_45.out.size))
      have T_49 := Lib.hid (T_45.out.below l48 T_45.out.lt)
      clear T_45
      have A_49 := Lib.hid (A_45.out.below l48 A_45.out.lt)
      clear A_45
      clear l48
      have c50_T_0 := T_49.out.at 0 (v := .int .i64 t) rfl
      have c50_T_1 := T_49.out.at 1 (v := .int .i64 z) rfl
      have c50_T_2 := T_49.out.at 2 (v := .slice a q.length cap) rfl
      have c50_T_3 := T_49.out.at 3 (v := .int .i64 c) rfl
      have c50_T_4 := T_49.out.at 4 (v := .int .i64 u) rfl
      have c50_T_5 := T_49.out.at 5 (v := .slice b h.length caph) rfl
      have c51_A_0 := A_49.out.at 0 (v := .int .i64 0) rfl
      have c51_A_1 := A_49.out.at 1 (v := .int .i64 0) rfl
      have c51_A_2 := A_49.out.at 2 (v := .slice none 0 0) rfl
      have c51_A_3 := A_49.out.at 3 (v := .int .i64 0) rfl
      have c51_A_4 := A_49.out.at 4 (v := .int .i64 0) rfl
      have c51_A_5 := A_49.out.at 5 (v := .slice none 0 0) rfl
      have fr52_T_0 := T_49.out.free 0
      have fr52_T_1 := T_49.out.free 1
      have fr52_T_2 := T_49.out.free 2
      have fr52_T_3 := T_49.out.free 3
      have fr52_T_4 := T_49.out.free 4
      have fr52_T_5 := T_49.out.free 5
      go_upto_region 4 with fail
      clear c50_T_0 c50_T_1 c50_T_2 c50_T_3 c50_T_4 c50_T_5
      clear fr52_T_0 fr52_T_1 fr52_T_2 fr52_T_3 fr52_T_4 fr52_T_5
      clear c51_A_0 c51_A_1 c51_A_2 c51_A_3 c51_A_4 c51_A_5
      obtain ⟨p53, q53⟩ := T_49.out.store6 (.int .i64 t) (.int .i64 z) (.slice a_y q.length c_y) (.int .i64 c) (.int .i64 u) (.slice a_k h.length c_k)
      obtain ⟨W53, hW53⟩ : ∃ W53, W53 = ((((((W48.setCell ⟨R_T, 0, none⟩ (.int .i64 t)).setCell ⟨R_T, 1, none⟩ (.int .i64 z)).setCell ⟨R_T, 2, none⟩ (.slice a_y q.length c_y)).setCell ⟨R_T, 3, none⟩ (.int .i64 c)).setCell ⟨R_T, 4, none⟩ (.int .i64 u)).setCell ⟨R_T, 5, none⟩ (.slice a_k h.length c_k)) := ⟨_, rfl⟩
      rw [← hW53] at p53 q53 ⊢
      have X53_T : Hid (Bx W53 R_T #[.int .i64 t, .int .i64 z, .slice a_y q.length c_y, .int .i64 c, .int .i64 u, .slice a_k h.length c_k] 29) := Lib.hid p53
      have HB_54 := Lib.hid (HB_49.out.grown q53 HB_49.out.size (fun k hk => by have e2 : R_T = k := Option.some.inj hk; have := HR_T.out; omega))
      have y_54 := Lib.hid (O_y.out.kept q53 (by
        cases hv : (.slice a_y q.length c_y : Value).ownBlock with
        | none => exact .inl rfl
        | some k => exact .inr (fun e => BX_T_y.out k hv (Option.some.inj e))))
      clear O_y
      have k_54 := Lib.hid (O_k.out.kept q53 (by
        cases hv : (.slice a_k h.length c_k : Value).ownBlock with
        | none => exact .inl rfl
        | some k => exact .inr (fun e => BX_T_k.out k hv (Option.some.inj e))))
      clear O_k
      have A_54 := Lib.hid (A_49.out.grown q53 (by intro e; have e2 : R_A = R_T := Option.some.inj e; have h1 := HR_A.out; have h2 := HR_T.out; omega))
      clear A_49
      clear T_49
      clear hW53 p53 q53
      have c55_T_0 := X53_T.out.at 0 (v := .int .i64 t) rfl
      have c55_T_1 := X53_T.out.at 1 (v := .int .i64 z) rfl
      have c55_T_2 := X53_T.out.at 2 (v := .slice a_y q.length c_y) rfl
      have c55_T_3 := X53_T.out.at 3 (v := .int .i64 c) rfl
      have c55_T_4 := X53_T.out.at 4 (v := .int .i64 u) rfl
      have c55_T_5 := X53_T.out.at 5 (v := .slice a_k h.length c_k) rfl
      have c56_A_0 := A_54.out.at 0 (v := .int .i64 0) rfl
      have c56_A_1 := A_54.out.at 1 (v := .int .i64 0) rfl
      have c56_A_2 := A_54.out.at 2 (v := .slice none 0 0) rfl
      have c56_A_3 := A_54.out.at 3 (v := .int .i64 0) rfl
      have c56_A_4 := A_54.out.at 4 (v := .int .i64 0) rfl
      have c56_A_5 := A_54.out.at 5 (v := .slice none 0 0) rfl
      have fr57_T_0 := X53_T.out.free 0
      have fr57_T_1 := X53_T.out.free 1
      have fr57_T_2 := X53_T.out.free 2
      have fr57_T_3 := X53_T.out.free 3
      have fr57_T_4 := X53_T.out.free 4
      have fr57_T_5 := X53_T.out.free 5
      go_upto_region 5 with fail
      clear c55_T_0 c55_T_1 c55_T_2 c55_T_3 c55_T_4 c55_T_5
      clear fr57_T_0 fr57_T_1 fr57_T_2 fr57_T_3 fr57_T_4 fr57_T_5
      clear c56_A_0 c56_A_1 c56_A_2 c56_A_3 c56_A_4 c56_A_5
      obtain ⟨p58, q58⟩ := X53_T.out.set 3 (.int .i64 (c + 1))
      obtain ⟨W58, hW58⟩ : ∃ W58, W58 = (W53.setCell ⟨R_T, 3, none⟩ (.int .i64 (c + 1))) := ⟨_, rfl⟩
      rw [← hW58] at p58 q58 ⊢
      have X58_T : Hid (Bx W58 R_T #[.int .i64 t, .int .i64 z, .slice a_y q.length c_y, .int .i64 (c + 1), .int .i64 u, .slice a_k h.length c_k] 29) := Lib.hid p58
      have HB_59 := Lib.hid (HB_54.out.grown q58 HB_54.out.size (fun k hk => by have e2 : R_T = k := Option.some.inj hk; have := HR_T.out; omega))
      have y_59 := Lib.hid (y_54.out.kept q58 (by
        cases hv : (.slice a_y q.length c_y : Value).ownBlock with
        | none => exact .inl rfl
        | some k => exact .inr (fun e => BX_T_y.out k hv (Option.some.inj e))))
      clear y_54
      have k_59 := Lib.hid (k_54.out.kept q58 (by
        cases hv : (.slice a_k h.length c_k : Value).ownBlock with
        | none => exact .inl rfl
        | some k => exact .inr (fun e => BX_T_k.out k hv (Option.some.inj e))))
      clear k_54
      have A_59 := Lib.hid (A_54.out.grown q58 (by intro e; have e2 : R_A = R_T := Option.some.inj e; have h1 := HR_A.out; have h2 := HR_T.out; omega))
      clear A_54
      clear X53_T
      clear hW58 p58 q58
      have c60_T_0 := X58_T.out.at 0 (v := .int .i64 t) rfl
      have c60_T_1 := X58_T.out.at 1 (v := .int .i64 z) rfl
      have c60_T_2 := X58_T.out.at 2 (v := .slice a_y q.length c_y) rfl
      have c60_T_3 := X58_T.out.at 3 (v := .int .i64 (c + 1)) rfl
      have c60_T_4 := X58_T.out.at 4 (v := .int .i64 u) rfl
      have c60_T_5 := X58_T.out.at 5 (v := .slice a_k h.length c_k) rfl
      have c61_A_0 := A_59.out.at 0 (v := .int .i64 0) rfl
      have c61_A_1 := A_59.out.at 1 (v := .int .i64 0) rfl
      have c61_A_2 := A_59.out.at 2 (v := .slice none 0 0) rfl
      have c61_A_3 := A_59.out.at 3 (v := .int .i64 0) rfl
      have c61_A_4 := A_59.out.at 4 (v := .int .i64 0) rfl
      have c61_A_5 := A_59.out.at 5 (v := .slice none 0 0) rfl
      clear c60_T_0 c60_T_1 c60_T_2 c60_T_3 c60_T_4 c60_T_5
      clear c61_A_0 c61_A_1 c61_A_2 c61_A_3 c61_A_4 c61_A_5
      have c63_T_0 := X58_T.out.at 0 (v := .int .i64 t) rfl
      have c63_T_1 := X58_T.out.at 1 (v := .int .i64 z) rfl
      have c63_T_2 := X58_T.out.at 2 (v := .slice a_y q.length c_y) rfl
      have c63_T_3 := X58_T.out.at 3 (v := .int .i64 (c + 1)) rfl
      have c63_T_4 := X58_T.out.at 4 (v := .int .i64 u) rfl
      have c63_T_5 := X58_T.out.at 5 (v := .slice a_k h.length c_k) rfl
      have c64_A_0 := A_59.out.at 0 (v := .int .i64 0) rfl
      have c64_A_1 := A_59.out.at 1 (v := .int .i64 0) rfl
      have c64_A_2 := A_59.out.at 2 (v := .slice none 0 0) rfl
      have c64_A_3 := A_59.out.at 3 (v := .int .i64 0) rfl
      have c64_A_4 := A_59.out.at 4 (v := .int .i64 0) rfl
      have c64_A_5 := A_59.out.at 5 (v := .slice none 0 0) rfl
      have HDel62 := Lib.hid (deleteHd_any (fun x => decide (x.u ≤ c + 1)) (.slice a_k h.length c_k) h 61 #[.pointer (some ⟨R_T, 0, none⟩)] w.heap.size W58 k_59.out (by omega) (enters_of Try.func61 (by kernel_rfl) rfl) (fun W hW x hx => tick1_any x R_T (c + 1) W ((X58_T.out.grown hW (fun e => BX_T_k.out _ e.symm rfl)).at 3 (v := .int .i64 (c + 1)) rfl) (Nat.lt_of_lt_of_le X58_T.out.lt hW.size)))
      rw [HFe.out] at HDel62
      go_wp2_with fail
      refine HDel62.out.mono ?_
      rintro e W62 ⟨v_d, rfl, o_d, gr62, sb62⟩
      clear HDel62
      obtain ⟨a_d, c_d, rfl, _, _⟩ := ownz_slice o_d
      have AP_y_d : Hid (∀ k, (.slice a_y q.length c_y : Value).ownBlock = some k → (.slice a_d kp.length c_d : Value).ownBlock ≠ some k) := Lib.hid (fun k h1 h2 => AP_y_k.out k h1 (sb62 k h2))
      have BX_T_d : Hid (∀ k, (.slice a_d kp.length c_d : Value).ownBlock = some k → k ≠ R_T) := Lib.hid (fun k h1 => BX_T_k.out k (sb62 k h1))
      have BX_A_d : Hid (∀ k, (.slice a_d kp.length c_d : Value).ownBlock = some k → k ≠ R_A) := Lib.hid (fun k h1 => BX_A_k.out k (sb62 k h1))
      clear c63_T_0 c63_T_1 c63_T_2 c63_T_3 c63_T_4 c63_T_5
      clear c64_A_0 c64_A_1 c64_A_2 c64_A_3 c64_A_4 c64_A_5
      have HB_65 := Lib.hid (HB_59.out.grown gr62 HB_59.out.size (fun q hq => (k_59.out.lt q hq).1))
      have y_65 := Lib.hid (ownz_apart y_59.out gr62 (fun k h1 h2 => AP_y_k.out k h1 h2))
      clear y_59
      have T_65 := Lib.hid (X58_T.out.grown gr62 (fun e => BX_T_k.out _ e.symm rfl))
      clear X58_T
      have A_65 := Lib.hid (A_59.out.grown gr62 (fun e => BX_A_k.out _ e.symm rfl))
      clear A_59
      have O_d := Lib.hid o_d
      clear o_d gr62 sb62 k_59
      have c66_T_0 := T_65.out.at 0 (v := .int .i64 t) rfl
      have c66_T_1 := T_65.out.at 1 (v := .int .i64 z) rfl
      have c66_T_2 := T_65.out.at 2 (v := .slice a_y q.length c_y) rfl
      have c66_T_3 := T_65.out.at 3 (v := .int .i64 (c + 1)) rfl
      have c66_T_4 := T_65.out.at 4 (v := .int .i64 u) rfl
      have c66_T_5 := T_65.out.at 5 (v := .slice a_k h.length c_k) rfl
      have c67_A_0 := A_65.out.at 0 (v := .int .i64 0) rfl
      have c67_A_1 := A_65.out.at 1 (v := .int .i64 0) rfl
      have c67_A_2 := A_65.out.at 2 (v := .slice none 0 0) rfl
      have c67_A_3 := A_65.out.at 3 (v := .int .i64 0) rfl
      have c67_A_4 := A_65.out.at 4 (v := .int .i64 0) rfl
      have c67_A_5 := A_65.out.at 5 (v := .slice none 0 0) rfl
      have fr68_T_0 := T_65.out.free 0
      have fr68_T_1 := T_65.out.free 1
      have fr68_T_2 := T_65.out.free 2
      have fr68_T_3 := T_65.out.free 3
      have fr68_T_4 := T_65.out.free 4
      have fr68_T_5 := T_65.out.free 5
      go_upto_region 6 with fail
      clear c66_T_0 c66_T_1 c66_T_2 c66_T_3 c66_T_4 c66_T_5
      clear fr68_T_0 fr68_T_1 fr68_T_2 fr68_T_3 fr68_T_4 fr68_T_5
      clear c67_A_0 c67_A_1 c67_A_2 c67_A_3 c67_A_4 c67_A_5
      obtain ⟨p69, q69⟩ := T_65.out.set 5 (.slice a_d kp.length c_d)
      obtain ⟨W69, hW69⟩ : ∃ W69, W69 = (W62.setCell ⟨R_T, 5, none⟩ (.slice a_d kp.length c_d)) := ⟨_, rfl⟩
      rw [← hW69] at p69 q69 ⊢
      have X69_T : Hid (Bx W69 R_T #[.int .i64 t, .int .i64 z, .slice a_y q.length c_y, .int .i64 (c + 1), .int .i64 u, .slice a_d kp.length c_d] 29) := Lib.hid p69
      have HB_70 := Lib.hid (HB_65.out.grown q69 HB_65.out.size (fun k hk => by have e2 : R_T = k := Option.some.inj hk; have := HR_T.out; omega))
      have y_70 := Lib.hid (y_65.out.kept q69 (by
        cases hv : (.slice a_y q.length c_y : Value).ownBlock with
        | none => exact .inl rfl
        | some k => exact .inr (fun e => BX_T_y.out k hv (Option.some.inj e))))
      clear y_65
      have d_70 := Lib.hid (O_d.out.kept q69 (by
        cases hv : (.slice a_d kp.length c_d : Value).ownBlock with
        | none => exact .inl rfl
        | some k => exact .inr (fun e => BX_T_d.out k hv (Option.some.inj e))))
      clear O_d
      have A_70 := Lib.hid (A_65.out.grown q69 (by intro e; have e2 : R_A = R_T := Option.some.inj e; have h1 := HR_A.out; have h2 := HR_T.out; omega))
      clear A_65
      clear T_65
      clear hW69 p69 q69
      have c71_T_0 := X69_T.out.at 0 (v := .int .i64 t) rfl
      have c71_T_1 := X69_T.out.at 1 (v := .int .i64 z) rfl
      have c71_T_2 := X69_T.out.at 2 (v := .slice a_y q.length c_y) rfl
      have c71_T_3 := X69_T.out.at 3 (v := .int .i64 (c + 1)) rfl
      have c71_T_4 := X69_T.out.at 4 (v := .int .i64 u) rfl
      have c71_T_5 := X69_T.out.at 5 (v := .slice a_d kp.length c_d) rfl
      have c72_A_0 := A_70.out.at 0 (v := .int .i64 0) rfl
      have c72_A_1 := A_70.out.at 1 (v := .int .i64 0) rfl
      have c72_A_2 := A_70.out.at 2 (v := .slice none 0 0) rfl
      have c72_A_3 := A_70.out.at 3 (v := .int .i64 0) rfl
      have c72_A_4 := A_70.out.at 4 (v := .int .i64 0) rfl
      have c72_A_5 := A_70.out.at 5 (v := .slice none 0 0) rfl
      have fr73_T_0 := X69_T.out.free 0
      have fr73_T_1 := X69_T.out.free 1
      have fr73_T_2 := X69_T.out.free 2
      have fr73_T_3 := X69_T.out.free 3
      have fr73_T_4 := X69_T.out.free 4
      have fr73_T_5 := X69_T.out.free 5
      go_upto_region 7 with fail
      clear c71_T_0 c71_T_1 c71_T_2 c71_T_3 c71_T_4 c71_T_5
      clear fr73_T_0 fr73_T_1 fr73_T_2 fr73_T_3 fr73_T_4 fr73_T_5
      clear c72_A_0 c72_A_1 c72_A_2 c72_A_3 c72_A_4 c72_A_5
      obtain ⟨p74, q74⟩ := X69_T.out.set 4 (.int .i64 uu)
      obtain ⟨W74, hW74⟩ : ∃ W74, W74 = (W69.setCell ⟨R_T, 4, none⟩ (.int .i64 uu)) := ⟨_, rfl⟩
      rw [← hW74] at p74 q74 ⊢
      have X74_T : Hid (Bx W74 R_T #[.int .i64 t, .int .i64 z, .slice a_y q.length c_y, .int .i64 (c + 1), .int .i64 uu, .slice a_d kp.length c_d] 29) := Lib.hid p74
      have HB_75 := Lib.hid (HB_70.out.grown q74 HB_70.out.size (fun k hk => by have e2 : R_T = k := Option.some.inj hk; have := HR_T.out; omega))
      have y_75 := Lib.hid (y_70.out.kept q74 (by
        cases hv : (.slice a_y q.length c_y : Value).ownBlock with
        | none => exact .inl rfl
        | some k => exact .inr (fun e => BX_T_y.out k hv (Option.some.inj e))))
      clear y_70
      have d_75 := Lib.hid (d_70.out.kept q74 (by
        cases hv : (.slice a_d kp.length c_d : Value).ownBlock with
        | none => exact .inl rfl
        | some k => exact .inr (fun e => BX_T_d.out k hv (Option.some.inj e))))
      clear d_70
      have A_75 := Lib.hid (A_70.out.grown q74 (by intro e; have e2 : R_A = R_T := Option.some.inj e; have h1 := HR_A.out; have h2 := HR_T.out; omega))
      clear A_70
      clear X69_T
      clear hW74 p74 q74
      have c76_T_0 := X74_T.out.at 0 (v := .int .i64 t) rfl
      have c76_T_1 := X74_T.out.at 1 (v := .int .i64 z) rfl
      have c76_T_2 := X74_T.out.at 2 (v := .slice a_y q.length c_y) rfl
      have c76_T_3 := X74_T.out.at 3 (v := .int .i64 (c + 1)) rfl
      have c76_T_4 := X74_T.out.at 4 (v := .int .i64 uu) rfl
      have c76_T_5 := X74_T.out.at 5 (v := .slice a_d kp.length c_d) rfl
      have c77_A_0 := A_75.out.at 0 (v := .int .i64 0) rfl
      have c77_A_1 := A_75.out.at 1 (v := .int .i64 0) rfl
      have c77_A_2 := A_75.out.at 2 (v := .slice none 0 0) rfl
      have c77_A_3 := A_75.out.at 3 (v := .int .i64 0) rfl
      have c77_A_4 := A_75.out.at 4 (v := .int .i64 0) rfl
      have c77_A_5 := A_75.out.at 5 (v := .slice none 0 0) rfl
      go_upto_region 9 with fail
      clear c76_T_0 c76_T_1 c76_T_2 c76_T_3 c76_T_4 c76_T_5
      clear c77_A_0 c77_A_1 c77_A_2 c77_A_3 c77_A_4 c77_A_5
      have l78 : Below W74.heap.size W74 W74.drew := Below.drew (Below.refl _ _)
      refine wp_region_held_drew (S := (fun w' => w'.cell? ⟨R_T, 0, none⟩ = some (.int .i64 t) ∧ w'.cell? ⟨R_T, 1, none⟩ = some (.int .i64 z) ∧ w'.cell? ⟨R_T, 2, none⟩ = some (.slice a_y q.length c_y) ∧ w'.cell? ⟨R_T, 3, none⟩ = some (.int .i64 (c + 1)) ∧ w'.cell? ⟨R_T, 4, none⟩ = some (.int .i64 uu) ∧ w'.cell? ⟨R_T, 5, none⟩ = some (.slice a_d kp.length c_d) ∧ Below w.heap.size w w')) (by kernel_rfl) ?_ (fun hHeld => ?_)
      · exact ⟨X74_T.out.at 0 (v := .int .i64 t) rfl, X74_T.out.at 1 (v := .int .i64 z) rfl, X74_T.out.at 2 (v := .slice a_y q.length c_y) rfl, X74_T.out.at 3 (v := .int .i64 (c + 1)) rfl, X74_T.out.at 4 (v := .int .i64 uu) rfl, X74_T.out.at 5 (v := .slice a_d kp.length c_d) rfl, Below.drew HB_75.out⟩
      obtain ⟨W78, hW78⟩ : ∃ W78, W78 = W74.drew := ⟨_, rfl⟩
      rw [← hW78] at hHeld l78 ⊢
      clear hW78
      have HB_79 := Lib.hid (HB_75.out.trans (l78.mono HB_75.out.size))
      have y_79 := Lib.hid (ownz_below y_75.out l78 (Nat.le_refl _))
      clear y_75
      have d_79 := Lib.hid (ownz_below d_75.out l78 (Nat.le_refl _))
      clear d_75
      have T_79 := Lib.hid (X74_T.out.below l78 X74_T.out.lt)
      clear X74_T
      have A_79 := Lib.hid (A_75.out.below l78 A_75.out.lt)
      clear A_75
      clear l78
      (refine wpAnyH_take (i := 0) (oi := { dst := some 36, op := Go.Op.load 29 (Go.Operand.tmp 1), type := 29, pos := "l11_source.go:107", after := #[], guard := none }) (v := (.agg #[.int .i64 t, .int .i64 z, .slice a_y q.length c_y, .int .i64 (c + 1), .int .i64 uu, .slice a_d kp.length c_d])) rfl (by kernel_rfl) (by kernel_rfl) (by kernel_rfl) (fun _ _ _ h => h) (Or.inl ⟨by rfl, ?_⟩) (by assumption) ?_; (focus (intro w' hSw; (try dsimp only at hSw); go_simp; (try with_reducible rfl))); (try simp only [Act.put, List.setIfInBounds_toArray, List.set_cons_zero, List.set_cons_succ]))
      (refine wpAnyH_take (i := 1) (oi := { dst := some 37, op := Go.Op.load 29 (Go.Operand.tmp 1), type := 29, pos := "l11_source.go:107", after := #[], guard := none }) (v := (.agg #[.int .i64 t, .int .i64 z, .slice a_y q.length c_y, .int .i64 (c + 1), .int .i64 uu, .slice a_d kp.length c_d])) rfl (by kernel_rfl) (by kernel_rfl) (by kernel_rfl) (fun _ _ _ h => h) (Or.inl ⟨by rfl, ?_⟩) (by assumption) ?_; (focus (intro w' hSw; (try dsimp only at hSw); go_simp; (try with_reducible rfl))); (try simp only [Act.put, List.setIfInBounds_toArray, List.set_cons_zero, List.set_cons_succ]))
      refine wpAnyH_ready (rs := [2]) (by kernel_rfl) (by simp) ?_
      refine AllReadyH.cons rfl (fun K hK => ?_) AllReadyH.nil
      have c80_T_0 := T_79.out.at 0 (v := .int .i64 t) rfl
      have c80_T_1 := T_79.out.at 1 (v := .int .i64 z) rfl
      have c80_T_2 := T_79.out.at 2 (v := .slice a_y q.length c_y) rfl
      have c80_T_3 := T_79.out.at 3 (v := .int .i64 (c + 1)) rfl
      have c80_T_4 := T_79.out.at 4 (v := .int .i64 uu) rfl
      have c80_T_5 := T_79.out.at 5 (v := .slice a_d kp.length c_d) rfl
      have c81_A_0 := A_79.out.at 0 (v := .int .i64 0) rfl
      have c81_A_1 := A_79.out.at 1 (v := .int .i64 0) rfl
      have c81_A_2 := A_79.out.at 2 (v := .slice none 0 0) rfl
      have c81_A_3 := A_79.out.at 3 (v := .int .i64 0) rfl
      have c81_A_4 := A_79.out.at 4 (v := .int .i64 0) rfl
      have c81_A_5 := A_79.out.at 5 (v := .slice none 0 0) rfl
      go_simp
      go_at_call 62
      refine (HSt.out _ _ _ (rowz_own y_79.out) (rowz_own d_79.out)).mono ?_
      rintro e W82 ⟨rfl, l82⟩
      clear c80_T_0 c80_T_1 c80_T_2 c80_T_3 c80_T_4 c80_T_5
      clear c81_A_0 c81_A_1 c81_A_2 c81_A_3 c81_A_4 c81_A_5
      have HB_83 := Lib.hid (HB_79.out.trans (l82.mono HB_79.out.size))
      have y_83 := Lib.hid (ownz_below y_79.out l82 (Nat.le_refl _))
      clear y_79
      have d_83 := Lib.hid (ownz_below d_79.out l82 (Nat.le_refl _))
      clear d_79
      have T_83 := Lib.hid (T_79.out.below l82 T_79.out.lt)
      clear T_79
      have A_83 := Lib.hid (A_79.out.below l82 A_79.out.lt)
      clear A_79
      clear l82
      refine hK.out _ _ ?S1 (fun hHeld1 => ?rest1)
      case S1 =>
        (try dsimp only)
        exact ⟨T_83.out.at 0 (v := .int .i64 t) rfl, T_83.out.at 1 (v := .int .i64 z) rfl, T_83.out.at 2 (v := .slice a_y q.length c_y) rfl, T_83.out.at 3 (v := .int .i64 (c + 1)) rfl, T_83.out.at 4 (v := .int .i64 uu) rfl, T_83.out.at 5 (v := .slice a_d kp.length c_d) rfl, HB_83.out⟩
      case rest1 =>
        clear hK K
        clear hHeld
        (try simp only [Act.put, List.setIfInBounds_toArray, List.set_cons_zero, List.set_cons_succ])
        refine wpAnyH_ready (rs := [3, 4]) (by kernel_rfl) (by simp) ?_
        refine AllReadyH.cons rfl (fun K hK => ?_) (AllReadyH.cons rfl (fun K hK => ?_) AllReadyH.nil)
        · skip
          go_simp
          obtain ⟨W84, hW84⟩ : ∃ W84, W84 = W82.alloc (.cells #[.int .i64 5, .int .i64 t, .int .i64 t, .int .i64 le, .string ⟨#[]⟩] 64) := ⟨_, rfl⟩
          have l84 : Below W82.heap.size W82 W84 := by rw [hW84]; exact (Below.refl _ _).alloc (Nat.le_refl _) _
          have X84_Lp : Hid (Bx W84 W82.heap.size #[.int .i64 5, .int .i64 t, .int .i64 t, .int .i64 le, .string ⟨#[]⟩] 64) := Lib.hid (by rw [hW84]; exact Bx.new _ _ _)
          rw [← hW84]
          clear hW84
          have BX_Lp_y : Hid (∀ k, (.slice a_y q.length c_y : Value).ownBlock = some k → k ≠ W82.heap.size) := Lib.hid (fun k h1 h2 => absurd (y_83.out.lt k h1).2 (by omega))
          have BX_Lp_d : Hid (∀ k, (.slice a_d kp.length c_d : Value).ownBlock = some k → k ≠ W82.heap.size) := Lib.hid (fun k h1 h2 => absurd (d_83.out.lt k h1).2 (by omega))
          have HG_Lp : Hid (w.heap.size ≤ W82.heap.size) := Lib.hid HB_83.out.size
          have HN_Lp_T : Hid (R_T < W82.heap.size) := Lib.hid T_83.out.lt
          have HN_Lp_A : Hid (R_A < W82.heap.size) := Lib.hid A_83.out.lt
          obtain ⟨R_Lp, hR_Lp⟩ : ∃ X, X = W82.heap.size := ⟨_, rfl⟩
          rw [← hR_Lp] at X84_Lp HG_Lp BX_Lp_y BX_Lp_d HN_Lp_T HN_Lp_A ⊢
          clear hR_Lp
          have HB_85 := Lib.hid (HB_83.out.trans (l84.mono HB_83.out.size))
          have y_85 := Lib.hid (ownz_below y_83.out l84 (Nat.le_refl _))
          clear y_83
          have d_85 := Lib.hid (ownz_below d_83.out l84 (Nat.le_refl _))
          clear d_83
          have T_85 := Lib.hid (T_83.out.below l84 T_83.out.lt)
          clear T_83
          have A_85 := Lib.hid (A_83.out.below l84 A_83.out.lt)
          clear A_83
          clear l84
          have c86_T_0 := T_85.out.at 0 (v := .int .i64 t) rfl
          have c86_T_1 := T_85.out.at 1 (v := .int .i64 z) rfl
          have c86_T_2 := T_85.out.at 2 (v := .slice a_y q.length c_y) rfl
          have c86_T_3 := T_85.out.at 3 (v := .int .i64 (c + 1)) rfl
          have c86_T_4 := T_85.out.at 4 (v := .int .i64 uu) rfl
          have c86_T_5 := T_85.out.at 5 (v := .slice a_d kp.length c_d) rfl
          have c87_A_0 := A_85.out.at 0 (v := .int .i64 0) rfl
          have c87_A_1 := A_85.out.at 1 (v := .int .i64 0) rfl
          have c87_A_2 := A_85.out.at 2 (v := .slice none 0 0) rfl
          have c87_A_3 := A_85.out.at 3 (v := .int .i64 0) rfl
          have c87_A_4 := A_85.out.at 4 (v := .int .i64 0) rfl
          have c87_A_5 := A_85.out.at 5 (v := .slice none 0 0) rfl
          have c88_Lp_0 := X84_Lp.out.at 0 (v := .int .i64 5) rfl
          have c88_Lp_1 := X84_Lp.out.at 1 (v := .int .i64 t) rfl
          have c88_Lp_2 := X84_Lp.out.at 2 (v := .int .i64 t) rfl
          have c88_Lp_3 := X84_Lp.out.at 3 (v := .int .i64 le) rfl
          have c88_Lp_4 := X84_Lp.out.at 4 (v := .string ⟨#[]⟩) rfl
          have AP_y_p : Hid (∀ k, (.slice a_y q.length c_y : Value).ownBlock = some k → (.slice (some ⟨R_Lp, 0, none⟩) 1 1 : Value).ownBlock ≠ some k) := Lib.hid (fun k h1 h2 => BX_Lp_y.out k h1 (Option.some.inj h2).symm)
          have AP_d_p : Hid (∀ k, (.slice a_d kp.length c_d : Value).ownBlock = some k → (.slice (some ⟨R_Lp, 0, none⟩) 1 1 : Value).ownBlock ≠ some k) := Lib.hid (fun k h1 h2 => BX_Lp_d.out k h1 (Option.some.inj h2).symm)
          have O_p := Lib.hid (ownPq_one (p := ⟨5, t, t, le, ⟨#[]⟩⟩) X84_Lp.out HG_Lp.out)
          have BX_T_p : Hid (∀ k, (.slice (some ⟨R_Lp, 0, none⟩) 1 1 : Value).ownBlock = some k → k ≠ R_T) := Lib.hid (fun k h1 h2 => by have e1 : R_Lp = k := Option.some.inj h1; have e2 := HN_Lp_T.out; omega)
          have BX_A_p : Hid (∀ k, (.slice (some ⟨R_Lp, 0, none⟩) 1 1 : Value).ownBlock = some k → k ≠ R_A) := Lib.hid (fun k h1 h2 => by have e1 : R_Lp = k := Option.some.inj h1; have e2 := HN_Lp_A.out; omega)
          clear c88_Lp_0 c88_Lp_1 c88_Lp_2 c88_Lp_3 c88_Lp_4
          clear X84_Lp
          clear c86_T_0 c86_T_1 c86_T_2 c86_T_3 c86_T_4 c86_T_5
          clear c87_A_0 c87_A_1 c87_A_2 c87_A_3 c87_A_4 c87_A_5
          refine hK.out _ _ ?S2 (fun hHeld2 => ?rest2)
          case S2 =>
            (try dsimp only)
            exact ⟨T_85.out.at 0 (v := .int .i64 t) rfl, T_85.out.at 1 (v := .int .i64 z) rfl, T_85.out.at 2 (v := .slice a_y q.length c_y) rfl, T_85.out.at 3 (v := .int .i64 (c + 1)) rfl, T_85.out.at 4 (v := .int .i64 uu) rfl, T_85.out.at 5 (v := .slice a_d kp.length c_d) rfl, HB_85.out⟩
          case rest2 =>
            clear hK K
            clear hHeld1
            (try simp only [Act.put, List.setIfInBounds_toArray, List.set_cons_zero, List.set_cons_succ])
            refine wpAnyH_ready (rs := [4]) (by kernel_rfl) (by simp) ?_
            refine AllReadyH.cons rfl (fun K hK => ?_) AllReadyH.nil
            have c89_A_0 := A_85.out.at 0 (v := .int .i64 0) rfl
            have c89_A_1 := A_85.out.at 1 (v := .int .i64 0) rfl
            have c89_A_2 := A_85.out.at 2 (v := .slice none 0 0) rfl
            have c89_A_3 := A_85.out.at 3 (v := .int .i64 0) rfl
            have c89_A_4 := A_85.out.at 4 (v := .int .i64 0) rfl
            have c89_A_5 := A_85.out.at 5 (v := .slice none 0 0) rfl
            have fr90_A_0 := A_85.out.free 0
            have fr90_A_1 := A_85.out.free 1
            have fr90_A_2 := A_85.out.free 2
            have fr90_A_3 := A_85.out.free 3
            have fr90_A_4 := A_85.out.free 4
            have fr90_A_5 := A_85.out.free 5
            go_simp
            clear c89_A_0 c89_A_1 c89_A_2 c89_A_3 c89_A_4 c89_A_5
            clear fr90_A_0 fr90_A_1 fr90_A_2 fr90_A_3 fr90_A_4 fr90_A_5
            obtain ⟨p91, q91⟩ := A_85.out.store6 (.int .i64 t) (.int .i64 z) (.slice a_y q.length c_y) (.int .i64 (c + 1)) (.int .i64 uu) (.slice a_d kp.length c_d)
            obtain ⟨W91, hW91⟩ : ∃ W91, W91 = ((((((W84.setCell ⟨R_A, 0, none⟩ (.int .i64 t)).setCell ⟨R_A, 1, none⟩ (.int .i64 z)).setCell ⟨R_A, 2, none⟩ (.slice a_y q.length c_y)).setCell ⟨R_A, 3, none⟩ (.int .i64 (c + 1))).setCell ⟨R_A, 4, none⟩ (.int .i64 uu)).setCell ⟨R_A, 5, none⟩ (.slice a_d kp.length c_d)) := ⟨_, rfl⟩
            rw [← hW91] at p91 q91 ⊢
            have X91_A : Hid (Bx W91 R_A #[.int .i64 t, .int .i64 z, .slice a_y q.length c_y, .int .i64 (c + 1), .int .i64 uu, .slice a_d kp.length c_d] 29) := Lib.hid p91
            have HB_92 := Lib.hid (HB_85.out.grown q91 HB_85.out.size (fun k hk => by have e2 : R_A = k := Option.some.inj hk; have := HR_A.out; omega))
            have y_92 := Lib.hid (y_85.out.kept q91 (by
              cases hv : (.slice a_y q.length c_y : Value).ownBlock with
              | none => exact .inl rfl
              | some k => exact .inr (fun e => BX_A_y.out k hv (Option.some.inj e))))
            clear y_85
            have d_92 := Lib.hid (d_85.out.kept q91 (by
              cases hv : (.slice a_d kp.length c_d : Value).ownBlock with
              | none => exact .inl rfl
              | some k => exact .inr (fun e => BX_A_d.out k hv (Option.some.inj e))))
            clear d_85
            have p_92 := Lib.hid (O_p.out.kept q91 (by
              cases hv : (.slice (some ⟨R_Lp, 0, none⟩) 1 1 : Value).ownBlock with
              | none => exact .inl rfl
              | some k => exact .inr (fun e => BX_A_p.out k hv (Option.some.inj e))))
            clear O_p
            have T_92 := Lib.hid (T_85.out.grown q91 (by intro e; have e2 : R_T = R_A := Option.some.inj e; have h1 := HR_T.out; have h2 := HR_A.out; omega))
            clear T_85
            clear A_85
            clear hW91 p91 q91
            have c93_T_0 := T_92.out.at 0 (v := .int .i64 t) rfl
            have c93_T_1 := T_92.out.at 1 (v := .int .i64 z) rfl
            have c93_T_2 := T_92.out.at 2 (v := .slice a_y q.length c_y) rfl
            have c93_T_3 := T_92.out.at 3 (v := .int .i64 (c + 1)) rfl
            have c93_T_4 := T_92.out.at 4 (v := .int .i64 uu) rfl
            have c93_T_5 := T_92.out.at 5 (v := .slice a_d kp.length c_d) rfl
            have c94_A_0 := X91_A.out.at 0 (v := .int .i64 t) rfl
            have c94_A_1 := X91_A.out.at 1 (v := .int .i64 z) rfl
            have c94_A_2 := X91_A.out.at 2 (v := .slice a_y q.length c_y) rfl
            have c94_A_3 := X91_A.out.at 3 (v := .int .i64 (c + 1)) rfl
            have c94_A_4 := X91_A.out.at 4 (v := .int .i64 uu) rfl
            have c94_A_5 := X91_A.out.at 5 (v := .slice a_d kp.length c_d) rfl
            clear c93_T_0 c93_T_1 c93_T_2 c93_T_3 c93_T_4 c93_T_5
            clear c94_A_0 c94_A_1 c94_A_2 c94_A_3 c94_A_4 c94_A_5
            refine hK.out _ _ ?S3 (fun hHeld3 => ?rest3)
            case S3 =>
              (try dsimp only)
              exact ⟨T_92.out.at 0 (v := .int .i64 t) rfl, T_92.out.at 1 (v := .int .i64 z) rfl, T_92.out.at 2 (v := .slice a_y q.length c_y) rfl, T_92.out.at 3 (v := .int .i64 (c + 1)) rfl, T_92.out.at 4 (v := .int .i64 uu) rfl, T_92.out.at 5 (v := .slice a_d kp.length c_d) rfl, HB_92.out⟩
            case rest3 =>
              clear hK K
              clear hHeld2
              (try simp only [Act.put, List.setIfInBounds_toArray, List.set_cons_zero, List.set_cons_succ])
              (refine wpAnyH_take (i := 5) (oi := { dst := some 3, op := Go.Op.assign (Go.Operand.tmp 39), type := 46, pos := "l11_source.go:107", after := #[{ on := 3, ground := Go.Ground.data }, { on := 4, ground := Go.Ground.chain }, { on := 0, ground := Go.Ground.phase }, { on := 1, ground := Go.Ground.phase }, { on := 2, ground := Go.Ground.phase }, { on := 3, ground := Go.Ground.phase }, { on := 4, ground := Go.Ground.phase }], guard := none }) (v := (.slice (some ⟨R_Lp, 0, none⟩) 1 1)) rfl (by kernel_rfl) (by kernel_rfl) (by kernel_rfl) (fun _ _ _ h => h) (Or.inl ⟨by rfl, ?_⟩) (by assumption) ?_; (focus (intro w' hSw; (try dsimp only at hSw); go_simp; (try with_reducible rfl))); (try simp only [Act.put, List.setIfInBounds_toArray, List.set_cons_zero, List.set_cons_succ]))
              (refine wpAnyH_take (i := 6) (oi := { dst := some 4, op := Go.Op.assign (Go.Operand.const (Go.Value.bool true)), type := 4, pos := "l11_source.go:107", after := #[{ on := 5, ground := Go.Ground.chain }, { on := 0, ground := Go.Ground.phase }, { on := 1, ground := Go.Ground.phase }, { on := 2, ground := Go.Ground.phase }, { on := 3, ground := Go.Ground.phase }, { on := 4, ground := Go.Ground.phase }, { on := 5, ground := Go.Ground.phase }], guard := none }) (v := (.bool true)) rfl (by kernel_rfl) (by kernel_rfl) (by kernel_rfl) (fun _ _ _ h => h) (Or.inl ⟨by rfl, ?_⟩) (by assumption) ?_; (focus (intro w' hSw; (try dsimp only at hSw); go_simp; (try with_reducible rfl))); (try simp only [Act.put, List.setIfInBounds_toArray, List.set_cons_zero, List.set_cons_succ]))
              refine wpAnyH_done (by kernel_rfl) ?_ _
              clear hHeld3
              go_wp2_with fail
              refine bodyPost_ret (results_bx2 rfl isSo _ _ R_A rfl rfl rfl rfl X91_A.out) rfl ⟨.slice a_y q.length c_y, .slice a_d kp.length c_d, .slice (some ⟨R_Lp, 0, none⟩) 1 1, rfl, y_92.out, d_92.out, AP_y_d.out, p_92.out, AP_y_p.out, AP_d_p.out, HB_92.out⟩
        · skip
          have c95_A_0 := A_83.out.at 0 (v := .int .i64 0) rfl
          have c95_A_1 := A_83.out.at 1 (v := .int .i64 0) rfl
          have c95_A_2 := A_83.out.at 2 (v := .slice none 0 0) rfl
          have c95_A_3 := A_83.out.at 3 (v := .int .i64 0) rfl
          have c95_A_4 := A_83.out.at 4 (v := .int .i64 0) rfl
          have c95_A_5 := A_83.out.at 5 (v := .slice none 0 0) rfl
          have fr96_A_0 := A_83.out.free 0
          have fr96_A_1 := A_83.out.free 1
          have fr96_A_2 := A_83.out.free 2
          have fr96_A_3 := A_83.out.free 3
          have fr96_A_4 := A_83.out.free 4
          have fr96_A_5 := A_83.out.free 5
          go_simp
          clear c95_A_0 c95_A_1 c95_A_2 c95_A_3 c95_A_4 c95_A_5
          clear fr96_A_0 fr96_A_1 fr96_A_2 fr96_A_3 fr96_A_4 fr96_A_5
          obtain ⟨p97, q97⟩ := A_83.out.store6 (.int .i64 t) (.int .i64 z) (.slice a_y q.length c_y) (.int .i64 (c + 1)) (.int .i64 uu) (.slice a_d kp.length c_d)
          obtain ⟨W97, hW97⟩ : ∃ W97, W97 = ((((((W82.setCell ⟨R_A, 0, none⟩ (.int .i64 t)).setCell ⟨R_A, 1, none⟩ (.int .i64 z)).setCell ⟨R_A, 2, none⟩ (.slice a_y q.length c_y)).setCell ⟨R_A, 3, none⟩ (.int .i64 (c + 1))).setCell ⟨R_A, 4, none⟩ (.int .i64 uu)).setCell ⟨R_A, 5, none⟩ (.slice a_d kp.length c_d)) := ⟨_, rfl⟩
          rw [← hW97] at p97 q97 ⊢
          have X97_A : Hid (Bx W97 R_A #[.int .i64 t, .int .i64 z, .slice a_y q.length c_y, .int .i64 (c + 1), .int .i64 uu, .slice a_d kp.length c_d] 29) := Lib.hid p97
          have HB_98 := Lib.hid (HB_83.out.grown q97 HB_83.out.size (fun k hk => by have e2 : R_A = k := Option.some.inj hk; have := HR_A.out; omega))
          have y_98 := Lib.hid (y_83.out.kept q97 (by
            cases hv : (.slice a_y q.length c_y : Value).ownBlock with
            | none => exact .inl rfl
            | some k => exact .inr (fun e => BX_A_y.out k hv (Option.some.inj e))))
          clear y_83
          have d_98 := Lib.hid (d_83.out.kept q97 (by
            cases hv : (.slice a_d kp.length c_d : Value).ownBlock with
            | none => exact .inl rfl
            | some k => exact .inr (fun e => BX_A_d.out k hv (Option.some.inj e))))
          clear d_83
          have T_98 := Lib.hid (T_83.out.grown q97 (by intro e; have e2 : R_T = R_A := Option.some.inj e; have h1 := HR_T.out; have h2 := HR_A.out; omega))
          clear T_83
          clear A_83
          clear hW97 p97 q97
          have c99_T_0 := T_98.out.at 0 (v := .int .i64 t) rfl
          have c99_T_1 := T_98.out.at 1 (v := .int .i64 z) rfl
          have c99_T_2 := T_98.out.at 2 (v := .slice a_y q.length c_y) rfl
          have c99_T_3 := T_98.out.at 3 (v := .int .i64 (c + 1)) rfl
          have c99_T_4 := T_98.out.at 4 (v := .int .i64 uu) rfl
          have c99_T_5 := T_98.out.at 5 (v := .slice a_d kp.length c_d) rfl
          have c100_A_0 := X97_A.out.at 0 (v := .int .i64 t) rfl
          have c100_A_1 := X97_A.out.at 1 (v := .int .i64 z) rfl
          have c100_A_2 := X97_A.out.at 2 (v := .slice a_y q.length c_y) rfl
          have c100_A_3 := X97_A.out.at 3 (v := .int .i64 (c + 1)) rfl
          have c100_A_4 := X97_A.out.at 4 (v := .int .i64 uu) rfl
          have c100_A_5 := X97_A.out.at 5 (v := .slice a_d kp.length c_d) rfl
          clear c99_T_0 c99_T_1 c99_T_2 c99_T_3 c99_T_4 c99_T_5
          clear c100_A_0 c100_A_1 c100_A_2 c100_A_3 c100_A_4 c100_A_5
          refine hK.out _ _ ?S4 (fun hHeld4 => ?rest4)
          case S4 =>
            (try dsimp only)
            exact ⟨T_98.out.at 0 (v := .int .i64 t) rfl, T_98.out.at 1 (v := .int .i64 z) rfl, T_98.out.at 2 (v := .slice a_y q.length c_y) rfl, T_98.out.at 3 (v := .int .i64 (c + 1)) rfl, T_98.out.at 4 (v := .int .i64 uu) rfl, T_98.out.at 5 (v := .slice a_d kp.length c_d) rfl, HB_98.out⟩
          case rest4 =>
            clear hK K
            clear hHeld1
            (try simp only [Act.put, List.setIfInBounds_toArray, List.set_cons_zero, List.set_cons_succ])
            refine wpAnyH_ready (rs := [3]) (by kernel_rfl) (by simp) ?_
            refine AllReadyH.cons rfl (fun K hK => ?_) AllReadyH.nil
            go_simp
            obtain ⟨W101, hW101⟩ : ∃ W101, W101 = W97.alloc (.cells #[.int .i64 5, .int .i64 t, .int .i64 t, .int .i64 le, .string ⟨#[]⟩] 64) := ⟨_, rfl⟩
            have l101 : Below W97.heap.size W97 W101 := by rw [hW101]; exact (Below.refl _ _).alloc (Nat.le_refl _) _
            have X101_Lp : Hid (Bx W101 W97.heap.size #[.int .i64 5, .int .i64 t, .int .i64 t, .int .i64 le, .string ⟨#[]⟩] 64) := Lib.hid (by rw [hW101]; exact Bx.new _ _ _)
            rw [← hW101]
            clear hW101
            have BX_Lp_y : Hid (∀ k, (.slice a_y q.length c_y : Value).ownBlock = some k → k ≠ W97.heap.size) := Lib.hid (fun k h1 h2 => absurd (y_98.out.lt k h1).2 (by omega))
            have BX_Lp_d : Hid (∀ k, (.slice a_d kp.length c_d : Value).ownBlock = some k → k ≠ W97.heap.size) := Lib.hid (fun k h1 h2 => absurd (d_98.out.lt k h1).2 (by omega))
            have HG_Lp : Hid (w.heap.size ≤ W97.heap.size) := Lib.hid HB_98.out.size
            have HN_Lp_T : Hid (R_T < W97.heap.size) := Lib.hid T_98.out.lt
            have HN_Lp_A : Hid (R_A < W97.heap.size) := Lib.hid X97_A.out.lt
            obtain ⟨R_Lp, hR_Lp⟩ : ∃ X, X = W97.heap.size := ⟨_, rfl⟩
            rw [← hR_Lp] at X101_Lp HG_Lp BX_Lp_y BX_Lp_d HN_Lp_T HN_Lp_A ⊢
            clear hR_Lp
            have HB_102 := Lib.hid (HB_98.out.trans (l101.mono HB_98.out.size))
            have y_102 := Lib.hid (ownz_below y_98.out l101 (Nat.le_refl _))
            clear y_98
            have d_102 := Lib.hid (ownz_below d_98.out l101 (Nat.le_refl _))
            clear d_98
            have T_102 := Lib.hid (T_98.out.below l101 T_98.out.lt)
            clear T_98
            have A_102 := Lib.hid (X97_A.out.below l101 X97_A.out.lt)
            clear X97_A
            clear l101
            have c103_T_0 := T_102.out.at 0 (v := .int .i64 t) rfl
            have c103_T_1 := T_102.out.at 1 (v := .int .i64 z) rfl
            have c103_T_2 := T_102.out.at 2 (v := .slice a_y q.length c_y) rfl
            have c103_T_3 := T_102.out.at 3 (v := .int .i64 (c + 1)) rfl
            have c103_T_4 := T_102.out.at 4 (v := .int .i64 uu) rfl
            have c103_T_5 := T_102.out.at 5 (v := .slice a_d kp.length c_d) rfl
            have c104_A_0 := A_102.out.at 0 (v := .int .i64 t) rfl
            have c104_A_1 := A_102.out.at 1 (v := .int .i64 z) rfl
            have c104_A_2 := A_102.out.at 2 (v := .slice a_y q.length c_y) rfl
            have c104_A_3 := A_102.out.at 3 (v := .int .i64 (c + 1)) rfl
            have c104_A_4 := A_102.out.at 4 (v := .int .i64 uu) rfl
            have c104_A_5 := A_102.out.at 5 (v := .slice a_d kp.length c_d) rfl
            have c105_Lp_0 := X101_Lp.out.at 0 (v := .int .i64 5) rfl
            have c105_Lp_1 := X101_Lp.out.at 1 (v := .int .i64 t) rfl
            have c105_Lp_2 := X101_Lp.out.at 2 (v := .int .i64 t) rfl
            have c105_Lp_3 := X101_Lp.out.at 3 (v := .int .i64 le) rfl
            have c105_Lp_4 := X101_Lp.out.at 4 (v := .string ⟨#[]⟩) rfl
            have AP_y_p : Hid (∀ k, (.slice a_y q.length c_y : Value).ownBlock = some k → (.slice (some ⟨R_Lp, 0, none⟩) 1 1 : Value).ownBlock ≠ some k) := Lib.hid (fun k h1 h2 => BX_Lp_y.out k h1 (Option.some.inj h2).symm)
            have AP_d_p : Hid (∀ k, (.slice a_d kp.length c_d : Value).ownBlock = some k → (.slice (some ⟨R_Lp, 0, none⟩) 1 1 : Value).ownBlock ≠ some k) := Lib.hid (fun k h1 h2 => BX_Lp_d.out k h1 (Option.some.inj h2).symm)
            have O_p := Lib.hid (ownPq_one (p := ⟨5, t, t, le, ⟨#[]⟩⟩) X101_Lp.out HG_Lp.out)
            have BX_T_p : Hid (∀ k, (.slice (some ⟨R_Lp, 0, none⟩) 1 1 : Value).ownBlock = some k → k ≠ R_T) := Lib.hid (fun k h1 h2 => by have e1 : R_Lp = k := Option.some.inj h1; have e2 := HN_Lp_T.out; omega)
            have BX_A_p : Hid (∀ k, (.slice (some ⟨R_Lp, 0, none⟩) 1 1 : Value).ownBlock = some k → k ≠ R_A) := Lib.hid (fun k h1 h2 => by have e1 : R_Lp = k := Option.some.inj h1; have e2 := HN_Lp_A.out; omega)
            clear c105_Lp_0 c105_Lp_1 c105_Lp_2 c105_Lp_3 c105_Lp_4
            clear X101_Lp
            clear c103_T_0 c103_T_1 c103_T_2 c103_T_3 c103_T_4 c103_T_5
            clear c104_A_0 c104_A_1 c104_A_2 c104_A_3 c104_A_4 c104_A_5
            refine hK.out _ _ ?S5 (fun hHeld5 => ?rest5)
            case S5 =>
              (try dsimp only)
              exact ⟨T_102.out.at 0 (v := .int .i64 t) rfl, T_102.out.at 1 (v := .int .i64 z) rfl, T_102.out.at 2 (v := .slice a_y q.length c_y) rfl, T_102.out.at 3 (v := .int .i64 (c + 1)) rfl, T_102.out.at 4 (v := .int .i64 uu) rfl, T_102.out.at 5 (v := .slice a_d kp.length c_d) rfl, HB_102.out⟩
            case rest5 =>
              clear hK K
              clear hHeld4
              (try simp only [Act.put, List.setIfInBounds_toArray, List.set_cons_zero, List.set_cons_succ])
              (refine wpAnyH_take (i := 5) (oi := { dst := some 3, op := Go.Op.assign (Go.Operand.tmp 39), type := 46, pos := "l11_source.go:107", after := #[{ on := 3, ground := Go.Ground.data }, { on := 4, ground := Go.Ground.chain }, { on := 0, ground := Go.Ground.phase }, { on := 1, ground := Go.Ground.phase }, { on := 2, ground := Go.Ground.phase }, { on := 3, ground := Go.Ground.phase }, { on := 4, ground := Go.Ground.phase }], guard := none }) (v := (.slice (some ⟨R_Lp, 0, none⟩) 1 1)) rfl (by kernel_rfl) (by kernel_rfl) (by kernel_rfl) (fun _ _ _ h => h) (Or.inl ⟨by rfl, ?_⟩) (by assumption) ?_; (focus (intro w' hSw; (try dsimp only at hSw); go_simp; (try with_reducible rfl))); (try simp only [Act.put, List.setIfInBounds_toArray, List.set_cons_zero, List.set_cons_succ]))
              (refine wpAnyH_take (i := 6) (oi := { dst := some 4, op := Go.Op.assign (Go.Operand.const (Go.Value.bool true)), type := 4, pos := "l11_source.go:107", after := #[{ on := 5, ground := Go.Ground.chain }, { on := 0, ground := Go.Ground.phase }, { on := 1, ground := Go.Ground.phase }, { on := 2, ground := Go.Ground.phase }, { on := 3, ground := Go.Ground.phase }, { on := 4, ground := Go.Ground.phase }, { on := 5, ground := Go.Ground.phase }], guard := none }) (v := (.bool true)) rfl (by kernel_rfl) (by kernel_rfl) (by kernel_rfl) (fun _ _ _ h => h) (Or.inl ⟨by rfl, ?_⟩) (by assumption) ?_; (focus (intro w' hSw; (try dsimp only at hSw); go_simp; (try with_reducible rfl))); (try simp only [Act.put, List.setIfInBounds_toArray, List.set_cons_zero, List.set_cons_succ]))
              refine wpAnyH_done (by kernel_rfl) ?_ _
              clear hHeld5
              go_wp2_with fail
              refine bodyPost_ret (results_bx2 rfl isSo _ _ R_A rfl rfl rfl rfl A_102.out) rfl ⟨.slice a_y q.length c_y, .slice a_d kp.length c_d, .slice (some ⟨R_Lp, 0, none⟩) 1 1, rfl, y_102.out, d_102.out, AP_y_d.out, O_p.out, AP_y_p.out, AP_d_p.out, HB_102.out⟩
    · rw [if_neg hu] at huu
      rw [if_neg hu]
      have hup : (0 : Int) < uu := by omega
      clear hu huu
      have c106_T_0 := HX_T.out.at 0 (v := .int .i64 t) rfl
      have c106_T_1 := HX_T.out.at 1 (v := .int .i64 z) rfl
      have c106_T_2 := HX_T.out.at 2 (v := .slice a q.length cap) rfl
      have c106_T_3 := HX_T.out.at 3 (v := .int .i64 c) rfl
      have c106_T_4 := HX_T.out.at 4 (v := .int .i64 u) rfl
      have c106_T_5 := HX_T.out.at 5 (v := .slice b h.length caph) rfl
      have c107_A_0 := HX_A.out.at 0 (v := .int .i64 0) rfl
      have c107_A_1 := HX_A.out.at 1 (v := .int .i64 0) rfl
      have c107_A_2 := HX_A.out.at 2 (v := .slice none 0 0) rfl
      have c107_A_3 := HX_A.out.at 3 (v := .int .i64 0) rfl
      have c107_A_4 := HX_A.out.at 4 (v := .int .i64 0) rfl
      have c107_A_5 := HX_A.out.at 5 (v := .slice none 0 0) rfl
      go_enter Try.func23, Try.ntmps23
      go_upto_region 1 with fail
      rw [← HW0.out, ← HR_A.out, ← HR_T.out]
      go_wp2_with fail
      refine (HG.out _ (HP.out.below HB0.out (Nat.le_refl _)) (HH.out.below HB0.out (Nat.le_refl _))).mono ?_
      rintro e W108 ⟨rfl, l108⟩
      clear c106_T_0 c106_T_1 c106_T_2 c106_T_3 c106_T_4 c106_T_5
      clear c107_A_0 c107_A_1 c107_A_2 c107_A_3 c107_A_4 c107_A_5
      have HB_109 := Lib.hid (HB0.out.trans (l108.mono HB0.out.size))
      have T_109 := Lib.hid (HX_T.out.below l108 HX_T.out.lt)
      have A_109 := Lib.hid (HX_A.out.below l108 HX_A.out.lt)
      clear l108
      have c110_T_0 := T_109.out.at 0 (v := .int .i64 t) rfl
      have c110_T_1 := T_109.out.at 1 (v := .int .i64 z) rfl
      have c110_T_2 := T_109.out.at 2 (v := .slice a q.length cap) rfl
      have c110_T_3 := T_109.out.at 3 (v := .int .i64 c) rfl
      have c110_T_4 := T_109.out.at 4 (v := .int .i64 u) rfl
      have c110_T_5 := T_109.out.at 5 (v := .slice b h.length caph) rfl
      have c111_A_0 := A_109.out.at 0 (v := .int .i64 0) rfl
      have c111_A_1 := A_109.out.at 1 (v := .int .i64 0) rfl
      have c111_A_2 := A_109.out.at 2 (v := .slice none 0 0) rfl
      have c111_A_3 := A_109.out.at 3 (v := .int .i64 0) rfl
      have c111_A_4 := A_109.out.at 4 (v := .int .i64 0) rfl
      have c111_A_5 := A_109.out.at 5 (v := .slice none 0 0) rfl
      go_wp2_with fail
      refine (HCo.out _ (HP.out.below HB_109.out (Nat.le_refl _)) (HH.out.below HB_109.out (Nat.le_refl _))).mono ?_
      rintro e W112 ⟨v_y, v_k, rfl, o_y, o_k, ap_y_k, l112⟩
      obtain ⟨a_y, c_y, rfl, _, _⟩ := ownz_slice o_y
      have O_y := Lib.hid (ownz_base o_y HB_109.out.size)
      have BX_T_y : Hid (∀ k, (.slice a_y q.length c_y : Value).ownBlock = some k → k ≠ R_T) := Lib.hid (fun k h1 h2 => absurd T_109.out.lt (Nat.not_lt.2 (by rw [← h2]; exact (o_y.lt k h1).1)))
      have BX_A_y : Hid (∀ k, (.slice a_y q.length c_y : Value).ownBlock = some k → k ≠ R_A) := Lib.hid (fun k h1 h2 => absurd A_109.out.lt (Nat.not_lt.2 (by rw [← h2]; exact (o_y.lt k h1).1)))
      clear o_y
      obtain ⟨a_k, c_k, rfl, _, _⟩ := ownz_slice o_k
      have O_k := Lib.hid (ownz_base o_k HB_109.out.size)
      have BX_T_k : Hid (∀ k, (.slice a_k h.length c_k : Value).ownBlock = some k → k ≠ R_T) := Lib.hid (fun k h1 h2 => absurd T_109.out.lt (Nat.not_lt.2 (by rw [← h2]; exact (o_k.lt k h1).1)))
      have BX_A_k : Hid (∀ k, (.slice a_k h.length c_k : Value).ownBlock = some k → k ≠ R_A) := Lib.hid (fun k h1 h2 => absurd A_109.out.lt (Nat.not_lt.2 (by rw [← h2]; exact (o_k.lt k h1).1)))
      clear o_k
      have AP_y_k := Lib.hid ap_y_k
      clear ap_y_k
      clear c110_T_0 c110_T_1 c110_T_2 c110_T_3 c110_T_4 c110_T_5
      clear c111_A_0 c111_A_1 c111_A_2 c111_A_3 c111_A_4 c111_A_5
      have HB_113 := Lib.hid (HB_109.out.trans (l112.mono HB_109.out.size))
      have T_113 := Lib.hid (T_109.out.below l112 T_109.out.lt)
      clear T_109
      have A_113 := Lib.hid (A_109.out.below l112 A_109.out.lt)
      clear A_109
      clear l112
      have c114_T_0 := T_113.out.at 0 (v := .int .i64 t) rfl
      have c114_T_1 := T_113.out.at 1 (v := .int .i64 z) rfl
      have c114_T_2 := T_113.out.at 2 (v := .slice a q.length cap) rfl
      have c114_T_3 := T_113.out.at 3 (v := .int .i64 c) rfl
      have c114_T_4 := T_113.out.at 4 (v := .int .i64 u) rfl
      have c114_T_5 := T_113.out.at 5 (v := .slice b h.length caph) rfl
      have c115_A_0 := A_113.out.at 0 (v := .int .i64 0) rfl
      have c115_A_1 := A_113.out.at 1 (v := .int .i64 0) rfl
      have c115_A_2 := A_113.out.at 2 (v := .slice none 0 0) rfl
      have c115_A_3 := A_113.out.at 3 (v := .int .i64 0) rfl
      have c115_A_4 := A_113.out.at 4 (v := .int .i64 0) rfl
      have c115_A_5 := A_113.out.at 5 (v := .slice none 0 0) rfl
      have fr116_T_0 := T_113.out.free 0
      have fr116_T_1 := T_113.out.free 1
      have fr116_T_2 := T_113.out.free 2
      have fr116_T_3 := T_113.out.free 3
      have fr116_T_4 := T_113.out.free 4
      have fr116_T_5 := T_113.out.free 5
      go_upto_region 4 with fail
      clear c114_T_0 c114_T_1 c114_T_2 c114_T_3 c114_T_4 c114_T_5
      clear fr116_T_0 fr116_T_1 fr116_T_2 fr116_T_3 fr116_T_4 fr116_T_5
      clear c115_A_0 c115_A_1 c115_A_2 c115_A_3 c115_A_4 c115_A_5
      obtain ⟨p117, q117⟩ := T_113.out.store6 (.int .i64 t) (.int .i64 z) (.slice a_y q.length c_y) (.int .i64 c) (.int .i64 u) (.slice a_k h.length c_k)
      obtain ⟨W117, hW117⟩ : ∃ W117, W117 = ((((((W112.setCell ⟨R_T, 0, none⟩ (.int .i64 t)).setCell ⟨R_T, 1, none⟩ (.int .i64 z)).setCell ⟨R_T, 2, none⟩ (.slice a_y q.length c_y)).setCell ⟨R_T, 3, none⟩ (.int .i64 c)).setCell ⟨R_T, 4, none⟩ (.int .i64 u)).setCell ⟨R_T, 5, none⟩ (.slice a_k h.length c_k)) := ⟨_, rfl⟩
      rw [← hW117] at p117 q117 ⊢
      have X117_T : Hid (Bx W117 R_T #[.int .i64 t, .int .i64 z, .slice a_y q.length c_y, .int .i64 c, .int .i64 u, .slice a_k h.length c_k] 29) := Lib.hid p117
      have HB_118 := Lib.hid (HB_113.out.grown q117 HB_113.out.size (fun k hk => by have e2 : R_T = k := Option.some.inj hk; have := HR_T.out; omega))
      have y_118 := Lib.hid (O_y.out.kept q117 (by
        cases hv : (.slice a_y q.length c_y : Value).ownBlock with
        | none => exact .inl rfl
        | some k => exact .inr (fun e => BX_T_y.out k hv (Option.some.inj e))))
      clear O_y
      have k_118 := Lib.hid (O_k.out.kept q117 (by
        cases hv : (.slice a_k h.length c_k : Value).ownBlock with
        | none => exact .inl rfl
        | some k => exact .inr (fun e => BX_T_k.out k hv (Option.some.inj e))))
      clear O_k
      have A_118 := Lib.hid (A_113.out.grown q117 (by intro e; have e2 : R_A = R_T := Option.some.inj e; have h1 := HR_A.out; have h2 := HR_T.out; omega))
      clear A_113
      clear T_113
      clear hW117 p117 q117
      have c119_T_0 := X117_T.out.at 0 (v := .int .i64 t) rfl
      have c119_T_1 := X117_T.out.at 1 (v := .int .i64 z) rfl
      have c119_T_2 := X117_T.out.at 2 (v := .slice a_y q.length c_y) rfl
      have c119_T_3 := X117_T.out.at 3 (v := .int .i64 c) rfl
      have c119_T_4 := X117_T.out.at 4 (v := .int .i64 u) rfl
      have c119_T_5 := X117_T.out.at 5 (v := .slice a_k h.length c_k) rfl
      have c120_A_0 := A_118.out.at 0 (v := .int .i64 0) rfl
      have c120_A_1 := A_118.out.at 1 (v := .int .i64 0) rfl
      have c120_A_2 := A_118.out.at 2 (v := .slice none 0 0) rfl
      have c120_A_3 := A_118.out.at 3 (v := .int .i64 0) rfl
      have c120_A_4 := A_118.out.at 4 (v := .int .i64 0) rfl
      have c120_A_5 := A_118.out.at 5 (v := .slice none 0 0) rfl
      have fr121_T_0 := X117_T.out.free 0
      have fr121_T_1 := X117_T.out.free 1
      have fr121_T_2 := X117_T.out.free 2
      have fr121_T_3 := X117_T.out.free 3
      have fr121_T_4 := X117_T.out.free 4
      have fr121_T_5 := X117_T.out.free 5
      go_upto_region 5 with fail
      clear c119_T_0 c119_T_1 c119_T_2 c119_T_3 c119_T_4 c119_T_5
      clear fr121_T_0 fr121_T_1 fr121_T_2 fr121_T_3 fr121_T_4 fr121_T_5
      clear c120_A_0 c120_A_1 c120_A_2 c120_A_3 c120_A_4 c120_A_5
      obtain ⟨p122, q122⟩ := X117_T.out.set 3 (.int .i64 (c + 1))
      obtain ⟨W122, hW122⟩ : ∃ W122, W122 = (W117.setCell ⟨R_T, 3, none⟩ (.int .i64 (c + 1))) := ⟨_, rfl⟩
      rw [← hW122] at p122 q122 ⊢
      have X122_T : Hid (Bx W122 R_T #[.int .i64 t, .int .i64 z, .slice a_y q.length c_y, .int .i64 (c + 1), .int .i64 u, .slice a_k h.length c_k] 29) := Lib.hid p122
      have HB_123 := Lib.hid (HB_118.out.grown q122 HB_118.out.size (fun k hk => by have e2 : R_T = k := Option.some.inj hk; have := HR_T.out; omega))
      have y_123 := Lib.hid (y_118.out.kept q122 (by
        cases hv : (.slice a_y q.length c_y : Value).ownBlock with
        | none => exact .inl rfl
        | some k => exact .inr (fun e => BX_T_y.out k hv (Option.some.inj e))))
      clear y_118
      have k_123 := Lib.hid (k_118.out.kept q122 (by
        cases hv : (.slice a_k h.length c_k : Value).ownBlock with
        | none => exact .inl rfl
        | some k => exact .inr (fun e => BX_T_k.out k hv (Option.some.inj e))))
      clear k_118
      have A_123 := Lib.hid (A_118.out.grown q122 (by intro e; have e2 : R_A = R_T := Option.some.inj e; have h1 := HR_A.out; have h2 := HR_T.out; omega))
      clear A_118
      clear X117_T
      clear hW122 p122 q122
      have c124_T_0 := X122_T.out.at 0 (v := .int .i64 t) rfl
      have c124_T_1 := X122_T.out.at 1 (v := .int .i64 z) rfl
      have c124_T_2 := X122_T.out.at 2 (v := .slice a_y q.length c_y) rfl
      have c124_T_3 := X122_T.out.at 3 (v := .int .i64 (c + 1)) rfl
      have c124_T_4 := X122_T.out.at 4 (v := .int .i64 u) rfl
      have c124_T_5 := X122_T.out.at 5 (v := .slice a_k h.length c_k) rfl
      have c125_A_0 := A_123.out.at 0 (v := .int .i64 0) rfl
      have c125_A_1 := A_123.out.at 1 (v := .int .i64 0) rfl
      have c125_A_2 := A_123.out.at 2 (v := .slice none 0 0) rfl
      have c125_A_3 := A_123.out.at 3 (v := .int .i64 0) rfl
      have c125_A_4 := A_123.out.at 4 (v := .int .i64 0) rfl
      have c125_A_5 := A_123.out.at 5 (v := .slice none 0 0) rfl
      clear c124_T_0 c124_T_1 c124_T_2 c124_T_3 c124_T_4 c124_T_5
      clear c125_A_0 c125_A_1 c125_A_2 c125_A_3 c125_A_4 c125_A_5
      have c127_T_0 := X122_T.out.at 0 (v := .int .i64 t) rfl
      have c127_T_1 := X122_T.out.at 1 (v := .int .i64 z) rfl
      have c127_T_2 := X122_T.out.at 2 (v := .slice a_y q.length c_y) rfl
      have c127_T_3 := X122_T.out.at 3 (v := .int .i64 (c + 1)) rfl
      have c127_T_4 := X122_T.out.at 4 (v := .int .i64 u) rfl
      have c127_T_5 := X122_T.out.at 5 (v := .slice a_k h.length c_k) rfl
      have c128_A_0 := A_123.out.at 0 (v := .int .i64 0) rfl
      have c128_A_1 := A_123.out.at 1 (v := .int .i64 0) rfl
      have c128_A_2 := A_123.out.at 2 (v := .slice none 0 0) rfl
      have c128_A_3 := A_123.out.at 3 (v := .int .i64 0) rfl
      have c128_A_4 := A_123.out.at 4 (v := .int .i64 0) rfl
      have c128_A_5 := A_123.out.at 5 (v := .slice none 0 0) rfl
      have HDel126 := Lib.hid (deleteHd_any (fun x => decide (x.u ≤ c + 1)) (.slice a_k h.length c_k) h 61 #[.pointer (some ⟨R_T, 0, none⟩)] w.heap.size W122 k_123.out (by omega) (enters_of Try.func61 (by kernel_rfl) rfl) (fun W hW x hx => tick1_any x R_T (c + 1) W ((X122_T.out.grown hW (fun e => BX_T_k.out _ e.symm rfl)).at 3 (v := .int .i64 (c + 1)) rfl) (Nat.lt_of_lt_of_le X122_T.out.lt hW.size)))
      rw [HFe.out] at HDel126
      go_wp2_with fail
      refine HDel126.out.mono ?_
      rintro e W126 ⟨v_d, rfl, o_d, gr126, sb126⟩
      clear HDel126
      obtain ⟨a_d, c_d, rfl, _, _⟩ := ownz_slice o_d
      have AP_y_d : Hid (∀ k, (.slice a_y q.length c_y : Value).ownBlock = some k → (.slice a_d kp.length c_d : Value).ownBlock ≠ some k) := Lib.hid (fun k h1 h2 => AP_y_k.out k h1 (sb126 k h2))
      have BX_T_d : Hid (∀ k, (.slice a_d kp.length c_d : Value).ownBlock = some k → k ≠ R_T) := Lib.hid (fun k h1 => BX_T_k.out k (sb126 k h1))
      have BX_A_d : Hid (∀ k, (.slice a_d kp.length c_d : Value).ownBlock = some k → k ≠ R_A) := Lib.hid (fun k h1 => BX_A_k.out k (sb126 k h1))
      clear c127_T_0 c127_T_1 c127_T_2 c127_T_3 c127_T_4 c127_T_5
      clear c128_A_0 c128_A_1 c128_A_2 c128_A_3 c128_A_4 c128_A_5
      have HB_129 := Lib.hid (HB_123.out.grown gr126 HB_123.out.size (fun q hq => (k_123.out.lt q hq).1))
      have y_129 := Lib.hid (ownz_apart y_123.out gr126 (fun k h1 h2 => AP_y_k.out k h1 h2))
      clear y_123
      have T_129 := Lib.hid (X122_T.out.grown gr126 (fun e => BX_T_k.out _ e.symm rfl))
      clear X122_T
      have A_129 := Lib.hid (A_123.out.grown gr126 (fun e => BX_A_k.out _ e.symm rfl))
      clear A_123
      have O_d := Lib.hid o_d
      clear o_d gr126 sb126 k_123
      have c130_T_0 := T_129.out.at 0 (v := .int .i64 t) rfl
      have c130_T_1 := T_129.out.at 1 (v := .int .i64 z) rfl
      have c130_T_2 := T_129.out.at 2 (v := .slice a_y q.length c_y) rfl
      have c130_T_3 := T_129.out.at 3 (v := .int .i64 (c + 1)) rfl
      have c130_T_4 := T_129.out.at 4 (v := .int .i64 u) rfl
      have c130_T_5 := T_129.out.at 5 (v := .slice a_k h.length c_k) rfl
      have c131_A_0 := A_129.out.at 0 (v := .int .i64 0) rfl
      have c131_A_1 := A_129.out.at 1 (v := .int .i64 0) rfl
      have c131_A_2 := A_129.out.at 2 (v := .slice none 0 0) rfl
      have c131_A_3 := A_129.out.at 3 (v := .int .i64 0) rfl
      have c131_A_4 := A_129.out.at 4 (v := .int .i64 0) rfl
      have c131_A_5 := A_129.out.at 5 (v := .slice none 0 0) rfl
      have fr132_T_0 := T_129.out.free 0
      have fr132_T_1 := T_129.out.free 1
      have fr132_T_2 := T_129.out.free 2
      have fr132_T_3 := T_129.out.free 3
      have fr132_T_4 := T_129.out.free 4
      have fr132_T_5 := T_129.out.free 5
      go_upto_region 6 with fail
      clear c130_T_0 c130_T_1 c130_T_2 c130_T_3 c130_T_4 c130_T_5
      clear fr132_T_0 fr132_T_1 fr132_T_2 fr132_T_3 fr132_T_4 fr132_T_5
      clear c131_A_0 c131_A_1 c131_A_2 c131_A_3 c131_A_4 c131_A_5
      obtain ⟨p133, q133⟩ := T_129.out.set 5 (.slice a_d kp.length c_d)
      obtain ⟨W133, hW133⟩ : ∃ W133, W133 = (W126.setCell ⟨R_T, 5, none⟩ (.slice a_d kp.length c_d)) := ⟨_, rfl⟩
      rw [← hW133] at p133 q133 ⊢
      have X133_T : Hid (Bx W133 R_T #[.int .i64 t, .int .i64 z, .slice a_y q.length c_y, .int .i64 (c + 1), .int .i64 u, .slice a_d kp.length c_d] 29) := Lib.hid p133
      have HB_134 := Lib.hid (HB_129.out.grown q133 HB_129.out.size (fun k hk => by have e2 : R_T = k := Option.some.inj hk; have := HR_T.out; omega))
      have y_134 := Lib.hid (y_129.out.kept q133 (by
        cases hv : (.slice a_y q.length c_y : Value).ownBlock with
        | none => exact .inl rfl
        | some k => exact .inr (fun e => BX_T_y.out k hv (Option.some.inj e))))
      clear y_129
      have d_134 := Lib.hid (O_d.out.kept q133 (by
        cases hv : (.slice a_d kp.length c_d : Value).ownBlock with
        | none => exact .inl rfl
        | some k => exact .inr (fun e => BX_T_d.out k hv (Option.some.inj e))))
      clear O_d
      have A_134 := Lib.hid (A_129.out.grown q133 (by intro e; have e2 : R_A = R_T := Option.some.inj e; have h1 := HR_A.out; have h2 := HR_T.out; omega))
      clear A_129
      clear T_129
      clear hW133 p133 q133
      have c135_T_0 := X133_T.out.at 0 (v := .int .i64 t) rfl
      have c135_T_1 := X133_T.out.at 1 (v := .int .i64 z) rfl
      have c135_T_2 := X133_T.out.at 2 (v := .slice a_y q.length c_y) rfl
      have c135_T_3 := X133_T.out.at 3 (v := .int .i64 (c + 1)) rfl
      have c135_T_4 := X133_T.out.at 4 (v := .int .i64 u) rfl
      have c135_T_5 := X133_T.out.at 5 (v := .slice a_d kp.length c_d) rfl
      have c136_A_0 := A_134.out.at 0 (v := .int .i64 0) rfl
      have c136_A_1 := A_134.out.at 1 (v := .int .i64 0) rfl
      have c136_A_2 := A_134.out.at 2 (v := .slice none 0 0) rfl
      have c136_A_3 := A_134.out.at 3 (v := .int .i64 0) rfl
      have c136_A_4 := A_134.out.at 4 (v := .int .i64 0) rfl
      have c136_A_5 := A_134.out.at 5 (v := .slice none 0 0) rfl
      have fr137_T_0 := X133_T.out.free 0
      have fr137_T_1 := X133_T.out.free 1
      have fr137_T_2 := X133_T.out.free 2
      have fr137_T_3 := X133_T.out.free 3
      have fr137_T_4 := X133_T.out.free 4
      have fr137_T_5 := X133_T.out.free 5
      go_upto_region 7 with fail
      clear c135_T_0 c135_T_1 c135_T_2 c135_T_3 c135_T_4 c135_T_5
      clear fr137_T_0 fr137_T_1 fr137_T_2 fr137_T_3 fr137_T_4 fr137_T_5
      clear c136_A_0 c136_A_1 c136_A_2 c136_A_3 c136_A_4 c136_A_5
      obtain ⟨p138, q138⟩ := X133_T.out.set 4 (.int .i64 uu)
      obtain ⟨W138, hW138⟩ : ∃ W138, W138 = (W133.setCell ⟨R_T, 4, none⟩ (.int .i64 uu)) := ⟨_, rfl⟩
      rw [← hW138] at p138 q138 ⊢
      have X138_T : Hid (Bx W138 R_T #[.int .i64 t, .int .i64 z, .slice a_y q.length c_y, .int .i64 (c + 1), .int .i64 uu, .slice a_d kp.length c_d] 29) := Lib.hid p138
      have HB_139 := Lib.hid (HB_134.out.grown q138 HB_134.out.size (fun k hk => by have e2 : R_T = k := Option.some.inj hk; have := HR_T.out; omega))
      have y_139 := Lib.hid (y_134.out.kept q138 (by
        cases hv : (.slice a_y q.length c_y : Value).ownBlock with
        | none => exact .inl rfl
        | some k => exact .inr (fun e => BX_T_y.out k hv (Option.some.inj e))))
      clear y_134
      have d_139 := Lib.hid (d_134.out.kept q138 (by
        cases hv : (.slice a_d kp.length c_d : Value).ownBlock with
        | none => exact .inl rfl
        | some k => exact .inr (fun e => BX_T_d.out k hv (Option.some.inj e))))
      clear d_134
      have A_139 := Lib.hid (A_134.out.grown q138 (by intro e; have e2 : R_A = R_T := Option.some.inj e; have h1 := HR_A.out; have h2 := HR_T.out; omega))
      clear A_134
      clear X133_T
      clear hW138 p138 q138
      have c140_T_0 := X138_T.out.at 0 (v := .int .i64 t) rfl
      have c140_T_1 := X138_T.out.at 1 (v := .int .i64 z) rfl
      have c140_T_2 := X138_T.out.at 2 (v := .slice a_y q.length c_y) rfl
      have c140_T_3 := X138_T.out.at 3 (v := .int .i64 (c + 1)) rfl
      have c140_T_4 := X138_T.out.at 4 (v := .int .i64 uu) rfl
      have c140_T_5 := X138_T.out.at 5 (v := .slice a_d kp.length c_d) rfl
      have c141_A_0 := A_139.out.at 0 (v := .int .i64 0) rfl
      have c141_A_1 := A_139.out.at 1 (v := .int .i64 0) rfl
      have c141_A_2 := A_139.out.at 2 (v := .slice none 0 0) rfl
      have c141_A_3 := A_139.out.at 3 (v := .int .i64 0) rfl
      have c141_A_4 := A_139.out.at 4 (v := .int .i64 0) rfl
      have c141_A_5 := A_139.out.at 5 (v := .slice none 0 0) rfl
      have hAl := A_139.out.alloc (.cells #[] 64)
      have z0 := hAl.at 0 (v := .int .i64 0) rfl
      have y0 := hAl.free 0
      have z1 := hAl.at 1 (v := .int .i64 0) rfl
      have y1 := hAl.free 1
      have z2 := hAl.at 2 (v := .slice none 0 0) rfl
      have y2 := hAl.free 2
      have z3 := hAl.at 3 (v := .int .i64 0) rfl
      have y3 := hAl.free 3
      have z4 := hAl.at 4 (v := .int .i64 0) rfl
      have y4 := hAl.free 4
      have z5 := hAl.at 5 (v := .slice none 0 0) rfl
      have y5 := hAl.free 5
      have HAl := Lib.hid hAl
      clear hAl
      go_wp2_with fail
      obtain ⟨p1, q1⟩ := HAl.out.store6 (.int .i64 t) (.int .i64 z) (.slice a_y q.length c_y) (.int .i64 (c + 1)) (.int .i64 uu) (.slice a_d kp.length c_d)
      have hB9 := HB_139.out.alloc HB_139.out.size (.cells #[] 64)
      refine bodyPost_ret (results_bx2 rfl isSo _ _ R_A rfl rfl rfl rfl p1) rfl ⟨_, _, _, rfl, ?_, ?_, AP_y_d.out, ?_, ?_, ?_, hB9.grown q1 hB9.size (fun k hk => by have e2 : R_A = k := Option.some.inj hk; have := HR_A.out; omega)⟩
      · exact (ownz_below y_139.out ((Below.refl _ _).alloc (Nat.le_refl _) (.cells #[] 64)) (Nat.le_refl _)).kept q1 (by
        cases hv : (.slice a_y q.length c_y : Value).ownBlock with
        | none => exact .inl rfl
        | some k => exact .inr (fun e => BX_A_y.out k hv (Option.some.inj e)))
      · exact (ownz_below d_139.out ((Below.refl _ _).alloc (Nat.le_refl _) (.cells #[] 64)) (Nat.le_refl _)).kept q1 (by
        cases hv : (.slice a_d kp.length c_d : Value).ownBlock with
        | none => exact .inl rfl
        | some k => exact .inr (fun e => BX_A_d.out k hv (Option.some.inj e)))
      · exact (litz W138 w.heap.size 64 5 HB_139.out.size).kept q1 (.inr (fun e => by have e2 : W138.heap.size = R_A := Option.some.inj e; have h1 := A_139.out.lt; omega))
      · exact fun k h1 h2 => by have e2 : W138.heap.size = k := Option.some.inj h2; have h3 := (y_139.out.lt k h1).2; omega
      · exact fun k h1 h2 => by have e2 : W138.heap.size = k := Option.some.inj h2; have h3 := (d_139.out.lt k h1).2; omega
end Go.Proofs.Ytlendmiolhgecaa
