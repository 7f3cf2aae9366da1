/-
  The exact laws of windows that read: validity, the lead, a held item.
-/
import Derived.Test.YtkijfneaglogmaaSndI
import Derived.Test.YtkijfneaglogmaaSndS
import Derived.Test.YtkijfneaglogmaaPkt5
import Derived.WalkLawsBesides
import Derived.Deep.RegionHeld3
import Derived.Deep.CutRange
namespace Go.Proofs.Ytkijfneaglogmaa
open Go.RowKit Go.Lib Go.Joins
set_option linter.unusedVariables false

set_option maxRecDepth 100000 in
set_option maxHeartbeats 8000000 in
theorem fnExactIsValidSendWindow_wk (v0 : Value) (z0 : Sw) (w : World) (w0 : Row w v0 z0.q.length (z0.q.map Value.string)) (b0 : ∀ s ∈ z0.q, s.size ≤ maxLen) :
    Calls Try.prog 5 #[.agg #[.int .i64 z0.t, .int .i64 z0.z, v0]] w fun e w' => e = .returned (.bool true) ∧ Below w.heap.size w w' := by
  obtain ⟨p0, cap0, rfl, hc10, hc20, _⟩ := row_open w0
  unfold maxLen at hc20
  have HR0 := Lib.hid w0
  have HSz := Lib.hid (fun (W : World) (hr : Row W (.slice p0 z0.q.length cap0) z0.q.length (z0.q.map Value.string)) => szSw_any (.slice p0 z0.q.length cap0) z0 W hr b0 1048576 (by omega))
  have HSm := Lib.hid b0
  clear w0 b0
  obtain ⟨W0, R_AW, hW0, hR_AW, hX_AW, hB0⟩ := entry1 w #[.int .i64 z0.t, .int .i64 z0.z, .slice p0 z0.q.length cap0] 58
  have HW0 := Lib.hid hW0
  have HB0 := Lib.hid hB0
  have HR_AW := Lib.hid hR_AW
  have HX_AW := Lib.hid hX_AW
  clear hW0 hB0 hR_AW hX_AW
  have c1_AW_0 := HX_AW.out.at 0 (v := .int .i64 z0.t) rfl
  have c1_AW_1 := HX_AW.out.at 1 (v := .int .i64 z0.z) rfl
  have c1_AW_2 := HX_AW.out.at 2 (v := .slice p0 z0.q.length cap0) rfl
  go_enter Try.func5, Try.ntmps5
  go_upto_region 1 with fail
  rw [← HW0.out, ← HR_AW.out]
  go_wp2_with fail
  refine (HSz.out _ (HR0.out.below HB0.out (Nat.le_refl _))).mono ?_
  rintro e W2 ⟨l2, r0, rfl, hr1, hr0⟩
  clear c1_AW_0 c1_AW_1 c1_AW_2
  have HB_3 := Lib.hid (HB0.out.trans (l2.mono HB0.out.size))
  have AW_3 := Lib.hid (HX_AW.out.below l2 HX_AW.out.lt)
  clear l2
  have c4_AW_0 := AW_3.out.at 0 (v := .int .i64 z0.t) rfl
  have c4_AW_1 := AW_3.out.at 1 (v := .int .i64 z0.z) rfl
  have c4_AW_2 := AW_3.out.at 2 (v := .slice p0 z0.q.length cap0) rfl
  by_cases hneg : r0 < 0
  · clear hr0
    go_wp2_with fail
    go_ret
    exact ⟨rfl, HB_3.out⟩
  obtain ⟨hm0, hs0, hr00⟩ := hr0.resolve_left hneg
  have HN0 := Lib.hid hm0
  clear hr0 hs0 HSz
  have HSp := Lib.hid (fun (v : Value) (W : World) (hr : Row W v z0.q.length (z0.q.map Value.string)) (hf : FitA v z0.q.length) => specIsSw_any v z0 W hr HSm.out)
  have HIm := Lib.hid (fun (v : Value) (W : World) (hr : Row W v z0.q.length (z0.q.map Value.string)) (hf : FitA v z0.q.length) => implIsSw_any v z0 W hr HSm.out)
  generalize swOk z0 = r0_ at HSp HIm
  clear hm0
  go_wp2_with fail
  refine (toSw_lit _ z0 _ (HR0.out.below HB_3.out (Nat.le_refl _)) HN0.out).mono ?_
  rintro e W5 ⟨g_s, rfl, o_s, l5⟩
  have O_s := Lib.hid (own_base o_s HB_3.out.size)
  have BX_AW_s : Hid (∀ k, (.slice (some ⟨g_s, 0, none⟩) z0.q.length z0.q.length : Value).ownBlock = some k → k ≠ R_AW) := Lib.hid (fun k h1 h2 => absurd AW_3.out.lt (Nat.not_lt.2 (by rw [← h2]; exact (o_s.lt k h1).1)))
  clear o_s
  clear c4_AW_0 c4_AW_1 c4_AW_2
  have HB_6 := Lib.hid (HB_3.out.trans (l5.mono HB_3.out.size))
  have AW_6 := Lib.hid (AW_3.out.below l5 AW_3.out.lt)
  clear AW_3
  clear l5
  have c7_AW_0 := AW_6.out.at 0 (v := .int .i64 z0.t) rfl
  have c7_AW_1 := AW_6.out.at 1 (v := .int .i64 z0.z) rfl
  have c7_AW_2 := AW_6.out.at 2 (v := .slice p0 z0.q.length cap0) rfl
  go_wp2_with fail
  refine (HSp.out _ _ (row_own O_s.out) (fitA_some _ _)).mono ?_
  rintro e W8 ⟨rfl, l8⟩
  clear c7_AW_0 c7_AW_1 c7_AW_2
  have HB_9 := Lib.hid (HB_6.out.trans (l8.mono HB_6.out.size))
  have s_9 := Lib.hid (own_below O_s.out l8 (Nat.le_refl _))
  clear O_s
  have AW_9 := Lib.hid (AW_6.out.below l8 AW_6.out.lt)
  clear AW_6
  clear l8
  have c10_AW_0 := AW_9.out.at 0 (v := .int .i64 z0.t) rfl
  have c10_AW_1 := AW_9.out.at 1 (v := .int .i64 z0.z) rfl
  have c10_AW_2 := AW_9.out.at 2 (v := .slice p0 z0.q.length cap0) rfl
  clear s_9
  go_wp2_with fail
  refine (toSw_lit _ z0 _ (HR0.out.below HB_9.out (Nat.le_refl _)) HN0.out).mono ?_
  rintro e W11 ⟨g_x, rfl, o_x, l11⟩
  have O_x := Lib.hid (own_base o_x HB_9.out.size)
  have BX_AW_x : Hid (∀ k, (.slice (some ⟨g_x, 0, none⟩) z0.q.length z0.q.length : Value).ownBlock = some k → k ≠ R_AW) := Lib.hid (fun k h1 h2 => absurd AW_9.out.lt (Nat.not_lt.2 (by rw [← h2]; exact (o_x.lt k h1).1)))
  clear o_x
  clear c10_AW_0 c10_AW_1 c10_AW_2
  have HB_12 := Lib.hid (HB_9.out.trans (l11.mono HB_9.out.size))
  have AW_12 := Lib.hid (AW_9.out.below l11 AW_9.out.lt)
  clear AW_9
  clear l11
  have c13_AW_0 := AW_12.out.at 0 (v := .int .i64 z0.t) rfl
  have c13_AW_1 := AW_12.out.at 1 (v := .int .i64 z0.z) rfl
  have c13_AW_2 := AW_12.out.at 2 (v := .slice p0 z0.q.length cap0) rfl
  go_upto_region 7 with fail
  obtain ⟨W14, hW14⟩ : ∃ W14, W14 = W11.alloc (.cells #[.int .i64 z0.t, .int .i64 z0.z, .slice (some ⟨g_x, 0, none⟩) z0.q.length z0.q.length] 26) := ⟨_, rfl⟩
  have l14 : Below W11.heap.size W11 W14 := by rw [hW14]; exact (Below.refl _ _).alloc (Nat.le_refl _) _
  have X14_X : Hid (Bx W14 W11.heap.size #[.int .i64 z0.t, .int .i64 z0.z, .slice (some ⟨g_x, 0, none⟩) z0.q.length z0.q.length] 26) := Lib.hid (by rw [hW14]; exact Bx.new _ _ _)
  rw [← hW14]
  clear hW14
  have BX_X_x : Hid (∀ k, (.slice (some ⟨g_x, 0, none⟩) z0.q.length z0.q.length : Value).ownBlock = some k → k ≠ W11.heap.size) := Lib.hid (fun k h1 h2 => absurd (O_x.out.lt k h1).2 (by omega))
  have HG_X : Hid (w.heap.size ≤ W11.heap.size) := Lib.hid HB_12.out.size
  have HN_X_AW : Hid (R_AW < W11.heap.size) := Lib.hid AW_12.out.lt
  obtain ⟨R_X, hR_X⟩ : ∃ X, X = W11.heap.size := ⟨_, rfl⟩
  rw [← hR_X] at X14_X HG_X BX_X_x HN_X_AW ⊢
  clear hR_X
  clear c13_AW_0 c13_AW_1 c13_AW_2
  have HB_15 := Lib.hid (HB_12.out.trans (l14.mono HB_12.out.size))
  have x_15 := Lib.hid (own_below O_x.out l14 (Nat.le_refl _))
  clear O_x
  have AW_15 := Lib.hid (AW_12.out.below l14 AW_12.out.lt)
  clear AW_12
  clear l14
  have c16_AW_0 := AW_15.out.at 0 (v := .int .i64 z0.t) rfl
  have c16_AW_1 := AW_15.out.at 1 (v := .int .i64 z0.z) rfl
  have c16_AW_2 := AW_15.out.at 2 (v := .slice p0 z0.q.length cap0) rfl
  have c17_X_0 := X14_X.out.at 0 (v := .int .i64 z0.t) rfl
  have c17_X_1 := X14_X.out.at 1 (v := .int .i64 z0.z) rfl
  have c17_X_2 := X14_X.out.at 2 (v := .slice (some ⟨g_x, 0, none⟩) z0.q.length z0.q.length) rfl
  go_wp2_with fail
  refine (HIm.out _ _ (row_own x_15.out) (fitA_some _ _)).mono ?_
  rintro e W18 ⟨rfl, l18⟩
  clear c16_AW_0 c16_AW_1 c16_AW_2
  clear c17_X_0 c17_X_1 c17_X_2
  have HB_19 := Lib.hid (HB_15.out.trans (l18.mono HB_15.out.size))
  have x_19 := Lib.hid (own_below x_15.out l18 (Nat.le_refl _))
  clear x_15
  have AW_19 := Lib.hid (AW_15.out.below l18 AW_15.out.lt)
  clear AW_15
  have X_19 := Lib.hid (X14_X.out.below l18 X14_X.out.lt)
  clear X14_X
  clear l18
  have c20_AW_0 := AW_19.out.at 0 (v := .int .i64 z0.t) rfl
  have c20_AW_1 := AW_19.out.at 1 (v := .int .i64 z0.z) rfl
  have c20_AW_2 := AW_19.out.at 2 (v := .slice p0 z0.q.length cap0) rfl
  have c21_X_0 := X_19.out.at 0 (v := .int .i64 z0.t) rfl
  have c21_X_1 := X_19.out.at 1 (v := .int .i64 z0.z) rfl
  have c21_X_2 := X_19.out.at 2 (v := .slice (some ⟨g_x, 0, none⟩) z0.q.length z0.q.length) rfl
  go_upto_region 10 with fail
  go_cut [26] from 22 to 26 (fun b wx => b = .bool false ∧ Hid (Below W18.heap.size W18 wx))
  case first => as_aux_lemma =>
    have HK1 := Lib.hid (fun (w' : World) (hb : Below W18.heap.size W18 w') => (show w'.cell? ⟨R_X, 0, none⟩ = some (.int .i64 z0.t) ∧ w'.cell? ⟨R_X, 1, none⟩ = some (.int .i64 z0.z) ∧ w'.cell? ⟨R_X, 2, none⟩ = some (.slice (some ⟨g_x, 0, none⟩) z0.q.length z0.q.length) ∧ w'.cell? ⟨R_AW, 0, none⟩ = some (.int .i64 z0.t) ∧ w'.cell? ⟨R_AW, 1, none⟩ = some (.int .i64 z0.z) ∧ w'.cell? ⟨R_AW, 2, none⟩ = some (.slice p0 z0.q.length cap0) ∧ Below w.heap.size w w' from ⟨(hb.cell (p := ⟨R_X, 0, none⟩) X_19.out.lt).trans (X_19.out.at 0 (v := .int .i64 z0.t) rfl), (hb.cell (p := ⟨R_X, 1, none⟩) X_19.out.lt).trans (X_19.out.at 1 (v := .int .i64 z0.z) rfl), (hb.cell (p := ⟨R_X, 2, none⟩) X_19.out.lt).trans (X_19.out.at 2 (v := .slice (some ⟨g_x, 0, none⟩) z0.q.length z0.q.length) rfl), (hb.cell (p := ⟨R_AW, 0, none⟩) AW_19.out.lt).trans (AW_19.out.at 0 (v := .int .i64 z0.t) rfl), (hb.cell (p := ⟨R_AW, 1, none⟩) AW_19.out.lt).trans (AW_19.out.at 1 (v := .int .i64 z0.z) rfl), (hb.cell (p := ⟨R_AW, 2, none⟩) AW_19.out.lt).trans (AW_19.out.at 2 (v := .slice p0 z0.q.length cap0) rfl), HB_19.out.trans (hb.mono HB_19.out.size)⟩))
    go_region_held3 (fun w' => w'.cell? ⟨R_X, 0, none⟩ = some (.int .i64 z0.t) ∧ w'.cell? ⟨R_X, 1, none⟩ = some (.int .i64 z0.z) ∧ w'.cell? ⟨R_X, 2, none⟩ = some (.slice (some ⟨g_x, 0, none⟩) z0.q.length z0.q.length) ∧ w'.cell? ⟨R_AW, 0, none⟩ = some (.int .i64 z0.t) ∧ w'.cell? ⟨R_AW, 1, none⟩ = some (.int .i64 z0.z) ∧ w'.cell? ⟨R_AW, 2, none⟩ = some (.slice p0 z0.q.length cap0) ∧ Below w.heap.size w w')
      ((first | (with_reducible refine HK1.out _ ?_; (repeat (first | with_reducible assumption | with_reducible exact Below.refl _ _ | with_reducible refine Below.drew ?_ | with_reducible refine below_alloc' ?_)); done)))
      (first
        | (go_at_call 45; refine (toSw_lit _ z0 _ (HR0.out.below (HB_19.out.trans ((by repeat (first | with_reducible assumption | with_reducible exact Below.refl _ _ | with_reducible refine Below.drew ?_ | with_reducible refine below_alloc' ?_) : Below W18.heap.size W18 _).mono HB_19.out.size)) (Nat.le_refl _)) HN0.out).mono ?_; rintro e w5 ⟨g5, rfl, o5, l5⟩; have hb5 := below_call7 (by repeat (first | with_reducible assumption | with_reducible exact Below.refl _ _ | with_reducible refine Below.drew ?_ | with_reducible refine below_alloc' ?_) : Below W18.heap.size W18 _) l5; have ho5 := row_own o5; clear o5 l5)
        | (go_at_call 46; refine (eqSw_same _ _ z0 _ ((row_own x_19.out).below hb5 (Nat.le_refl _)) ho5).mono ?_; rintro e w6 ⟨rfl, l6⟩; have hb6 := below_call7 hb5 l6; clear l6))
    all_goals go_wp2_with fail
    all_goals go_meet
    all_goals
      case rel => exact ⟨by simp, Lib.hid (by repeat (first | with_reducible assumption | with_reducible exact Below.refl _ _ | with_reducible refine Below.drew ?_ | with_reducible refine below_alloc' ?_))⟩
  case rest =>
    obtain ⟨rfl, HCut⟩ := hcut
    rename World => W22
    have l22 := HCut.out
    clear HCut
    clear c20_AW_0 c20_AW_1 c20_AW_2
    clear c21_X_0 c21_X_1 c21_X_2
    have HB_23 := Lib.hid (HB_19.out.trans (l22.mono HB_19.out.size))
    have x_23 := Lib.hid (own_below x_19.out l22 (Nat.le_refl _))
    clear x_19
    have AW_23 := Lib.hid (AW_19.out.below l22 AW_19.out.lt)
    clear AW_19
    have X_23 := Lib.hid (X_19.out.below l22 X_19.out.lt)
    clear X_19
    clear l22
    have c24_AW_0 := AW_23.out.at 0 (v := .int .i64 z0.t) rfl
    have c24_AW_1 := AW_23.out.at 1 (v := .int .i64 z0.z) rfl
    have c24_AW_2 := AW_23.out.at 2 (v := .slice p0 z0.q.length cap0) rfl
    have c25_X_0 := X_23.out.at 0 (v := .int .i64 z0.t) rfl
    have c25_X_1 := X_23.out.at 1 (v := .int .i64 z0.z) rfl
    have c25_X_2 := X_23.out.at 2 (v := .slice (some ⟨g_x, 0, none⟩) z0.q.length z0.q.length) rfl
    go_wp2_with fail
    go_ret
    exact ⟨rfl, HB_23.out⟩
theorem fnExactIsValidSendWindow_walk (w : World) (a0_0 : Int) (w0_0 : (Lit.int .i64 a0_0).wf = true) (a0_1 : Int) (w0_1 : (Lit.int .i64 a0_1).wf = true) (v0_2 : Value) (s0_2 : List ByteArray) (w0_2 : Row w v0_2 s0_2.length (s0_2.map Value.string)) (b0_2 : ∀ s ∈ s0_2, s.size ≤ maxLen) (_hsh : w.ShapedOpen Try.prog) :
    Calls Try.prog 5 #[.agg #[.int .i64 a0_0, .int .i64 a0_1, v0_2]] w fun e w' => e = .returned (.bool true) ∧ Below w.heap.size w w' :=
  fnExactIsValidSendWindow_wk v0_2 ⟨a0_0, a0_1, s0_2⟩ w w0_2 b0_2 
set_option maxRecDepth 100000 in
set_option maxHeartbeats 8000000 in
theorem fnExactLeadOf_wk (v0 : Value) (z0 : Sw) (w : World) (w0 : Row w v0 z0.q.length (z0.q.map Value.string)) (b0 : ∀ s ∈ z0.q, s.size ≤ maxLen) :
    Calls Try.prog 6 #[.agg #[.int .i64 z0.t, .int .i64 z0.z, v0]] w fun e w' => e = .returned (.bool true) ∧ Below w.heap.size w w' := by
  obtain ⟨p0, cap0, rfl, hc10, hc20, _⟩ := row_open w0
  unfold maxLen at hc20
  have HR0 := Lib.hid w0
  have HSz := Lib.hid (fun (W : World) (hr : Row W (.slice p0 z0.q.length cap0) z0.q.length (z0.q.map Value.string)) => szSw_any (.slice p0 z0.q.length cap0) z0 W hr b0 1048576 (by omega))
  have HSm := Lib.hid b0
  clear w0 b0
  obtain ⟨W0, R_AW, hW0, hR_AW, hX_AW, hB0⟩ := entry1 w #[.int .i64 z0.t, .int .i64 z0.z, .slice p0 z0.q.length cap0] 58
  have HW0 := Lib.hid hW0
  have HB0 := Lib.hid hB0
  have HR_AW := Lib.hid hR_AW
  have HX_AW := Lib.hid hX_AW
  clear hW0 hB0 hR_AW hX_AW
  have c1_AW_0 := HX_AW.out.at 0 (v := .int .i64 z0.t) rfl
  have c1_AW_1 := HX_AW.out.at 1 (v := .int .i64 z0.z) rfl
  have c1_AW_2 := HX_AW.out.at 2 (v := .slice p0 z0.q.length cap0) rfl
  go_enter Try.func6, Try.ntmps6
  go_upto_region 1 with fail
  rw [← HW0.out, ← HR_AW.out]
  go_wp2_with fail
  refine (HSz.out _ (HR0.out.below HB0.out (Nat.le_refl _))).mono ?_
  rintro e W2 ⟨l2, r0, rfl, hr1, hr0⟩
  clear c1_AW_0 c1_AW_1 c1_AW_2
  have HB_3 := Lib.hid (HB0.out.trans (l2.mono HB0.out.size))
  have AW_3 := Lib.hid (HX_AW.out.below l2 HX_AW.out.lt)
  clear l2
  have c4_AW_0 := AW_3.out.at 0 (v := .int .i64 z0.t) rfl
  have c4_AW_1 := AW_3.out.at 1 (v := .int .i64 z0.z) rfl
  have c4_AW_2 := AW_3.out.at 2 (v := .slice p0 z0.q.length cap0) rfl
  by_cases hneg : r0 < 0
  · clear hr0
    go_wp2_with fail
    go_ret
    exact ⟨rfl, HB_3.out⟩
  obtain ⟨hm0, hs0, hr00⟩ := hr0.resolve_left hneg
  have HN0 := Lib.hid hm0
  clear hr0 hs0 HSz
  have HSp := Lib.hid (fun (v : Value) (W : World) (hr : Row W v z0.q.length (z0.q.map Value.string)) (hf : FitA v z0.q.length) => specLead_any v z0 W hr HSm.out)
  have HIm := Lib.hid (fun (v : Value) (W : World) (hr : Row W v z0.q.length (z0.q.map Value.string)) (hf : FitA v z0.q.length) => implLead_any v z0 W hr HSm.out)
  generalize leadV z0 = r0_ at HSp HIm
  generalize swOk z0 = r1_ at HSp HIm
  clear hm0
  go_wp2_with fail
  refine (toSw_lit _ z0 _ (HR0.out.below HB_3.out (Nat.le_refl _)) HN0.out).mono ?_
  rintro e W5 ⟨g_s, rfl, o_s, l5⟩
  have O_s := Lib.hid (own_base o_s HB_3.out.size)
  have BX_AW_s : Hid (∀ k, (.slice (some ⟨g_s, 0, none⟩) z0.q.length z0.q.length : Value).ownBlock = some k → k ≠ R_AW) := Lib.hid (fun k h1 h2 => absurd AW_3.out.lt (Nat.not_lt.2 (by rw [← h2]; exact (o_s.lt k h1).1)))
  clear o_s
  clear c4_AW_0 c4_AW_1 c4_AW_2
  have HB_6 := Lib.hid (HB_3.out.trans (l5.mono HB_3.out.size))
  have AW_6 := Lib.hid (AW_3.out.below l5 AW_3.out.lt)
  clear AW_3
  clear l5
  have c7_AW_0 := AW_6.out.at 0 (v := .int .i64 z0.t) rfl
  have c7_AW_1 := AW_6.out.at 1 (v := .int .i64 z0.z) rfl
  have c7_AW_2 := AW_6.out.at 2 (v := .slice p0 z0.q.length cap0) rfl
  go_wp2_with fail
  refine (HSp.out _ _ (row_own O_s.out) (fitA_some _ _)).mono ?_
  rintro e W8 ⟨rfl, l8⟩
  clear c7_AW_0 c7_AW_1 c7_AW_2
  have HB_9 := Lib.hid (HB_6.out.trans (l8.mono HB_6.out.size))
  have s_9 := Lib.hid (own_below O_s.out l8 (Nat.le_refl _))
  clear O_s
  have AW_9 := Lib.hid (AW_6.out.below l8 AW_6.out.lt)
  clear AW_6
  clear l8
  have c10_AW_0 := AW_9.out.at 0 (v := .int .i64 z0.t) rfl
  have c10_AW_1 := AW_9.out.at 1 (v := .int .i64 z0.z) rfl
  have c10_AW_2 := AW_9.out.at 2 (v := .slice p0 z0.q.length cap0) rfl
  clear s_9
  go_wp2_with fail
  refine (toSw_lit _ z0 _ (HR0.out.below HB_9.out (Nat.le_refl _)) HN0.out).mono ?_
  rintro e W11 ⟨g_x, rfl, o_x, l11⟩
  have O_x := Lib.hid (own_base o_x HB_9.out.size)
  have BX_AW_x : Hid (∀ k, (.slice (some ⟨g_x, 0, none⟩) z0.q.length z0.q.length : Value).ownBlock = some k → k ≠ R_AW) := Lib.hid (fun k h1 h2 => absurd AW_9.out.lt (Nat.not_lt.2 (by rw [← h2]; exact (o_x.lt k h1).1)))
  clear o_x
  clear c10_AW_0 c10_AW_1 c10_AW_2
  have HB_12 := Lib.hid (HB_9.out.trans (l11.mono HB_9.out.size))
  have AW_12 := Lib.hid (AW_9.out.below l11 AW_9.out.lt)
  clear AW_9
  clear l11
  have c13_AW_0 := AW_12.out.at 0 (v := .int .i64 z0.t) rfl
  have c13_AW_1 := AW_12.out.at 1 (v := .int .i64 z0.z) rfl
  have c13_AW_2 := AW_12.out.at 2 (v := .slice p0 z0.q.length cap0) rfl
  go_upto_region 7 with fail
  obtain ⟨W14, hW14⟩ : ∃ W14, W14 = W11.alloc (.cells #[.int .i64 z0.t, .int .i64 z0.z, .slice (some ⟨g_x, 0, none⟩) z0.q.length z0.q.length] 26) := ⟨_, rfl⟩
  have l14 : Below W11.heap.size W11 W14 := by rw [hW14]; exact (Below.refl _ _).alloc (Nat.le_refl _) _
  have X14_X : Hid (Bx W14 W11.heap.size #[.int .i64 z0.t, .int .i64 z0.z, .slice (some ⟨g_x, 0, none⟩) z0.q.length z0.q.length] 26) := Lib.hid (by rw [hW14]; exact Bx.new _ _ _)
  rw [← hW14]
  clear hW14
  have BX_X_x : Hid (∀ k, (.slice (some ⟨g_x, 0, none⟩) z0.q.length z0.q.length : Value).ownBlock = some k → k ≠ W11.heap.size) := Lib.hid (fun k h1 h2 => absurd (O_x.out.lt k h1).2 (by omega))
  have HG_X : Hid (w.heap.size ≤ W11.heap.size) := Lib.hid HB_12.out.size
  have HN_X_AW : Hid (R_AW < W11.heap.size) := Lib.hid AW_12.out.lt
  obtain ⟨R_X, hR_X⟩ : ∃ X, X = W11.heap.size := ⟨_, rfl⟩
  rw [← hR_X] at X14_X HG_X BX_X_x HN_X_AW ⊢
  clear hR_X
  clear c13_AW_0 c13_AW_1 c13_AW_2
  have HB_15 := Lib.hid (HB_12.out.trans (l14.mono HB_12.out.size))
  have x_15 := Lib.hid (own_below O_x.out l14 (Nat.le_refl _))
  clear O_x
  have AW_15 := Lib.hid (AW_12.out.below l14 AW_12.out.lt)
  clear AW_12
  clear l14
  have c16_AW_0 := AW_15.out.at 0 (v := .int .i64 z0.t) rfl
  have c16_AW_1 := AW_15.out.at 1 (v := .int .i64 z0.z) rfl
  have c16_AW_2 := AW_15.out.at 2 (v := .slice p0 z0.q.length cap0) rfl
  have c17_X_0 := X14_X.out.at 0 (v := .int .i64 z0.t) rfl
  have c17_X_1 := X14_X.out.at 1 (v := .int .i64 z0.z) rfl
  have c17_X_2 := X14_X.out.at 2 (v := .slice (some ⟨g_x, 0, none⟩) z0.q.length z0.q.length) rfl
  go_wp2_with fail
  refine (HIm.out _ _ (row_own x_15.out) (fitA_some _ _)).mono ?_
  rintro e W18 ⟨rfl, l18⟩
  clear c16_AW_0 c16_AW_1 c16_AW_2
  clear c17_X_0 c17_X_1 c17_X_2
  have HB_19 := Lib.hid (HB_15.out.trans (l18.mono HB_15.out.size))
  have x_19 := Lib.hid (own_below x_15.out l18 (Nat.le_refl _))
  clear x_15
  have AW_19 := Lib.hid (AW_15.out.below l18 AW_15.out.lt)
  clear AW_15
  have X_19 := Lib.hid (X14_X.out.below l18 X14_X.out.lt)
  clear X14_X
  clear l18
  have c20_AW_0 := AW_19.out.at 0 (v := .int .i64 z0.t) rfl
  have c20_AW_1 := AW_19.out.at 1 (v := .int .i64 z0.z) rfl
  have c20_AW_2 := AW_19.out.at 2 (v := .slice p0 z0.q.length cap0) rfl
  have c21_X_0 := X_19.out.at 0 (v := .int .i64 z0.t) rfl
  have c21_X_1 := X_19.out.at 1 (v := .int .i64 z0.z) rfl
  have c21_X_2 := X_19.out.at 2 (v := .slice (some ⟨g_x, 0, none⟩) z0.q.length z0.q.length) rfl
  go_upto_region 10 with fail
  go_cut [39] from 35 to 39 (fun b wx => b = .bool false ∧ Hid (Below W18.heap.size W18 wx))
  case first => as_aux_lemma =>
    have HK1 := Lib.hid (fun (w' : World) (hb : Below W18.heap.size W18 w') => (show w'.cell? ⟨R_X, 0, none⟩ = some (.int .i64 z0.t) ∧ w'.cell? ⟨R_X, 1, none⟩ = some (.int .i64 z0.z) ∧ w'.cell? ⟨R_X, 2, none⟩ = some (.slice (some ⟨g_x, 0, none⟩) z0.q.length z0.q.length) ∧ w'.cell? ⟨R_AW, 0, none⟩ = some (.int .i64 z0.t) ∧ w'.cell? ⟨R_AW, 1, none⟩ = some (.int .i64 z0.z) ∧ w'.cell? ⟨R_AW, 2, none⟩ = some (.slice p0 z0.q.length cap0) ∧ Below w.heap.size w w' from ⟨(hb.cell (p := ⟨R_X, 0, none⟩) X_19.out.lt).trans (X_19.out.at 0 (v := .int .i64 z0.t) rfl), (hb.cell (p := ⟨R_X, 1, none⟩) X_19.out.lt).trans (X_19.out.at 1 (v := .int .i64 z0.z) rfl), (hb.cell (p := ⟨R_X, 2, none⟩) X_19.out.lt).trans (X_19.out.at 2 (v := .slice (some ⟨g_x, 0, none⟩) z0.q.length z0.q.length) rfl), (hb.cell (p := ⟨R_AW, 0, none⟩) AW_19.out.lt).trans (AW_19.out.at 0 (v := .int .i64 z0.t) rfl), (hb.cell (p := ⟨R_AW, 1, none⟩) AW_19.out.lt).trans (AW_19.out.at 1 (v := .int .i64 z0.z) rfl), (hb.cell (p := ⟨R_AW, 2, none⟩) AW_19.out.lt).trans (AW_19.out.at 2 (v := .slice p0 z0.q.length cap0) rfl), HB_19.out.trans (hb.mono HB_19.out.size)⟩))
    go_region_held3 (fun w' => w'.cell? ⟨R_X, 0, none⟩ = some (.int .i64 z0.t) ∧ w'.cell? ⟨R_X, 1, none⟩ = some (.int .i64 z0.z) ∧ w'.cell? ⟨R_X, 2, none⟩ = some (.slice (some ⟨g_x, 0, none⟩) z0.q.length z0.q.length) ∧ w'.cell? ⟨R_AW, 0, none⟩ = some (.int .i64 z0.t) ∧ w'.cell? ⟨R_AW, 1, none⟩ = some (.int .i64 z0.z) ∧ w'.cell? ⟨R_AW, 2, none⟩ = some (.slice p0 z0.q.length cap0) ∧ Below w.heap.size w w')
      ((first | (with_reducible refine HK1.out _ ?_; (repeat (first | with_reducible assumption | with_reducible exact Below.refl _ _ | with_reducible refine Below.drew ?_ | with_reducible refine below_alloc' ?_)); done)))
      (first
        | (go_at_call 45; refine (toSw_lit _ z0 _ (HR0.out.below (HB_19.out.trans ((by repeat (first | with_reducible assumption | with_reducible exact Below.refl _ _ | with_reducible refine Below.drew ?_ | with_reducible refine below_alloc' ?_) : Below W18.heap.size W18 _).mono HB_19.out.size)) (Nat.le_refl _)) HN0.out).mono ?_; rintro e w5 ⟨g5, rfl, o5, l5⟩; have hb5 := below_call7 (by repeat (first | with_reducible assumption | with_reducible exact Below.refl _ _ | with_reducible refine Below.drew ?_ | with_reducible refine below_alloc' ?_) : Below W18.heap.size W18 _) l5; have ho5 := row_own o5; clear o5 l5)
        | (go_at_call 46; refine (eqSw_same _ _ z0 _ ((row_own x_19.out).below hb5 (Nat.le_refl _)) ho5).mono ?_; rintro e w6 ⟨rfl, l6⟩; have hb6 := below_call7 hb5 l6; clear l6))
    all_goals go_wp2_with fail
    all_goals go_meet
    all_goals
      case rel => exact ⟨by simp, Lib.hid (by repeat (first | with_reducible assumption | with_reducible exact Below.refl _ _ | with_reducible refine Below.drew ?_ | with_reducible refine below_alloc' ?_))⟩
  case rest =>
    obtain ⟨rfl, HCut⟩ := hcut
    rename World => W22
    have l22 := HCut.out
    clear HCut
    clear c20_AW_0 c20_AW_1 c20_AW_2
    clear c21_X_0 c21_X_1 c21_X_2
    have HB_23 := Lib.hid (HB_19.out.trans (l22.mono HB_19.out.size))
    have x_23 := Lib.hid (own_below x_19.out l22 (Nat.le_refl _))
    clear x_19
    have AW_23 := Lib.hid (AW_19.out.below l22 AW_19.out.lt)
    clear AW_19
    have X_23 := Lib.hid (X_19.out.below l22 X_19.out.lt)
    clear X_19
    clear l22
    have c24_AW_0 := AW_23.out.at 0 (v := .int .i64 z0.t) rfl
    have c24_AW_1 := AW_23.out.at 1 (v := .int .i64 z0.z) rfl
    have c24_AW_2 := AW_23.out.at 2 (v := .slice p0 z0.q.length cap0) rfl
    have c25_X_0 := X_23.out.at 0 (v := .int .i64 z0.t) rfl
    have c25_X_1 := X_23.out.at 1 (v := .int .i64 z0.z) rfl
    have c25_X_2 := X_23.out.at 2 (v := .slice (some ⟨g_x, 0, none⟩) z0.q.length z0.q.length) rfl
    go_wp2_with fail
    go_ret
    exact ⟨rfl, HB_23.out⟩
theorem fnExactLeadOf_walk (w : World) (a0_0 : Int) (w0_0 : (Lit.int .i64 a0_0).wf = true) (a0_1 : Int) (w0_1 : (Lit.int .i64 a0_1).wf = true) (v0_2 : Value) (s0_2 : List ByteArray) (w0_2 : Row w v0_2 s0_2.length (s0_2.map Value.string)) (b0_2 : ∀ s ∈ s0_2, s.size ≤ maxLen) (_hsh : w.ShapedOpen Try.prog) :
    Calls Try.prog 6 #[.agg #[.int .i64 a0_0, .int .i64 a0_1, v0_2]] w fun e w' => e = .returned (.bool true) ∧ Below w.heap.size w w' :=
  fnExactLeadOf_wk v0_2 ⟨a0_0, a0_1, s0_2⟩ w w0_2 b0_2 
set_option maxRecDepth 100000 in
set_option maxHeartbeats 8000000 in
theorem fnExactHeldItem_wk (v0 : Value) (z0 : Sw) (w : World) (w0 : Row w v0 z0.q.length (z0.q.map Value.string)) (b0 : ∀ s ∈ z0.q, s.size ≤ maxLen) (a1 : Int) (w1 : (Lit.int .i64 a1).wf = true) :
    Calls Try.prog 8 #[.agg #[.int .i64 z0.t, .int .i64 z0.z, v0], .int .i64 a1] w fun e w' => e = .returned (.bool true) ∧ Below w.heap.size w w' := by
  obtain ⟨p0, cap0, rfl, hc10, hc20, _⟩ := row_open w0
  unfold maxLen at hc20
  have HR0 := Lib.hid w0
  have HSz := Lib.hid (fun (W : World) (hr : Row W (.slice p0 z0.q.length cap0) z0.q.length (z0.q.map Value.string)) => szSw_any (.slice p0 z0.q.length cap0) z0 W hr b0 1048576 (by omega))
  have HSm := Lib.hid b0
  clear w0 b0
  obtain ⟨W0, R_AW, hW0, hR_AW, hX_AW, hB0⟩ := entry1 w #[.int .i64 z0.t, .int .i64 z0.z, .slice p0 z0.q.length cap0] 58
  have HW0 := Lib.hid hW0
  have HB0 := Lib.hid hB0
  have HR_AW := Lib.hid hR_AW
  have HX_AW := Lib.hid hX_AW
  clear hW0 hB0 hR_AW hX_AW
  have c1_AW_0 := HX_AW.out.at 0 (v := .int .i64 z0.t) rfl
  have c1_AW_1 := HX_AW.out.at 1 (v := .int .i64 z0.z) rfl
  have c1_AW_2 := HX_AW.out.at 2 (v := .slice p0 z0.q.length cap0) rfl
  go_enter Try.func8, Try.ntmps8
  go_upto_region 1 with fail
  rw [← HW0.out, ← HR_AW.out]
  go_wp2_with fail
  refine (HSz.out _ (HR0.out.below HB0.out (Nat.le_refl _))).mono ?_
  rintro e W2 ⟨l2, r0, rfl, hr1, hr0⟩
  clear c1_AW_0 c1_AW_1 c1_AW_2
  have HB_3 := Lib.hid (HB0.out.trans (l2.mono HB0.out.size))
  have AW_3 := Lib.hid (HX_AW.out.below l2 HX_AW.out.lt)
  clear l2
  have c4_AW_0 := AW_3.out.at 0 (v := .int .i64 z0.t) rfl
  have c4_AW_1 := AW_3.out.at 1 (v := .int .i64 z0.z) rfl
  have c4_AW_2 := AW_3.out.at 2 (v := .slice p0 z0.q.length cap0) rfl
  by_cases hneg : r0 < 0
  · clear hr0
    go_wp2_with fail
    go_ret
    exact ⟨rfl, HB_3.out⟩
  obtain ⟨hm0, hs0, hr00⟩ := hr0.resolve_left hneg
  have HN0 := Lib.hid hm0
  clear hr0 hs0 HSz
  have HSp := Lib.hid (fun (v : Value) (W : World) (hr : Row W v z0.q.length (z0.q.map Value.string)) (hf : FitA v z0.q.length) => specHeld_any v z0 a1 W hr HSm.out)
  have HIm := Lib.hid (fun (v : Value) (W : World) (hr : Row W v z0.q.length (z0.q.map Value.string)) (hf : FitA v z0.q.length) => implHeld_any v z0 a1 W hr HSm.out)
  generalize heldV z0 a1 = r0_ at HSp HIm
  generalize heldOk z0 a1 = r1_ at HSp HIm
  clear hm0
  go_wp2_with fail
  refine (toSw_lit _ z0 _ (HR0.out.below HB_3.out (Nat.le_refl _)) HN0.out).mono ?_
  rintro e W5 ⟨g_s, rfl, o_s, l5⟩
  have O_s := Lib.hid (own_base o_s HB_3.out.size)
  have BX_AW_s : Hid (∀ k, (.slice (some ⟨g_s, 0, none⟩) z0.q.length z0.q.length : Value).ownBlock = some k → k ≠ R_AW) := Lib.hid (fun k h1 h2 => absurd AW_3.out.lt (Nat.not_lt.2 (by rw [← h2]; exact (o_s.lt k h1).1)))
  clear o_s
  clear c4_AW_0 c4_AW_1 c4_AW_2
  have HB_6 := Lib.hid (HB_3.out.trans (l5.mono HB_3.out.size))
  have AW_6 := Lib.hid (AW_3.out.below l5 AW_3.out.lt)
  clear AW_3
  clear l5
  have c7_AW_0 := AW_6.out.at 0 (v := .int .i64 z0.t) rfl
  have c7_AW_1 := AW_6.out.at 1 (v := .int .i64 z0.z) rfl
  have c7_AW_2 := AW_6.out.at 2 (v := .slice p0 z0.q.length cap0) rfl
  go_wp2_with fail
  refine (HSp.out _ _ (row_own O_s.out) (fitA_some _ _)).mono ?_
  rintro e W8 ⟨rfl, l8⟩
  clear c7_AW_0 c7_AW_1 c7_AW_2
  have HB_9 := Lib.hid (HB_6.out.trans (l8.mono HB_6.out.size))
  have s_9 := Lib.hid (own_below O_s.out l8 (Nat.le_refl _))
  clear O_s
  have AW_9 := Lib.hid (AW_6.out.below l8 AW_6.out.lt)
  clear AW_6
  clear l8
  have c10_AW_0 := AW_9.out.at 0 (v := .int .i64 z0.t) rfl
  have c10_AW_1 := AW_9.out.at 1 (v := .int .i64 z0.z) rfl
  have c10_AW_2 := AW_9.out.at 2 (v := .slice p0 z0.q.length cap0) rfl
  clear s_9
  go_wp2_with fail
  refine (toSw_lit _ z0 _ (HR0.out.below HB_9.out (Nat.le_refl _)) HN0.out).mono ?_
  rintro e W11 ⟨g_x, rfl, o_x, l11⟩
  have O_x := Lib.hid (own_base o_x HB_9.out.size)
  have BX_AW_x : Hid (∀ k, (.slice (some ⟨g_x, 0, none⟩) z0.q.length z0.q.length : Value).ownBlock = some k → k ≠ R_AW) := Lib.hid (fun k h1 h2 => absurd AW_9.out.lt (Nat.not_lt.2 (by rw [← h2]; exact (o_x.lt k h1).1)))
  clear o_x
  clear c10_AW_0 c10_AW_1 c10_AW_2
  have HB_12 := Lib.hid (HB_9.out.trans (l11.mono HB_9.out.size))
  have AW_12 := Lib.hid (AW_9.out.below l11 AW_9.out.lt)
  clear AW_9
  clear l11
  have c13_AW_0 := AW_12.out.at 0 (v := .int .i64 z0.t) rfl
  have c13_AW_1 := AW_12.out.at 1 (v := .int .i64 z0.z) rfl
  have c13_AW_2 := AW_12.out.at 2 (v := .slice p0 z0.q.length cap0) rfl
  go_upto_region 7 with fail
  obtain ⟨W14, hW14⟩ : ∃ W14, W14 = W11.alloc (.cells #[.int .i64 z0.t, .int .i64 z0.z, .slice (some ⟨g_x, 0, none⟩) z0.q.length z0.q.length] 26) := ⟨_, rfl⟩
  have l14 : Below W11.heap.size W11 W14 := by rw [hW14]; exact (Below.refl _ _).alloc (Nat.le_refl _) _
  have X14_X : Hid (Bx W14 W11.heap.size #[.int .i64 z0.t, .int .i64 z0.z, .slice (some ⟨g_x, 0, none⟩) z0.q.length z0.q.length] 26) := Lib.hid (by rw [hW14]; exact Bx.new _ _ _)
  rw [← hW14]
  clear hW14
  have BX_X_x : Hid (∀ k, (.slice (some ⟨g_x, 0, none⟩) z0.q.length z0.q.length : Value).ownBlock = some k → k ≠ W11.heap.size) := Lib.hid (fun k h1 h2 => absurd (O_x.out.lt k h1).2 (by omega))
  have HG_X : Hid (w.heap.size ≤ W11.heap.size) := Lib.hid HB_12.out.size
  have HN_X_AW : Hid (R_AW < W11.heap.size) := Lib.hid AW_12.out.lt
  obtain ⟨R_X, hR_X⟩ : ∃ X, X = W11.heap.size := ⟨_, rfl⟩
  rw [← hR_X] at X14_X HG_X BX_X_x HN_X_AW ⊢
  clear hR_X
  clear c13_AW_0 c13_AW_1 c13_AW_2
  have HB_15 := Lib.hid (HB_12.out.trans (l14.mono HB_12.out.size))
  have x_15 := Lib.hid (own_below O_x.out l14 (Nat.le_refl _))
  clear O_x
  have AW_15 := Lib.hid (AW_12.out.below l14 AW_12.out.lt)
  clear AW_12
  clear l14
  have c16_AW_0 := AW_15.out.at 0 (v := .int .i64 z0.t) rfl
  have c16_AW_1 := AW_15.out.at 1 (v := .int .i64 z0.z) rfl
  have c16_AW_2 := AW_15.out.at 2 (v := .slice p0 z0.q.length cap0) rfl
  have c17_X_0 := X14_X.out.at 0 (v := .int .i64 z0.t) rfl
  have c17_X_1 := X14_X.out.at 1 (v := .int .i64 z0.z) rfl
  have c17_X_2 := X14_X.out.at 2 (v := .slice (some ⟨g_x, 0, none⟩) z0.q.length z0.q.length) rfl
  go_wp2_with fail
  refine (HIm.out _ _ (row_own x_15.out) (fitA_some _ _)).mono ?_
  rintro e W18 ⟨rfl, l18⟩
  clear c16_AW_0 c16_AW_1 c16_AW_2
  clear c17_X_0 c17_X_1 c17_X_2
  have HB_19 := Lib.hid (HB_15.out.trans (l18.mono HB_15.out.size))
  have x_19 := Lib.hid (own_below x_15.out l18 (Nat.le_refl _))
  clear x_15
  have AW_19 := Lib.hid (AW_15.out.below l18 AW_15.out.lt)
  clear AW_15
  have X_19 := Lib.hid (X14_X.out.below l18 X14_X.out.lt)
  clear X14_X
  clear l18
  have c20_AW_0 := AW_19.out.at 0 (v := .int .i64 z0.t) rfl
  have c20_AW_1 := AW_19.out.at 1 (v := .int .i64 z0.z) rfl
  have c20_AW_2 := AW_19.out.at 2 (v := .slice p0 z0.q.length cap0) rfl
  have c21_X_0 := X_19.out.at 0 (v := .int .i64 z0.t) rfl
  have c21_X_1 := X_19.out.at 1 (v := .int .i64 z0.z) rfl
  have c21_X_2 := X_19.out.at 2 (v := .slice (some ⟨g_x, 0, none⟩) z0.q.length z0.q.length) rfl
  go_upto_region 10 with fail
  go_cut [43] from 39 to 43 (fun b wx => b = .bool false ∧ Hid (Below W18.heap.size W18 wx))
  case first => as_aux_lemma =>
    have HK1 := Lib.hid (fun (w' : World) (hb : Below W18.heap.size W18 w') => (show w'.cell? ⟨R_X, 0, none⟩ = some (.int .i64 z0.t) ∧ w'.cell? ⟨R_X, 1, none⟩ = some (.int .i64 z0.z) ∧ w'.cell? ⟨R_X, 2, none⟩ = some (.slice (some ⟨g_x, 0, none⟩) z0.q.length z0.q.length) ∧ w'.cell? ⟨R_AW, 0, none⟩ = some (.int .i64 z0.t) ∧ w'.cell? ⟨R_AW, 1, none⟩ = some (.int .i64 z0.z) ∧ w'.cell? ⟨R_AW, 2, none⟩ = some (.slice p0 z0.q.length cap0) ∧ Below w.heap.size w w' from ⟨(hb.cell (p := ⟨R_X, 0, none⟩) X_19.out.lt).trans (X_19.out.at 0 (v := .int .i64 z0.t) rfl), (hb.cell (p := ⟨R_X, 1, none⟩) X_19.out.lt).trans (X_19.out.at 1 (v := .int .i64 z0.z) rfl), (hb.cell (p := ⟨R_X, 2, none⟩) X_19.out.lt).trans (X_19.out.at 2 (v := .slice (some ⟨g_x, 0, none⟩) z0.q.length z0.q.length) rfl), (hb.cell (p := ⟨R_AW, 0, none⟩) AW_19.out.lt).trans (AW_19.out.at 0 (v := .int .i64 z0.t) rfl), (hb.cell (p := ⟨R_AW, 1, none⟩) AW_19.out.lt).trans (AW_19.out.at 1 (v := .int .i64 z0.z) rfl), (hb.cell (p := ⟨R_AW, 2, none⟩) AW_19.out.lt).trans (AW_19.out.at 2 (v := .slice p0 z0.q.length cap0) rfl), HB_19.out.trans (hb.mono HB_19.out.size)⟩))
    go_region_held3 (fun w' => w'.cell? ⟨R_X, 0, none⟩ = some (.int .i64 z0.t) ∧ w'.cell? ⟨R_X, 1, none⟩ = some (.int .i64 z0.z) ∧ w'.cell? ⟨R_X, 2, none⟩ = some (.slice (some ⟨g_x, 0, none⟩) z0.q.length z0.q.length) ∧ w'.cell? ⟨R_AW, 0, none⟩ = some (.int .i64 z0.t) ∧ w'.cell? ⟨R_AW, 1, none⟩ = some (.int .i64 z0.z) ∧ w'.cell? ⟨R_AW, 2, none⟩ = some (.slice p0 z0.q.length cap0) ∧ Below w.heap.size w w')
      ((first | (with_reducible refine HK1.out _ ?_; (repeat (first | with_reducible assumption | with_reducible exact Below.refl _ _ | with_reducible refine Below.drew ?_ | with_reducible refine below_alloc' ?_)); done)))
      (first
        | (go_at_call 45; refine (toSw_lit _ z0 _ (HR0.out.below (HB_19.out.trans ((by repeat (first | with_reducible assumption | with_reducible exact Below.refl _ _ | with_reducible refine Below.drew ?_ | with_reducible refine below_alloc' ?_) : Below W18.heap.size W18 _).mono HB_19.out.size)) (Nat.le_refl _)) HN0.out).mono ?_; rintro e w5 ⟨g5, rfl, o5, l5⟩; have hb5 := below_call7 (by repeat (first | with_reducible assumption | with_reducible exact Below.refl _ _ | with_reducible refine Below.drew ?_ | with_reducible refine below_alloc' ?_) : Below W18.heap.size W18 _) l5; have ho5 := row_own o5; clear o5 l5)
        | (go_at_call 46; refine (eqSw_same _ _ z0 _ ((row_own x_19.out).below hb5 (Nat.le_refl _)) ho5).mono ?_; rintro e w6 ⟨rfl, l6⟩; have hb6 := below_call7 hb5 l6; clear l6))
    all_goals go_wp2_with fail
    all_goals go_meet
    all_goals
      case rel => exact ⟨by simp, Lib.hid (by repeat (first | with_reducible assumption | with_reducible exact Below.refl _ _ | with_reducible refine Below.drew ?_ | with_reducible refine below_alloc' ?_))⟩
  case rest =>
    obtain ⟨rfl, HCut⟩ := hcut
    rename World => W22
    have l22 := HCut.out
    clear HCut
    clear c20_AW_0 c20_AW_1 c20_AW_2
    clear c21_X_0 c21_X_1 c21_X_2
    have HB_23 := Lib.hid (HB_19.out.trans (l22.mono HB_19.out.size))
    have x_23 := Lib.hid (own_below x_19.out l22 (Nat.le_refl _))
    clear x_19
    have AW_23 := Lib.hid (AW_19.out.below l22 AW_19.out.lt)
    clear AW_19
    have X_23 := Lib.hid (X_19.out.below l22 X_19.out.lt)
    clear X_19
    clear l22
    have c24_AW_0 := AW_23.out.at 0 (v := .int .i64 z0.t) rfl
    have c24_AW_1 := AW_23.out.at 1 (v := .int .i64 z0.z) rfl
    have c24_AW_2 := AW_23.out.at 2 (v := .slice p0 z0.q.length cap0) rfl
    have c25_X_0 := X_23.out.at 0 (v := .int .i64 z0.t) rfl
    have c25_X_1 := X_23.out.at 1 (v := .int .i64 z0.z) rfl
    have c25_X_2 := X_23.out.at 2 (v := .slice (some ⟨g_x, 0, none⟩) z0.q.length z0.q.length) rfl
    go_wp2_with fail
    go_ret
    exact ⟨rfl, HB_23.out⟩
theorem fnExactHeldItem_walk (w : World) (a0_0 : Int) (w0_0 : (Lit.int .i64 a0_0).wf = true) (a0_1 : Int) (w0_1 : (Lit.int .i64 a0_1).wf = true) (v0_2 : Value) (s0_2 : List ByteArray) (w0_2 : Row w v0_2 s0_2.length (s0_2.map Value.string)) (b0_2 : ∀ s ∈ s0_2, s.size ≤ maxLen) (a1 : Int) (w1 : (Lit.int .i64 a1).wf = true) (_hsh : w.ShapedOpen Try.prog) :
    Calls Try.prog 8 #[.agg #[.int .i64 a0_0, .int .i64 a0_1, v0_2], .int .i64 a1] w fun e w' => e = .returned (.bool true) ∧ Below w.heap.size w w' :=
  fnExactHeldItem_wk v0_2 ⟨a0_0, a0_1, s0_2⟩ w w0_2 b0_2 a1 w1
set_option maxRecDepth 100000 in
set_option maxHeartbeats 8000000 in
theorem fnExactStatusOf_wk (v0 : Value) (z0 : Sw) (w : World) (w0 : Row w v0 z0.q.length (z0.q.map Value.string)) (b0 : ∀ s ∈ z0.q, s.size ≤ maxLen) :
    Calls Try.prog 11 #[.agg #[.int .i64 z0.t, .int .i64 z0.z, v0]] w fun e w' => e = .returned (.bool true) ∧ Below w.heap.size w w' := by
  obtain ⟨p0, cap0, rfl, hc10, hc20, _⟩ := row_open w0
  unfold maxLen at hc20
  have HR0 := Lib.hid w0
  have HSz := Lib.hid (fun (W : World) (hr : Row W (.slice p0 z0.q.length cap0) z0.q.length (z0.q.map Value.string)) => szSw_any (.slice p0 z0.q.length cap0) z0 W hr b0 1048576 (by omega))
  have HSm := Lib.hid b0
  clear w0 b0
  obtain ⟨W0, R_AW, hW0, hR_AW, hX_AW, hB0⟩ := entry1 w #[.int .i64 z0.t, .int .i64 z0.z, .slice p0 z0.q.length cap0] 58
  have HW0 := Lib.hid hW0
  have HB0 := Lib.hid hB0
  have HR_AW := Lib.hid hR_AW
  have HX_AW := Lib.hid hX_AW
  clear hW0 hB0 hR_AW hX_AW
  have c1_AW_0 := HX_AW.out.at 0 (v := .int .i64 z0.t) rfl
  have c1_AW_1 := HX_AW.out.at 1 (v := .int .i64 z0.z) rfl
  have c1_AW_2 := HX_AW.out.at 2 (v := .slice p0 z0.q.length cap0) rfl
  go_enter Try.func11, Try.ntmps11
  go_upto_region 1 with fail
  rw [← HW0.out, ← HR_AW.out]
  go_wp2_with fail
  refine (HSz.out _ (HR0.out.below HB0.out (Nat.le_refl _))).mono ?_
  rintro e W2 ⟨l2, r0, rfl, hr1, hr0⟩
  clear c1_AW_0 c1_AW_1 c1_AW_2
  have HB_3 := Lib.hid (HB0.out.trans (l2.mono HB0.out.size))
  have AW_3 := Lib.hid (HX_AW.out.below l2 HX_AW.out.lt)
  clear l2
  have c4_AW_0 := AW_3.out.at 0 (v := .int .i64 z0.t) rfl
  have c4_AW_1 := AW_3.out.at 1 (v := .int .i64 z0.z) rfl
  have c4_AW_2 := AW_3.out.at 2 (v := .slice p0 z0.q.length cap0) rfl
  by_cases hneg : r0 < 0
  · clear hr0
    go_wp2_with fail
    go_ret
    exact ⟨rfl, HB_3.out⟩
  obtain ⟨hm0, hs0, hr00⟩ := hr0.resolve_left hneg
  have HN0 := Lib.hid hm0
  clear hr0 hs0 HSz
  have HSp := Lib.hid (fun (v : Value) (W : World) (hr : Row W v z0.q.length (z0.q.map Value.string)) (hf : FitA v z0.q.length) => specStatus_any v z0 W hr HSm.out)
  have HIm := Lib.hid (fun (v : Value) (W : World) (hr : Row W v z0.q.length (z0.q.map Value.string)) (hf : FitA v z0.q.length) => implStatus_any v z0 W hr HSm.out)
  generalize statP z0 = ps0 at HSp HIm
  generalize swOk z0 = r0_ at HSp HIm
  clear hm0
  go_wp2_with fail
  refine (toSw_lit _ z0 _ (HR0.out.below HB_3.out (Nat.le_refl _)) HN0.out).mono ?_
  rintro e W5 ⟨g_s, rfl, o_s, l5⟩
  have O_s := Lib.hid (own_base o_s HB_3.out.size)
  have BX_AW_s : Hid (∀ k, (.slice (some ⟨g_s, 0, none⟩) z0.q.length z0.q.length : Value).ownBlock = some k → k ≠ R_AW) := Lib.hid (fun k h1 h2 => absurd AW_3.out.lt (Nat.not_lt.2 (by rw [← h2]; exact (o_s.lt k h1).1)))
  clear o_s
  clear c4_AW_0 c4_AW_1 c4_AW_2
  have HB_6 := Lib.hid (HB_3.out.trans (l5.mono HB_3.out.size))
  have AW_6 := Lib.hid (AW_3.out.below l5 AW_3.out.lt)
  clear AW_3
  clear l5
  have c7_AW_0 := AW_6.out.at 0 (v := .int .i64 z0.t) rfl
  have c7_AW_1 := AW_6.out.at 1 (v := .int .i64 z0.z) rfl
  have c7_AW_2 := AW_6.out.at 2 (v := .slice p0 z0.q.length cap0) rfl
  go_wp2_with fail
  refine (HSp.out _ _ (row_own O_s.out) (fitA_some _ _)).mono ?_
  rintro e W8 ⟨rfl, l8⟩
  clear c7_AW_0 c7_AW_1 c7_AW_2
  have HB_9 := Lib.hid (HB_6.out.trans (l8.mono HB_6.out.size))
  have s_9 := Lib.hid (own_below O_s.out l8 (Nat.le_refl _))
  clear O_s
  have AW_9 := Lib.hid (AW_6.out.below l8 AW_6.out.lt)
  clear AW_6
  clear l8
  have c10_AW_0 := AW_9.out.at 0 (v := .int .i64 z0.t) rfl
  have c10_AW_1 := AW_9.out.at 1 (v := .int .i64 z0.z) rfl
  have c10_AW_2 := AW_9.out.at 2 (v := .slice p0 z0.q.length cap0) rfl
  go_upto_region 6 with fail
  obtain ⟨W11, hW11⟩ : ∃ W11, W11 = W8.alloc (.cells #[.int .i64 ps0.k, .int .i64 ps0.n, .int .i64 ps0.t, .int .i64 ps0.l, .string ps0.d] 30) := ⟨_, rfl⟩
  have l11 : Below W8.heap.size W8 W11 := by rw [hW11]; exact (Below.refl _ _).alloc (Nat.le_refl _) _
  have X11_vwB0 : Hid (Bx W11 W8.heap.size #[.int .i64 ps0.k, .int .i64 ps0.n, .int .i64 ps0.t, .int .i64 ps0.l, .string ps0.d] 30) := Lib.hid (by rw [hW11]; exact Bx.new _ _ _)
  rw [← hW11]
  clear hW11
  have BX_vwB0_s : Hid (∀ k, (.slice (some ⟨g_s, 0, none⟩) z0.q.length z0.q.length : Value).ownBlock = some k → k ≠ W8.heap.size) := Lib.hid (fun k h1 h2 => absurd (s_9.out.lt k h1).2 (by omega))
  have HG_vwB0 : Hid (w.heap.size ≤ W8.heap.size) := Lib.hid HB_9.out.size
  have HN_vwB0_AW : Hid (R_AW < W8.heap.size) := Lib.hid AW_9.out.lt
  obtain ⟨R_vwB0, hR_vwB0⟩ : ∃ X, X = W8.heap.size := ⟨_, rfl⟩
  rw [← hR_vwB0] at X11_vwB0 HG_vwB0 BX_vwB0_s HN_vwB0_AW ⊢
  clear hR_vwB0
  clear c10_AW_0 c10_AW_1 c10_AW_2
  have HB_12 := Lib.hid (HB_9.out.trans (l11.mono HB_9.out.size))
  have s_12 := Lib.hid (own_below s_9.out l11 (Nat.le_refl _))
  clear s_9
  have AW_12 := Lib.hid (AW_9.out.below l11 AW_9.out.lt)
  clear AW_9
  clear l11
  have c13_AW_0 := AW_12.out.at 0 (v := .int .i64 z0.t) rfl
  have c13_AW_1 := AW_12.out.at 1 (v := .int .i64 z0.z) rfl
  have c13_AW_2 := AW_12.out.at 2 (v := .slice p0 z0.q.length cap0) rfl
  have c14_vwB0_0 := X11_vwB0.out.at 0 (v := .int .i64 ps0.k) rfl
  have c14_vwB0_1 := X11_vwB0.out.at 1 (v := .int .i64 ps0.n) rfl
  have c14_vwB0_2 := X11_vwB0.out.at 2 (v := .int .i64 ps0.t) rfl
  have c14_vwB0_3 := X11_vwB0.out.at 3 (v := .int .i64 ps0.l) rfl
  have c14_vwB0_4 := X11_vwB0.out.at 4 (v := .string ps0.d) rfl
  clear s_12
  go_wp2_with fail
  refine (toSw_lit _ z0 _ (HR0.out.below HB_12.out (Nat.le_refl _)) HN0.out).mono ?_
  rintro e W15 ⟨g_x, rfl, o_x, l15⟩
  have O_x := Lib.hid (own_base o_x HB_12.out.size)
  have BX_AW_x : Hid (∀ k, (.slice (some ⟨g_x, 0, none⟩) z0.q.length z0.q.length : Value).ownBlock = some k → k ≠ R_AW) := Lib.hid (fun k h1 h2 => absurd AW_12.out.lt (Nat.not_lt.2 (by rw [← h2]; exact (o_x.lt k h1).1)))
  have BX_vwB0_x : Hid (∀ k, (.slice (some ⟨g_x, 0, none⟩) z0.q.length z0.q.length : Value).ownBlock = some k → k ≠ R_vwB0) := Lib.hid (fun k h1 h2 => absurd X11_vwB0.out.lt (Nat.not_lt.2 (by rw [← h2]; exact (o_x.lt k h1).1)))
  clear o_x
  clear c13_AW_0 c13_AW_1 c13_AW_2
  clear c14_vwB0_0 c14_vwB0_1 c14_vwB0_2 c14_vwB0_3 c14_vwB0_4
  have HB_16 := Lib.hid (HB_12.out.trans (l15.mono HB_12.out.size))
  have AW_16 := Lib.hid (AW_12.out.below l15 AW_12.out.lt)
  clear AW_12
  have vwB0_16 := Lib.hid (X11_vwB0.out.below l15 X11_vwB0.out.lt)
  clear X11_vwB0
  clear l15
  have c17_AW_0 := AW_16.out.at 0 (v := .int .i64 z0.t) rfl
  have c17_AW_1 := AW_16.out.at 1 (v := .int .i64 z0.z) rfl
  have c17_AW_2 := AW_16.out.at 2 (v := .slice p0 z0.q.length cap0) rfl
  have c18_vwB0_0 := vwB0_16.out.at 0 (v := .int .i64 ps0.k) rfl
  have c18_vwB0_1 := vwB0_16.out.at 1 (v := .int .i64 ps0.n) rfl
  have c18_vwB0_2 := vwB0_16.out.at 2 (v := .int .i64 ps0.t) rfl
  have c18_vwB0_3 := vwB0_16.out.at 3 (v := .int .i64 ps0.l) rfl
  have c18_vwB0_4 := vwB0_16.out.at 4 (v := .string ps0.d) rfl
  go_upto_region 7 with fail
  obtain ⟨W19, hW19⟩ : ∃ W19, W19 = W15.alloc (.cells #[.int .i64 z0.t, .int .i64 z0.z, .slice (some ⟨g_x, 0, none⟩) z0.q.length z0.q.length] 26) := ⟨_, rfl⟩
  have l19 : Below W15.heap.size W15 W19 := by rw [hW19]; exact (Below.refl _ _).alloc (Nat.le_refl _) _
  have X19_X : Hid (Bx W19 W15.heap.size #[.int .i64 z0.t, .int .i64 z0.z, .slice (some ⟨g_x, 0, none⟩) z0.q.length z0.q.length] 26) := Lib.hid (by rw [hW19]; exact Bx.new _ _ _)
  rw [← hW19]
  clear hW19
  have BX_X_x : Hid (∀ k, (.slice (some ⟨g_x, 0, none⟩) z0.q.length z0.q.length : Value).ownBlock = some k → k ≠ W15.heap.size) := Lib.hid (fun k h1 h2 => absurd (O_x.out.lt k h1).2 (by omega))
  have HG_X : Hid (w.heap.size ≤ W15.heap.size) := Lib.hid HB_16.out.size
  have HN_X_AW : Hid (R_AW < W15.heap.size) := Lib.hid AW_16.out.lt
  have HN_X_vwB0 : Hid (R_vwB0 < W15.heap.size) := Lib.hid vwB0_16.out.lt
  obtain ⟨R_X, hR_X⟩ : ∃ X, X = W15.heap.size := ⟨_, rfl⟩
  rw [← hR_X] at X19_X HG_X BX_X_x HN_X_AW HN_X_vwB0 ⊢
  clear hR_X
  clear c17_AW_0 c17_AW_1 c17_AW_2
  clear c18_vwB0_0 c18_vwB0_1 c18_vwB0_2 c18_vwB0_3 c18_vwB0_4
  have HB_20 := Lib.hid (HB_16.out.trans (l19.mono HB_16.out.size))
  have x_20 := Lib.hid (own_below O_x.out l19 (Nat.le_refl _))
  clear O_x
  have AW_20 := Lib.hid (AW_16.out.below l19 AW_16.out.lt)
  clear AW_16
  have vwB0_20 := Lib.hid (vwB0_16.out.below l19 vwB0_16.out.lt)
  clear vwB0_16
  clear l19
  have c21_AW_0 := AW_20.out.at 0 (v := .int .i64 z0.t) rfl
  have c21_AW_1 := AW_20.out.at 1 (v := .int .i64 z0.z) rfl
  have c21_AW_2 := AW_20.out.at 2 (v := .slice p0 z0.q.length cap0) rfl
  have c22_vwB0_0 := vwB0_20.out.at 0 (v := .int .i64 ps0.k) rfl
  have c22_vwB0_1 := vwB0_20.out.at 1 (v := .int .i64 ps0.n) rfl
  have c22_vwB0_2 := vwB0_20.out.at 2 (v := .int .i64 ps0.t) rfl
  have c22_vwB0_3 := vwB0_20.out.at 3 (v := .int .i64 ps0.l) rfl
  have c22_vwB0_4 := vwB0_20.out.at 4 (v := .string ps0.d) rfl
  have c23_X_0 := X19_X.out.at 0 (v := .int .i64 z0.t) rfl
  have c23_X_1 := X19_X.out.at 1 (v := .int .i64 z0.z) rfl
  have c23_X_2 := X19_X.out.at 2 (v := .slice (some ⟨g_x, 0, none⟩) z0.q.length z0.q.length) rfl
  go_wp2_with fail
  refine (HIm.out _ _ (row_own x_20.out) (fitA_some _ _)).mono ?_
  rintro e W24 ⟨rfl, l24⟩
  clear c21_AW_0 c21_AW_1 c21_AW_2
  clear c22_vwB0_0 c22_vwB0_1 c22_vwB0_2 c22_vwB0_3 c22_vwB0_4
  clear c23_X_0 c23_X_1 c23_X_2
  have HB_25 := Lib.hid (HB_20.out.trans (l24.mono HB_20.out.size))
  have x_25 := Lib.hid (own_below x_20.out l24 (Nat.le_refl _))
  clear x_20
  have AW_25 := Lib.hid (AW_20.out.below l24 AW_20.out.lt)
  clear AW_20
  have vwB0_25 := Lib.hid (vwB0_20.out.below l24 vwB0_20.out.lt)
  clear vwB0_20
  have X_25 := Lib.hid (X19_X.out.below l24 X19_X.out.lt)
  clear X19_X
  clear l24
  have c26_AW_0 := AW_25.out.at 0 (v := .int .i64 z0.t) rfl
  have c26_AW_1 := AW_25.out.at 1 (v := .int .i64 z0.z) rfl
  have c26_AW_2 := AW_25.out.at 2 (v := .slice p0 z0.q.length cap0) rfl
  have c27_vwB0_0 := vwB0_25.out.at 0 (v := .int .i64 ps0.k) rfl
  have c27_vwB0_1 := vwB0_25.out.at 1 (v := .int .i64 ps0.n) rfl
  have c27_vwB0_2 := vwB0_25.out.at 2 (v := .int .i64 ps0.t) rfl
  have c27_vwB0_3 := vwB0_25.out.at 3 (v := .int .i64 ps0.l) rfl
  have c27_vwB0_4 := vwB0_25.out.at 4 (v := .string ps0.d) rfl
  have c28_X_0 := X_25.out.at 0 (v := .int .i64 z0.t) rfl
  have c28_X_1 := X_25.out.at 1 (v := .int .i64 z0.z) rfl
  have c28_X_2 := X_25.out.at 2 (v := .slice (some ⟨g_x, 0, none⟩) z0.q.length z0.q.length) rfl
  go_upto_region 8 with fail
  obtain ⟨W29, hW29⟩ : ∃ W29, W29 = W24.alloc (.cells #[.int .i64 ps0.k, .int .i64 ps0.n, .int .i64 ps0.t, .int .i64 ps0.l, .string ps0.d] 30) := ⟨_, rfl⟩
  have l29 : Below W24.heap.size W24 W29 := by rw [hW29]; exact (Below.refl _ _).alloc (Nat.le_refl _) _
  have X29_vgB0 : Hid (Bx W29 W24.heap.size #[.int .i64 ps0.k, .int .i64 ps0.n, .int .i64 ps0.t, .int .i64 ps0.l, .string ps0.d] 30) := Lib.hid (by rw [hW29]; exact Bx.new _ _ _)
  rw [← hW29]
  clear hW29
  have BX_vgB0_x : Hid (∀ k, (.slice (some ⟨g_x, 0, none⟩) z0.q.length z0.q.length : Value).ownBlock = some k → k ≠ W24.heap.size) := Lib.hid (fun k h1 h2 => absurd (x_25.out.lt k h1).2 (by omega))
  have HG_vgB0 : Hid (w.heap.size ≤ W24.heap.size) := Lib.hid HB_25.out.size
  have HN_vgB0_AW : Hid (R_AW < W24.heap.size) := Lib.hid AW_25.out.lt
  have HN_vgB0_vwB0 : Hid (R_vwB0 < W24.heap.size) := Lib.hid vwB0_25.out.lt
  have HN_vgB0_X : Hid (R_X < W24.heap.size) := Lib.hid X_25.out.lt
  obtain ⟨R_vgB0, hR_vgB0⟩ : ∃ X, X = W24.heap.size := ⟨_, rfl⟩
  rw [← hR_vgB0] at X29_vgB0 HG_vgB0 BX_vgB0_x HN_vgB0_AW HN_vgB0_vwB0 HN_vgB0_X ⊢
  clear hR_vgB0
  clear c26_AW_0 c26_AW_1 c26_AW_2
  clear c27_vwB0_0 c27_vwB0_1 c27_vwB0_2 c27_vwB0_3 c27_vwB0_4
  clear c28_X_0 c28_X_1 c28_X_2
  have HB_30 := Lib.hid (HB_25.out.trans (l29.mono HB_25.out.size))
  have x_30 := Lib.hid (own_below x_25.out l29 (Nat.le_refl _))
  clear x_25
  have AW_30 := Lib.hid (AW_25.out.below l29 AW_25.out.lt)
  clear AW_25
  have vwB0_30 := Lib.hid (vwB0_25.out.below l29 vwB0_25.out.lt)
  clear vwB0_25
  have X_30 := Lib.hid (X_25.out.below l29 X_25.out.lt)
  clear X_25
  clear l29
  have c31_AW_0 := AW_30.out.at 0 (v := .int .i64 z0.t) rfl
  have c31_AW_1 := AW_30.out.at 1 (v := .int .i64 z0.z) rfl
  have c31_AW_2 := AW_30.out.at 2 (v := .slice p0 z0.q.length cap0) rfl
  have c32_vwB0_0 := vwB0_30.out.at 0 (v := .int .i64 ps0.k) rfl
  have c32_vwB0_1 := vwB0_30.out.at 1 (v := .int .i64 ps0.n) rfl
  have c32_vwB0_2 := vwB0_30.out.at 2 (v := .int .i64 ps0.t) rfl
  have c32_vwB0_3 := vwB0_30.out.at 3 (v := .int .i64 ps0.l) rfl
  have c32_vwB0_4 := vwB0_30.out.at 4 (v := .string ps0.d) rfl
  have c33_X_0 := X_30.out.at 0 (v := .int .i64 z0.t) rfl
  have c33_X_1 := X_30.out.at 1 (v := .int .i64 z0.z) rfl
  have c33_X_2 := X_30.out.at 2 (v := .slice (some ⟨g_x, 0, none⟩) z0.q.length z0.q.length) rfl
  have c34_vgB0_0 := X29_vgB0.out.at 0 (v := .int .i64 ps0.k) rfl
  have c34_vgB0_1 := X29_vgB0.out.at 1 (v := .int .i64 ps0.n) rfl
  have c34_vgB0_2 := X29_vgB0.out.at 2 (v := .int .i64 ps0.t) rfl
  have c34_vgB0_3 := X29_vgB0.out.at 3 (v := .int .i64 ps0.l) rfl
  have c34_vgB0_4 := X29_vgB0.out.at 4 (v := .string ps0.d) rfl
  go_wp2_with fail
  refine (eqPacket_same ps0.k ps0.n ps0.t ps0.l ps0.d _).mono ?_
  rintro e W35 ⟨rfl, l35⟩
  clear c31_AW_0 c31_AW_1 c31_AW_2
  clear c32_vwB0_0 c32_vwB0_1 c32_vwB0_2 c32_vwB0_3 c32_vwB0_4
  clear c33_X_0 c33_X_1 c33_X_2
  clear c34_vgB0_0 c34_vgB0_1 c34_vgB0_2 c34_vgB0_3 c34_vgB0_4
  have HB_36 := Lib.hid (HB_30.out.trans (l35.mono HB_30.out.size))
  have x_36 := Lib.hid (own_below x_30.out l35 (Nat.le_refl _))
  clear x_30
  have AW_36 := Lib.hid (AW_30.out.below l35 AW_30.out.lt)
  clear AW_30
  have vwB0_36 := Lib.hid (vwB0_30.out.below l35 vwB0_30.out.lt)
  clear vwB0_30
  have X_36 := Lib.hid (X_30.out.below l35 X_30.out.lt)
  clear X_30
  have vgB0_36 := Lib.hid (X29_vgB0.out.below l35 X29_vgB0.out.lt)
  clear X29_vgB0
  clear l35
  have c37_AW_0 := AW_36.out.at 0 (v := .int .i64 z0.t) rfl
  have c37_AW_1 := AW_36.out.at 1 (v := .int .i64 z0.z) rfl
  have c37_AW_2 := AW_36.out.at 2 (v := .slice p0 z0.q.length cap0) rfl
  have c38_vwB0_0 := vwB0_36.out.at 0 (v := .int .i64 ps0.k) rfl
  have c38_vwB0_1 := vwB0_36.out.at 1 (v := .int .i64 ps0.n) rfl
  have c38_vwB0_2 := vwB0_36.out.at 2 (v := .int .i64 ps0.t) rfl
  have c38_vwB0_3 := vwB0_36.out.at 3 (v := .int .i64 ps0.l) rfl
  have c38_vwB0_4 := vwB0_36.out.at 4 (v := .string ps0.d) rfl
  have c39_X_0 := X_36.out.at 0 (v := .int .i64 z0.t) rfl
  have c39_X_1 := X_36.out.at 1 (v := .int .i64 z0.z) rfl
  have c39_X_2 := X_36.out.at 2 (v := .slice (some ⟨g_x, 0, none⟩) z0.q.length z0.q.length) rfl
  have c40_vgB0_0 := vgB0_36.out.at 0 (v := .int .i64 ps0.k) rfl
  have c40_vgB0_1 := vgB0_36.out.at 1 (v := .int .i64 ps0.n) rfl
  have c40_vgB0_2 := vgB0_36.out.at 2 (v := .int .i64 ps0.t) rfl
  have c40_vgB0_3 := vgB0_36.out.at 3 (v := .int .i64 ps0.l) rfl
  have c40_vgB0_4 := vgB0_36.out.at 4 (v := .string ps0.d) rfl
  go_upto_region 10 with fail
  go_cut [40] from 36 to 40 (fun b wx => b = .bool false ∧ Hid (Below W35.heap.size W35 wx))
  case first => as_aux_lemma =>
    have HK1 := Lib.hid (fun (w' : World) (hb : Below W35.heap.size W35 w') => (show w'.cell? ⟨R_X, 0, none⟩ = some (.int .i64 z0.t) ∧ w'.cell? ⟨R_X, 1, none⟩ = some (.int .i64 z0.z) ∧ w'.cell? ⟨R_X, 2, none⟩ = some (.slice (some ⟨g_x, 0, none⟩) z0.q.length z0.q.length) ∧ w'.cell? ⟨R_AW, 0, none⟩ = some (.int .i64 z0.t) ∧ w'.cell? ⟨R_AW, 1, none⟩ = some (.int .i64 z0.z) ∧ w'.cell? ⟨R_AW, 2, none⟩ = some (.slice p0 z0.q.length cap0) ∧ Below w.heap.size w w' from ⟨(hb.cell (p := ⟨R_X, 0, none⟩) X_36.out.lt).trans (X_36.out.at 0 (v := .int .i64 z0.t) rfl), (hb.cell (p := ⟨R_X, 1, none⟩) X_36.out.lt).trans (X_36.out.at 1 (v := .int .i64 z0.z) rfl), (hb.cell (p := ⟨R_X, 2, none⟩) X_36.out.lt).trans (X_36.out.at 2 (v := .slice (some ⟨g_x, 0, none⟩) z0.q.length z0.q.length) rfl), (hb.cell (p := ⟨R_AW, 0, none⟩) AW_36.out.lt).trans (AW_36.out.at 0 (v := .int .i64 z0.t) rfl), (hb.cell (p := ⟨R_AW, 1, none⟩) AW_36.out.lt).trans (AW_36.out.at 1 (v := .int .i64 z0.z) rfl), (hb.cell (p := ⟨R_AW, 2, none⟩) AW_36.out.lt).trans (AW_36.out.at 2 (v := .slice p0 z0.q.length cap0) rfl), HB_36.out.trans (hb.mono HB_36.out.size)⟩))
    go_region_held3 (fun w' => w'.cell? ⟨R_X, 0, none⟩ = some (.int .i64 z0.t) ∧ w'.cell? ⟨R_X, 1, none⟩ = some (.int .i64 z0.z) ∧ w'.cell? ⟨R_X, 2, none⟩ = some (.slice (some ⟨g_x, 0, none⟩) z0.q.length z0.q.length) ∧ w'.cell? ⟨R_AW, 0, none⟩ = some (.int .i64 z0.t) ∧ w'.cell? ⟨R_AW, 1, none⟩ = some (.int .i64 z0.z) ∧ w'.cell? ⟨R_AW, 2, none⟩ = some (.slice p0 z0.q.length cap0) ∧ Below w.heap.size w w')
      ((first | (with_reducible refine HK1.out _ ?_; (repeat (first | with_reducible assumption | with_reducible exact Below.refl _ _ | with_reducible refine Below.drew ?_ | with_reducible refine below_alloc' ?_)); done)))
      (first
        | (go_at_call 45; refine (toSw_lit _ z0 _ (HR0.out.below (HB_36.out.trans ((by repeat (first | with_reducible assumption | with_reducible exact Below.refl _ _ | with_reducible refine Below.drew ?_ | with_reducible refine below_alloc' ?_) : Below W35.heap.size W35 _).mono HB_36.out.size)) (Nat.le_refl _)) HN0.out).mono ?_; rintro e w5 ⟨g5, rfl, o5, l5⟩; have hb5 := below_call7 (by repeat (first | with_reducible assumption | with_reducible exact Below.refl _ _ | with_reducible refine Below.drew ?_ | with_reducible refine below_alloc' ?_) : Below W35.heap.size W35 _) l5; have ho5 := row_own o5; clear o5 l5)
        | (go_at_call 46; refine (eqSw_same _ _ z0 _ ((row_own x_36.out).below hb5 (Nat.le_refl _)) ho5).mono ?_; rintro e w6 ⟨rfl, l6⟩; have hb6 := below_call7 hb5 l6; clear l6))
    all_goals go_wp2_with fail
    all_goals go_meet
    all_goals
      case rel => exact ⟨by simp, Lib.hid (by repeat (first | with_reducible assumption | with_reducible exact Below.refl _ _ | with_reducible refine Below.drew ?_ | with_reducible refine below_alloc' ?_))⟩
  case rest =>
    obtain ⟨rfl, HCut⟩ := hcut
    rename World => W41
    have l41 := HCut.out
    clear HCut
    clear c37_AW_0 c37_AW_1 c37_AW_2
    clear c38_vwB0_0 c38_vwB0_1 c38_vwB0_2 c38_vwB0_3 c38_vwB0_4
    clear c39_X_0 c39_X_1 c39_X_2
    clear c40_vgB0_0 c40_vgB0_1 c40_vgB0_2 c40_vgB0_3 c40_vgB0_4
    have HB_42 := Lib.hid (HB_36.out.trans (l41.mono HB_36.out.size))
    have x_42 := Lib.hid (own_below x_36.out l41 (Nat.le_refl _))
    clear x_36
    have AW_42 := Lib.hid (AW_36.out.below l41 AW_36.out.lt)
    clear AW_36
    have vwB0_42 := Lib.hid (vwB0_36.out.below l41 vwB0_36.out.lt)
    clear vwB0_36
    have X_42 := Lib.hid (X_36.out.below l41 X_36.out.lt)
    clear X_36
    have vgB0_42 := Lib.hid (vgB0_36.out.below l41 vgB0_36.out.lt)
    clear vgB0_36
    clear l41
    have c43_AW_0 := AW_42.out.at 0 (v := .int .i64 z0.t) rfl
    have c43_AW_1 := AW_42.out.at 1 (v := .int .i64 z0.z) rfl
    have c43_AW_2 := AW_42.out.at 2 (v := .slice p0 z0.q.length cap0) rfl
    have c44_vwB0_0 := vwB0_42.out.at 0 (v := .int .i64 ps0.k) rfl
    have c44_vwB0_1 := vwB0_42.out.at 1 (v := .int .i64 ps0.n) rfl
    have c44_vwB0_2 := vwB0_42.out.at 2 (v := .int .i64 ps0.t) rfl
    have c44_vwB0_3 := vwB0_42.out.at 3 (v := .int .i64 ps0.l) rfl
    have c44_vwB0_4 := vwB0_42.out.at 4 (v := .string ps0.d) rfl
    have c45_X_0 := X_42.out.at 0 (v := .int .i64 z0.t) rfl
    have c45_X_1 := X_42.out.at 1 (v := .int .i64 z0.z) rfl
    have c45_X_2 := X_42.out.at 2 (v := .slice (some ⟨g_x, 0, none⟩) z0.q.length z0.q.length) rfl
    have c46_vgB0_0 := vgB0_42.out.at 0 (v := .int .i64 ps0.k) rfl
    have c46_vgB0_1 := vgB0_42.out.at 1 (v := .int .i64 ps0.n) rfl
    have c46_vgB0_2 := vgB0_42.out.at 2 (v := .int .i64 ps0.t) rfl
    have c46_vgB0_3 := vgB0_42.out.at 3 (v := .int .i64 ps0.l) rfl
    have c46_vgB0_4 := vgB0_42.out.at 4 (v := .string ps0.d) rfl
    go_wp2_with fail
    go_ret
    exact ⟨rfl, HB_42.out⟩
theorem fnExactStatusOf_walk (w : World) (a0_0 : Int) (w0_0 : (Lit.int .i64 a0_0).wf = true) (a0_1 : Int) (w0_1 : (Lit.int .i64 a0_1).wf = true) (v0_2 : Value) (s0_2 : List ByteArray) (w0_2 : Row w v0_2 s0_2.length (s0_2.map Value.string)) (b0_2 : ∀ s ∈ s0_2, s.size ≤ maxLen) (_hsh : w.ShapedOpen Try.prog) :
    Calls Try.prog 11 #[.agg #[.int .i64 a0_0, .int .i64 a0_1, v0_2]] w fun e w' => e = .returned (.bool true) ∧ Below w.heap.size w w' :=
  fnExactStatusOf_wk v0_2 ⟨a0_0, a0_1, s0_2⟩ w w0_2 b0_2 
end Go.Proofs.Ytkijfneaglogmaa
