/-
  The exact law of missing serials.
-/
import Derived.Test.YtpmjdppipalfcaaRcvI
import Derived.Test.YtpmjdppipalfcaaRcvS
import Derived.Test.YtpmjdppipalfcaaSltW
import Derived.Test.YtpmjdppipalfcaaInts
import Derived.WalkLawsBesides
import Derived.Deep.RegionHeld3
import Derived.Deep.CutRange
namespace Go.Proofs.Ytpmjdppipalfcaa
open Go.RowKit Go.Lib Go.Joins
set_option linter.unusedVariables false

theorem missV_len (w : Rw) (l : Int) : (missV w l).length ≤ 2000000 := by
  unfold missV
  by_cases h : missOk w l = true
  · rw [if_pos h]
    unfold missOk at h
    simp only [Bool.and_eq_true, decide_eq_true_eq] at h
    have := missP_len w.x w.q (gapN w l)
    show (missP w.x w.q (gapN w l)).length ≤ 2000000
    unfold gapN at *
    omega
  · rw [if_neg h]; decide
set_option maxRecDepth 100000 in
set_option maxHeartbeats 8000000 in
theorem fnExactMissingSerials_wk (v0 : Value) (z0 : Rw) (w : World) (w0 : Row w v0 z0.q.length (slF z0.q)) (b0 : ∀ s ∈ z0.q, s.s.size ≤ maxLen) (a1 : Int) (w1 : (Lit.int .i64 a1).wf = true) :
    Calls Try.prog 6 #[.agg #[.int .i64 z0.x, v0], .int .i64 a1] w fun e w' => e = .returned (.bool true) ∧ Below w.heap.size w w' := by
  obtain ⟨p0, cap0, rfl, hc10, hc20, _⟩ := sl_open w0
  unfold maxLen at hc20
  have HR0 := Lib.hid w0
  have HSz := Lib.hid (fun (W : World) (hr : Row W (.slice p0 z0.q.length cap0) z0.q.length (slF z0.q)) => szRw_any (.slice p0 z0.q.length cap0) z0 W hr b0 1048576 (by omega))
  have HSm := Lib.hid b0
  clear w0 b0
  obtain ⟨W0, R_AW, hW0, hR_AW, hX_AW, hB0⟩ := entry1 w #[.int .i64 z0.x, .slice p0 z0.q.length cap0] 46
  have HW0 := Lib.hid hW0
  have HB0 := Lib.hid hB0
  have HR_AW := Lib.hid hR_AW
  have HX_AW := Lib.hid hX_AW
  clear hW0 hB0 hR_AW hX_AW
  have c1_AW_0 := HX_AW.out.at 0 (v := .int .i64 z0.x) rfl
  have c1_AW_1 := HX_AW.out.at 1 (v := .slice p0 z0.q.length cap0) rfl
  go_enter Try.func6, Try.ntmps6
  go_upto_region 1 with fail
  rw [← HW0.out, ← HR_AW.out]
  go_wp2_with fail
  refine (HSz.out _ (HR0.out.below HB0.out (Nat.le_refl _))).mono ?_
  rintro e W2 ⟨l2, r0, rfl, hr1, hr0⟩
  clear c1_AW_0 c1_AW_1
  have HB_3 := Lib.hid (HB0.out.trans (l2.mono HB0.out.size))
  have AW_3 := Lib.hid (HX_AW.out.below l2 HX_AW.out.lt)
  clear l2
  have c4_AW_0 := AW_3.out.at 0 (v := .int .i64 z0.x) rfl
  have c4_AW_1 := AW_3.out.at 1 (v := .slice p0 z0.q.length cap0) rfl
  by_cases hneg : r0 < 0
  · clear hr0
    go_wp2_with fail
    go_ret
    exact ⟨rfl, HB_3.out⟩
  obtain ⟨hm0, hr00⟩ := hr0.resolve_left hneg
  have HN0 := Lib.hid hm0
  clear hr0 HSz
  have HSp := Lib.hid (fun (v : Value) (W : World) (hr : Row W v z0.q.length (slF z0.q)) (hf : FitA v z0.q.length) => specMiss_any v z0 W hr HSm.out a1)
  have HIm := Lib.hid (fun (v : Value) (W : World) (hr : Row W v z0.q.length (slF z0.q)) (hf : FitA v z0.q.length) => implMiss_any v z0 W hr HSm.out a1)
  have hlen0 := missV_len z0 a1
  generalize missV z0 a1 = ps0 at HSp HIm hlen0
  have HL0 := Lib.hid hlen0
  clear hlen0
  generalize missOk z0 a1 = r0_ at HSp HIm
  clear hm0
  obtain ⟨kx, hkx⟩ : ∃ kx : Nat, 1 + 2 * z0.q.length = kx := ⟨_, rfl⟩
  have hkx0 : ¬ ((kx : Nat) : Int) < 0 := by omega
  have HKx := Lib.hid hkx
  clear hkx
  obtain ⟨km0, hkm0⟩ : ∃ km0 : Nat, 1 + ps0.length = km0 := ⟨_, rfl⟩
  have hkm00 : ¬ ((km0 : Nat) : Int) < 0 := by omega
  have hkm01 : 1 ≤ km0 := by omega
  have HKm0 := Lib.hid hkm0
  clear hkm0
  have HKl0 : Hid (km0 ≤ 50000000) := Lib.hid (by have := HL0.out; have := HKm0.out; omega)
  go_wp2_with fail
  refine (toRw_lit _ z0 _ (HR0.out.below HB_3.out (Nat.le_refl _)) HN0.out).mono ?_
  rintro e W5 ⟨g_s, rfl, o_s, l5⟩
  have O_s := Lib.hid (ownz_base o_s HB_3.out.size)
  have BX_AW_s : Hid (∀ k, (.slice (some ⟨g_s, 0, none⟩) z0.q.length z0.q.length : Value).ownBlock = some k → k ≠ R_AW) := Lib.hid (fun k h1 h2 => absurd AW_3.out.lt (Nat.not_lt.2 (by rw [← h2]; exact (o_s.lt k h1).1)))
  clear o_s
  clear c4_AW_0 c4_AW_1
  have HB_6 := Lib.hid (HB_3.out.trans (l5.mono HB_3.out.size))
  have AW_6 := Lib.hid (AW_3.out.below l5 AW_3.out.lt)
  clear AW_3
  clear l5
  have c7_AW_0 := AW_6.out.at 0 (v := .int .i64 z0.x) rfl
  have c7_AW_1 := AW_6.out.at 1 (v := .slice p0 z0.q.length cap0) rfl
  go_wp2_with fail
  refine (HSp.out _ _ (rowz_own O_s.out) (.inr ⟨_, _, _, rfl⟩)).mono ?_
  rintro e W8 ⟨v_w0, rfl, o_w0, l8⟩
  have rw_0 := rowz_own o_w0
  have r2_0 := rw_0
  obtain ⟨a_w0, c_w0, rfl, _⟩ := r2_0
  have RV0 := Lib.hid rw_0
  clear rw_0 o_w0
  have HV0 := Lib.hid (Below.refl W8.heap.size W8)
  clear c7_AW_0 c7_AW_1
  have HB_9 := Lib.hid (HB_6.out.trans (l8.mono HB_6.out.size))
  have s_9 := Lib.hid (ownz_below O_s.out l8 (Nat.le_refl _))
  clear O_s
  have AW_9 := Lib.hid (AW_6.out.below l8 AW_6.out.lt)
  clear AW_6
  clear l8
  have c10_AW_0 := AW_9.out.at 0 (v := .int .i64 z0.x) rfl
  have c10_AW_1 := AW_9.out.at 1 (v := .slice p0 z0.q.length cap0) rfl
  clear s_9
  go_wp2_with fail
  refine (toRw_lit _ z0 _ (HR0.out.below HB_9.out (Nat.le_refl _)) HN0.out).mono ?_
  rintro e W11 ⟨g_x, rfl, o_x, l11⟩
  have BV_HV_x : Hid (∀ k, (.slice (some ⟨g_x, 0, none⟩) z0.q.length z0.q.length : Value).ownBlock = some k → W8.heap.size ≤ k) := Lib.hid (fun k h => Nat.le_trans HV0.out.size (o_x.lt k h).1)
  have O_x := Lib.hid (ownz_base o_x HB_9.out.size)
  have BX_AW_x : Hid (∀ k, (.slice (some ⟨g_x, 0, none⟩) z0.q.length z0.q.length : Value).ownBlock = some k → k ≠ R_AW) := Lib.hid (fun k h1 h2 => absurd AW_9.out.lt (Nat.not_lt.2 (by rw [← h2]; exact (o_x.lt k h1).1)))
  clear o_x
  clear c10_AW_0 c10_AW_1
  have HB_12 := Lib.hid (HB_9.out.trans (l11.mono HB_9.out.size))
  have HV_12 := Lib.hid (HV0.out.trans (l11.mono HV0.out.size))
  clear HV0
  have AW_12 := Lib.hid (AW_9.out.below l11 AW_9.out.lt)
  clear AW_9
  clear l11
  have c13_AW_0 := AW_12.out.at 0 (v := .int .i64 z0.x) rfl
  have c13_AW_1 := AW_12.out.at 1 (v := .slice p0 z0.q.length cap0) rfl
  go_upto_region 7 with fail
  obtain ⟨W14, hW14⟩ : ∃ W14, W14 = W11.alloc (.cells #[.int .i64 z0.x, .slice (some ⟨g_x, 0, none⟩) z0.q.length z0.q.length] 26) := ⟨_, rfl⟩
  have l14 : Below W11.heap.size W11 W14 := by rw [hW14]; exact (Below.refl _ _).alloc (Nat.le_refl _) _
  have X14_X : Hid (Bx W14 W11.heap.size #[.int .i64 z0.x, .slice (some ⟨g_x, 0, none⟩) z0.q.length z0.q.length] 26) := Lib.hid (by rw [hW14]; exact Bx.new _ _ _)
  rw [← hW14]
  clear hW14
  have BX_X_x : Hid (∀ k, (.slice (some ⟨g_x, 0, none⟩) z0.q.length z0.q.length : Value).ownBlock = some k → k ≠ W11.heap.size) := Lib.hid (fun k h1 h2 => absurd (O_x.out.lt k h1).2 (by omega))
  have HG_X : Hid (w.heap.size ≤ W11.heap.size) := Lib.hid HB_12.out.size
  have HN_X_AW : Hid (R_AW < W11.heap.size) := Lib.hid AW_12.out.lt
  obtain ⟨R_X, hR_X⟩ : ∃ X, X = W11.heap.size := ⟨_, rfl⟩
  rw [← hR_X] at X14_X HG_X BX_X_x HN_X_AW ⊢
  clear hR_X
  clear c13_AW_0 c13_AW_1
  have HB_15 := Lib.hid (HB_12.out.trans (l14.mono HB_12.out.size))
  have x_15 := Lib.hid (ownz_below O_x.out l14 (Nat.le_refl _))
  clear O_x
  have HV_15 := Lib.hid (HV_12.out.trans (l14.mono HV_12.out.size))
  clear HV_12
  have AW_15 := Lib.hid (AW_12.out.below l14 AW_12.out.lt)
  clear AW_12
  clear l14
  have c16_AW_0 := AW_15.out.at 0 (v := .int .i64 z0.x) rfl
  have c16_AW_1 := AW_15.out.at 1 (v := .slice p0 z0.q.length cap0) rfl
  have c17_X_0 := X14_X.out.at 0 (v := .int .i64 z0.x) rfl
  have c17_X_1 := X14_X.out.at 1 (v := .slice (some ⟨g_x, 0, none⟩) z0.q.length z0.q.length) rfl
  go_wp2_with fail
  refine (HIm.out _ _ (rowz_own x_15.out) (.inr ⟨_, _, _, rfl⟩)).mono ?_
  rintro e W18 ⟨v_g0, rfl, o_g0, l18⟩
  obtain ⟨a_g0, c_g0, rfl, _, _⟩ := ownz_slice o_g0
  have AP_x_g0 : Hid (∀ k, (.slice (some ⟨g_x, 0, none⟩) z0.q.length z0.q.length : Value).ownBlock = some k → (.slice a_g0 ps0.length c_g0 : Value).ownBlock ≠ some k) := Lib.hid (fun k h1 h2 => absurd (x_15.out.lt k h1).2 (Nat.not_lt.2 (o_g0.lt k h2).1))
  have BV_HV_g0 : Hid (∀ k, (.slice a_g0 ps0.length c_g0 : Value).ownBlock = some k → W8.heap.size ≤ k) := Lib.hid (fun k h => Nat.le_trans HV_15.out.size (o_g0.lt k h).1)
  have O_g0 := Lib.hid (ownz_base o_g0 HB_15.out.size)
  have BX_AW_g0 : Hid (∀ k, (.slice a_g0 ps0.length c_g0 : Value).ownBlock = some k → k ≠ R_AW) := Lib.hid (fun k h1 h2 => absurd AW_15.out.lt (Nat.not_lt.2 (by rw [← h2]; exact (o_g0.lt k h1).1)))
  have BX_X_g0 : Hid (∀ k, (.slice a_g0 ps0.length c_g0 : Value).ownBlock = some k → k ≠ R_X) := Lib.hid (fun k h1 h2 => absurd X14_X.out.lt (Nat.not_lt.2 (by rw [← h2]; exact (o_g0.lt k h1).1)))
  clear o_g0
  clear c16_AW_0 c16_AW_1
  clear c17_X_0 c17_X_1
  have HB_19 := Lib.hid (HB_15.out.trans (l18.mono HB_15.out.size))
  have x_19 := Lib.hid (ownz_below x_15.out l18 (Nat.le_refl _))
  clear x_15
  have HV_19 := Lib.hid (HV_15.out.trans (l18.mono HV_15.out.size))
  clear HV_15
  have AW_19 := Lib.hid (AW_15.out.below l18 AW_15.out.lt)
  clear AW_15
  have X_19 := Lib.hid (X14_X.out.below l18 X14_X.out.lt)
  clear X14_X
  clear l18
  have c20_AW_0 := AW_19.out.at 0 (v := .int .i64 z0.x) rfl
  have c20_AW_1 := AW_19.out.at 1 (v := .slice p0 z0.q.length cap0) rfl
  have c21_X_0 := X_19.out.at 0 (v := .int .i64 z0.x) rfl
  have c21_X_1 := X_19.out.at 1 (v := .slice (some ⟨g_x, 0, none⟩) z0.q.length z0.q.length) rfl
  go_wp2_with fail
  refine (eqIntS_any _ _ ps0 ps0 _ (rowz_own O_g0.out) (RV0.out.below HV_19.out (Nat.le_refl _))).mono ?_
  rintro e W22 ⟨rfl, kq, hkq⟩
  have l22 : Below W18.heap.size W18 W22 := by rw [hkq]; exact bdrew _ _
  clear hkq
  clear c20_AW_0 c20_AW_1
  clear c21_X_0 c21_X_1
  have HB_23 := Lib.hid (HB_19.out.trans (l22.mono HB_19.out.size))
  have x_23 := Lib.hid (ownz_below x_19.out l22 (Nat.le_refl _))
  clear x_19
  have g0_23 := Lib.hid (ownz_below O_g0.out l22 (Nat.le_refl _))
  clear O_g0
  have HV_23 := Lib.hid (HV_19.out.trans (l22.mono HV_19.out.size))
  clear HV_19
  have AW_23 := Lib.hid (AW_19.out.below l22 AW_19.out.lt)
  clear AW_19
  have X_23 := Lib.hid (X_19.out.below l22 X_19.out.lt)
  clear X_19
  clear l22
  have c24_AW_0 := AW_23.out.at 0 (v := .int .i64 z0.x) rfl
  have c24_AW_1 := AW_23.out.at 1 (v := .slice p0 z0.q.length cap0) rfl
  have c25_X_0 := X_23.out.at 0 (v := .int .i64 z0.x) rfl
  have c25_X_1 := X_23.out.at 1 (v := .slice (some ⟨g_x, 0, none⟩) z0.q.length z0.q.length) rfl
  go_upto_region 10 with fail
  go_cut [49] from 45 to 49 (fun b wx => b = .bool false ∧ Hid (Below W22.heap.size W22 wx))
  case first => as_aux_lemma =>
    have HK1 := Lib.hid (fun (w' : World) (hb : Below W22.heap.size W22 w') => (show w'.cell? ⟨R_X, 0, none⟩ = some (.int .i64 z0.x) ∧ w'.cell? ⟨R_X, 1, none⟩ = some (.slice (some ⟨g_x, 0, none⟩) z0.q.length z0.q.length) ∧ w'.cell? ⟨R_AW, 0, none⟩ = some (.int .i64 z0.x) ∧ w'.cell? ⟨R_AW, 1, none⟩ = some (.slice p0 z0.q.length cap0) ∧ Below w.heap.size w w' from ⟨(hb.cell (p := ⟨R_X, 0, none⟩) X_23.out.lt).trans (X_23.out.at 0 (v := .int .i64 z0.x) rfl), (hb.cell (p := ⟨R_X, 1, none⟩) X_23.out.lt).trans (X_23.out.at 1 (v := .slice (some ⟨g_x, 0, none⟩) z0.q.length z0.q.length) rfl), (hb.cell (p := ⟨R_AW, 0, none⟩) AW_23.out.lt).trans (AW_23.out.at 0 (v := .int .i64 z0.x) rfl), (hb.cell (p := ⟨R_AW, 1, none⟩) AW_23.out.lt).trans (AW_23.out.at 1 (v := .slice p0 z0.q.length cap0) rfl), HB_23.out.trans (hb.mono HB_23.out.size)⟩))
    go_region_held3 (fun w' => w'.cell? ⟨R_X, 0, none⟩ = some (.int .i64 z0.x) ∧ w'.cell? ⟨R_X, 1, none⟩ = some (.slice (some ⟨g_x, 0, none⟩) z0.q.length z0.q.length) ∧ w'.cell? ⟨R_AW, 0, none⟩ = some (.int .i64 z0.x) ∧ w'.cell? ⟨R_AW, 1, none⟩ = some (.slice p0 z0.q.length cap0) ∧ Below w.heap.size w w')
      ((first | (with_reducible refine HK1.out _ ?_; (repeat (first | with_reducible assumption | with_reducible exact Below.refl _ _ | with_reducible refine Below.drew ?_ | with_reducible refine below_alloc' ?_)); done)))
      (first
        | (go_at_call 30; refine (toRw_lit _ z0 _ (HR0.out.below (HB_23.out.trans ((by repeat (first | with_reducible assumption | with_reducible exact Below.refl _ _ | with_reducible refine Below.drew ?_ | with_reducible refine below_alloc' ?_) : Below W22.heap.size W22 _).mono HB_23.out.size)) (Nat.le_refl _)) HN0.out).mono ?_; rintro e w5 ⟨g5, rfl, o5, l5⟩; have hb5 := below_call7 (by repeat (first | with_reducible assumption | with_reducible exact Below.refl _ _ | with_reducible refine Below.drew ?_ | with_reducible refine below_alloc' ?_) : Below W22.heap.size W22 _) l5; have ho5 := rowz_own o5; clear o5 l5)
        | (go_at_call 31; refine (eqRw_same _ _ z0 _ ((rowz_own x_23.out).below hb5 (Nat.le_refl _)) ho5).mono ?_; rintro e w6 ⟨rfl, l6⟩; have hb6 := below_call7 hb5 l6; clear l6))
    all_goals go_wp2_with fail
    all_goals go_meet
    all_goals
      case rel => exact ⟨by simp, Lib.hid (by repeat (first | with_reducible assumption | with_reducible exact Below.refl _ _ | with_reducible refine Below.drew ?_ | with_reducible refine below_alloc' ?_))⟩
  case rest =>
    obtain ⟨rfl, HCut⟩ := hcut
    rename World => W26
    have l26 := HCut.out
    clear HCut
    clear c24_AW_0 c24_AW_1
    clear c25_X_0 c25_X_1
    have HB_27 := Lib.hid (HB_23.out.trans (l26.mono HB_23.out.size))
    have x_27 := Lib.hid (ownz_below x_23.out l26 (Nat.le_refl _))
    clear x_23
    have g0_27 := Lib.hid (ownz_below g0_23.out l26 (Nat.le_refl _))
    clear g0_23
    have HV_27 := Lib.hid (HV_23.out.trans (l26.mono HV_23.out.size))
    clear HV_23
    have AW_27 := Lib.hid (AW_23.out.below l26 AW_23.out.lt)
    clear AW_23
    have X_27 := Lib.hid (X_23.out.below l26 X_23.out.lt)
    clear X_23
    clear l26
    have c28_AW_0 := AW_27.out.at 0 (v := .int .i64 z0.x) rfl
    have c28_AW_1 := AW_27.out.at 1 (v := .slice p0 z0.q.length cap0) rfl
    have c29_X_0 := X_27.out.at 0 (v := .int .i64 z0.x) rfl
    have c29_X_1 := X_27.out.at 1 (v := .slice (some ⟨g_x, 0, none⟩) z0.q.length z0.q.length) rfl
    have hMx := markRw_own (.slice (some ⟨g_x, 0, none⟩) z0.q.length z0.q.length) z0.x z0.q.length 1 _ _ W26 x_27.out (by omega) (by have := HL0.out; have := HN0.out; have := HKl0.out; omega)
    rw [HKx.out] at hMx
    have HMx := Lib.hid hMx
    clear hMx
    go_wp2_with fail
    refine (HMx.out).mono ?_
    rintro e W30 ⟨rfl, m30, gr30⟩
    clear c28_AW_0 c28_AW_1
    clear c29_X_0 c29_X_1
    have HB_30 := Lib.hid (HB_27.out.grown gr30 HB_27.out.size (fun q hq => (x_27.out.lt q hq).1))
    have g0_30 := Lib.hid (ownz_apart g0_27.out gr30 (fun k h1 h2 => AP_x_g0.out k h2 h1))
    clear g0_27
    have AW_30 := Lib.hid (AW_27.out.grown gr30 (fun e => BX_AW_x.out _ e.symm rfl))
    clear AW_27
    have X_30 := Lib.hid (X_27.out.grown gr30 (fun e => BX_X_x.out _ e.symm rfl))
    clear X_27
    have HV_30 := Lib.hid (HV_27.out.grown gr30 HV_27.out.size (fun q hq => BV_HV_x.out q hq))
    clear HV_27
    have x_30 := Lib.hid m30
    clear m30 gr30 x_27
    have c31_AW_0 := AW_30.out.at 0 (v := .int .i64 z0.x) rfl
    have c31_AW_1 := AW_30.out.at 1 (v := .slice p0 z0.q.length cap0) rfl
    have c32_X_0 := X_30.out.at 0 (v := .int .i64 z0.x) rfl
    have c32_X_1 := X_30.out.at 1 (v := .slice (some ⟨g_x, 0, none⟩) z0.q.length z0.q.length) rfl
    clear HMx
    go_wp2_with fail
    refine (eqIntS_any _ _ ps0 ps0 _ (rowz_own g0_30.out) (RV0.out.below HV_30.out (Nat.le_refl _))).mono ?_
    rintro e W33 ⟨rfl, kq, hkq⟩
    have l33 : Below W30.heap.size W30 W33 := by rw [hkq]; exact bdrew _ _
    clear hkq
    clear c31_AW_0 c31_AW_1
    clear c32_X_0 c32_X_1
    have HB_34 := Lib.hid (HB_30.out.trans (l33.mono HB_30.out.size))
    have x_34 := Lib.hid (ownz_below x_30.out l33 (Nat.le_refl _))
    clear x_30
    have g0_34 := Lib.hid (ownz_below g0_30.out l33 (Nat.le_refl _))
    clear g0_30
    have HV_34 := Lib.hid (HV_30.out.trans (l33.mono HV_30.out.size))
    clear HV_30
    have AW_34 := Lib.hid (AW_30.out.below l33 AW_30.out.lt)
    clear AW_30
    have X_34 := Lib.hid (X_30.out.below l33 X_30.out.lt)
    clear X_30
    clear l33
    have c35_AW_0 := AW_34.out.at 0 (v := .int .i64 z0.x) rfl
    have c35_AW_1 := AW_34.out.at 1 (v := .slice p0 z0.q.length cap0) rfl
    have c36_X_0 := X_34.out.at 0 (v := .int .i64 z0.x) rfl
    have c36_X_1 := X_34.out.at 1 (v := .slice (some ⟨g_x, 0, none⟩) z0.q.length z0.q.length) rfl
    clear x_34
    clear c36_X_0 c36_X_1
    clear X_34
    have hMi := markI_own _ ps0.length 1 _ _ W33 g0_34.out (by have := HL0.out; have := HN0.out; have := HKl0.out; omega)
    rw [HKm0.out] at hMi
    have HMi0 := Lib.hid hMi
    clear hMi
    go_wp2_with fail
    refine (HMi0.out).mono ?_
    rintro e W37 ⟨rfl, m37, gr37⟩
    clear c35_AW_0 c35_AW_1
    have HB_37 := Lib.hid (HB_34.out.grown gr37 HB_34.out.size (fun q hq => (g0_34.out.lt q hq).1))
    have AW_37 := Lib.hid (AW_34.out.grown gr37 (fun e => BX_AW_g0.out _ e.symm rfl))
    clear AW_34
    have HV_37 := Lib.hid (HV_34.out.grown gr37 HV_34.out.size (fun q hq => BV_HV_g0.out q hq))
    clear HV_34
    have g0_37 := Lib.hid m37
    clear m37 gr37 g0_34
    have c38_AW_0 := AW_37.out.at 0 (v := .int .i64 z0.x) rfl
    have c38_AW_1 := AW_37.out.at 1 (v := .slice p0 z0.q.length cap0) rfl
    clear HMi0
    have hHi := heldI_own _ ps0.length 1 _ W37 g0_37.out (by have := HL0.out; have := HN0.out; have := HKl0.out; omega)
    rw [HKm0.out] at hHi
    have HHi := Lib.hid hHi
    clear hHi
    go_wp2_with fail
    refine (HHi.out).mono ?_
    rintro e _ ⟨rfl, rfl⟩
    clear HHi
    go_wp2_with fail
    refine (toRw_lit _ z0 _ (HR0.out.below HB_37.out (Nat.le_refl _)) HN0.out).mono ?_
    rintro e W39 ⟨g_t, rfl, o_t, l39⟩
    have AP_g0_t : Hid (∀ k, (.slice a_g0 ps0.length c_g0 : Value).ownBlock = some k → (.slice (some ⟨g_t, 0, none⟩) z0.q.length z0.q.length : Value).ownBlock ≠ some k) := Lib.hid (fun k h1 h2 => absurd (g0_37.out.lt k h1).2 (Nat.not_lt.2 (o_t.lt k h2).1))
    have BV_HV_t : Hid (∀ k, (.slice (some ⟨g_t, 0, none⟩) z0.q.length z0.q.length : Value).ownBlock = some k → W8.heap.size ≤ k) := Lib.hid (fun k h => Nat.le_trans HV_37.out.size (o_t.lt k h).1)
    have O_t := Lib.hid (ownz_base o_t HB_37.out.size)
    have BX_AW_t : Hid (∀ k, (.slice (some ⟨g_t, 0, none⟩) z0.q.length z0.q.length : Value).ownBlock = some k → k ≠ R_AW) := Lib.hid (fun k h1 h2 => absurd AW_37.out.lt (Nat.not_lt.2 (by rw [← h2]; exact (o_t.lt k h1).1)))
    clear o_t
    clear c38_AW_0 c38_AW_1
    have HB_40 := Lib.hid (HB_37.out.trans (l39.mono HB_37.out.size))
    have g0_40 := Lib.hid (ownz_below g0_37.out l39 (Nat.le_refl _))
    clear g0_37
    have HV_40 := Lib.hid (HV_37.out.trans (l39.mono HV_37.out.size))
    clear HV_37
    have AW_40 := Lib.hid (AW_37.out.below l39 AW_37.out.lt)
    clear AW_37
    clear l39
    have c41_AW_0 := AW_40.out.at 0 (v := .int .i64 z0.x) rfl
    have c41_AW_1 := AW_40.out.at 1 (v := .slice p0 z0.q.length cap0) rfl
    go_wp2_with fail
    refine (HIm.out _ _ (rowz_own O_t.out) (.inr ⟨_, _, _, rfl⟩)).mono ?_
    rintro e W42 ⟨v_h0, rfl, o_h0, l42⟩
    obtain ⟨a_h0, c_h0, rfl, _, _⟩ := ownz_slice o_h0
    have AP_g0_h0 : Hid (∀ k, (.slice a_g0 ps0.length c_g0 : Value).ownBlock = some k → (.slice a_h0 ps0.length c_h0 : Value).ownBlock ≠ some k) := Lib.hid (fun k h1 h2 => absurd (g0_40.out.lt k h1).2 (Nat.not_lt.2 (o_h0.lt k h2).1))
    have AP_t_h0 : Hid (∀ k, (.slice (some ⟨g_t, 0, none⟩) z0.q.length z0.q.length : Value).ownBlock = some k → (.slice a_h0 ps0.length c_h0 : Value).ownBlock ≠ some k) := Lib.hid (fun k h1 h2 => absurd (O_t.out.lt k h1).2 (Nat.not_lt.2 (o_h0.lt k h2).1))
    have BV_HV_h0 : Hid (∀ k, (.slice a_h0 ps0.length c_h0 : Value).ownBlock = some k → W8.heap.size ≤ k) := Lib.hid (fun k h => Nat.le_trans HV_40.out.size (o_h0.lt k h).1)
    have O_h0 := Lib.hid (ownz_base o_h0 HB_40.out.size)
    have BX_AW_h0 : Hid (∀ k, (.slice a_h0 ps0.length c_h0 : Value).ownBlock = some k → k ≠ R_AW) := Lib.hid (fun k h1 h2 => absurd AW_40.out.lt (Nat.not_lt.2 (by rw [← h2]; exact (o_h0.lt k h1).1)))
    clear o_h0
    clear c41_AW_0 c41_AW_1
    have HB_43 := Lib.hid (HB_40.out.trans (l42.mono HB_40.out.size))
    have g0_43 := Lib.hid (ownz_below g0_40.out l42 (Nat.le_refl _))
    clear g0_40
    have t_43 := Lib.hid (ownz_below O_t.out l42 (Nat.le_refl _))
    clear O_t
    have HV_43 := Lib.hid (HV_40.out.trans (l42.mono HV_40.out.size))
    clear HV_40
    have AW_43 := Lib.hid (AW_40.out.below l42 AW_40.out.lt)
    clear AW_40
    clear l42
    have c44_AW_0 := AW_43.out.at 0 (v := .int .i64 z0.x) rfl
    have c44_AW_1 := AW_43.out.at 1 (v := .slice p0 z0.q.length cap0) rfl
    go_wp2_with fail
    refine (eqIntS_any _ _ ps0 ps0 _ (rowz_own O_h0.out) (RV0.out.below HV_43.out (Nat.le_refl _))).mono ?_
    rintro e W45 ⟨rfl, kq, hkq⟩
    have l45 : Below W42.heap.size W42 W45 := by rw [hkq]; exact bdrew _ _
    clear hkq
    clear c44_AW_0 c44_AW_1
    have HB_46 := Lib.hid (HB_43.out.trans (l45.mono HB_43.out.size))
    have g0_46 := Lib.hid (ownz_below g0_43.out l45 (Nat.le_refl _))
    clear g0_43
    have t_46 := Lib.hid (ownz_below t_43.out l45 (Nat.le_refl _))
    clear t_43
    have h0_46 := Lib.hid (ownz_below O_h0.out l45 (Nat.le_refl _))
    clear O_h0
    have HV_46 := Lib.hid (HV_43.out.trans (l45.mono HV_43.out.size))
    clear HV_43
    have AW_46 := Lib.hid (AW_43.out.below l45 AW_43.out.lt)
    clear AW_43
    clear l45
    have c47_AW_0 := AW_46.out.at 0 (v := .int .i64 z0.x) rfl
    have c47_AW_1 := AW_46.out.at 1 (v := .slice p0 z0.q.length cap0) rfl
    have hHi := heldI_own _ ps0.length 1 _ W45 g0_46.out (by have := HL0.out; have := HN0.out; have := HKl0.out; omega)
    rw [HKm0.out] at hHi
    have HHi := Lib.hid hHi
    clear hHi
    go_wp2_with fail
    refine (HHi.out).mono ?_
    rintro e _ ⟨rfl, rfl⟩
    clear HHi
    go_wp2_with fail
    go_ret
    exact ⟨rfl, HB_46.out⟩
theorem fnExactMissingSerials_walk (w : World) (a0_0 : Int) (w0_0 : (Lit.int .i64 a0_0).wf = true) (v0_1 : Value) (z0_1 : List Sl) (w0_1 : Row w v0_1 z0_1.length (slF z0_1)) (b0_1 : ∀ r ∈ z0_1, r.s.size ≤ maxLen) (a1 : Int) (w1 : (Lit.int .i64 a1).wf = true) (_hsh : w.ShapedOpen Try.prog) :
    Calls Try.prog 6 #[.agg #[.int .i64 a0_0, v0_1], .int .i64 a1] w fun e w' => e = .returned (.bool true) ∧ Below w.heap.size w w' :=
  fnExactMissingSerials_wk v0_1 ⟨a0_0, z0_1⟩ w w0_1 b0_1 a1 w1
end Go.Proofs.Ytpmjdppipalfcaa
