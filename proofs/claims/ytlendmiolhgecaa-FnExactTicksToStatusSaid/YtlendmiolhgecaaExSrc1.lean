/-
  The exact laws of sources that read: validity, holds, ticks to the status.
-/
import Derived.Test.YtlendmiolhgecaaSrc
import Derived.Test.YtlendmiolhgecaaSrcI
import Derived.Test.YtlendmiolhgecaaSrcS
import Derived.Test.YtlendmiolhgecaaHldW
import Derived.WalkLawsBesides
import Derived.Deep.RegionHeld3
import Derived.Deep.CutRange
namespace Go.Proofs.Ytlendmiolhgecaa
open Go.RowKit Go.Lib Go.Joins
set_option linter.unusedVariables false

set_option maxRecDepth 100000 in
set_option maxHeartbeats 16000000 in
theorem fnExactIsValidSource_wk (v0 x0 : Value) (z0 : So) (w : World) (w0 : Row w v0 z0.w.q.length (z0.w.q.map Value.string)) (u0 : Row w x0 z0.h.length (hdF z0.h)) (b0 : ∀ s ∈ z0.w.q, s.size ≤ maxLen) :
    Calls Try.prog 5 #[.agg #[.int .i64 z0.w.t, .int .i64 z0.w.z, v0, .int .i64 z0.c, .int .i64 z0.u, x0]] w fun e w' => e = .returned (.bool true) ∧ Below w.heap.size w w' := by
  obtain ⟨p0, cap0, rfl, hc10, hc20, -⟩ := row_open w0
  obtain ⟨p1, cap1, rfl, hc11, hc21, -⟩ := hd_open u0
  unfold maxLen at hc20 hc21
  have HR0 := Lib.hid w0
  have HR1 := Lib.hid u0
  have HSz := Lib.hid (fun (W : World) (hr : Row W (.slice p0 z0.w.q.length cap0) z0.w.q.length (z0.w.q.map Value.string)) (hh : Row W (.slice p1 z0.h.length cap1) z0.h.length (hdF z0.h)) => szSo_any (.slice p0 z0.w.q.length cap0) (.slice p1 z0.h.length cap1) z0 W hr hh b0 1048576 (by omega))
  have HSm := Lib.hid b0
  clear w0 u0 b0
  obtain ⟨W0, R_AW, hW0, hR_AW, hX_AW, hB0⟩ := entry1 w #[.int .i64 z0.w.t, .int .i64 z0.w.z, .slice p0 z0.w.q.length cap0, .int .i64 z0.c, .int .i64 z0.u, .slice p1 z0.h.length cap1] 59
  have HW0 := Lib.hid hW0
  have HB0 := Lib.hid hB0
  have HR_AW := Lib.hid hR_AW
  have HX_AW := Lib.hid hX_AW
  clear hW0 hB0 hR_AW hX_AW
  have c1_AW_0 := HX_AW.out.at 0 (v := .int .i64 z0.w.t) rfl
  have c1_AW_1 := HX_AW.out.at 1 (v := .int .i64 z0.w.z) rfl
  have c1_AW_2 := HX_AW.out.at 2 (v := .slice p0 z0.w.q.length cap0) rfl
  have c1_AW_3 := HX_AW.out.at 3 (v := .int .i64 z0.c) rfl
  have c1_AW_4 := HX_AW.out.at 4 (v := .int .i64 z0.u) rfl
  have c1_AW_5 := HX_AW.out.at 5 (v := .slice p1 z0.h.length cap1) rfl
  go_enter Try.func5, Try.ntmps5
  go_upto_region 1 with fail
  rw [← HW0.out, ← HR_AW.out]
  go_wp2_with fail
  refine (HSz.out _ (HR0.out.below HB0.out (Nat.le_refl _)) (HR1.out.below HB0.out (Nat.le_refl _))).mono ?_
  rintro e W2 ⟨l2, r0, rfl, hr1, hr0⟩
  clear c1_AW_0 c1_AW_1 c1_AW_2 c1_AW_3 c1_AW_4 c1_AW_5
  have HB_3 := Lib.hid (HB0.out.trans (l2.mono HB0.out.size))
  have AW_3 := Lib.hid (HX_AW.out.below l2 HX_AW.out.lt)
  clear l2
  have c4_AW_0 := AW_3.out.at 0 (v := .int .i64 z0.w.t) rfl
  have c4_AW_1 := AW_3.out.at 1 (v := .int .i64 z0.w.z) rfl
  have c4_AW_2 := AW_3.out.at 2 (v := .slice p0 z0.w.q.length cap0) rfl
  have c4_AW_3 := AW_3.out.at 3 (v := .int .i64 z0.c) rfl
  have c4_AW_4 := AW_3.out.at 4 (v := .int .i64 z0.u) rfl
  have c4_AW_5 := AW_3.out.at 5 (v := .slice p1 z0.h.length cap1) rfl
  by_cases hneg : r0 < 0
  · clear hr0
    go_wp2_with fail
    go_ret
    exact ⟨rfl, HB_3.out⟩
  obtain ⟨hm0, hmh, hr00⟩ := hr0.resolve_left hneg
  have HN0 := Lib.hid hm0
  have HN1 := Lib.hid hmh
  clear hr0 HSz
  have HSp := Lib.hid (fun (v x : Value) (W : World) (hr : Row W v z0.w.q.length (z0.w.q.map Value.string)) (hh : Row W x z0.h.length (hdF z0.h)) (hf : FitA v z0.w.q.length) (hfh : Fit x z0.h.length) => specIsSo_any v x z0 W hr hh HSm.out)
  have HIm := Lib.hid (fun (v x : Value) (W : World) (hr : Row W v z0.w.q.length (z0.w.q.map Value.string)) (hh : Row W x z0.h.length (hdF z0.h)) (hf : FitA v z0.w.q.length) (hfh : Fit x z0.h.length) => implIsSo_any v x z0 W hr hh HSm.out)
  generalize soOk z0 = r0_ at HSp HIm
  clear hm0 hmh
  obtain ⟨kx, hkx⟩ : ∃ kx : Nat, 1 + z0.w.q.length + 2 * z0.h.length = kx := ⟨_, rfl⟩
  have hkx0 : ¬ ((kx : Nat) : Int) < 0 := by omega
  have HKx := Lib.hid hkx
  clear hkx
  go_wp2_with fail
  refine (toSo_lit _ _ z0 _ (HR0.out.below HB_3.out (Nat.le_refl _)) (HR1.out.below HB_3.out (Nat.le_refl _)) HN0.out HN1.out).mono ?_
  rintro e W5 ⟨x_s, y_s, rfl, o_s, o_sh, ne_s, l5⟩
  have O_s := Lib.hid (ownz_base o_s HB_3.out.size)
  have BX_AW_s : Hid (∀ k, (.slice (some ⟨x_s, 0, none⟩) z0.w.q.length z0.w.q.length : Value).ownBlock = some k → k ≠ R_AW) := Lib.hid (fun k h1 h2 => absurd AW_3.out.lt (Nat.not_lt.2 (by rw [← h2]; exact (o_s.lt k h1).1)))
  have O_sh := Lib.hid (ownz_base o_sh HB_3.out.size)
  have BX_AW_sh : Hid (∀ k, (.slice (some ⟨y_s, 0, none⟩) z0.h.length z0.h.length : Value).ownBlock = some k → k ≠ R_AW) := Lib.hid (fun k h1 h2 => absurd AW_3.out.lt (Nat.not_lt.2 (by rw [← h2]; exact (o_sh.lt k h1).1)))
  have AP_s_sh : Hid (∀ k, (.slice (some ⟨x_s, 0, none⟩) z0.w.q.length z0.w.q.length : Value).ownBlock = some k → (.slice (some ⟨y_s, 0, none⟩) z0.h.length z0.h.length : Value).ownBlock ≠ some k) := Lib.hid (fun k h1 h2 => ne_s ((Option.some.inj h1).trans (Option.some.inj h2).symm))
  clear o_s o_sh ne_s
  clear c4_AW_0 c4_AW_1 c4_AW_2 c4_AW_3 c4_AW_4 c4_AW_5
  have HB_6 := Lib.hid (HB_3.out.trans (l5.mono HB_3.out.size))
  have AW_6 := Lib.hid (AW_3.out.below l5 AW_3.out.lt)
  clear AW_3
  clear l5
  have c7_AW_0 := AW_6.out.at 0 (v := .int .i64 z0.w.t) rfl
  have c7_AW_1 := AW_6.out.at 1 (v := .int .i64 z0.w.z) rfl
  have c7_AW_2 := AW_6.out.at 2 (v := .slice p0 z0.w.q.length cap0) rfl
  have c7_AW_3 := AW_6.out.at 3 (v := .int .i64 z0.c) rfl
  have c7_AW_4 := AW_6.out.at 4 (v := .int .i64 z0.u) rfl
  have c7_AW_5 := AW_6.out.at 5 (v := .slice p1 z0.h.length cap1) rfl
  go_wp2_with fail
  refine (HSp.out _ _ _ (rowz_own O_s.out) (rowz_own O_sh.out) (.inr ⟨_, _, _, rfl⟩) (.inr ⟨_, _, rfl⟩)).mono ?_
  rintro e W8 ⟨rfl, l8⟩
  clear c7_AW_0 c7_AW_1 c7_AW_2 c7_AW_3 c7_AW_4 c7_AW_5
  have HB_9 := Lib.hid (HB_6.out.trans (l8.mono HB_6.out.size))
  have s_9 := Lib.hid (ownz_below O_s.out l8 (Nat.le_refl _))
  clear O_s
  have sh_9 := Lib.hid (ownz_below O_sh.out l8 (Nat.le_refl _))
  clear O_sh
  have AW_9 := Lib.hid (AW_6.out.below l8 AW_6.out.lt)
  clear AW_6
  clear l8
  have c10_AW_0 := AW_9.out.at 0 (v := .int .i64 z0.w.t) rfl
  have c10_AW_1 := AW_9.out.at 1 (v := .int .i64 z0.w.z) rfl
  have c10_AW_2 := AW_9.out.at 2 (v := .slice p0 z0.w.q.length cap0) rfl
  have c10_AW_3 := AW_9.out.at 3 (v := .int .i64 z0.c) rfl
  have c10_AW_4 := AW_9.out.at 4 (v := .int .i64 z0.u) rfl
  have c10_AW_5 := AW_9.out.at 5 (v := .slice p1 z0.h.length cap1) rfl
  clear s_9
  clear sh_9
  go_wp2_with fail
  refine (toSo_lit _ _ z0 _ (HR0.out.below HB_9.out (Nat.le_refl _)) (HR1.out.below HB_9.out (Nat.le_refl _)) HN0.out HN1.out).mono ?_
  rintro e W11 ⟨x_x, y_x, rfl, o_x, o_xh, ne_x, l11⟩
  have O_x := Lib.hid (ownz_base o_x HB_9.out.size)
  have BX_AW_x : Hid (∀ k, (.slice (some ⟨x_x, 0, none⟩) z0.w.q.length z0.w.q.length : Value).ownBlock = some k → k ≠ R_AW) := Lib.hid (fun k h1 h2 => absurd AW_9.out.lt (Nat.not_lt.2 (by rw [← h2]; exact (o_x.lt k h1).1)))
  have O_xh := Lib.hid (ownz_base o_xh HB_9.out.size)
  have BX_AW_xh : Hid (∀ k, (.slice (some ⟨y_x, 0, none⟩) z0.h.length z0.h.length : Value).ownBlock = some k → k ≠ R_AW) := Lib.hid (fun k h1 h2 => absurd AW_9.out.lt (Nat.not_lt.2 (by rw [← h2]; exact (o_xh.lt k h1).1)))
  have AP_x_xh : Hid (∀ k, (.slice (some ⟨x_x, 0, none⟩) z0.w.q.length z0.w.q.length : Value).ownBlock = some k → (.slice (some ⟨y_x, 0, none⟩) z0.h.length z0.h.length : Value).ownBlock ≠ some k) := Lib.hid (fun k h1 h2 => ne_x ((Option.some.inj h1).trans (Option.some.inj h2).symm))
  clear o_x o_xh ne_x
  clear c10_AW_0 c10_AW_1 c10_AW_2 c10_AW_3 c10_AW_4 c10_AW_5
  have HB_12 := Lib.hid (HB_9.out.trans (l11.mono HB_9.out.size))
  have AW_12 := Lib.hid (AW_9.out.below l11 AW_9.out.lt)
  clear AW_9
  clear l11
  have c13_AW_0 := AW_12.out.at 0 (v := .int .i64 z0.w.t) rfl
  have c13_AW_1 := AW_12.out.at 1 (v := .int .i64 z0.w.z) rfl
  have c13_AW_2 := AW_12.out.at 2 (v := .slice p0 z0.w.q.length cap0) rfl
  have c13_AW_3 := AW_12.out.at 3 (v := .int .i64 z0.c) rfl
  have c13_AW_4 := AW_12.out.at 4 (v := .int .i64 z0.u) rfl
  have c13_AW_5 := AW_12.out.at 5 (v := .slice p1 z0.h.length cap1) rfl
  go_upto_region 7 with fail
  obtain ⟨W14, hW14⟩ : ∃ W14, W14 = W11.alloc (.cells #[.int .i64 z0.w.t, .int .i64 z0.w.z, .slice (some ⟨x_x, 0, none⟩) z0.w.q.length z0.w.q.length, .int .i64 z0.c, .int .i64 z0.u, .slice (some ⟨y_x, 0, none⟩) z0.h.length z0.h.length] 29) := ⟨_, rfl⟩
  have l14 : Below W11.heap.size W11 W14 := by rw [hW14]; exact (Below.refl _ _).alloc (Nat.le_refl _) _
  have X14_X : Hid (Bx W14 W11.heap.size #[.int .i64 z0.w.t, .int .i64 z0.w.z, .slice (some ⟨x_x, 0, none⟩) z0.w.q.length z0.w.q.length, .int .i64 z0.c, .int .i64 z0.u, .slice (some ⟨y_x, 0, none⟩) z0.h.length z0.h.length] 29) := Lib.hid (by rw [hW14]; exact Bx.new _ _ _)
  rw [← hW14]
  clear hW14
  have BX_X_x : Hid (∀ k, (.slice (some ⟨x_x, 0, none⟩) z0.w.q.length z0.w.q.length : Value).ownBlock = some k → k ≠ W11.heap.size) := Lib.hid (fun k h1 h2 => absurd (O_x.out.lt k h1).2 (by omega))
  have BX_X_xh : Hid (∀ k, (.slice (some ⟨y_x, 0, none⟩) z0.h.length z0.h.length : Value).ownBlock = some k → k ≠ W11.heap.size) := Lib.hid (fun k h1 h2 => absurd (O_xh.out.lt k h1).2 (by omega))
  have HG_X : Hid (w.heap.size ≤ W11.heap.size) := Lib.hid HB_12.out.size
  have HN_X_AW : Hid (R_AW < W11.heap.size) := Lib.hid AW_12.out.lt
  obtain ⟨R_X, hR_X⟩ : ∃ X, X = W11.heap.size := ⟨_, rfl⟩
  rw [← hR_X] at X14_X HG_X BX_X_x BX_X_xh HN_X_AW ⊢
  clear hR_X
  clear c13_AW_0 c13_AW_1 c13_AW_2 c13_AW_3 c13_AW_4 c13_AW_5
  have HB_15 := Lib.hid (HB_12.out.trans (l14.mono HB_12.out.size))
  have x_15 := Lib.hid (ownz_below O_x.out l14 (Nat.le_refl _))
  clear O_x
  have xh_15 := Lib.hid (ownz_below O_xh.out l14 (Nat.le_refl _))
  clear O_xh
  have AW_15 := Lib.hid (AW_12.out.below l14 AW_12.out.lt)
  clear AW_12
  clear l14
  have c16_AW_0 := AW_15.out.at 0 (v := .int .i64 z0.w.t) rfl
  have c16_AW_1 := AW_15.out.at 1 (v := .int .i64 z0.w.z) rfl
  have c16_AW_2 := AW_15.out.at 2 (v := .slice p0 z0.w.q.length cap0) rfl
  have c16_AW_3 := AW_15.out.at 3 (v := .int .i64 z0.c) rfl
  have c16_AW_4 := AW_15.out.at 4 (v := .int .i64 z0.u) rfl
  have c16_AW_5 := AW_15.out.at 5 (v := .slice p1 z0.h.length cap1) rfl
  have c17_X_0 := X14_X.out.at 0 (v := .int .i64 z0.w.t) rfl
  have c17_X_1 := X14_X.out.at 1 (v := .int .i64 z0.w.z) rfl
  have c17_X_2 := X14_X.out.at 2 (v := .slice (some ⟨x_x, 0, none⟩) z0.w.q.length z0.w.q.length) rfl
  have c17_X_3 := X14_X.out.at 3 (v := .int .i64 z0.c) rfl
  have c17_X_4 := X14_X.out.at 4 (v := .int .i64 z0.u) rfl
  have c17_X_5 := X14_X.out.at 5 (v := .slice (some ⟨y_x, 0, none⟩) z0.h.length z0.h.length) rfl
  go_wp2_with fail
  refine (HIm.out _ _ _ (rowz_own x_15.out) (rowz_own xh_15.out) (.inr ⟨_, _, _, rfl⟩) (.inr ⟨_, _, rfl⟩)).mono ?_
  rintro e W18 ⟨rfl, l18⟩
  clear c16_AW_0 c16_AW_1 c16_AW_2 c16_AW_3 c16_AW_4 c16_AW_5
  clear c17_X_0 c17_X_1 c17_X_2 c17_X_3 c17_X_4 c17_X_5
  have HB_19 := Lib.hid (HB_15.out.trans (l18.mono HB_15.out.size))
  have x_19 := Lib.hid (ownz_below x_15.out l18 (Nat.le_refl _))
  clear x_15
  have xh_19 := Lib.hid (ownz_below xh_15.out l18 (Nat.le_refl _))
  clear xh_15
  have AW_19 := Lib.hid (AW_15.out.below l18 AW_15.out.lt)
  clear AW_15
  have X_19 := Lib.hid (X14_X.out.below l18 X14_X.out.lt)
  clear X14_X
  clear l18
  have c20_AW_0 := AW_19.out.at 0 (v := .int .i64 z0.w.t) rfl
  have c20_AW_1 := AW_19.out.at 1 (v := .int .i64 z0.w.z) rfl
  have c20_AW_2 := AW_19.out.at 2 (v := .slice p0 z0.w.q.length cap0) rfl
  have c20_AW_3 := AW_19.out.at 3 (v := .int .i64 z0.c) rfl
  have c20_AW_4 := AW_19.out.at 4 (v := .int .i64 z0.u) rfl
  have c20_AW_5 := AW_19.out.at 5 (v := .slice p1 z0.h.length cap1) rfl
  have c21_X_0 := X_19.out.at 0 (v := .int .i64 z0.w.t) rfl
  have c21_X_1 := X_19.out.at 1 (v := .int .i64 z0.w.z) rfl
  have c21_X_2 := X_19.out.at 2 (v := .slice (some ⟨x_x, 0, none⟩) z0.w.q.length z0.w.q.length) rfl
  have c21_X_3 := X_19.out.at 3 (v := .int .i64 z0.c) rfl
  have c21_X_4 := X_19.out.at 4 (v := .int .i64 z0.u) rfl
  have c21_X_5 := X_19.out.at 5 (v := .slice (some ⟨y_x, 0, none⟩) z0.h.length z0.h.length) rfl
  go_upto_region 10 with fail
  go_cut [26] from 22 to 26 (fun b wx => b = .bool false ∧ Hid (Below W18.heap.size W18 wx))
  case first => as_aux_lemma =>
    have HK1 := Lib.hid (fun (w' : World) (hb : Below W18.heap.size W18 w') => (show w'.cell? ⟨R_X, 0, none⟩ = some (.int .i64 z0.w.t) ∧ w'.cell? ⟨R_X, 1, none⟩ = some (.int .i64 z0.w.z) ∧ w'.cell? ⟨R_X, 2, none⟩ = some (.slice (some ⟨x_x, 0, none⟩) z0.w.q.length z0.w.q.length) ∧ w'.cell? ⟨R_X, 3, none⟩ = some (.int .i64 z0.c) ∧ w'.cell? ⟨R_X, 4, none⟩ = some (.int .i64 z0.u) ∧ w'.cell? ⟨R_X, 5, none⟩ = some (.slice (some ⟨y_x, 0, none⟩) z0.h.length z0.h.length) ∧ w'.cell? ⟨R_AW, 0, none⟩ = some (.int .i64 z0.w.t) ∧ w'.cell? ⟨R_AW, 1, none⟩ = some (.int .i64 z0.w.z) ∧ w'.cell? ⟨R_AW, 2, none⟩ = some (.slice p0 z0.w.q.length cap0) ∧ w'.cell? ⟨R_AW, 3, none⟩ = some (.int .i64 z0.c) ∧ w'.cell? ⟨R_AW, 4, none⟩ = some (.int .i64 z0.u) ∧ w'.cell? ⟨R_AW, 5, none⟩ = some (.slice p1 z0.h.length cap1) ∧ Below w.heap.size w w' from ⟨(hb.cell (p := ⟨R_X, 0, none⟩) X_19.out.lt).trans (X_19.out.at 0 (v := .int .i64 z0.w.t) rfl), (hb.cell (p := ⟨R_X, 1, none⟩) X_19.out.lt).trans (X_19.out.at 1 (v := .int .i64 z0.w.z) rfl), (hb.cell (p := ⟨R_X, 2, none⟩) X_19.out.lt).trans (X_19.out.at 2 (v := .slice (some ⟨x_x, 0, none⟩) z0.w.q.length z0.w.q.length) rfl), (hb.cell (p := ⟨R_X, 3, none⟩) X_19.out.lt).trans (X_19.out.at 3 (v := .int .i64 z0.c) rfl), (hb.cell (p := ⟨R_X, 4, none⟩) X_19.out.lt).trans (X_19.out.at 4 (v := .int .i64 z0.u) rfl), (hb.cell (p := ⟨R_X, 5, none⟩) X_19.out.lt).trans (X_19.out.at 5 (v := .slice (some ⟨y_x, 0, none⟩) z0.h.length z0.h.length) rfl), (hb.cell (p := ⟨R_AW, 0, none⟩) AW_19.out.lt).trans (AW_19.out.at 0 (v := .int .i64 z0.w.t) rfl), (hb.cell (p := ⟨R_AW, 1, none⟩) AW_19.out.lt).trans (AW_19.out.at 1 (v := .int .i64 z0.w.z) rfl), (hb.cell (p := ⟨R_AW, 2, none⟩) AW_19.out.lt).trans (AW_19.out.at 2 (v := .slice p0 z0.w.q.length cap0) rfl), (hb.cell (p := ⟨R_AW, 3, none⟩) AW_19.out.lt).trans (AW_19.out.at 3 (v := .int .i64 z0.c) rfl), (hb.cell (p := ⟨R_AW, 4, none⟩) AW_19.out.lt).trans (AW_19.out.at 4 (v := .int .i64 z0.u) rfl), (hb.cell (p := ⟨R_AW, 5, none⟩) AW_19.out.lt).trans (AW_19.out.at 5 (v := .slice p1 z0.h.length cap1) rfl), HB_19.out.trans (hb.mono HB_19.out.size)⟩))
    go_region_held3 (fun w' => w'.cell? ⟨R_X, 0, none⟩ = some (.int .i64 z0.w.t) ∧ w'.cell? ⟨R_X, 1, none⟩ = some (.int .i64 z0.w.z) ∧ w'.cell? ⟨R_X, 2, none⟩ = some (.slice (some ⟨x_x, 0, none⟩) z0.w.q.length z0.w.q.length) ∧ w'.cell? ⟨R_X, 3, none⟩ = some (.int .i64 z0.c) ∧ w'.cell? ⟨R_X, 4, none⟩ = some (.int .i64 z0.u) ∧ w'.cell? ⟨R_X, 5, none⟩ = some (.slice (some ⟨y_x, 0, none⟩) z0.h.length z0.h.length) ∧ w'.cell? ⟨R_AW, 0, none⟩ = some (.int .i64 z0.w.t) ∧ w'.cell? ⟨R_AW, 1, none⟩ = some (.int .i64 z0.w.z) ∧ w'.cell? ⟨R_AW, 2, none⟩ = some (.slice p0 z0.w.q.length cap0) ∧ w'.cell? ⟨R_AW, 3, none⟩ = some (.int .i64 z0.c) ∧ w'.cell? ⟨R_AW, 4, none⟩ = some (.int .i64 z0.u) ∧ w'.cell? ⟨R_AW, 5, none⟩ = some (.slice p1 z0.h.length cap1) ∧ Below w.heap.size w w')
      ((first | (with_reducible refine HK1.out _ ?_; (repeat (first | with_reducible assumption | with_reducible exact Below.refl _ _ | with_reducible refine Below.drew ?_ | with_reducible refine below_alloc' ?_)); done)))
      (first
        | (go_at_call 35; refine (toSo_lit _ _ z0 _ (HR0.out.below (HB_19.out.trans ((by repeat (first | with_reducible assumption | with_reducible exact Below.refl _ _ | with_reducible refine Below.drew ?_ | with_reducible refine below_alloc' ?_) : Below W18.heap.size W18 _).mono HB_19.out.size)) (Nat.le_refl _)) (HR1.out.below (HB_19.out.trans ((by repeat (first | with_reducible assumption | with_reducible exact Below.refl _ _ | with_reducible refine Below.drew ?_ | with_reducible refine below_alloc' ?_) : Below W18.heap.size W18 _).mono HB_19.out.size)) (Nat.le_refl _)) HN0.out HN1.out).mono ?_; rintro e w5 ⟨g5, g6, rfl, o5, o6, _, l5⟩; have hb5 := below_call7 (by repeat (first | with_reducible assumption | with_reducible exact Below.refl _ _ | with_reducible refine Below.drew ?_ | with_reducible refine below_alloc' ?_) : Below W18.heap.size W18 _) l5; have ho5 := rowz_own o5; have ho6 := rowz_own o6; clear o5 o6 l5)
        | (go_at_call 30; refine (eqSo_same _ _ _ _ z0 _ ((rowz_own x_19.out).below hb5 (Nat.le_refl _)) ((rowz_own xh_19.out).below hb5 (Nat.le_refl _)) ho5 ho6).mono ?_; rintro e w6 ⟨rfl, l6⟩; have hb6 := below_call7 hb5 l6; clear l6))
    all_goals go_wp2_with fail
    all_goals go_meet
    all_goals
      case rel => exact ⟨by simp, Lib.hid (by repeat (first | with_reducible assumption | with_reducible exact Below.refl _ _ | with_reducible refine Below.drew ?_ | with_reducible refine below_alloc' ?_))⟩
  case rest =>
    obtain ⟨rfl, HCut⟩ := hcut
    rename World => W22
    have l22 := HCut.out
    clear HCut
    clear c20_AW_0 c20_AW_1 c20_AW_2 c20_AW_3 c20_AW_4 c20_AW_5
    clear c21_X_0 c21_X_1 c21_X_2 c21_X_3 c21_X_4 c21_X_5
    have HB_23 := Lib.hid (HB_19.out.trans (l22.mono HB_19.out.size))
    have x_23 := Lib.hid (ownz_below x_19.out l22 (Nat.le_refl _))
    clear x_19
    have xh_23 := Lib.hid (ownz_below xh_19.out l22 (Nat.le_refl _))
    clear xh_19
    have AW_23 := Lib.hid (AW_19.out.below l22 AW_19.out.lt)
    clear AW_19
    have X_23 := Lib.hid (X_19.out.below l22 X_19.out.lt)
    clear X_19
    clear l22
    have c24_AW_0 := AW_23.out.at 0 (v := .int .i64 z0.w.t) rfl
    have c24_AW_1 := AW_23.out.at 1 (v := .int .i64 z0.w.z) rfl
    have c24_AW_2 := AW_23.out.at 2 (v := .slice p0 z0.w.q.length cap0) rfl
    have c24_AW_3 := AW_23.out.at 3 (v := .int .i64 z0.c) rfl
    have c24_AW_4 := AW_23.out.at 4 (v := .int .i64 z0.u) rfl
    have c24_AW_5 := AW_23.out.at 5 (v := .slice p1 z0.h.length cap1) rfl
    have c25_X_0 := X_23.out.at 0 (v := .int .i64 z0.w.t) rfl
    have c25_X_1 := X_23.out.at 1 (v := .int .i64 z0.w.z) rfl
    have c25_X_2 := X_23.out.at 2 (v := .slice (some ⟨x_x, 0, none⟩) z0.w.q.length z0.w.q.length) rfl
    have c25_X_3 := X_23.out.at 3 (v := .int .i64 z0.c) rfl
    have c25_X_4 := X_23.out.at 4 (v := .int .i64 z0.u) rfl
    have c25_X_5 := X_23.out.at 5 (v := .slice (some ⟨y_x, 0, none⟩) z0.h.length z0.h.length) rfl
    go_wp2_with fail
    go_ret
    exact ⟨rfl, HB_23.out⟩
theorem fnExactIsValidSource_walk (w : World) (a0_0 : Int) (w0_0 : (Lit.int .i64 a0_0).wf = true) (a0_1 : Int) (w0_1 : (Lit.int .i64 a0_1).wf = true) (v0_2 : Value) (s0_2 : List ByteArray) (w0_2 : Row w v0_2 s0_2.length (s0_2.map Value.string)) (b0_2 : ∀ s ∈ s0_2, s.size ≤ maxLen) (a0_3 : Int) (w0_3 : (Lit.int .i64 a0_3).wf = true) (a0_4 : Int) (w0_4 : (Lit.int .i64 a0_4).wf = true) (v0_5 : Value) (z0_5 : List Hd) (w0_5 : Row w v0_5 z0_5.length (hdF z0_5)) (b0_5 : ∀ r ∈ z0_5, (Lit.int .i64 r.n).wf = true ∧ (Lit.int .i64 r.u).wf = true) (_hsh : w.ShapedOpen Try.prog) :
    Calls Try.prog 5 #[.agg #[.int .i64 a0_0, .int .i64 a0_1, v0_2, .int .i64 a0_3, .int .i64 a0_4, v0_5]] w fun e w' => e = .returned (.bool true) ∧ Below w.heap.size w w' :=
  fnExactIsValidSource_wk v0_2 v0_5 ⟨⟨a0_0, a0_1, s0_2⟩, a0_3, a0_4, z0_5⟩ w w0_2 w0_5 b0_2
set_option maxRecDepth 100000 in
set_option maxHeartbeats 16000000 in
theorem fnExactIsOnHold_wk (v0 x0 : Value) (z0 : So) (w : World) (w0 : Row w v0 z0.w.q.length (z0.w.q.map Value.string)) (u0 : Row w x0 z0.h.length (hdF z0.h)) (b0 : ∀ s ∈ z0.w.q, s.size ≤ maxLen) (a1 : Int) (w1 : (Lit.int .i64 a1).wf = true) :
    Calls Try.prog 9 #[.agg #[.int .i64 z0.w.t, .int .i64 z0.w.z, v0, .int .i64 z0.c, .int .i64 z0.u, x0], .int .i64 a1] w fun e w' => e = .returned (.bool true) ∧ Below w.heap.size w w' := by
  obtain ⟨p0, cap0, rfl, hc10, hc20, -⟩ := row_open w0
  obtain ⟨p1, cap1, rfl, hc11, hc21, -⟩ := hd_open u0
  unfold maxLen at hc20 hc21
  have HR0 := Lib.hid w0
  have HR1 := Lib.hid u0
  have HSz := Lib.hid (fun (W : World) (hr : Row W (.slice p0 z0.w.q.length cap0) z0.w.q.length (z0.w.q.map Value.string)) (hh : Row W (.slice p1 z0.h.length cap1) z0.h.length (hdF z0.h)) => szSo_any (.slice p0 z0.w.q.length cap0) (.slice p1 z0.h.length cap1) z0 W hr hh b0 1048576 (by omega))
  have HSm := Lib.hid b0
  clear w0 u0 b0
  obtain ⟨W0, R_AW, hW0, hR_AW, hX_AW, hB0⟩ := entry1 w #[.int .i64 z0.w.t, .int .i64 z0.w.z, .slice p0 z0.w.q.length cap0, .int .i64 z0.c, .int .i64 z0.u, .slice p1 z0.h.length cap1] 59
  have HW0 := Lib.hid hW0
  have HB0 := Lib.hid hB0
  have HR_AW := Lib.hid hR_AW
  have HX_AW := Lib.hid hX_AW
  clear hW0 hB0 hR_AW hX_AW
  have c1_AW_0 := HX_AW.out.at 0 (v := .int .i64 z0.w.t) rfl
  have c1_AW_1 := HX_AW.out.at 1 (v := .int .i64 z0.w.z) rfl
  have c1_AW_2 := HX_AW.out.at 2 (v := .slice p0 z0.w.q.length cap0) rfl
  have c1_AW_3 := HX_AW.out.at 3 (v := .int .i64 z0.c) rfl
  have c1_AW_4 := HX_AW.out.at 4 (v := .int .i64 z0.u) rfl
  have c1_AW_5 := HX_AW.out.at 5 (v := .slice p1 z0.h.length cap1) rfl
  go_enter Try.func9, Try.ntmps9
  go_upto_region 1 with fail
  rw [← HW0.out, ← HR_AW.out]
  go_wp2_with fail
  refine (HSz.out _ (HR0.out.below HB0.out (Nat.le_refl _)) (HR1.out.below HB0.out (Nat.le_refl _))).mono ?_
  rintro e W2 ⟨l2, r0, rfl, hr1, hr0⟩
  clear c1_AW_0 c1_AW_1 c1_AW_2 c1_AW_3 c1_AW_4 c1_AW_5
  have HB_3 := Lib.hid (HB0.out.trans (l2.mono HB0.out.size))
  have AW_3 := Lib.hid (HX_AW.out.below l2 HX_AW.out.lt)
  clear l2
  have c4_AW_0 := AW_3.out.at 0 (v := .int .i64 z0.w.t) rfl
  have c4_AW_1 := AW_3.out.at 1 (v := .int .i64 z0.w.z) rfl
  have c4_AW_2 := AW_3.out.at 2 (v := .slice p0 z0.w.q.length cap0) rfl
  have c4_AW_3 := AW_3.out.at 3 (v := .int .i64 z0.c) rfl
  have c4_AW_4 := AW_3.out.at 4 (v := .int .i64 z0.u) rfl
  have c4_AW_5 := AW_3.out.at 5 (v := .slice p1 z0.h.length cap1) rfl
  by_cases hneg : r0 < 0
  · clear hr0
    go_wp2_with fail
    go_ret
    exact ⟨rfl, HB_3.out⟩
  obtain ⟨hm0, hmh, hr00⟩ := hr0.resolve_left hneg
  have HN0 := Lib.hid hm0
  have HN1 := Lib.hid hmh
  clear hr0 HSz
  have HSp := Lib.hid (fun (v x : Value) (W : World) (hr : Row W v z0.w.q.length (z0.w.q.map Value.string)) (hh : Row W x z0.h.length (hdF z0.h)) (hf : FitA v z0.w.q.length) (hfh : Fit x z0.h.length) => specOnH_any v x z0 W hr hh HSm.out a1)
  have HIm := Lib.hid (fun (v x : Value) (W : World) (hr : Row W v z0.w.q.length (z0.w.q.map Value.string)) (hh : Row W x z0.h.length (hdF z0.h)) (hf : FitA v z0.w.q.length) (hfh : Fit x z0.h.length) => implOnH_any v x z0 W hr hh HSm.out a1)
  generalize onhV z0 a1 = r0_ at HSp HIm
  generalize onhOk z0 a1 = r1_ at HSp HIm
  clear hm0 hmh
  obtain ⟨kx, hkx⟩ : ∃ kx : Nat, 1 + z0.w.q.length + 2 * z0.h.length = kx := ⟨_, rfl⟩
  have hkx0 : ¬ ((kx : Nat) : Int) < 0 := by omega
  have HKx := Lib.hid hkx
  clear hkx
  go_wp2_with fail
  refine (toSo_lit _ _ z0 _ (HR0.out.below HB_3.out (Nat.le_refl _)) (HR1.out.below HB_3.out (Nat.le_refl _)) HN0.out HN1.out).mono ?_
  rintro e W5 ⟨x_s, y_s, rfl, o_s, o_sh, ne_s, l5⟩
  have O_s := Lib.hid (ownz_base o_s HB_3.out.size)
  have BX_AW_s : Hid (∀ k, (.slice (some ⟨x_s, 0, none⟩) z0.w.q.length z0.w.q.length : Value).ownBlock = some k → k ≠ R_AW) := Lib.hid (fun k h1 h2 => absurd AW_3.out.lt (Nat.not_lt.2 (by rw [← h2]; exact (o_s.lt k h1).1)))
  have O_sh := Lib.hid (ownz_base o_sh HB_3.out.size)
  have BX_AW_sh : Hid (∀ k, (.slice (some ⟨y_s, 0, none⟩) z0.h.length z0.h.length : Value).ownBlock = some k → k ≠ R_AW) := Lib.hid (fun k h1 h2 => absurd AW_3.out.lt (Nat.not_lt.2 (by rw [← h2]; exact (o_sh.lt k h1).1)))
  have AP_s_sh : Hid (∀ k, (.slice (some ⟨x_s, 0, none⟩) z0.w.q.length z0.w.q.length : Value).ownBlock = some k → (.slice (some ⟨y_s, 0, none⟩) z0.h.length z0.h.length : Value).ownBlock ≠ some k) := Lib.hid (fun k h1 h2 => ne_s ((Option.some.inj h1).trans (Option.some.inj h2).symm))
  clear o_s o_sh ne_s
  clear c4_AW_0 c4_AW_1 c4_AW_2 c4_AW_3 c4_AW_4 c4_AW_5
  have HB_6 := Lib.hid (HB_3.out.trans (l5.mono HB_3.out.size))
  have AW_6 := Lib.hid (AW_3.out.below l5 AW_3.out.lt)
  clear AW_3
  clear l5
  have c7_AW_0 := AW_6.out.at 0 (v := .int .i64 z0.w.t) rfl
  have c7_AW_1 := AW_6.out.at 1 (v := .int .i64 z0.w.z) rfl
  have c7_AW_2 := AW_6.out.at 2 (v := .slice p0 z0.w.q.length cap0) rfl
  have c7_AW_3 := AW_6.out.at 3 (v := .int .i64 z0.c) rfl
  have c7_AW_4 := AW_6.out.at 4 (v := .int .i64 z0.u) rfl
  have c7_AW_5 := AW_6.out.at 5 (v := .slice p1 z0.h.length cap1) rfl
  go_wp2_with fail
  refine (HSp.out _ _ _ (rowz_own O_s.out) (rowz_own O_sh.out) (.inr ⟨_, _, _, rfl⟩) (.inr ⟨_, _, rfl⟩)).mono ?_
  rintro e W8 ⟨rfl, l8⟩
  clear c7_AW_0 c7_AW_1 c7_AW_2 c7_AW_3 c7_AW_4 c7_AW_5
  have HB_9 := Lib.hid (HB_6.out.trans (l8.mono HB_6.out.size))
  have s_9 := Lib.hid (ownz_below O_s.out l8 (Nat.le_refl _))
  clear O_s
  have sh_9 := Lib.hid (ownz_below O_sh.out l8 (Nat.le_refl _))
  clear O_sh
  have AW_9 := Lib.hid (AW_6.out.below l8 AW_6.out.lt)
  clear AW_6
  clear l8
  have c10_AW_0 := AW_9.out.at 0 (v := .int .i64 z0.w.t) rfl
  have c10_AW_1 := AW_9.out.at 1 (v := .int .i64 z0.w.z) rfl
  have c10_AW_2 := AW_9.out.at 2 (v := .slice p0 z0.w.q.length cap0) rfl
  have c10_AW_3 := AW_9.out.at 3 (v := .int .i64 z0.c) rfl
  have c10_AW_4 := AW_9.out.at 4 (v := .int .i64 z0.u) rfl
  have c10_AW_5 := AW_9.out.at 5 (v := .slice p1 z0.h.length cap1) rfl
  clear s_9
  clear sh_9
  go_wp2_with fail
  refine (toSo_lit _ _ z0 _ (HR0.out.below HB_9.out (Nat.le_refl _)) (HR1.out.below HB_9.out (Nat.le_refl _)) HN0.out HN1.out).mono ?_
  rintro e W11 ⟨x_x, y_x, rfl, o_x, o_xh, ne_x, l11⟩
  have O_x := Lib.hid (ownz_base o_x HB_9.out.size)
  have BX_AW_x : Hid (∀ k, (.slice (some ⟨x_x, 0, none⟩) z0.w.q.length z0.w.q.length : Value).ownBlock = some k → k ≠ R_AW) := Lib.hid (fun k h1 h2 => absurd AW_9.out.lt (Nat.not_lt.2 (by rw [← h2]; exact (o_x.lt k h1).1)))
  have O_xh := Lib.hid (ownz_base o_xh HB_9.out.size)
  have BX_AW_xh : Hid (∀ k, (.slice (some ⟨y_x, 0, none⟩) z0.h.length z0.h.length : Value).ownBlock = some k → k ≠ R_AW) := Lib.hid (fun k h1 h2 => absurd AW_9.out.lt (Nat.not_lt.2 (by rw [← h2]; exact (o_xh.lt k h1).1)))
  have AP_x_xh : Hid (∀ k, (.slice (some ⟨x_x, 0, none⟩) z0.w.q.length z0.w.q.length : Value).ownBlock = some k → (.slice (some ⟨y_x, 0, none⟩) z0.h.length z0.h.length : Value).ownBlock ≠ some k) := Lib.hid (fun k h1 h2 => ne_x ((Option.some.inj h1).trans (Option.some.inj h2).symm))
  clear o_x o_xh ne_x
  clear c10_AW_0 c10_AW_1 c10_AW_2 c10_AW_3 c10_AW_4 c10_AW_5
  have HB_12 := Lib.hid (HB_9.out.trans (l11.mono HB_9.out.size))
  have AW_12 := Lib.hid (AW_9.out.below l11 AW_9.out.lt)
  clear AW_9
  clear l11
  have c13_AW_0 := AW_12.out.at 0 (v := .int .i64 z0.w.t) rfl
  have c13_AW_1 := AW_12.out.at 1 (v := .int .i64 z0.w.z) rfl
  have c13_AW_2 := AW_12.out.at 2 (v := .slice p0 z0.w.q.length cap0) rfl
  have c13_AW_3 := AW_12.out.at 3 (v := .int .i64 z0.c) rfl
  have c13_AW_4 := AW_12.out.at 4 (v := .int .i64 z0.u) rfl
  have c13_AW_5 := AW_12.out.at 5 (v := .slice p1 z0.h.length cap1) rfl
  go_upto_region 7 with fail
  obtain ⟨W14, hW14⟩ : ∃ W14, W14 = W11.alloc (.cells #[.int .i64 z0.w.t, .int .i64 z0.w.z, .slice (some ⟨x_x, 0, none⟩) z0.w.q.length z0.w.q.length, .int .i64 z0.c, .int .i64 z0.u, .slice (some ⟨y_x, 0, none⟩) z0.h.length z0.h.length] 29) := ⟨_, rfl⟩
  have l14 : Below W11.heap.size W11 W14 := by rw [hW14]; exact (Below.refl _ _).alloc (Nat.le_refl _) _
  have X14_X : Hid (Bx W14 W11.heap.size #[.int .i64 z0.w.t, .int .i64 z0.w.z, .slice (some ⟨x_x, 0, none⟩) z0.w.q.length z0.w.q.length, .int .i64 z0.c, .int .i64 z0.u, .slice (some ⟨y_x, 0, none⟩) z0.h.length z0.h.length] 29) := Lib.hid (by rw [hW14]; exact Bx.new _ _ _)
  rw [← hW14]
  clear hW14
  have BX_X_x : Hid (∀ k, (.slice (some ⟨x_x, 0, none⟩) z0.w.q.length z0.w.q.length : Value).ownBlock = some k → k ≠ W11.heap.size) := Lib.hid (fun k h1 h2 => absurd (O_x.out.lt k h1).2 (by omega))
  have BX_X_xh : Hid (∀ k, (.slice (some ⟨y_x, 0, none⟩) z0.h.length z0.h.length : Value).ownBlock = some k → k ≠ W11.heap.size) := Lib.hid (fun k h1 h2 => absurd (O_xh.out.lt k h1).2 (by omega))
  have HG_X : Hid (w.heap.size ≤ W11.heap.size) := Lib.hid HB_12.out.size
  have HN_X_AW : Hid (R_AW < W11.heap.size) := Lib.hid AW_12.out.lt
  obtain ⟨R_X, hR_X⟩ : ∃ X, X = W11.heap.size := ⟨_, rfl⟩
  rw [← hR_X] at X14_X HG_X BX_X_x BX_X_xh HN_X_AW ⊢
  clear hR_X
  clear c13_AW_0 c13_AW_1 c13_AW_2 c13_AW_3 c13_AW_4 c13_AW_5
  have HB_15 := Lib.hid (HB_12.out.trans (l14.mono HB_12.out.size))
  have x_15 := Lib.hid (ownz_below O_x.out l14 (Nat.le_refl _))
  clear O_x
  have xh_15 := Lib.hid (ownz_below O_xh.out l14 (Nat.le_refl _))
  clear O_xh
  have AW_15 := Lib.hid (AW_12.out.below l14 AW_12.out.lt)
  clear AW_12
  clear l14
  have c16_AW_0 := AW_15.out.at 0 (v := .int .i64 z0.w.t) rfl
  have c16_AW_1 := AW_15.out.at 1 (v := .int .i64 z0.w.z) rfl
  have c16_AW_2 := AW_15.out.at 2 (v := .slice p0 z0.w.q.length cap0) rfl
  have c16_AW_3 := AW_15.out.at 3 (v := .int .i64 z0.c) rfl
  have c16_AW_4 := AW_15.out.at 4 (v := .int .i64 z0.u) rfl
  have c16_AW_5 := AW_15.out.at 5 (v := .slice p1 z0.h.length cap1) rfl
  have c17_X_0 := X14_X.out.at 0 (v := .int .i64 z0.w.t) rfl
  have c17_X_1 := X14_X.out.at 1 (v := .int .i64 z0.w.z) rfl
  have c17_X_2 := X14_X.out.at 2 (v := .slice (some ⟨x_x, 0, none⟩) z0.w.q.length z0.w.q.length) rfl
  have c17_X_3 := X14_X.out.at 3 (v := .int .i64 z0.c) rfl
  have c17_X_4 := X14_X.out.at 4 (v := .int .i64 z0.u) rfl
  have c17_X_5 := X14_X.out.at 5 (v := .slice (some ⟨y_x, 0, none⟩) z0.h.length z0.h.length) rfl
  go_wp2_with fail
  refine (HIm.out _ _ _ (rowz_own x_15.out) (rowz_own xh_15.out) (.inr ⟨_, _, _, rfl⟩) (.inr ⟨_, _, rfl⟩)).mono ?_
  rintro e W18 ⟨rfl, l18⟩
  clear c16_AW_0 c16_AW_1 c16_AW_2 c16_AW_3 c16_AW_4 c16_AW_5
  clear c17_X_0 c17_X_1 c17_X_2 c17_X_3 c17_X_4 c17_X_5
  have HB_19 := Lib.hid (HB_15.out.trans (l18.mono HB_15.out.size))
  have x_19 := Lib.hid (ownz_below x_15.out l18 (Nat.le_refl _))
  clear x_15
  have xh_19 := Lib.hid (ownz_below xh_15.out l18 (Nat.le_refl _))
  clear xh_15
  have AW_19 := Lib.hid (AW_15.out.below l18 AW_15.out.lt)
  clear AW_15
  have X_19 := Lib.hid (X14_X.out.below l18 X14_X.out.lt)
  clear X14_X
  clear l18
  have c20_AW_0 := AW_19.out.at 0 (v := .int .i64 z0.w.t) rfl
  have c20_AW_1 := AW_19.out.at 1 (v := .int .i64 z0.w.z) rfl
  have c20_AW_2 := AW_19.out.at 2 (v := .slice p0 z0.w.q.length cap0) rfl
  have c20_AW_3 := AW_19.out.at 3 (v := .int .i64 z0.c) rfl
  have c20_AW_4 := AW_19.out.at 4 (v := .int .i64 z0.u) rfl
  have c20_AW_5 := AW_19.out.at 5 (v := .slice p1 z0.h.length cap1) rfl
  have c21_X_0 := X_19.out.at 0 (v := .int .i64 z0.w.t) rfl
  have c21_X_1 := X_19.out.at 1 (v := .int .i64 z0.w.z) rfl
  have c21_X_2 := X_19.out.at 2 (v := .slice (some ⟨x_x, 0, none⟩) z0.w.q.length z0.w.q.length) rfl
  have c21_X_3 := X_19.out.at 3 (v := .int .i64 z0.c) rfl
  have c21_X_4 := X_19.out.at 4 (v := .int .i64 z0.u) rfl
  have c21_X_5 := X_19.out.at 5 (v := .slice (some ⟨y_x, 0, none⟩) z0.h.length z0.h.length) rfl
  go_upto_region 10 with fail
  go_cut [43] from 39 to 43 (fun b wx => b = .bool false ∧ Hid (Below W18.heap.size W18 wx))
  case first => as_aux_lemma =>
    have HK1 := Lib.hid (fun (w' : World) (hb : Below W18.heap.size W18 w') => (show w'.cell? ⟨R_X, 0, none⟩ = some (.int .i64 z0.w.t) ∧ w'.cell? ⟨R_X, 1, none⟩ = some (.int .i64 z0.w.z) ∧ w'.cell? ⟨R_X, 2, none⟩ = some (.slice (some ⟨x_x, 0, none⟩) z0.w.q.length z0.w.q.length) ∧ w'.cell? ⟨R_X, 3, none⟩ = some (.int .i64 z0.c) ∧ w'.cell? ⟨R_X, 4, none⟩ = some (.int .i64 z0.u) ∧ w'.cell? ⟨R_X, 5, none⟩ = some (.slice (some ⟨y_x, 0, none⟩) z0.h.length z0.h.length) ∧ w'.cell? ⟨R_AW, 0, none⟩ = some (.int .i64 z0.w.t) ∧ w'.cell? ⟨R_AW, 1, none⟩ = some (.int .i64 z0.w.z) ∧ w'.cell? ⟨R_AW, 2, none⟩ = some (.slice p0 z0.w.q.length cap0) ∧ w'.cell? ⟨R_AW, 3, none⟩ = some (.int .i64 z0.c) ∧ w'.cell? ⟨R_AW, 4, none⟩ = some (.int .i64 z0.u) ∧ w'.cell? ⟨R_AW, 5, none⟩ = some (.slice p1 z0.h.length cap1) ∧ Below w.heap.size w w' from ⟨(hb.cell (p := ⟨R_X, 0, none⟩) X_19.out.lt).trans (X_19.out.at 0 (v := .int .i64 z0.w.t) rfl), (hb.cell (p := ⟨R_X, 1, none⟩) X_19.out.lt).trans (X_19.out.at 1 (v := .int .i64 z0.w.z) rfl), (hb.cell (p := ⟨R_X, 2, none⟩) X_19.out.lt).trans (X_19.out.at 2 (v := .slice (some ⟨x_x, 0, none⟩) z0.w.q.length z0.w.q.length) rfl), (hb.cell (p := ⟨R_X, 3, none⟩) X_19.out.lt).trans (X_19.out.at 3 (v := .int .i64 z0.c) rfl), (hb.cell (p := ⟨R_X, 4, none⟩) X_19.out.lt).trans (X_19.out.at 4 (v := .int .i64 z0.u) rfl), (hb.cell (p := ⟨R_X, 5, none⟩) X_19.out.lt).trans (X_19.out.at 5 (v := .slice (some ⟨y_x, 0, none⟩) z0.h.length z0.h.length) rfl), (hb.cell (p := ⟨R_AW, 0, none⟩) AW_19.out.lt).trans (AW_19.out.at 0 (v := .int .i64 z0.w.t) rfl), (hb.cell (p := ⟨R_AW, 1, none⟩) AW_19.out.lt).trans (AW_19.out.at 1 (v := .int .i64 z0.w.z) rfl), (hb.cell (p := ⟨R_AW, 2, none⟩) AW_19.out.lt).trans (AW_19.out.at 2 (v := .slice p0 z0.w.q.length cap0) rfl), (hb.cell (p := ⟨R_AW, 3, none⟩) AW_19.out.lt).trans (AW_19.out.at 3 (v := .int .i64 z0.c) rfl), (hb.cell (p := ⟨R_AW, 4, none⟩) AW_19.out.lt).trans (AW_19.out.at 4 (v := .int .i64 z0.u) rfl), (hb.cell (p := ⟨R_AW, 5, none⟩) AW_19.out.lt).trans (AW_19.out.at 5 (v := .slice p1 z0.h.length cap1) rfl), HB_19.out.trans (hb.mono HB_19.out.size)⟩))
    go_region_held3 (fun w' => w'.cell? ⟨R_X, 0, none⟩ = some (.int .i64 z0.w.t) ∧ w'.cell? ⟨R_X, 1, none⟩ = some (.int .i64 z0.w.z) ∧ w'.cell? ⟨R_X, 2, none⟩ = some (.slice (some ⟨x_x, 0, none⟩) z0.w.q.length z0.w.q.length) ∧ w'.cell? ⟨R_X, 3, none⟩ = some (.int .i64 z0.c) ∧ w'.cell? ⟨R_X, 4, none⟩ = some (.int .i64 z0.u) ∧ w'.cell? ⟨R_X, 5, none⟩ = some (.slice (some ⟨y_x, 0, none⟩) z0.h.length z0.h.length) ∧ w'.cell? ⟨R_AW, 0, none⟩ = some (.int .i64 z0.w.t) ∧ w'.cell? ⟨R_AW, 1, none⟩ = some (.int .i64 z0.w.z) ∧ w'.cell? ⟨R_AW, 2, none⟩ = some (.slice p0 z0.w.q.length cap0) ∧ w'.cell? ⟨R_AW, 3, none⟩ = some (.int .i64 z0.c) ∧ w'.cell? ⟨R_AW, 4, none⟩ = some (.int .i64 z0.u) ∧ w'.cell? ⟨R_AW, 5, none⟩ = some (.slice p1 z0.h.length cap1) ∧ Below w.heap.size w w')
      ((first | (with_reducible refine HK1.out _ ?_; (repeat (first | with_reducible assumption | with_reducible exact Below.refl _ _ | with_reducible refine Below.drew ?_ | with_reducible refine below_alloc' ?_)); done)))
      (first
        | (go_at_call 35; refine (toSo_lit _ _ z0 _ (HR0.out.below (HB_19.out.trans ((by repeat (first | with_reducible assumption | with_reducible exact Below.refl _ _ | with_reducible refine Below.drew ?_ | with_reducible refine below_alloc' ?_) : Below W18.heap.size W18 _).mono HB_19.out.size)) (Nat.le_refl _)) (HR1.out.below (HB_19.out.trans ((by repeat (first | with_reducible assumption | with_reducible exact Below.refl _ _ | with_reducible refine Below.drew ?_ | with_reducible refine below_alloc' ?_) : Below W18.heap.size W18 _).mono HB_19.out.size)) (Nat.le_refl _)) HN0.out HN1.out).mono ?_; rintro e w5 ⟨g5, g6, rfl, o5, o6, _, l5⟩; have hb5 := below_call7 (by repeat (first | with_reducible assumption | with_reducible exact Below.refl _ _ | with_reducible refine Below.drew ?_ | with_reducible refine below_alloc' ?_) : Below W18.heap.size W18 _) l5; have ho5 := rowz_own o5; have ho6 := rowz_own o6; clear o5 o6 l5)
        | (go_at_call 30; refine (eqSo_same _ _ _ _ z0 _ ((rowz_own x_19.out).below hb5 (Nat.le_refl _)) ((rowz_own xh_19.out).below hb5 (Nat.le_refl _)) ho5 ho6).mono ?_; rintro e w6 ⟨rfl, l6⟩; have hb6 := below_call7 hb5 l6; clear l6))
    all_goals go_wp2_with fail
    all_goals go_meet
    all_goals
      case rel => exact ⟨by simp, Lib.hid (by repeat (first | with_reducible assumption | with_reducible exact Below.refl _ _ | with_reducible refine Below.drew ?_ | with_reducible refine below_alloc' ?_))⟩
  case rest =>
    obtain ⟨rfl, HCut⟩ := hcut
    rename World => W22
    have l22 := HCut.out
    clear HCut
    clear c20_AW_0 c20_AW_1 c20_AW_2 c20_AW_3 c20_AW_4 c20_AW_5
    clear c21_X_0 c21_X_1 c21_X_2 c21_X_3 c21_X_4 c21_X_5
    have HB_23 := Lib.hid (HB_19.out.trans (l22.mono HB_19.out.size))
    have x_23 := Lib.hid (ownz_below x_19.out l22 (Nat.le_refl _))
    clear x_19
    have xh_23 := Lib.hid (ownz_below xh_19.out l22 (Nat.le_refl _))
    clear xh_19
    have AW_23 := Lib.hid (AW_19.out.below l22 AW_19.out.lt)
    clear AW_19
    have X_23 := Lib.hid (X_19.out.below l22 X_19.out.lt)
    clear X_19
    clear l22
    have c24_AW_0 := AW_23.out.at 0 (v := .int .i64 z0.w.t) rfl
    have c24_AW_1 := AW_23.out.at 1 (v := .int .i64 z0.w.z) rfl
    have c24_AW_2 := AW_23.out.at 2 (v := .slice p0 z0.w.q.length cap0) rfl
    have c24_AW_3 := AW_23.out.at 3 (v := .int .i64 z0.c) rfl
    have c24_AW_4 := AW_23.out.at 4 (v := .int .i64 z0.u) rfl
    have c24_AW_5 := AW_23.out.at 5 (v := .slice p1 z0.h.length cap1) rfl
    have c25_X_0 := X_23.out.at 0 (v := .int .i64 z0.w.t) rfl
    have c25_X_1 := X_23.out.at 1 (v := .int .i64 z0.w.z) rfl
    have c25_X_2 := X_23.out.at 2 (v := .slice (some ⟨x_x, 0, none⟩) z0.w.q.length z0.w.q.length) rfl
    have c25_X_3 := X_23.out.at 3 (v := .int .i64 z0.c) rfl
    have c25_X_4 := X_23.out.at 4 (v := .int .i64 z0.u) rfl
    have c25_X_5 := X_23.out.at 5 (v := .slice (some ⟨y_x, 0, none⟩) z0.h.length z0.h.length) rfl
    go_wp2_with fail
    go_ret
    exact ⟨rfl, HB_23.out⟩
theorem fnExactIsOnHold_walk (w : World) (a0_0 : Int) (w0_0 : (Lit.int .i64 a0_0).wf = true) (a0_1 : Int) (w0_1 : (Lit.int .i64 a0_1).wf = true) (v0_2 : Value) (s0_2 : List ByteArray) (w0_2 : Row w v0_2 s0_2.length (s0_2.map Value.string)) (b0_2 : ∀ s ∈ s0_2, s.size ≤ maxLen) (a0_3 : Int) (w0_3 : (Lit.int .i64 a0_3).wf = true) (a0_4 : Int) (w0_4 : (Lit.int .i64 a0_4).wf = true) (v0_5 : Value) (z0_5 : List Hd) (w0_5 : Row w v0_5 z0_5.length (hdF z0_5)) (b0_5 : ∀ r ∈ z0_5, (Lit.int .i64 r.n).wf = true ∧ (Lit.int .i64 r.u).wf = true) (a1 : Int) (w1 : (Lit.int .i64 a1).wf = true) (_hsh : w.ShapedOpen Try.prog) :
    Calls Try.prog 9 #[.agg #[.int .i64 a0_0, .int .i64 a0_1, v0_2, .int .i64 a0_3, .int .i64 a0_4, v0_5], .int .i64 a1] w fun e w' => e = .returned (.bool true) ∧ Below w.heap.size w w' :=
  fnExactIsOnHold_wk v0_2 v0_5 ⟨⟨a0_0, a0_1, s0_2⟩, a0_3, a0_4, z0_5⟩ w w0_2 w0_5 b0_2 a1 w1
set_option maxRecDepth 100000 in
set_option maxHeartbeats 16000000 in
theorem fnExactTicksToStatus_wk (v0 x0 : Value) (z0 : So) (w : World) (w0 : Row w v0 z0.w.q.length (z0.w.q.map Value.string)) (u0 : Row w x0 z0.h.length (hdF z0.h)) (b0 : ∀ s ∈ z0.w.q, s.size ≤ maxLen) :
    Calls Try.prog 10 #[.agg #[.int .i64 z0.w.t, .int .i64 z0.w.z, v0, .int .i64 z0.c, .int .i64 z0.u, x0]] w fun e w' => e = .returned (.bool true) ∧ Below w.heap.size w w' := by
  obtain ⟨p0, cap0, rfl, hc10, hc20, -⟩ := row_open w0
  obtain ⟨p1, cap1, rfl, hc11, hc21, -⟩ := hd_open u0
  unfold maxLen at hc20 hc21
  have HR0 := Lib.hid w0
  have HR1 := Lib.hid u0
  have HSz := Lib.hid (fun (W : World) (hr : Row W (.slice p0 z0.w.q.length cap0) z0.w.q.length (z0.w.q.map Value.string)) (hh : Row W (.slice p1 z0.h.length cap1) z0.h.length (hdF z0.h)) => szSo_any (.slice p0 z0.w.q.length cap0) (.slice p1 z0.h.length cap1) z0 W hr hh b0 1048576 (by omega))
  have HSm := Lib.hid b0
  clear w0 u0 b0
  obtain ⟨W0, R_AW, hW0, hR_AW, hX_AW, hB0⟩ := entry1 w #[.int .i64 z0.w.t, .int .i64 z0.w.z, .slice p0 z0.w.q.length cap0, .int .i64 z0.c, .int .i64 z0.u, .slice p1 z0.h.length cap1] 59
  have HW0 := Lib.hid hW0
  have HB0 := Lib.hid hB0
  have HR_AW := Lib.hid hR_AW
  have HX_AW := Lib.hid hX_AW
  clear hW0 hB0 hR_AW hX_AW
  have c1_AW_0 := HX_AW.out.at 0 (v := .int .i64 z0.w.t) rfl
  have c1_AW_1 := HX_AW.out.at 1 (v := .int .i64 z0.w.z) rfl
  have c1_AW_2 := HX_AW.out.at 2 (v := .slice p0 z0.w.q.length cap0) rfl
  have c1_AW_3 := HX_AW.out.at 3 (v := .int .i64 z0.c) rfl
  have c1_AW_4 := HX_AW.out.at 4 (v := .int .i64 z0.u) rfl
  have c1_AW_5 := HX_AW.out.at 5 (v := .slice p1 z0.h.length cap1) rfl
  go_enter Try.func10, Try.ntmps10
  go_upto_region 1 with fail
  rw [← HW0.out, ← HR_AW.out]
  go_wp2_with fail
  refine (HSz.out _ (HR0.out.below HB0.out (Nat.le_refl _)) (HR1.out.below HB0.out (Nat.le_refl _))).mono ?_
  rintro e W2 ⟨l2, r0, rfl, hr1, hr0⟩
  clear c1_AW_0 c1_AW_1 c1_AW_2 c1_AW_3 c1_AW_4 c1_AW_5
  have HB_3 := Lib.hid (HB0.out.trans (l2.mono HB0.out.size))
  have AW_3 := Lib.hid (HX_AW.out.below l2 HX_AW.out.lt)
  clear l2
  have c4_AW_0 := AW_3.out.at 0 (v := .int .i64 z0.w.t) rfl
  have c4_AW_1 := AW_3.out.at 1 (v := .int .i64 z0.w.z) rfl
  have c4_AW_2 := AW_3.out.at 2 (v := .slice p0 z0.w.q.length cap0) rfl
  have c4_AW_3 := AW_3.out.at 3 (v := .int .i64 z0.c) rfl
  have c4_AW_4 := AW_3.out.at 4 (v := .int .i64 z0.u) rfl
  have c4_AW_5 := AW_3.out.at 5 (v := .slice p1 z0.h.length cap1) rfl
  by_cases hneg : r0 < 0
  · clear hr0
    go_wp2_with fail
    go_ret
    exact ⟨rfl, HB_3.out⟩
  obtain ⟨hm0, hmh, hr00⟩ := hr0.resolve_left hneg
  have HN0 := Lib.hid hm0
  have HN1 := Lib.hid hmh
  clear hr0 HSz
  have HSp := Lib.hid (fun (v x : Value) (W : World) (hr : Row W v z0.w.q.length (z0.w.q.map Value.string)) (hh : Row W x z0.h.length (hdF z0.h)) (hf : FitA v z0.w.q.length) (hfh : Fit x z0.h.length) => specTicks_any v x z0 W hr hh HSm.out)
  have HIm := Lib.hid (fun (v x : Value) (W : World) (hr : Row W v z0.w.q.length (z0.w.q.map Value.string)) (hh : Row W x z0.h.length (hdF z0.h)) (hf : FitA v z0.w.q.length) (hfh : Fit x z0.h.length) => implTicks_any v x z0 W hr hh HSm.out)
  generalize ticksV z0 = r0_ at HSp HIm
  generalize soOk z0 = r1_ at HSp HIm
  clear hm0 hmh
  obtain ⟨kx, hkx⟩ : ∃ kx : Nat, 1 + z0.w.q.length + 2 * z0.h.length = kx := ⟨_, rfl⟩
  have hkx0 : ¬ ((kx : Nat) : Int) < 0 := by omega
  have HKx := Lib.hid hkx
  clear hkx
  go_wp2_with fail
  refine (toSo_lit _ _ z0 _ (HR0.out.below HB_3.out (Nat.le_refl _)) (HR1.out.below HB_3.out (Nat.le_refl _)) HN0.out HN1.out).mono ?_
  rintro e W5 ⟨x_s, y_s, rfl, o_s, o_sh, ne_s, l5⟩
  have O_s := Lib.hid (ownz_base o_s HB_3.out.size)
  have BX_AW_s : Hid (∀ k, (.slice (some ⟨x_s, 0, none⟩) z0.w.q.length z0.w.q.length : Value).ownBlock = some k → k ≠ R_AW) := Lib.hid (fun k h1 h2 => absurd AW_3.out.lt (Nat.not_lt.2 (by rw [← h2]; exact (o_s.lt k h1).1)))
  have O_sh := Lib.hid (ownz_base o_sh HB_3.out.size)
  have BX_AW_sh : Hid (∀ k, (.slice (some ⟨y_s, 0, none⟩) z0.h.length z0.h.length : Value).ownBlock = some k → k ≠ R_AW) := Lib.hid (fun k h1 h2 => absurd AW_3.out.lt (Nat.not_lt.2 (by rw [← h2]; exact (o_sh.lt k h1).1)))
  have AP_s_sh : Hid (∀ k, (.slice (some ⟨x_s, 0, none⟩) z0.w.q.length z0.w.q.length : Value).ownBlock = some k → (.slice (some ⟨y_s, 0, none⟩) z0.h.length z0.h.length : Value).ownBlock ≠ some k) := Lib.hid (fun k h1 h2 => ne_s ((Option.some.inj h1).trans (Option.some.inj h2).symm))
  clear o_s o_sh ne_s
  clear c4_AW_0 c4_AW_1 c4_AW_2 c4_AW_3 c4_AW_4 c4_AW_5
  have HB_6 := Lib.hid (HB_3.out.trans (l5.mono HB_3.out.size))
  have AW_6 := Lib.hid (AW_3.out.below l5 AW_3.out.lt)
  clear AW_3
  clear l5
  have c7_AW_0 := AW_6.out.at 0 (v := .int .i64 z0.w.t) rfl
  have c7_AW_1 := AW_6.out.at 1 (v := .int .i64 z0.w.z) rfl
  have c7_AW_2 := AW_6.out.at 2 (v := .slice p0 z0.w.q.length cap0) rfl
  have c7_AW_3 := AW_6.out.at 3 (v := .int .i64 z0.c) rfl
  have c7_AW_4 := AW_6.out.at 4 (v := .int .i64 z0.u) rfl
  have c7_AW_5 := AW_6.out.at 5 (v := .slice p1 z0.h.length cap1) rfl
  go_wp2_with fail
  refine (HSp.out _ _ _ (rowz_own O_s.out) (rowz_own O_sh.out) (.inr ⟨_, _, _, rfl⟩) (.inr ⟨_, _, rfl⟩)).mono ?_
  rintro e W8 ⟨rfl, l8⟩
  clear c7_AW_0 c7_AW_1 c7_AW_2 c7_AW_3 c7_AW_4 c7_AW_5
  have HB_9 := Lib.hid (HB_6.out.trans (l8.mono HB_6.out.size))
  have s_9 := Lib.hid (ownz_below O_s.out l8 (Nat.le_refl _))
  clear O_s
  have sh_9 := Lib.hid (ownz_below O_sh.out l8 (Nat.le_refl _))
  clear O_sh
  have AW_9 := Lib.hid (AW_6.out.below l8 AW_6.out.lt)
  clear AW_6
  clear l8
  have c10_AW_0 := AW_9.out.at 0 (v := .int .i64 z0.w.t) rfl
  have c10_AW_1 := AW_9.out.at 1 (v := .int .i64 z0.w.z) rfl
  have c10_AW_2 := AW_9.out.at 2 (v := .slice p0 z0.w.q.length cap0) rfl
  have c10_AW_3 := AW_9.out.at 3 (v := .int .i64 z0.c) rfl
  have c10_AW_4 := AW_9.out.at 4 (v := .int .i64 z0.u) rfl
  have c10_AW_5 := AW_9.out.at 5 (v := .slice p1 z0.h.length cap1) rfl
  clear s_9
  clear sh_9
  go_wp2_with fail
  refine (toSo_lit _ _ z0 _ (HR0.out.below HB_9.out (Nat.le_refl _)) (HR1.out.below HB_9.out (Nat.le_refl _)) HN0.out HN1.out).mono ?_
  rintro e W11 ⟨x_x, y_x, rfl, o_x, o_xh, ne_x, l11⟩
  have O_x := Lib.hid (ownz_base o_x HB_9.out.size)
  have BX_AW_x : Hid (∀ k, (.slice (some ⟨x_x, 0, none⟩) z0.w.q.length z0.w.q.length : Value).ownBlock = some k → k ≠ R_AW) := Lib.hid (fun k h1 h2 => absurd AW_9.out.lt (Nat.not_lt.2 (by rw [← h2]; exact (o_x.lt k h1).1)))
  have O_xh := Lib.hid (ownz_base o_xh HB_9.out.size)
  have BX_AW_xh : Hid (∀ k, (.slice (some ⟨y_x, 0, none⟩) z0.h.length z0.h.length : Value).ownBlock = some k → k ≠ R_AW) := Lib.hid (fun k h1 h2 => absurd AW_9.out.lt (Nat.not_lt.2 (by rw [← h2]; exact (o_xh.lt k h1).1)))
  have AP_x_xh : Hid (∀ k, (.slice (some ⟨x_x, 0, none⟩) z0.w.q.length z0.w.q.length : Value).ownBlock = some k → (.slice (some ⟨y_x, 0, none⟩) z0.h.length z0.h.length : Value).ownBlock ≠ some k) := Lib.hid (fun k h1 h2 => ne_x ((Option.some.inj h1).trans (Option.some.inj h2).symm))
  clear o_x o_xh ne_x
  clear c10_AW_0 c10_AW_1 c10_AW_2 c10_AW_3 c10_AW_4 c10_AW_5
  have HB_12 := Lib.hid (HB_9.out.trans (l11.mono HB_9.out.size))
  have AW_12 := Lib.hid (AW_9.out.below l11 AW_9.out.lt)
  clear AW_9
  clear l11
  have c13_AW_0 := AW_12.out.at 0 (v := .int .i64 z0.w.t) rfl
  have c13_AW_1 := AW_12.out.at 1 (v := .int .i64 z0.w.z) rfl
  have c13_AW_2 := AW_12.out.at 2 (v := .slice p0 z0.w.q.length cap0) rfl
  have c13_AW_3 := AW_12.out.at 3 (v := .int .i64 z0.c) rfl
  have c13_AW_4 := AW_12.out.at 4 (v := .int .i64 z0.u) rfl
  have c13_AW_5 := AW_12.out.at 5 (v := .slice p1 z0.h.length cap1) rfl
  go_upto_region 7 with fail
  obtain ⟨W14, hW14⟩ : ∃ W14, W14 = W11.alloc (.cells #[.int .i64 z0.w.t, .int .i64 z0.w.z, .slice (some ⟨x_x, 0, none⟩) z0.w.q.length z0.w.q.length, .int .i64 z0.c, .int .i64 z0.u, .slice (some ⟨y_x, 0, none⟩) z0.h.length z0.h.length] 29) := ⟨_, rfl⟩
  have l14 : Below W11.heap.size W11 W14 := by rw [hW14]; exact (Below.refl _ _).alloc (Nat.le_refl _) _
  have X14_X : Hid (Bx W14 W11.heap.size #[.int .i64 z0.w.t, .int .i64 z0.w.z, .slice (some ⟨x_x, 0, none⟩) z0.w.q.length z0.w.q.length, .int .i64 z0.c, .int .i64 z0.u, .slice (some ⟨y_x, 0, none⟩) z0.h.length z0.h.length] 29) := Lib.hid (by rw [hW14]; exact Bx.new _ _ _)
  rw [← hW14]
  clear hW14
  have BX_X_x : Hid (∀ k, (.slice (some ⟨x_x, 0, none⟩) z0.w.q.length z0.w.q.length : Value).ownBlock = some k → k ≠ W11.heap.size) := Lib.hid (fun k h1 h2 => absurd (O_x.out.lt k h1).2 (by omega))
  have BX_X_xh : Hid (∀ k, (.slice (some ⟨y_x, 0, none⟩) z0.h.length z0.h.length : Value).ownBlock = some k → k ≠ W11.heap.size) := Lib.hid (fun k h1 h2 => absurd (O_xh.out.lt k h1).2 (by omega))
  have HG_X : Hid (w.heap.size ≤ W11.heap.size) := Lib.hid HB_12.out.size
  have HN_X_AW : Hid (R_AW < W11.heap.size) := Lib.hid AW_12.out.lt
  obtain ⟨R_X, hR_X⟩ : ∃ X, X = W11.heap.size := ⟨_, rfl⟩
  rw [← hR_X] at X14_X HG_X BX_X_x BX_X_xh HN_X_AW ⊢
  clear hR_X
  clear c13_AW_0 c13_AW_1 c13_AW_2 c13_AW_3 c13_AW_4 c13_AW_5
  have HB_15 := Lib.hid (HB_12.out.trans (l14.mono HB_12.out.size))
  have x_15 := Lib.hid (ownz_below O_x.out l14 (Nat.le_refl _))
  clear O_x
  have xh_15 := Lib.hid (ownz_below O_xh.out l14 (Nat.le_refl _))
  clear O_xh
  have AW_15 := Lib.hid (AW_12.out.below l14 AW_12.out.lt)
  clear AW_12
  clear l14
  have c16_AW_0 := AW_15.out.at 0 (v := .int .i64 z0.w.t) rfl
  have c16_AW_1 := AW_15.out.at 1 (v := .int .i64 z0.w.z) rfl
  have c16_AW_2 := AW_15.out.at 2 (v := .slice p0 z0.w.q.length cap0) rfl
  have c16_AW_3 := AW_15.out.at 3 (v := .int .i64 z0.c) rfl
  have c16_AW_4 := AW_15.out.at 4 (v := .int .i64 z0.u) rfl
  have c16_AW_5 := AW_15.out.at 5 (v := .slice p1 z0.h.length cap1) rfl
  have c17_X_0 := X14_X.out.at 0 (v := .int .i64 z0.w.t) rfl
  have c17_X_1 := X14_X.out.at 1 (v := .int .i64 z0.w.z) rfl
  have c17_X_2 := X14_X.out.at 2 (v := .slice (some ⟨x_x, 0, none⟩) z0.w.q.length z0.w.q.length) rfl
  have c17_X_3 := X14_X.out.at 3 (v := .int .i64 z0.c) rfl
  have c17_X_4 := X14_X.out.at 4 (v := .int .i64 z0.u) rfl
  have c17_X_5 := X14_X.out.at 5 (v := .slice (some ⟨y_x, 0, none⟩) z0.h.length z0.h.length) rfl
  go_wp2_with fail
  refine (HIm.out _ _ _ (rowz_own x_15.out) (rowz_own xh_15.out) (.inr ⟨_, _, _, rfl⟩) (.inr ⟨_, _, rfl⟩)).mono ?_
  rintro e W18 ⟨rfl, l18⟩
  clear c16_AW_0 c16_AW_1 c16_AW_2 c16_AW_3 c16_AW_4 c16_AW_5
  clear c17_X_0 c17_X_1 c17_X_2 c17_X_3 c17_X_4 c17_X_5
  have HB_19 := Lib.hid (HB_15.out.trans (l18.mono HB_15.out.size))
  have x_19 := Lib.hid (ownz_below x_15.out l18 (Nat.le_refl _))
  clear x_15
  have xh_19 := Lib.hid (ownz_below xh_15.out l18 (Nat.le_refl _))
  clear xh_15
  have AW_19 := Lib.hid (AW_15.out.below l18 AW_15.out.lt)
  clear AW_15
  have X_19 := Lib.hid (X14_X.out.below l18 X14_X.out.lt)
  clear X14_X
  clear l18
  have c20_AW_0 := AW_19.out.at 0 (v := .int .i64 z0.w.t) rfl
  have c20_AW_1 := AW_19.out.at 1 (v := .int .i64 z0.w.z) rfl
  have c20_AW_2 := AW_19.out.at 2 (v := .slice p0 z0.w.q.length cap0) rfl
  have c20_AW_3 := AW_19.out.at 3 (v := .int .i64 z0.c) rfl
  have c20_AW_4 := AW_19.out.at 4 (v := .int .i64 z0.u) rfl
  have c20_AW_5 := AW_19.out.at 5 (v := .slice p1 z0.h.length cap1) rfl
  have c21_X_0 := X_19.out.at 0 (v := .int .i64 z0.w.t) rfl
  have c21_X_1 := X_19.out.at 1 (v := .int .i64 z0.w.z) rfl
  have c21_X_2 := X_19.out.at 2 (v := .slice (some ⟨x_x, 0, none⟩) z0.w.q.length z0.w.q.length) rfl
  have c21_X_3 := X_19.out.at 3 (v := .int .i64 z0.c) rfl
  have c21_X_4 := X_19.out.at 4 (v := .int .i64 z0.u) rfl
  have c21_X_5 := X_19.out.at 5 (v := .slice (some ⟨y_x, 0, none⟩) z0.h.length z0.h.length) rfl
  go_upto_region 10 with fail
  go_cut [39] from 35 to 39 (fun b wx => b = .bool false ∧ Hid (Below W18.heap.size W18 wx))
  case first => as_aux_lemma =>
    have HK1 := Lib.hid (fun (w' : World) (hb : Below W18.heap.size W18 w') => (show w'.cell? ⟨R_X, 0, none⟩ = some (.int .i64 z0.w.t) ∧ w'.cell? ⟨R_X, 1, none⟩ = some (.int .i64 z0.w.z) ∧ w'.cell? ⟨R_X, 2, none⟩ = some (.slice (some ⟨x_x, 0, none⟩) z0.w.q.length z0.w.q.length) ∧ w'.cell? ⟨R_X, 3, none⟩ = some (.int .i64 z0.c) ∧ w'.cell? ⟨R_X, 4, none⟩ = some (.int .i64 z0.u) ∧ w'.cell? ⟨R_X, 5, none⟩ = some (.slice (some ⟨y_x, 0, none⟩) z0.h.length z0.h.length) ∧ w'.cell? ⟨R_AW, 0, none⟩ = some (.int .i64 z0.w.t) ∧ w'.cell? ⟨R_AW, 1, none⟩ = some (.int .i64 z0.w.z) ∧ w'.cell? ⟨R_AW, 2, none⟩ = some (.slice p0 z0.w.q.length cap0) ∧ w'.cell? ⟨R_AW, 3, none⟩ = some (.int .i64 z0.c) ∧ w'.cell? ⟨R_AW, 4, none⟩ = some (.int .i64 z0.u) ∧ w'.cell? ⟨R_AW, 5, none⟩ = some (.slice p1 z0.h.length cap1) ∧ Below w.heap.size w w' from ⟨(hb.cell (p := ⟨R_X, 0, none⟩) X_19.out.lt).trans (X_19.out.at 0 (v := .int .i64 z0.w.t) rfl), (hb.cell (p := ⟨R_X, 1, none⟩) X_19.out.lt).trans (X_19.out.at 1 (v := .int .i64 z0.w.z) rfl), (hb.cell (p := ⟨R_X, 2, none⟩) X_19.out.lt).trans (X_19.out.at 2 (v := .slice (some ⟨x_x, 0, none⟩) z0.w.q.length z0.w.q.length) rfl), (hb.cell (p := ⟨R_X, 3, none⟩) X_19.out.lt).trans (X_19.out.at 3 (v := .int .i64 z0.c) rfl), (hb.cell (p := ⟨R_X, 4, none⟩) X_19.out.lt).trans (X_19.out.at 4 (v := .int .i64 z0.u) rfl), (hb.cell (p := ⟨R_X, 5, none⟩) X_19.out.lt).trans (X_19.out.at 5 (v := .slice (some ⟨y_x, 0, none⟩) z0.h.length z0.h.length) rfl), (hb.cell (p := ⟨R_AW, 0, none⟩) AW_19.out.lt).trans (AW_19.out.at 0 (v := .int .i64 z0.w.t) rfl), (hb.cell (p := ⟨R_AW, 1, none⟩) AW_19.out.lt).trans (AW_19.out.at 1 (v := .int .i64 z0.w.z) rfl), (hb.cell (p := ⟨R_AW, 2, none⟩) AW_19.out.lt).trans (AW_19.out.at 2 (v := .slice p0 z0.w.q.length cap0) rfl), (hb.cell (p := ⟨R_AW, 3, none⟩) AW_19.out.lt).trans (AW_19.out.at 3 (v := .int .i64 z0.c) rfl), (hb.cell (p := ⟨R_AW, 4, none⟩) AW_19.out.lt).trans (AW_19.out.at 4 (v := .int .i64 z0.u) rfl), (hb.cell (p := ⟨R_AW, 5, none⟩) AW_19.out.lt).trans (AW_19.out.at 5 (v := .slice p1 z0.h.length cap1) rfl), HB_19.out.trans (hb.mono HB_19.out.size)⟩))
    go_region_held3 (fun w' => w'.cell? ⟨R_X, 0, none⟩ = some (.int .i64 z0.w.t) ∧ w'.cell? ⟨R_X, 1, none⟩ = some (.int .i64 z0.w.z) ∧ w'.cell? ⟨R_X, 2, none⟩ = some (.slice (some ⟨x_x, 0, none⟩) z0.w.q.length z0.w.q.length) ∧ w'.cell? ⟨R_X, 3, none⟩ = some (.int .i64 z0.c) ∧ w'.cell? ⟨R_X, 4, none⟩ = some (.int .i64 z0.u) ∧ w'.cell? ⟨R_X, 5, none⟩ = some (.slice (some ⟨y_x, 0, none⟩) z0.h.length z0.h.length) ∧ w'.cell? ⟨R_AW, 0, none⟩ = some (.int .i64 z0.w.t) ∧ w'.cell? ⟨R_AW, 1, none⟩ = some (.int .i64 z0.w.z) ∧ w'.cell? ⟨R_AW, 2, none⟩ = some (.slice p0 z0.w.q.length cap0) ∧ w'.cell? ⟨R_AW, 3, none⟩ = some (.int .i64 z0.c) ∧ w'.cell? ⟨R_AW, 4, none⟩ = some (.int .i64 z0.u) ∧ w'.cell? ⟨R_AW, 5, none⟩ = some (.slice p1 z0.h.length cap1) ∧ Below w.heap.size w w')
      ((first | (with_reducible refine HK1.out _ ?_; (repeat (first | with_reducible assumption | with_reducible exact Below.refl _ _ | with_reducible refine Below.drew ?_ | with_reducible refine below_alloc' ?_)); done)))
      (first
        | (go_at_call 35; refine (toSo_lit _ _ z0 _ (HR0.out.below (HB_19.out.trans ((by repeat (first | with_reducible assumption | with_reducible exact Below.refl _ _ | with_reducible refine Below.drew ?_ | with_reducible refine below_alloc' ?_) : Below W18.heap.size W18 _).mono HB_19.out.size)) (Nat.le_refl _)) (HR1.out.below (HB_19.out.trans ((by repeat (first | with_reducible assumption | with_reducible exact Below.refl _ _ | with_reducible refine Below.drew ?_ | with_reducible refine below_alloc' ?_) : Below W18.heap.size W18 _).mono HB_19.out.size)) (Nat.le_refl _)) HN0.out HN1.out).mono ?_; rintro e w5 ⟨g5, g6, rfl, o5, o6, _, l5⟩; have hb5 := below_call7 (by repeat (first | with_reducible assumption | with_reducible exact Below.refl _ _ | with_reducible refine Below.drew ?_ | with_reducible refine below_alloc' ?_) : Below W18.heap.size W18 _) l5; have ho5 := rowz_own o5; have ho6 := rowz_own o6; clear o5 o6 l5)
        | (go_at_call 30; refine (eqSo_same _ _ _ _ z0 _ ((rowz_own x_19.out).below hb5 (Nat.le_refl _)) ((rowz_own xh_19.out).below hb5 (Nat.le_refl _)) ho5 ho6).mono ?_; rintro e w6 ⟨rfl, l6⟩; have hb6 := below_call7 hb5 l6; clear l6))
    all_goals go_wp2_with fail
    all_goals go_meet
    all_goals
      case rel => exact ⟨by simp, Lib.hid (by repeat (first | with_reducible assumption | with_reducible exact Below.refl _ _ | with_reducible refine Below.drew ?_ | with_reducible refine below_alloc' ?_))⟩
  case rest =>
    obtain ⟨rfl, HCut⟩ := hcut
    rename World => W22
    have l22 := HCut.out
    clear HCut
    clear c20_AW_0 c20_AW_1 c20_AW_2 c20_AW_3 c20_AW_4 c20_AW_5
    clear c21_X_0 c21_X_1 c21_X_2 c21_X_3 c21_X_4 c21_X_5
    have HB_23 := Lib.hid (HB_19.out.trans (l22.mono HB_19.out.size))
    have x_23 := Lib.hid (ownz_below x_19.out l22 (Nat.le_refl _))
    clear x_19
    have xh_23 := Lib.hid (ownz_below xh_19.out l22 (Nat.le_refl _))
    clear xh_19
    have AW_23 := Lib.hid (AW_19.out.below l22 AW_19.out.lt)
    clear AW_19
    have X_23 := Lib.hid (X_19.out.below l22 X_19.out.lt)
    clear X_19
    clear l22
    have c24_AW_0 := AW_23.out.at 0 (v := .int .i64 z0.w.t) rfl
    have c24_AW_1 := AW_23.out.at 1 (v := .int .i64 z0.w.z) rfl
    have c24_AW_2 := AW_23.out.at 2 (v := .slice p0 z0.w.q.length cap0) rfl
    have c24_AW_3 := AW_23.out.at 3 (v := .int .i64 z0.c) rfl
    have c24_AW_4 := AW_23.out.at 4 (v := .int .i64 z0.u) rfl
    have c24_AW_5 := AW_23.out.at 5 (v := .slice p1 z0.h.length cap1) rfl
    have c25_X_0 := X_23.out.at 0 (v := .int .i64 z0.w.t) rfl
    have c25_X_1 := X_23.out.at 1 (v := .int .i64 z0.w.z) rfl
    have c25_X_2 := X_23.out.at 2 (v := .slice (some ⟨x_x, 0, none⟩) z0.w.q.length z0.w.q.length) rfl
    have c25_X_3 := X_23.out.at 3 (v := .int .i64 z0.c) rfl
    have c25_X_4 := X_23.out.at 4 (v := .int .i64 z0.u) rfl
    have c25_X_5 := X_23.out.at 5 (v := .slice (some ⟨y_x, 0, none⟩) z0.h.length z0.h.length) rfl
    go_wp2_with fail
    go_ret
    exact ⟨rfl, HB_23.out⟩
theorem fnExactTicksToStatus_walk (w : World) (a0_0 : Int) (w0_0 : (Lit.int .i64 a0_0).wf = true) (a0_1 : Int) (w0_1 : (Lit.int .i64 a0_1).wf = true) (v0_2 : Value) (s0_2 : List ByteArray) (w0_2 : Row w v0_2 s0_2.length (s0_2.map Value.string)) (b0_2 : ∀ s ∈ s0_2, s.size ≤ maxLen) (a0_3 : Int) (w0_3 : (Lit.int .i64 a0_3).wf = true) (a0_4 : Int) (w0_4 : (Lit.int .i64 a0_4).wf = true) (v0_5 : Value) (z0_5 : List Hd) (w0_5 : Row w v0_5 z0_5.length (hdF z0_5)) (b0_5 : ∀ r ∈ z0_5, (Lit.int .i64 r.n).wf = true ∧ (Lit.int .i64 r.u).wf = true) (_hsh : w.ShapedOpen Try.prog) :
    Calls Try.prog 10 #[.agg #[.int .i64 a0_0, .int .i64 a0_1, v0_2, .int .i64 a0_3, .int .i64 a0_4, v0_5]] w fun e w' => e = .returned (.bool true) ∧ Below w.heap.size w w' :=
  fnExactTicksToStatus_wk v0_2 v0_5 ⟨⟨a0_0, a0_1, s0_2⟩, a0_3, a0_4, z0_5⟩ w w0_2 w0_5 b0_2
end Go.Proofs.Ytlendmiolhgecaa
