/-
  The exact law of windows' texts.
-/
import Derived.Test.YtpmjdppipalfcaaDoorRcvTI
import Derived.Test.YtpmjdppipalfcaaDoorRcvS
import Derived.Test.YtpmjdppipalfcaaDoorSltW
import Derived.WalkLawsBesides
import Derived.Deep.RegionHeld3
import Derived.Deep.CutRange
namespace Go.Proofs.YtpmjdppipalfcaaDoor
open Go.RowKit Go.Lib Go.Joins
set_option linter.unusedVariables false

set_option maxRecDepth 100000 in
set_option maxHeartbeats 8000000 in
theorem fnExactSlotsText_wk (v0 : Value) (z0 : Rw) (w : World) (w0 : Row w v0 z0.q.length (slF z0.q)) (b0 : ∀ s ∈ z0.q, s.s.size ≤ maxLen) (hTab : Tab w) :
    Calls Tryd.prog 4 #[.agg #[.int .i64 z0.x, v0]] w fun e w' => e = .returned (.bool true) ∧ Below w.heap.size w w' := by
  obtain ⟨p0, cap0, rfl, hc10, hc20, _⟩ := sl_open w0
  unfold maxLen at hc20
  have HR0 := Lib.hid w0
  have HSz := Lib.hid (fun (W : World) (hr : Row W (.slice p0 z0.q.length cap0) z0.q.length (slF z0.q)) => szRw_any (.slice p0 z0.q.length cap0) z0 W hr b0 1048576 (by omega))
  have HSm := Lib.hid b0
  clear w0 b0
  have HTab_ := Lib.hid hTab
  clear hTab
  obtain ⟨W0, R_AW, hW0, hR_AW, hX_AW, hB0⟩ := entry1 w #[.int .i64 z0.x, .slice p0 z0.q.length cap0] 53
  have HW0 := Lib.hid hW0
  have HB0 := Lib.hid hB0
  have HR_AW := Lib.hid hR_AW
  have HX_AW := Lib.hid hX_AW
  clear hW0 hB0 hR_AW hX_AW
  have c1_AW_0 := HX_AW.out.at 0 (v := .int .i64 z0.x) rfl
  have c1_AW_1 := HX_AW.out.at 1 (v := .slice p0 z0.q.length cap0) rfl
  go_enter Tryd.func4, Tryd.ntmps4
  go_upto_region 1 with fail
  rw [← HW0.out, ← HR_AW.out]
  go_wp2_with fail
  refine (HSz.out _ (HR0.out.below HB0.out (Nat.le_refl _))).mono ?_
  rintro e W2 ⟨l2, r0, rfl, hr1, hr0⟩
  clear c1_AW_0 c1_AW_1
  have HB_3 := Lib.hid (HB0.out.trans (l2.mono HB0.out.size))
  have AW_3 := Lib.hid (HX_AW.out.below l2 HX_AW.out.lt)
  clear l2
  have c4_AW_0 := AW_3.out.at 0 (v := .int .i64 z0.x) rfl
  have c4_AW_1 := AW_3.out.at 1 (v := .slice p0 z0.q.length cap0) rfl
  by_cases hneg : r0 < 0
  · clear hr0
    go_wp2_with fail
    go_ret
    exact ⟨rfl, HB_3.out⟩
  obtain ⟨hm0, hr00⟩ := hr0.resolve_left hneg
  have HN0 := Lib.hid hm0
  clear hr0 HSz
  have HSp := Lib.hid (fun (v : Value) (W : World) (hr : Row W v z0.q.length (slF z0.q)) (hf : FitA v z0.q.length) => specSlots_any v z0 W hr HSm.out)
  have HIm := Lib.hid (fun (v : Value) (W : World) (hr : Row W v z0.q.length (slF z0.q)) (hf : FitA v z0.q.length) (xTab : Tab W) => implSlots_any v z0 W hr HSm.out xTab)
  generalize stV z0 = r0_ at HSp HIm
  generalize rwOk z0 = r1_ at HSp HIm
  clear hm0
  obtain ⟨kx, hkx⟩ : ∃ kx : Nat, 1 + 2 * z0.q.length = kx := ⟨_, rfl⟩
  have hkx0 : ¬ ((kx : Nat) : Int) < 0 := by omega
  have HKx := Lib.hid hkx
  clear hkx
  go_wp2_with fail
  refine (toRw_lit _ z0 _ (HR0.out.below HB_3.out (Nat.le_refl _)) HN0.out).mono ?_
  rintro e W5 ⟨g_s, rfl, o_s, l5⟩
  have O_s := Lib.hid (ownz_base o_s HB_3.out.size)
  have BX_AW_s : Hid (∀ k, (.slice (some ⟨g_s, 0, none⟩) z0.q.length z0.q.length : Value).ownBlock = some k → k ≠ R_AW) := Lib.hid (fun k h1 h2 => absurd AW_3.out.lt (Nat.not_lt.2 (by rw [← h2]; exact (o_s.lt k h1).1)))
  clear o_s
  clear c4_AW_0 c4_AW_1
  have HB_6 := Lib.hid (HB_3.out.trans (l5.mono HB_3.out.size))
  have AW_6 := Lib.hid (AW_3.out.below l5 AW_3.out.lt)
  clear AW_3
  clear l5
  have c7_AW_0 := AW_6.out.at 0 (v := .int .i64 z0.x) rfl
  have c7_AW_1 := AW_6.out.at 1 (v := .slice p0 z0.q.length cap0) rfl
  go_wp2_with fail
  refine (HSp.out _ _ (rowz_own O_s.out) (.inr ⟨_, _, _, rfl⟩)).mono ?_
  rintro e W8 ⟨rfl, l8⟩
  clear c7_AW_0 c7_AW_1
  have HB_9 := Lib.hid (HB_6.out.trans (l8.mono HB_6.out.size))
  have s_9 := Lib.hid (ownz_below O_s.out l8 (Nat.le_refl _))
  clear O_s
  have AW_9 := Lib.hid (AW_6.out.below l8 AW_6.out.lt)
  clear AW_6
  clear l8
  have c10_AW_0 := AW_9.out.at 0 (v := .int .i64 z0.x) rfl
  have c10_AW_1 := AW_9.out.at 1 (v := .slice p0 z0.q.length cap0) rfl
  clear s_9
  go_wp2_with fail
  refine (toRw_lit _ z0 _ (HR0.out.below HB_9.out (Nat.le_refl _)) HN0.out).mono ?_
  rintro e W11 ⟨g_x, rfl, o_x, l11⟩
  have O_x := Lib.hid (ownz_base o_x HB_9.out.size)
  have BX_AW_x : Hid (∀ k, (.slice (some ⟨g_x, 0, none⟩) z0.q.length z0.q.length : Value).ownBlock = some k → k ≠ R_AW) := Lib.hid (fun k h1 h2 => absurd AW_9.out.lt (Nat.not_lt.2 (by rw [← h2]; exact (o_x.lt k h1).1)))
  clear o_x
  clear c10_AW_0 c10_AW_1
  have HB_12 := Lib.hid (HB_9.out.trans (l11.mono HB_9.out.size))
  have AW_12 := Lib.hid (AW_9.out.below l11 AW_9.out.lt)
  clear AW_9
  clear l11
  have c13_AW_0 := AW_12.out.at 0 (v := .int .i64 z0.x) rfl
  have c13_AW_1 := AW_12.out.at 1 (v := .slice p0 z0.q.length cap0) rfl
  go_upto_region 7 with fail
  obtain ⟨W14, hW14⟩ : ∃ W14, W14 = W11.alloc (.cells #[.int .i64 z0.x, .slice (some ⟨g_x, 0, none⟩) z0.q.length z0.q.length] 26) := ⟨_, rfl⟩
  have l14 : Below W11.heap.size W11 W14 := by rw [hW14]; exact (Below.refl _ _).alloc (Nat.le_refl _) _
  have X14_X : Hid (Bx W14 W11.heap.size #[.int .i64 z0.x, .slice (some ⟨g_x, 0, none⟩) z0.q.length z0.q.length] 26) := Lib.hid (by rw [hW14]; exact Bx.new _ _ _)
  rw [← hW14]
  clear hW14
  have BX_X_x : Hid (∀ k, (.slice (some ⟨g_x, 0, none⟩) z0.q.length z0.q.length : Value).ownBlock = some k → k ≠ W11.heap.size) := Lib.hid (fun k h1 h2 => absurd (O_x.out.lt k h1).2 (by omega))
  have HG_X : Hid (w.heap.size ≤ W11.heap.size) := Lib.hid HB_12.out.size
  have HN_X_AW : Hid (R_AW < W11.heap.size) := Lib.hid AW_12.out.lt
  obtain ⟨R_X, hR_X⟩ : ∃ X, X = W11.heap.size := ⟨_, rfl⟩
  rw [← hR_X] at X14_X HG_X BX_X_x HN_X_AW ⊢
  clear hR_X
  clear c13_AW_0 c13_AW_1
  have HB_15 := Lib.hid (HB_12.out.trans (l14.mono HB_12.out.size))
  have x_15 := Lib.hid (ownz_below O_x.out l14 (Nat.le_refl _))
  clear O_x
  have AW_15 := Lib.hid (AW_12.out.below l14 AW_12.out.lt)
  clear AW_12
  clear l14
  have c16_AW_0 := AW_15.out.at 0 (v := .int .i64 z0.x) rfl
  have c16_AW_1 := AW_15.out.at 1 (v := .slice p0 z0.q.length cap0) rfl
  have c17_X_0 := X14_X.out.at 0 (v := .int .i64 z0.x) rfl
  have c17_X_1 := X14_X.out.at 1 (v := .slice (some ⟨g_x, 0, none⟩) z0.q.length z0.q.length) rfl
  go_wp2_with fail
  refine (HIm.out _ _ (rowz_own x_15.out) (.inr ⟨_, _, _, rfl⟩) (HTab_.out.below HB_15.out)).mono ?_
  rintro e W18 ⟨rfl, l18⟩
  clear c16_AW_0 c16_AW_1
  clear c17_X_0 c17_X_1
  have HB_19 := Lib.hid (HB_15.out.trans (l18.mono HB_15.out.size))
  have x_19 := Lib.hid (ownz_below x_15.out l18 (Nat.le_refl _))
  clear x_15
  have AW_19 := Lib.hid (AW_15.out.below l18 AW_15.out.lt)
  clear AW_15
  have X_19 := Lib.hid (X14_X.out.below l18 X14_X.out.lt)
  clear X14_X
  clear l18
  have c20_AW_0 := AW_19.out.at 0 (v := .int .i64 z0.x) rfl
  have c20_AW_1 := AW_19.out.at 1 (v := .slice p0 z0.q.length cap0) rfl
  have c21_X_0 := X_19.out.at 0 (v := .int .i64 z0.x) rfl
  have c21_X_1 := X_19.out.at 1 (v := .slice (some ⟨g_x, 0, none⟩) z0.q.length z0.q.length) rfl
  go_upto_region 10 with fail
  go_cut [39] from 35 to 39 (fun b wx => b = .bool false ∧ Hid (Below W18.heap.size W18 wx))
  case first => as_aux_lemma =>
    have HK1 := Lib.hid (fun (w' : World) (hb : Below W18.heap.size W18 w') => (show w'.cell? ⟨R_X, 0, none⟩ = some (.int .i64 z0.x) ∧ w'.cell? ⟨R_X, 1, none⟩ = some (.slice (some ⟨g_x, 0, none⟩) z0.q.length z0.q.length) ∧ w'.cell? ⟨R_AW, 0, none⟩ = some (.int .i64 z0.x) ∧ w'.cell? ⟨R_AW, 1, none⟩ = some (.slice p0 z0.q.length cap0) ∧ Below w.heap.size w w' from ⟨(hb.cell (p := ⟨R_X, 0, none⟩) X_19.out.lt).trans (X_19.out.at 0 (v := .int .i64 z0.x) rfl), (hb.cell (p := ⟨R_X, 1, none⟩) X_19.out.lt).trans (X_19.out.at 1 (v := .slice (some ⟨g_x, 0, none⟩) z0.q.length z0.q.length) rfl), (hb.cell (p := ⟨R_AW, 0, none⟩) AW_19.out.lt).trans (AW_19.out.at 0 (v := .int .i64 z0.x) rfl), (hb.cell (p := ⟨R_AW, 1, none⟩) AW_19.out.lt).trans (AW_19.out.at 1 (v := .slice p0 z0.q.length cap0) rfl), HB_19.out.trans (hb.mono HB_19.out.size)⟩))
    go_region_held3 (fun w' => w'.cell? ⟨R_X, 0, none⟩ = some (.int .i64 z0.x) ∧ w'.cell? ⟨R_X, 1, none⟩ = some (.slice (some ⟨g_x, 0, none⟩) z0.q.length z0.q.length) ∧ w'.cell? ⟨R_AW, 0, none⟩ = some (.int .i64 z0.x) ∧ w'.cell? ⟨R_AW, 1, none⟩ = some (.slice p0 z0.q.length cap0) ∧ Below w.heap.size w w')
      ((first | (with_reducible refine HK1.out _ ?_; (repeat (first | with_reducible assumption | with_reducible exact Below.refl _ _ | with_reducible refine Below.drew ?_ | with_reducible refine below_alloc' ?_)); done)))
      (first
        | (go_at_call 26; refine (toRw_lit _ z0 _ (HR0.out.below (HB_19.out.trans ((by repeat (first | with_reducible assumption | with_reducible exact Below.refl _ _ | with_reducible refine Below.drew ?_ | with_reducible refine below_alloc' ?_) : Below W18.heap.size W18 _).mono HB_19.out.size)) (Nat.le_refl _)) HN0.out).mono ?_; rintro e w5 ⟨g5, rfl, o5, l5⟩; have hb5 := below_call7 (by repeat (first | with_reducible assumption | with_reducible exact Below.refl _ _ | with_reducible refine Below.drew ?_ | with_reducible refine below_alloc' ?_) : Below W18.heap.size W18 _) l5; have ho5 := rowz_own o5; clear o5 l5)
        | (go_at_call 27; refine (eqRw_same _ _ z0 _ ((rowz_own x_19.out).below hb5 (Nat.le_refl _)) ho5).mono ?_; rintro e w6 ⟨rfl, l6⟩; have hb6 := below_call7 hb5 l6; clear l6))
    all_goals go_wp2_with fail
    all_goals go_meet
    all_goals
      case rel => exact ⟨by simp, Lib.hid (by repeat (first | with_reducible assumption | with_reducible exact Below.refl _ _ | with_reducible refine Below.drew ?_ | with_reducible refine below_alloc' ?_))⟩
  case rest =>
    obtain ⟨rfl, HCut⟩ := hcut
    rename World => W22
    have l22 := HCut.out
    clear HCut
    clear c20_AW_0 c20_AW_1
    clear c21_X_0 c21_X_1
    have HB_23 := Lib.hid (HB_19.out.trans (l22.mono HB_19.out.size))
    have x_23 := Lib.hid (ownz_below x_19.out l22 (Nat.le_refl _))
    clear x_19
    have AW_23 := Lib.hid (AW_19.out.below l22 AW_19.out.lt)
    clear AW_19
    have X_23 := Lib.hid (X_19.out.below l22 X_19.out.lt)
    clear X_19
    clear l22
    have c24_AW_0 := AW_23.out.at 0 (v := .int .i64 z0.x) rfl
    have c24_AW_1 := AW_23.out.at 1 (v := .slice p0 z0.q.length cap0) rfl
    have c25_X_0 := X_23.out.at 0 (v := .int .i64 z0.x) rfl
    have c25_X_1 := X_23.out.at 1 (v := .slice (some ⟨g_x, 0, none⟩) z0.q.length z0.q.length) rfl
    go_wp2_with fail
    go_ret
    exact ⟨rfl, HB_23.out⟩
theorem fnExactSlotsText_walk (w : World) (a0_0 : Int) (w0_0 : (Lit.int .i64 a0_0).wf = true) (v0_1 : Value) (z0_1 : List Sl) (w0_1 : Row w v0_1 z0_1.length (slF z0_1)) (b0_1 : ∀ r ∈ z0_1, r.s.size ≤ maxLen) (_hsh : w.ShapedOpen Tryd.prog) (hL : laidMetH Tryd.prog Rows.fnExactSlotsTextRow.laid w) :
    Calls Tryd.prog 4 #[.agg #[.int .i64 a0_0, v0_1]] w fun e w' => e = .returned (.bool true) ∧ Below w.heap.size w w' :=
  fnExactSlotsText_wk v0_1 ⟨a0_0, z0_1⟩ w w0_1 b0_1 (tab_of_laid hL rfl (by simp [Rows.fnExactSlotsTextRow]))
end Go.Proofs.YtpmjdppipalfcaaDoor
