/-
  The exact law of AddLeaf.
-/
import Derived.Test.YtejdphfcogfcmaaTreeI4
import Derived.Test.YtejdphfcogfcmaaExTreeB
import Derived.Test.YtejdphfcogfcmaaTree8
import Derived.WalkLawsBesides
import Derived.Deep.RegionHeld3
import Derived.Deep.CutRange
namespace Go.Proofs.Ytejdphfcogfcmaa
open Go.RowKit Go.Lib Go.Joins
set_option linter.unusedVariables false

set_option maxRecDepth 100000 in
set_option maxHeartbeats 4000000 in
theorem fnExactAddLeaf_walk (w : World) (v0 : Value) (z0 : List Int) (w0 : Row w v0 z0.length (z0.map (Value.int .i64))) (b0 : ∀ z ∈ z0, (Lit.int .i64 z).wf = true) (a1 : Int) (w1 : (Lit.int .i64 a1).wf = true) (_hsh : w.ShapedOpen Try.prog) :
    Calls Try.prog 11 #[.agg #[v0], .int .i64 a1] w fun e w' => e = .returned (.bool true) ∧ Below w.heap.size w w' := by
  obtain ⟨p0, cap0, rfl, hc10, hc20, _⟩ := row_open w0
  unfold maxLen at hc20
  obtain ⟨W0, hW0⟩ : ∃ W0, W0 = w.alloc (.cells #[.slice p0 z0.length cap0] 37) := ⟨_, rfl⟩
  have HA0 : Hid (Bx W0 w.heap.size (.slice p0 z0.length cap0) 37) := Lib.hid (by rw [hW0]; exact Bx.new w _ _)
  have HB0 : Hid (Below w.heap.size w W0) := Lib.hid (by rw [hW0]; exact (Below.refl w.heap.size w).alloc (Nat.le_refl _) _)
  have HW0 := Lib.hid hW0
  clear hW0
  obtain ⟨R0, hR0⟩ : ∃ R0, R0 = w.heap.size := ⟨_, rfl⟩
  rw [← hR0] at HA0
  have HQ0 := Lib.hid hR0
  clear hR0
  have hca := HA0.out.cell
  by_cases hn0 : (z0.length : Int) ≤ 1048576
  rotate_left
  · have HN0 := Lib.hid (fun (W : World) => szT_no p0 z0.length cap0 (1048576) W (by omega) (by omega) (by omega) (by unfold maxLen; omega))
    go_enter Try.func11, Try.ntmps11
    go_upto_region 1 with fail
    rw [← HW0.out, ← HQ0.out]
    go_wp2_with fail
    refine (HN0.out _).mono ?_
    rintro e W1 ⟨rfl, l1⟩
    have HB1 := Lib.hid (HB0.out.trans (l1.mono HB0.out.size))
    clear l1
    go_wp2_with fail
    go_ret
    exact ⟨rfl, HB1.out⟩
  have HY0 := Lib.hid (fun (W : World) => szT_yes p0 z0.length cap0 (1048576) W (by omega) (by omega))
  have hl0 : ¬ ((1048576) - (z0.length : Int) < 0) := by omega
  have hm0 : z0.length ≤ 1048576 := by omega
  have HR0 := Lib.hid w0
  have HN0 := Lib.hid hm0
  clear w0 b0
  have HSp := Lib.hid (fun (g0 : Nat) (W : World) (h0 : Row W (.slice (some ⟨g0, 0, none⟩) z0.length z0.length) z0.length (z0.map (Value.int .i64))) => specLeaf_any (.slice (some ⟨g0, 0, none⟩) z0.length z0.length) z0 a1 W h0)
  have HIm := Lib.hid (fun (g0 : Nat) (W : World) (h0 : Row W (.slice (some ⟨g0, 0, none⟩) z0.length z0.length) z0.length (z0.map (Value.int .i64))) => implLeaf_any (.slice (some ⟨g0, 0, none⟩) z0.length z0.length) z0 a1 W h0)
  have hlen0 := leafL_len8 z0 a1 hm0
  generalize leafL z0 a1 = ps0 at HSp HIm hlen0
  have HL0 := Lib.hid hlen0
  clear hlen0
  generalize leafN z0 a1 = r0 at HSp HIm
  generalize leafOk z0 a1 = r1 at HSp HIm
  have HT := Lib.hid (show ((1 : Int)) = ((1 : Nat) : Int) from rfl)
  go_enter Try.func11, Try.ntmps11
  go_upto_region 1 with fail
  rw [← HW0.out, ← HQ0.out]
  go_wp2_with fail
  refine (HY0.out _).mono ?_
  rintro e W1 ⟨rfl, l1⟩
  have HB_2 := Lib.hid (HB0.out.trans (l1.mono HB0.out.size))
  have A_2 := Lib.hid (HA0.out.below l1 HA0.out.lt)
  clear HA0
  clear HB0
  clear hca
  have hc_A_3 := A_2.out.cell
  clear l1
  go_wp2_with fail
  refine (toTree_lit _ z0 _ (HR0.out.below HB_2.out (Nat.le_refl _)) HN0.out).mono ?_
  rintro e W4 ⟨g_s0, rfl, o_s0, l4⟩
  have bx_A_s0 : ∀ k, (.slice (some ⟨g_s0, 0, none⟩) z0.length z0.length : Value).ownBlock = some k → k ≠ R0 := fun k h1 h2 => absurd A_2.out.lt (Nat.not_lt.2 (by rw [← h2]; exact (o_s0.lt k h1).1))
  have O_s0 := Lib.hid (own_base o_s0 (HB_2.out.size))
  have HB_5 := Lib.hid (HB_2.out.trans (l4.mono HB_2.out.size))
  have A_5 := Lib.hid (A_2.out.below l4 A_2.out.lt)
  clear A_2
  clear HB_2
  clear hc_A_3
  have hc_A_6 := A_5.out.cell
  clear o_s0 l4
  go_wp2_with fail
  refine (HSp.out g_s0 _ (row_own O_s0.out)).mono ?_
  rintro e W7 ⟨vw0, rfl, o_vw0, l7⟩
  obtain ⟨a_vw0, c_vw0, rfl, _, _⟩ := own_some_e o_vw0
  have ap_s0_vw0 : ∀ k, (.slice (some ⟨g_s0, 0, none⟩) z0.length z0.length : Value).ownBlock = some k → (.slice a_vw0 ps0.length c_vw0 : Value).ownBlock ≠ some k := fun k h1 h2 => absurd (O_s0.out.lt k h1).2 (Nat.not_lt.2 (o_vw0.lt k h2).1)
  have bx_A_vw0 : ∀ k, (.slice a_vw0 ps0.length c_vw0 : Value).ownBlock = some k → k ≠ R0 := fun k h1 h2 => absurd A_5.out.lt (Nat.not_lt.2 (by rw [← h2]; exact (o_vw0.lt k h1).1))
  have O_vw0 := Lib.hid (own_base o_vw0 (HB_5.out.size))
  have HB_8 := Lib.hid (HB_5.out.trans (l7.mono HB_5.out.size))
  have s0_8 := Lib.hid (own_below O_s0.out l7 (Nat.le_refl _))
  clear O_s0
  have A_8 := Lib.hid (A_5.out.below l7 A_5.out.lt)
  clear A_5
  clear HB_5
  clear hc_A_6
  have hc_A_9 := A_8.out.cell
  clear l7 o_vw0
  clear s0_8
  go_upto_region 6 with fail
  obtain ⟨W10, hW10⟩ : ∃ W10, W10 = W7.alloc (.cells #[.slice a_vw0 ps0.length c_vw0] 26) := ⟨_, rfl⟩
  have l10 : Below W7.heap.size W7 W10 := by rw [hW10]; exact (Below.refl _ _).alloc (Nat.le_refl _) _
  have bw_b10 : Hid (Bx W10 W7.heap.size (.slice a_vw0 ps0.length c_vw0) 26) := Lib.hid (by rw [hW10]; exact Bx.new _ _ _)
  rw [← hW10]
  clear hW10
  have bx_bw_vw0 : ∀ k, (.slice a_vw0 ps0.length c_vw0 : Value).ownBlock = some k → k ≠ W7.heap.size := fun k h1 h2 => absurd (O_vw0.out.lt k h1).2 (by omega)
  obtain ⟨X_bw, hX_bw⟩ : ∃ X, X = W7.heap.size := ⟨_, rfl⟩
  rw [← hX_bw] at bw_b10 bx_bw_vw0 ⊢
  clear hX_bw
  have HB_11 := Lib.hid (HB_8.out.trans (l10.mono HB_8.out.size))
  have vw0_11 := Lib.hid (own_below O_vw0.out l10 (Nat.le_refl _))
  clear O_vw0
  have A_11 := Lib.hid (A_8.out.below l10 A_8.out.lt)
  clear A_8
  clear HB_8
  clear hc_A_9
  have hc_A_12 := A_11.out.cell
  clear l10
  clear hc_A_12
  have hc_A_13 := A_11.out.cell
  have hc_bw_14 := bw_b10.out.cell
  go_wp2_with fail
  refine (toTree_lit _ z0 _ (HR0.out.below HB_11.out (Nat.le_refl _)) HN0.out).mono ?_
  rintro e W15 ⟨g_x0, rfl, o_x0, l15⟩
  have ap_vw0_x0 : ∀ k, (.slice a_vw0 ps0.length c_vw0 : Value).ownBlock = some k → (.slice (some ⟨g_x0, 0, none⟩) z0.length z0.length : Value).ownBlock ≠ some k := fun k h1 h2 => absurd (vw0_11.out.lt k h1).2 (Nat.not_lt.2 (o_x0.lt k h2).1)
  have bx_A_x0 : ∀ k, (.slice (some ⟨g_x0, 0, none⟩) z0.length z0.length : Value).ownBlock = some k → k ≠ R0 := fun k h1 h2 => absurd A_11.out.lt (Nat.not_lt.2 (by rw [← h2]; exact (o_x0.lt k h1).1))
  have bx_bw_x0 : ∀ k, (.slice (some ⟨g_x0, 0, none⟩) z0.length z0.length : Value).ownBlock = some k → k ≠ X_bw := fun k h1 h2 => absurd bw_b10.out.lt (Nat.not_lt.2 (by rw [← h2]; exact (o_x0.lt k h1).1))
  have O_x0 := Lib.hid (own_base o_x0 (HB_11.out.size))
  have HB_16 := Lib.hid (HB_11.out.trans (l15.mono HB_11.out.size))
  have vw0_16 := Lib.hid (own_below vw0_11.out l15 (Nat.le_refl _))
  clear vw0_11
  have A_16 := Lib.hid (A_11.out.below l15 A_11.out.lt)
  clear A_11
  have bw_16 := Lib.hid (bw_b10.out.below l15 bw_b10.out.lt)
  clear bw_b10
  clear HB_11
  clear hc_A_13
  have hc_A_17 := A_16.out.cell
  clear hc_bw_14
  have hc_bw_18 := bw_16.out.cell
  clear o_x0 l15
  go_upto_region 7 with fail
  obtain ⟨W19, hW19⟩ : ∃ W19, W19 = W15.alloc (.cells #[.slice (some ⟨g_x0, 0, none⟩) z0.length z0.length] 26) := ⟨_, rfl⟩
  have l19 : Below W15.heap.size W15 W19 := by rw [hW19]; exact (Below.refl _ _).alloc (Nat.le_refl _) _
  have bx_b19 : Hid (Bx W19 W15.heap.size (.slice (some ⟨g_x0, 0, none⟩) z0.length z0.length) 26) := Lib.hid (by rw [hW19]; exact Bx.new _ _ _)
  rw [← hW19]
  clear hW19
  have bx_bx_vw0 : ∀ k, (.slice a_vw0 ps0.length c_vw0 : Value).ownBlock = some k → k ≠ W15.heap.size := fun k h1 h2 => absurd (vw0_16.out.lt k h1).2 (by omega)
  have bx_bx_x0 : ∀ k, (.slice (some ⟨g_x0, 0, none⟩) z0.length z0.length : Value).ownBlock = some k → k ≠ W15.heap.size := fun k h1 h2 => absurd (O_x0.out.lt k h1).2 (by omega)
  obtain ⟨X_bx, hX_bx⟩ : ∃ X, X = W15.heap.size := ⟨_, rfl⟩
  rw [← hX_bx] at bx_b19 bx_bx_vw0 bx_bx_x0 ⊢
  clear hX_bx
  have HB_20 := Lib.hid (HB_16.out.trans (l19.mono HB_16.out.size))
  have vw0_20 := Lib.hid (own_below vw0_16.out l19 (Nat.le_refl _))
  clear vw0_16
  have x0_20 := Lib.hid (own_below O_x0.out l19 (Nat.le_refl _))
  clear O_x0
  have A_20 := Lib.hid (A_16.out.below l19 A_16.out.lt)
  clear A_16
  have bw_20 := Lib.hid (bw_16.out.below l19 bw_16.out.lt)
  clear bw_16
  clear HB_16
  clear hc_A_17
  have hc_A_21 := A_20.out.cell
  clear hc_bw_18
  have hc_bw_22 := bw_20.out.cell
  clear l19
  clear hc_A_21
  have hc_A_23 := A_20.out.cell
  clear hc_bw_22
  have hc_bw_24 := bw_20.out.cell
  have hc_bx_25 := bx_b19.out.cell
  go_wp2_with fail
  refine (HIm.out g_x0 _ (row_own x0_20.out)).mono ?_
  rintro e W26 ⟨vg0, rfl, o_vg0, l26⟩
  obtain ⟨a_vg0, c_vg0, rfl, _, _⟩ := own_some_e o_vg0
  have ap_vw0_vg0 : ∀ k, (.slice a_vw0 ps0.length c_vw0 : Value).ownBlock = some k → (.slice a_vg0 ps0.length c_vg0 : Value).ownBlock ≠ some k := fun k h1 h2 => absurd (vw0_20.out.lt k h1).2 (Nat.not_lt.2 (o_vg0.lt k h2).1)
  have ap_x0_vg0 : ∀ k, (.slice (some ⟨g_x0, 0, none⟩) z0.length z0.length : Value).ownBlock = some k → (.slice a_vg0 ps0.length c_vg0 : Value).ownBlock ≠ some k := fun k h1 h2 => absurd (x0_20.out.lt k h1).2 (Nat.not_lt.2 (o_vg0.lt k h2).1)
  have bx_A_vg0 : ∀ k, (.slice a_vg0 ps0.length c_vg0 : Value).ownBlock = some k → k ≠ R0 := fun k h1 h2 => absurd A_20.out.lt (Nat.not_lt.2 (by rw [← h2]; exact (o_vg0.lt k h1).1))
  have bx_bw_vg0 : ∀ k, (.slice a_vg0 ps0.length c_vg0 : Value).ownBlock = some k → k ≠ X_bw := fun k h1 h2 => absurd bw_20.out.lt (Nat.not_lt.2 (by rw [← h2]; exact (o_vg0.lt k h1).1))
  have bx_bx_vg0 : ∀ k, (.slice a_vg0 ps0.length c_vg0 : Value).ownBlock = some k → k ≠ X_bx := fun k h1 h2 => absurd bx_b19.out.lt (Nat.not_lt.2 (by rw [← h2]; exact (o_vg0.lt k h1).1))
  have O_vg0 := Lib.hid (own_base o_vg0 (HB_20.out.size))
  have HB_27 := Lib.hid (HB_20.out.trans (l26.mono HB_20.out.size))
  have vw0_27 := Lib.hid (own_below vw0_20.out l26 (Nat.le_refl _))
  clear vw0_20
  have x0_27 := Lib.hid (own_below x0_20.out l26 (Nat.le_refl _))
  clear x0_20
  have A_27 := Lib.hid (A_20.out.below l26 A_20.out.lt)
  clear A_20
  have bw_27 := Lib.hid (bw_20.out.below l26 bw_20.out.lt)
  clear bw_20
  have bx_27 := Lib.hid (bx_b19.out.below l26 bx_b19.out.lt)
  clear bx_b19
  clear HB_20
  clear hc_A_23
  have hc_A_28 := A_27.out.cell
  clear hc_bw_24
  have hc_bw_29 := bw_27.out.cell
  clear hc_bx_25
  have hc_bx_30 := bx_27.out.cell
  clear l26 o_vg0
  go_upto_region 8 with fail
  obtain ⟨W31, hW31⟩ : ∃ W31, W31 = W26.alloc (.cells #[.slice a_vg0 ps0.length c_vg0] 26) := ⟨_, rfl⟩
  have l31 : Below W26.heap.size W26 W31 := by rw [hW31]; exact (Below.refl _ _).alloc (Nat.le_refl _) _
  have bg_b31 : Hid (Bx W31 W26.heap.size (.slice a_vg0 ps0.length c_vg0) 26) := Lib.hid (by rw [hW31]; exact Bx.new _ _ _)
  rw [← hW31]
  clear hW31
  have bx_bg_vw0 : ∀ k, (.slice a_vw0 ps0.length c_vw0 : Value).ownBlock = some k → k ≠ W26.heap.size := fun k h1 h2 => absurd (vw0_27.out.lt k h1).2 (by omega)
  have bx_bg_x0 : ∀ k, (.slice (some ⟨g_x0, 0, none⟩) z0.length z0.length : Value).ownBlock = some k → k ≠ W26.heap.size := fun k h1 h2 => absurd (x0_27.out.lt k h1).2 (by omega)
  have bx_bg_vg0 : ∀ k, (.slice a_vg0 ps0.length c_vg0 : Value).ownBlock = some k → k ≠ W26.heap.size := fun k h1 h2 => absurd (O_vg0.out.lt k h1).2 (by omega)
  obtain ⟨X_bg, hX_bg⟩ : ∃ X, X = W26.heap.size := ⟨_, rfl⟩
  rw [← hX_bg] at bg_b31 bx_bg_vw0 bx_bg_x0 bx_bg_vg0 ⊢
  clear hX_bg
  have HB_32 := Lib.hid (HB_27.out.trans (l31.mono HB_27.out.size))
  have vw0_32 := Lib.hid (own_below vw0_27.out l31 (Nat.le_refl _))
  clear vw0_27
  have x0_32 := Lib.hid (own_below x0_27.out l31 (Nat.le_refl _))
  clear x0_27
  have vg0_32 := Lib.hid (own_below O_vg0.out l31 (Nat.le_refl _))
  clear O_vg0
  have A_32 := Lib.hid (A_27.out.below l31 A_27.out.lt)
  clear A_27
  have bw_32 := Lib.hid (bw_27.out.below l31 bw_27.out.lt)
  clear bw_27
  have bx_32 := Lib.hid (bx_27.out.below l31 bx_27.out.lt)
  clear bx_27
  clear HB_27
  clear hc_A_28
  have hc_A_33 := A_32.out.cell
  clear hc_bw_29
  have hc_bw_34 := bw_32.out.cell
  clear hc_bx_30
  have hc_bx_35 := bx_32.out.cell
  clear l31
  clear hc_A_33
  have hc_A_36 := A_32.out.cell
  clear hc_bw_34
  have hc_bw_37 := bw_32.out.cell
  clear hc_bx_35
  have hc_bx_38 := bx_32.out.cell
  have hc_bg_39 := bg_b31.out.cell
  go_wp2_with fail
  refine (eqTree_any _ _ ps0 ps0 _ (row_own vg0_32.out) (row_own vw0_32.out)).mono ?_
  rintro e W40 ⟨rfl, l40⟩
  have HB_41 := Lib.hid (HB_32.out.trans (l40.mono HB_32.out.size))
  have vw0_41 := Lib.hid (own_below vw0_32.out l40 (Nat.le_refl _))
  clear vw0_32
  have x0_41 := Lib.hid (own_below x0_32.out l40 (Nat.le_refl _))
  clear x0_32
  have vg0_41 := Lib.hid (own_below vg0_32.out l40 (Nat.le_refl _))
  clear vg0_32
  have A_41 := Lib.hid (A_32.out.below l40 A_32.out.lt)
  clear A_32
  have bw_41 := Lib.hid (bw_32.out.below l40 bw_32.out.lt)
  clear bw_32
  have bx_41 := Lib.hid (bx_32.out.below l40 bx_32.out.lt)
  clear bx_32
  have bg_41 := Lib.hid (bg_b31.out.below l40 bg_b31.out.lt)
  clear bg_b31
  clear HB_32
  clear hc_A_36
  have hc_A_42 := A_41.out.cell
  clear hc_bw_37
  have hc_bw_43 := bw_41.out.cell
  clear hc_bx_38
  have hc_bx_44 := bx_41.out.cell
  clear hc_bg_39
  have hc_bg_45 := bg_41.out.cell
  clear l40
  go_upto_region 10 with fail
  go_cut [59] from 55 to 59 (fun b wx => b = .bool false ∧ Hid (Below W40.heap.size W40 wx))
  case first => as_aux_lemma =>
    go_region_held3 (fun w' => w'.cell? ⟨X_bx, 0, none⟩ = some (.slice (some ⟨g_x0, 0, none⟩) z0.length z0.length) ∧ w'.cell? ⟨R0, 0, none⟩ = some (.slice p0 z0.length cap0) ∧ Below W40.heap.size W40 w')
      ((refine keep_two6 bx_41.out.cell bx_41.out.lt A_41.out.cell A_41.out.lt ?_; repeat (first | assumption | exact Below.refl _ _ | refine Below.drew ?_)))
      (first
        | (go_at_call 30; refine (toTree_lit _ z0 _ (HR0.out.below (HB_41.out.trans ((by repeat (first | assumption | exact Below.refl _ _ | refine Below.drew ?_) : Below W40.heap.size W40 _).mono HB_41.out.size)) (Nat.le_refl _)) HN0.out).mono ?_; rintro e w5 ⟨g5, rfl, o5, l5⟩; have hb5 := below_call6 (by repeat (first | assumption | exact Below.refl _ _ | refine Below.drew ?_) : Below W40.heap.size W40 _) l5; have ho5 := row_own o5; clear o5 l5)
        | (go_at_call 32; refine (eqTree_any _ _ z0 z0 _ ((row_own x0_41.out).below hb5 (Nat.le_refl _)) ho5).mono ?_; rintro e w6 ⟨rfl, l6⟩; have hb6 := below_call6 hb5 l6; clear l6))
    all_goals go_wp2_with fail
    all_goals go_meet
    all_goals
      case rel => exact ⟨by simp, Lib.hid (by repeat (first | assumption | exact Below.refl _ _ | refine Below.drew ?_))⟩
  case rest =>
    obtain ⟨rfl, HCut⟩ := hcut
    rename World => W46
    have l46 := HCut.out
    clear HCut
    have HB_47 := Lib.hid (HB_41.out.trans (l46.mono HB_41.out.size))
    have vw0_47 := Lib.hid (own_below vw0_41.out l46 (Nat.le_refl _))
    clear vw0_41
    have x0_47 := Lib.hid (own_below x0_41.out l46 (Nat.le_refl _))
    clear x0_41
    have vg0_47 := Lib.hid (own_below vg0_41.out l46 (Nat.le_refl _))
    clear vg0_41
    have A_47 := Lib.hid (A_41.out.below l46 A_41.out.lt)
    clear A_41
    have bw_47 := Lib.hid (bw_41.out.below l46 bw_41.out.lt)
    clear bw_41
    have bx_47 := Lib.hid (bx_41.out.below l46 bx_41.out.lt)
    clear bx_41
    have bg_47 := Lib.hid (bg_41.out.below l46 bg_41.out.lt)
    clear bg_41
    clear HB_41
    clear hc_A_42
    have hc_A_48 := A_47.out.cell
    clear hc_bw_43
    have hc_bw_49 := bw_47.out.cell
    clear hc_bx_44
    have hc_bx_50 := bx_47.out.cell
    clear hc_bg_45
    have hc_bg_51 := bg_47.out.cell
    clear l46
    go_wp2_with fail
    refine (markT_own _ z0.length 1 _ _ _ x0_47.out (by have := HL0.out; have := HN0.out; omega)).mono ?_
    rintro e W52 ⟨rfl, m52, gr52⟩
    have HB_52 := Lib.hid (HB_47.out.grown gr52 HB_47.out.size (fun q hq => (x0_47.out.lt q hq).1))
    have vw0_52 := Lib.hid (own_apart vw0_47.out gr52 (fun k h1 h2 => ap_vw0_x0 k h1 h2))
    clear vw0_47
    have vg0_52 := Lib.hid (own_apart vg0_47.out gr52 (fun k h1 h2 => ap_x0_vg0 k h2 h1))
    clear vg0_47
    have A_52 := Lib.hid (A_47.out.grown gr52 (fun e => bx_A_x0 _ e.symm rfl))
    clear A_47
    have bw_52 := Lib.hid (bw_47.out.grown gr52 (fun e => bx_bw_x0 _ e.symm rfl))
    clear bw_47
    have bx_52 := Lib.hid (bx_47.out.grown gr52 (fun e => bx_bx_x0 _ e.symm rfl))
    clear bx_47
    have bg_52 := Lib.hid (bg_47.out.grown gr52 (fun e => bx_bg_x0 _ e.symm rfl))
    clear bg_47
    have x0_52 := Lib.hid m52
    clear m52 gr52 x0_47 HB_47
    clear hc_A_48
    have hc_A_53 := A_52.out.cell
    clear hc_bw_49
    have hc_bw_54 := bw_52.out.cell
    clear hc_bx_50
    have hc_bx_55 := bx_52.out.cell
    clear hc_bg_51
    have hc_bg_56 := bg_52.out.cell
    go_wp2_with fail
    refine (eqTree_any _ _ ps0 ps0 _ (row_own vg0_52.out) (row_own vw0_52.out)).mono ?_
    rintro e W57 ⟨rfl, l57⟩
    have HB_58 := Lib.hid (HB_52.out.trans (l57.mono HB_52.out.size))
    have vw0_58 := Lib.hid (own_below vw0_52.out l57 (Nat.le_refl _))
    clear vw0_52
    have x0_58 := Lib.hid (own_below x0_52.out l57 (Nat.le_refl _))
    clear x0_52
    have vg0_58 := Lib.hid (own_below vg0_52.out l57 (Nat.le_refl _))
    clear vg0_52
    have A_58 := Lib.hid (A_52.out.below l57 A_52.out.lt)
    clear A_52
    have bw_58 := Lib.hid (bw_52.out.below l57 bw_52.out.lt)
    clear bw_52
    have bx_58 := Lib.hid (bx_52.out.below l57 bx_52.out.lt)
    clear bx_52
    have bg_58 := Lib.hid (bg_52.out.below l57 bg_52.out.lt)
    clear bg_52
    clear HB_52
    clear hc_A_53
    have hc_A_59 := A_58.out.cell
    clear hc_bw_54
    have hc_bw_60 := bw_58.out.cell
    clear hc_bx_55
    have hc_bx_61 := bx_58.out.cell
    clear hc_bg_56
    have hc_bg_62 := bg_58.out.cell
    clear l57
    clear x0_58
    clear bx_58 hc_bx_61
    go_wp2_with fail
    refine (markT_own _ ps0.length 1 _ _ _ vg0_58.out (by have := HL0.out; have := HN0.out; omega)).mono ?_
    rintro e W63 ⟨rfl, m63, gr63⟩
    have HB_63 := Lib.hid (HB_58.out.grown gr63 HB_58.out.size (fun q hq => (vg0_58.out.lt q hq).1))
    have vw0_63 := Lib.hid (own_apart vw0_58.out gr63 (fun k h1 h2 => ap_vw0_vg0 k h1 h2))
    clear vw0_58
    have A_63 := Lib.hid (A_58.out.grown gr63 (fun e => bx_A_vg0 _ e.symm rfl))
    clear A_58
    have bw_63 := Lib.hid (bw_58.out.grown gr63 (fun e => bx_bw_vg0 _ e.symm rfl))
    clear bw_58
    have bg_63 := Lib.hid (bg_58.out.grown gr63 (fun e => bx_bg_vg0 _ e.symm rfl))
    clear bg_58
    have vg0_63 := Lib.hid m63
    clear m63 gr63 vg0_58 HB_58
    clear hc_A_59
    have hc_A_64 := A_63.out.cell
    clear hc_bw_60
    have hc_bw_65 := bw_63.out.cell
    clear hc_bg_62
    have hc_bg_66 := bg_63.out.cell
    go_wp2_with fail
    refine (heldT_own _ ps0.length 1 _ _ vg0_63.out (by have := HL0.out; have := HN0.out; omega)).mono ?_
    rintro e W67 ⟨rfl, l67⟩
    have HB_68 := Lib.hid (HB_63.out.trans (l67.mono HB_63.out.size))
    have vw0_68 := Lib.hid (own_below vw0_63.out l67 (Nat.le_refl _))
    clear vw0_63
    have vg0_68 := Lib.hid (own_below vg0_63.out l67 (Nat.le_refl _))
    clear vg0_63
    have A_68 := Lib.hid (A_63.out.below l67 A_63.out.lt)
    clear A_63
    have bw_68 := Lib.hid (bw_63.out.below l67 bw_63.out.lt)
    clear bw_63
    have bg_68 := Lib.hid (bg_63.out.below l67 bg_63.out.lt)
    clear bg_63
    clear HB_63
    clear hc_A_64
    have hc_A_69 := A_68.out.cell
    clear hc_bw_65
    have hc_bw_70 := bw_68.out.cell
    clear hc_bg_66
    have hc_bg_71 := bg_68.out.cell
    clear l67
    go_wp2_with fail
    refine (toTree_lit _ z0 _ (HR0.out.below HB_68.out (Nat.le_refl _)) HN0.out).mono ?_
    rintro e W72 ⟨g_t0, rfl, o_t0, l72⟩
    have ap_vw0_t0 : ∀ k, (.slice a_vw0 ps0.length c_vw0 : Value).ownBlock = some k → (.slice (some ⟨g_t0, 0, none⟩) z0.length z0.length : Value).ownBlock ≠ some k := fun k h1 h2 => absurd (vw0_68.out.lt k h1).2 (Nat.not_lt.2 (o_t0.lt k h2).1)
    have ap_vg0_t0 : ∀ k, (.slice a_vg0 ps0.length c_vg0 : Value).ownBlock = some k → (.slice (some ⟨g_t0, 0, none⟩) z0.length z0.length : Value).ownBlock ≠ some k := fun k h1 h2 => absurd (vg0_68.out.lt k h1).2 (Nat.not_lt.2 (o_t0.lt k h2).1)
    have bx_A_t0 : ∀ k, (.slice (some ⟨g_t0, 0, none⟩) z0.length z0.length : Value).ownBlock = some k → k ≠ R0 := fun k h1 h2 => absurd A_68.out.lt (Nat.not_lt.2 (by rw [← h2]; exact (o_t0.lt k h1).1))
    have bx_bw_t0 : ∀ k, (.slice (some ⟨g_t0, 0, none⟩) z0.length z0.length : Value).ownBlock = some k → k ≠ X_bw := fun k h1 h2 => absurd bw_68.out.lt (Nat.not_lt.2 (by rw [← h2]; exact (o_t0.lt k h1).1))
    have bx_bg_t0 : ∀ k, (.slice (some ⟨g_t0, 0, none⟩) z0.length z0.length : Value).ownBlock = some k → k ≠ X_bg := fun k h1 h2 => absurd bg_68.out.lt (Nat.not_lt.2 (by rw [← h2]; exact (o_t0.lt k h1).1))
    have O_t0 := Lib.hid (own_base o_t0 (HB_68.out.size))
    have HB_73 := Lib.hid (HB_68.out.trans (l72.mono HB_68.out.size))
    have vw0_73 := Lib.hid (own_below vw0_68.out l72 (Nat.le_refl _))
    clear vw0_68
    have vg0_73 := Lib.hid (own_below vg0_68.out l72 (Nat.le_refl _))
    clear vg0_68
    have A_73 := Lib.hid (A_68.out.below l72 A_68.out.lt)
    clear A_68
    have bw_73 := Lib.hid (bw_68.out.below l72 bw_68.out.lt)
    clear bw_68
    have bg_73 := Lib.hid (bg_68.out.below l72 bg_68.out.lt)
    clear bg_68
    clear HB_68
    clear hc_A_69
    have hc_A_74 := A_73.out.cell
    clear hc_bw_70
    have hc_bw_75 := bw_73.out.cell
    clear hc_bg_71
    have hc_bg_76 := bg_73.out.cell
    clear o_t0 l72
    go_wp2_with fail
    refine (HIm.out g_t0 _ (row_own O_t0.out)).mono ?_
    rintro e W77 ⟨vh0, rfl, o_vh0, l77⟩
    obtain ⟨a_vh0, c_vh0, rfl, _, _⟩ := own_some_e o_vh0
    have ap_vw0_vh0 : ∀ k, (.slice a_vw0 ps0.length c_vw0 : Value).ownBlock = some k → (.slice a_vh0 ps0.length c_vh0 : Value).ownBlock ≠ some k := fun k h1 h2 => absurd (vw0_73.out.lt k h1).2 (Nat.not_lt.2 (o_vh0.lt k h2).1)
    have ap_vg0_vh0 : ∀ k, (.slice a_vg0 ps0.length c_vg0 : Value).ownBlock = some k → (.slice a_vh0 ps0.length c_vh0 : Value).ownBlock ≠ some k := fun k h1 h2 => absurd (vg0_73.out.lt k h1).2 (Nat.not_lt.2 (o_vh0.lt k h2).1)
    have ap_t0_vh0 : ∀ k, (.slice (some ⟨g_t0, 0, none⟩) z0.length z0.length : Value).ownBlock = some k → (.slice a_vh0 ps0.length c_vh0 : Value).ownBlock ≠ some k := fun k h1 h2 => absurd (O_t0.out.lt k h1).2 (Nat.not_lt.2 (o_vh0.lt k h2).1)
    have bx_A_vh0 : ∀ k, (.slice a_vh0 ps0.length c_vh0 : Value).ownBlock = some k → k ≠ R0 := fun k h1 h2 => absurd A_73.out.lt (Nat.not_lt.2 (by rw [← h2]; exact (o_vh0.lt k h1).1))
    have bx_bw_vh0 : ∀ k, (.slice a_vh0 ps0.length c_vh0 : Value).ownBlock = some k → k ≠ X_bw := fun k h1 h2 => absurd bw_73.out.lt (Nat.not_lt.2 (by rw [← h2]; exact (o_vh0.lt k h1).1))
    have bx_bg_vh0 : ∀ k, (.slice a_vh0 ps0.length c_vh0 : Value).ownBlock = some k → k ≠ X_bg := fun k h1 h2 => absurd bg_73.out.lt (Nat.not_lt.2 (by rw [← h2]; exact (o_vh0.lt k h1).1))
    have O_vh0 := Lib.hid (own_base o_vh0 (HB_73.out.size))
    have HB_78 := Lib.hid (HB_73.out.trans (l77.mono HB_73.out.size))
    have vw0_78 := Lib.hid (own_below vw0_73.out l77 (Nat.le_refl _))
    clear vw0_73
    have vg0_78 := Lib.hid (own_below vg0_73.out l77 (Nat.le_refl _))
    clear vg0_73
    have t0_78 := Lib.hid (own_below O_t0.out l77 (Nat.le_refl _))
    clear O_t0
    have A_78 := Lib.hid (A_73.out.below l77 A_73.out.lt)
    clear A_73
    have bw_78 := Lib.hid (bw_73.out.below l77 bw_73.out.lt)
    clear bw_73
    have bg_78 := Lib.hid (bg_73.out.below l77 bg_73.out.lt)
    clear bg_73
    clear HB_73
    clear hc_A_74
    have hc_A_79 := A_78.out.cell
    clear hc_bw_75
    have hc_bw_80 := bw_78.out.cell
    clear hc_bg_76
    have hc_bg_81 := bg_78.out.cell
    clear l77 o_vh0
    go_upto_region 25 with fail
    obtain ⟨W82, hW82⟩ : ∃ W82, W82 = W77.alloc (.cells #[.slice a_vh0 ps0.length c_vh0] 26) := ⟨_, rfl⟩
    have l82 : Below W77.heap.size W77 W82 := by rw [hW82]; exact (Below.refl _ _).alloc (Nat.le_refl _) _
    have bh_b82 : Hid (Bx W82 W77.heap.size (.slice a_vh0 ps0.length c_vh0) 26) := Lib.hid (by rw [hW82]; exact Bx.new _ _ _)
    rw [← hW82]
    clear hW82
    have bx_bh_vw0 : ∀ k, (.slice a_vw0 ps0.length c_vw0 : Value).ownBlock = some k → k ≠ W77.heap.size := fun k h1 h2 => absurd (vw0_78.out.lt k h1).2 (by omega)
    have bx_bh_vg0 : ∀ k, (.slice a_vg0 ps0.length c_vg0 : Value).ownBlock = some k → k ≠ W77.heap.size := fun k h1 h2 => absurd (vg0_78.out.lt k h1).2 (by omega)
    have bx_bh_t0 : ∀ k, (.slice (some ⟨g_t0, 0, none⟩) z0.length z0.length : Value).ownBlock = some k → k ≠ W77.heap.size := fun k h1 h2 => absurd (t0_78.out.lt k h1).2 (by omega)
    have bx_bh_vh0 : ∀ k, (.slice a_vh0 ps0.length c_vh0 : Value).ownBlock = some k → k ≠ W77.heap.size := fun k h1 h2 => absurd (O_vh0.out.lt k h1).2 (by omega)
    obtain ⟨X_bh, hX_bh⟩ : ∃ X, X = W77.heap.size := ⟨_, rfl⟩
    rw [← hX_bh] at bh_b82 bx_bh_vw0 bx_bh_vg0 bx_bh_t0 bx_bh_vh0 ⊢
    clear hX_bh
    have HB_83 := Lib.hid (HB_78.out.trans (l82.mono HB_78.out.size))
    have vw0_83 := Lib.hid (own_below vw0_78.out l82 (Nat.le_refl _))
    clear vw0_78
    have vg0_83 := Lib.hid (own_below vg0_78.out l82 (Nat.le_refl _))
    clear vg0_78
    have t0_83 := Lib.hid (own_below t0_78.out l82 (Nat.le_refl _))
    clear t0_78
    have vh0_83 := Lib.hid (own_below O_vh0.out l82 (Nat.le_refl _))
    clear O_vh0
    have A_83 := Lib.hid (A_78.out.below l82 A_78.out.lt)
    clear A_78
    have bw_83 := Lib.hid (bw_78.out.below l82 bw_78.out.lt)
    clear bw_78
    have bg_83 := Lib.hid (bg_78.out.below l82 bg_78.out.lt)
    clear bg_78
    clear HB_78
    clear hc_A_79
    have hc_A_84 := A_83.out.cell
    clear hc_bw_80
    have hc_bw_85 := bw_83.out.cell
    clear hc_bg_81
    have hc_bg_86 := bg_83.out.cell
    clear l82
    clear hc_A_84
    have hc_A_87 := A_83.out.cell
    clear hc_bw_85
    have hc_bw_88 := bw_83.out.cell
    clear hc_bg_86
    have hc_bg_89 := bg_83.out.cell
    have hc_bh_90 := bh_b82.out.cell
    go_wp2_with fail
    refine (eqTree_any _ _ ps0 ps0 _ (row_own vh0_83.out) (row_own vw0_83.out)).mono ?_
    rintro e W91 ⟨rfl, l91⟩
    have HB_92 := Lib.hid (HB_83.out.trans (l91.mono HB_83.out.size))
    have vw0_92 := Lib.hid (own_below vw0_83.out l91 (Nat.le_refl _))
    clear vw0_83
    have vg0_92 := Lib.hid (own_below vg0_83.out l91 (Nat.le_refl _))
    clear vg0_83
    have t0_92 := Lib.hid (own_below t0_83.out l91 (Nat.le_refl _))
    clear t0_83
    have vh0_92 := Lib.hid (own_below vh0_83.out l91 (Nat.le_refl _))
    clear vh0_83
    have A_92 := Lib.hid (A_83.out.below l91 A_83.out.lt)
    clear A_83
    have bw_92 := Lib.hid (bw_83.out.below l91 bw_83.out.lt)
    clear bw_83
    have bg_92 := Lib.hid (bg_83.out.below l91 bg_83.out.lt)
    clear bg_83
    have bh_92 := Lib.hid (bh_b82.out.below l91 bh_b82.out.lt)
    clear bh_b82
    clear HB_83
    clear hc_A_87
    have hc_A_93 := A_92.out.cell
    clear hc_bw_88
    have hc_bw_94 := bw_92.out.cell
    clear hc_bg_89
    have hc_bg_95 := bg_92.out.cell
    clear hc_bh_90
    have hc_bh_96 := bh_92.out.cell
    clear l91
    go_wp2_with fail
    refine (heldT_own _ ps0.length 1 _ _ vg0_92.out (by have := HL0.out; have := HN0.out; omega)).mono ?_
    rintro e W97 ⟨rfl, l97⟩
    have HB_98 := Lib.hid (HB_92.out.trans (l97.mono HB_92.out.size))
    have vw0_98 := Lib.hid (own_below vw0_92.out l97 (Nat.le_refl _))
    clear vw0_92
    have vg0_98 := Lib.hid (own_below vg0_92.out l97 (Nat.le_refl _))
    clear vg0_92
    have t0_98 := Lib.hid (own_below t0_92.out l97 (Nat.le_refl _))
    clear t0_92
    have vh0_98 := Lib.hid (own_below vh0_92.out l97 (Nat.le_refl _))
    clear vh0_92
    have A_98 := Lib.hid (A_92.out.below l97 A_92.out.lt)
    clear A_92
    have bw_98 := Lib.hid (bw_92.out.below l97 bw_92.out.lt)
    clear bw_92
    have bg_98 := Lib.hid (bg_92.out.below l97 bg_92.out.lt)
    clear bg_92
    have bh_98 := Lib.hid (bh_92.out.below l97 bh_92.out.lt)
    clear bh_92
    clear HB_92
    clear hc_A_93
    have hc_A_99 := A_98.out.cell
    clear hc_bw_94
    have hc_bw_100 := bw_98.out.cell
    clear hc_bg_95
    have hc_bg_101 := bg_98.out.cell
    clear hc_bh_96
    have hc_bh_102 := bh_98.out.cell
    clear l97
    go_wp2_with fail
    go_ret
    exact ⟨rfl, HB_98.out⟩
end Go.Proofs.Ytejdphfcogfcmaa
