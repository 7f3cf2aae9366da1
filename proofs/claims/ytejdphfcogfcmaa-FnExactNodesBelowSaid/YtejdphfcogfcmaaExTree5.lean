/-
  The exact law of NodesBelow.
-/
import Derived.Test.YtejdphfcogfcmaaTreeI7
import Derived.Test.YtejdphfcogfcmaaExTreeB
import Derived.Test.YtejdphfcogfcmaaTree5
import Derived.WalkLawsBesides
import Derived.Deep.RegionHeld3
import Derived.Deep.CutRange
namespace Go.Proofs.Ytejdphfcogfcmaa
open Go.RowKit Go.Lib Go.Joins
set_option linter.unusedVariables false

set_option maxRecDepth 100000 in
set_option maxHeartbeats 4000000 in
theorem fnExactNodesBelow_walk (w : World) (v0 : Value) (z0 : List Int) (w0 : Row w v0 z0.length (z0.map (Value.int .i64))) (b0 : ∀ z ∈ z0, (Lit.int .i64 z).wf = true) (a1 : Int) (w1 : (Lit.int .i64 a1).wf = true) (_hsh : w.ShapedOpen Try.prog) :
    Calls Try.prog 8 #[.agg #[v0], .int .i64 a1] w fun e w' => e = .returned (.bool true) ∧ Below w.heap.size w w' := by
  obtain ⟨p0, cap0, rfl, hc10, hc20, _⟩ := row_open w0
  unfold maxLen at hc20
  obtain ⟨W0, hW0⟩ : ∃ W0, W0 = w.alloc (.cells #[.slice p0 z0.length cap0] 37) := ⟨_, rfl⟩
  have HA0 : Hid (Bx W0 w.heap.size (.slice p0 z0.length cap0) 37) := Lib.hid (by rw [hW0]; exact Bx.new w _ _)
  have HB0 : Hid (Below w.heap.size w W0) := Lib.hid (by rw [hW0]; exact (Below.refl w.heap.size w).alloc (Nat.le_refl _) _)
  have HW0 := Lib.hid hW0
  clear hW0
  obtain ⟨R0, hR0⟩ : ∃ R0, R0 = w.heap.size := ⟨_, rfl⟩
  rw [← hR0] at HA0
  have HQ0 := Lib.hid hR0
  clear hR0
  have hca := HA0.out.cell
  by_cases hn0 : (z0.length : Int) ≤ 1048576
  rotate_left
  · have HN0 := Lib.hid (fun (W : World) => szT_no p0 z0.length cap0 (1048576) W (by omega) (by omega) (by omega) (by unfold maxLen; omega))
    go_enter Try.func8, Try.ntmps8
    go_upto_region 1 with fail
    rw [← HW0.out, ← HQ0.out]
    go_wp2_with fail
    refine (HN0.out _).mono ?_
    rintro e W1 ⟨rfl, l1⟩
    have HB1 := Lib.hid (HB0.out.trans (l1.mono HB0.out.size))
    clear l1
    go_wp2_with fail
    go_ret
    exact ⟨rfl, HB1.out⟩
  have HY0 := Lib.hid (fun (W : World) => szT_yes p0 z0.length cap0 (1048576) W (by omega) (by omega))
  have hl0 : ¬ ((1048576) - (z0.length : Int) < 0) := by omega
  have hm0 : z0.length ≤ 1048576 := by omega
  have HR0 := Lib.hid w0
  have HN0 := Lib.hid hm0
  clear w0 b0
  have HSp := Lib.hid (fun (g0 : Nat) (W : World) (h0 : Row W (.slice (some ⟨g0, 0, none⟩) z0.length z0.length) z0.length (z0.map (Value.int .i64))) => (specBelow_any (.slice (some ⟨g0, 0, none⟩) z0.length z0.length) z0 a1 W h0).mono (fun _ _ h => outI_form h))
  have HIm := Lib.hid (fun (g0 : Nat) (W : World) (h0 : Row W (.slice (some ⟨g0, 0, none⟩) z0.length z0.length) z0.length (z0.map (Value.int .i64))) => implBelow_any (.slice (some ⟨g0, 0, none⟩) z0.length z0.length) z0 a1 W h0)
  have hlen0 := nbl_len8 z0 a1 hm0
  generalize okL (ndOk z0 a1) (nbl z0 a1) = ps0 at HSp HIm hlen0
  have HL0 := Lib.hid hlen0
  clear hlen0
  generalize ndOk z0 a1 = r0 at HSp HIm
  have HT := Lib.hid (show ((1 : Int)) = ((1 : Nat) : Int) from rfl)
  go_enter Try.func8, Try.ntmps8
  go_upto_region 1 with fail
  rw [← HW0.out, ← HQ0.out]
  go_wp2_with fail
  refine (HY0.out _).mono ?_
  rintro e W1 ⟨rfl, l1⟩
  have HB_2 := Lib.hid (HB0.out.trans (l1.mono HB0.out.size))
  have A_2 := Lib.hid (HA0.out.below l1 HA0.out.lt)
  clear HA0
  clear HB0
  clear hca
  have hc_A_3 := A_2.out.cell
  clear l1
  go_wp2_with fail
  refine (toTree_lit _ z0 _ (HR0.out.below HB_2.out (Nat.le_refl _)) HN0.out).mono ?_
  rintro e W4 ⟨g_s0, rfl, o_s0, l4⟩
  have bx_A_s0 : ∀ k, (.slice (some ⟨g_s0, 0, none⟩) z0.length z0.length : Value).ownBlock = some k → k ≠ R0 := fun k h1 h2 => absurd A_2.out.lt (Nat.not_lt.2 (by rw [← h2]; exact (o_s0.lt k h1).1))
  have O_s0 := Lib.hid (own_base o_s0 (HB_2.out.size))
  have HB_5 := Lib.hid (HB_2.out.trans (l4.mono HB_2.out.size))
  have A_5 := Lib.hid (A_2.out.below l4 A_2.out.lt)
  clear A_2
  clear HB_2
  clear hc_A_3
  have hc_A_6 := A_5.out.cell
  clear o_s0 l4
  go_wp2_with fail
  refine (HSp.out g_s0 _ (row_own O_s0.out)).mono ?_
  rintro e W7 ⟨vw0, rfl, o_vw0, l7⟩
  have ap_s0_vw0 : ∀ k, (.slice (some ⟨g_s0, 0, none⟩) z0.length z0.length : Value).ownBlock = some k → (vw0 : Value).ownBlock ≠ some k := fun k h1 h2 => absurd (O_s0.out.lt k h1).2 (Nat.not_lt.2 (o_vw0.lt k h2).1)
  have bx_A_vw0 : ∀ k, (vw0 : Value).ownBlock = some k → k ≠ R0 := fun k h1 h2 => absurd A_5.out.lt (Nat.not_lt.2 (by rw [← h2]; exact (o_vw0.lt k h1).1))
  have O_vw0 := Lib.hid (own_base o_vw0 (HB_5.out.size))
  have HB_8 := Lib.hid (HB_5.out.trans (l7.mono HB_5.out.size))
  have s0_8 := Lib.hid (own_below O_s0.out l7 (Nat.le_refl _))
  clear O_s0
  have A_8 := Lib.hid (A_5.out.below l7 A_5.out.lt)
  clear A_5
  clear HB_5
  clear hc_A_6
  have hc_A_9 := A_8.out.cell
  clear l7 o_vw0
  clear s0_8
  go_wp2_with fail
  refine (toTree_lit _ z0 _ (HR0.out.below HB_8.out (Nat.le_refl _)) HN0.out).mono ?_
  rintro e W10 ⟨g_x0, rfl, o_x0, l10⟩
  have ap_vw0_x0 : ∀ k, (vw0 : Value).ownBlock = some k → (.slice (some ⟨g_x0, 0, none⟩) z0.length z0.length : Value).ownBlock ≠ some k := fun k h1 h2 => absurd (O_vw0.out.lt k h1).2 (Nat.not_lt.2 (o_x0.lt k h2).1)
  have bx_A_x0 : ∀ k, (.slice (some ⟨g_x0, 0, none⟩) z0.length z0.length : Value).ownBlock = some k → k ≠ R0 := fun k h1 h2 => absurd A_8.out.lt (Nat.not_lt.2 (by rw [← h2]; exact (o_x0.lt k h1).1))
  have O_x0 := Lib.hid (own_base o_x0 (HB_8.out.size))
  have HB_11 := Lib.hid (HB_8.out.trans (l10.mono HB_8.out.size))
  have vw0_11 := Lib.hid (own_below O_vw0.out l10 (Nat.le_refl _))
  clear O_vw0
  have A_11 := Lib.hid (A_8.out.below l10 A_8.out.lt)
  clear A_8
  clear HB_8
  clear hc_A_9
  have hc_A_12 := A_11.out.cell
  clear o_x0 l10
  go_upto_region 7 with fail
  obtain ⟨W13, hW13⟩ : ∃ W13, W13 = W10.alloc (.cells #[.slice (some ⟨g_x0, 0, none⟩) z0.length z0.length] 26) := ⟨_, rfl⟩
  have l13 : Below W10.heap.size W10 W13 := by rw [hW13]; exact (Below.refl _ _).alloc (Nat.le_refl _) _
  have bx_b13 : Hid (Bx W13 W10.heap.size (.slice (some ⟨g_x0, 0, none⟩) z0.length z0.length) 26) := Lib.hid (by rw [hW13]; exact Bx.new _ _ _)
  rw [← hW13]
  clear hW13
  have bx_bx_vw0 : ∀ k, (vw0 : Value).ownBlock = some k → k ≠ W10.heap.size := fun k h1 h2 => absurd (vw0_11.out.lt k h1).2 (by omega)
  have bx_bx_x0 : ∀ k, (.slice (some ⟨g_x0, 0, none⟩) z0.length z0.length : Value).ownBlock = some k → k ≠ W10.heap.size := fun k h1 h2 => absurd (O_x0.out.lt k h1).2 (by omega)
  obtain ⟨X_bx, hX_bx⟩ : ∃ X, X = W10.heap.size := ⟨_, rfl⟩
  rw [← hX_bx] at bx_b13 bx_bx_vw0 bx_bx_x0 ⊢
  clear hX_bx
  have HB_14 := Lib.hid (HB_11.out.trans (l13.mono HB_11.out.size))
  have vw0_14 := Lib.hid (own_below vw0_11.out l13 (Nat.le_refl _))
  clear vw0_11
  have x0_14 := Lib.hid (own_below O_x0.out l13 (Nat.le_refl _))
  clear O_x0
  have A_14 := Lib.hid (A_11.out.below l13 A_11.out.lt)
  clear A_11
  clear HB_11
  clear hc_A_12
  have hc_A_15 := A_14.out.cell
  clear l13
  clear hc_A_15
  have hc_A_16 := A_14.out.cell
  have hc_bx_17 := bx_b13.out.cell
  go_wp2_with fail
  refine (HIm.out g_x0 _ (row_own x0_14.out)).mono ?_
  rintro e W18 ⟨vg0, rfl, o_vg0, l18⟩
  have ap_vw0_vg0 : ∀ k, (vw0 : Value).ownBlock = some k → (vg0 : Value).ownBlock ≠ some k := fun k h1 h2 => absurd (vw0_14.out.lt k h1).2 (Nat.not_lt.2 (o_vg0.lt k h2).1)
  have ap_x0_vg0 : ∀ k, (.slice (some ⟨g_x0, 0, none⟩) z0.length z0.length : Value).ownBlock = some k → (vg0 : Value).ownBlock ≠ some k := fun k h1 h2 => absurd (x0_14.out.lt k h1).2 (Nat.not_lt.2 (o_vg0.lt k h2).1)
  have bx_A_vg0 : ∀ k, (vg0 : Value).ownBlock = some k → k ≠ R0 := fun k h1 h2 => absurd A_14.out.lt (Nat.not_lt.2 (by rw [← h2]; exact (o_vg0.lt k h1).1))
  have bx_bx_vg0 : ∀ k, (vg0 : Value).ownBlock = some k → k ≠ X_bx := fun k h1 h2 => absurd bx_b13.out.lt (Nat.not_lt.2 (by rw [← h2]; exact (o_vg0.lt k h1).1))
  have O_vg0 := Lib.hid (own_base o_vg0 (HB_14.out.size))
  have HB_19 := Lib.hid (HB_14.out.trans (l18.mono HB_14.out.size))
  have vw0_19 := Lib.hid (own_below vw0_14.out l18 (Nat.le_refl _))
  clear vw0_14
  have x0_19 := Lib.hid (own_below x0_14.out l18 (Nat.le_refl _))
  clear x0_14
  have A_19 := Lib.hid (A_14.out.below l18 A_14.out.lt)
  clear A_14
  have bx_19 := Lib.hid (bx_b13.out.below l18 bx_b13.out.lt)
  clear bx_b13
  clear HB_14
  clear hc_A_16
  have hc_A_20 := A_19.out.cell
  clear hc_bx_17
  have hc_bx_21 := bx_19.out.cell
  clear l18 o_vg0
  go_wp2_with fail
  refine (eqIntS_any _ _ ps0 ps0 _ (row_own O_vg0.out) (row_own vw0_19.out)).mono ?_
  rintro e W22 ⟨rfl, k22, hw22⟩
  have l22 : Below W18.heap.size W18 W22 := by rw [hw22]; exact bdrew _ _
  clear hw22
  have HB_23 := Lib.hid (HB_19.out.trans (l22.mono HB_19.out.size))
  have vw0_23 := Lib.hid (own_below vw0_19.out l22 (Nat.le_refl _))
  clear vw0_19
  have x0_23 := Lib.hid (own_below x0_19.out l22 (Nat.le_refl _))
  clear x0_19
  have vg0_23 := Lib.hid (own_below O_vg0.out l22 (Nat.le_refl _))
  clear O_vg0
  have A_23 := Lib.hid (A_19.out.below l22 A_19.out.lt)
  clear A_19
  have bx_23 := Lib.hid (bx_19.out.below l22 bx_19.out.lt)
  clear bx_19
  clear HB_19
  clear hc_A_20
  have hc_A_24 := A_23.out.cell
  clear hc_bx_21
  have hc_bx_25 := bx_23.out.cell
  clear l22
  go_upto_region 10 with fail
  go_cut [49] from 45 to 49 (fun b wx => b = .bool false ∧ Hid (Below W22.heap.size W22 wx))
  case first => as_aux_lemma =>
    go_region_held3 (fun w' => w'.cell? ⟨X_bx, 0, none⟩ = some (.slice (some ⟨g_x0, 0, none⟩) z0.length z0.length) ∧ w'.cell? ⟨R0, 0, none⟩ = some (.slice p0 z0.length cap0) ∧ Below W22.heap.size W22 w')
      ((refine keep_two6 bx_23.out.cell bx_23.out.lt A_23.out.cell A_23.out.lt ?_; repeat (first | assumption | exact Below.refl _ _ | refine Below.drew ?_)))
      (first
        | (go_at_call 30; refine (toTree_lit _ z0 _ (HR0.out.below (HB_23.out.trans ((by repeat (first | assumption | exact Below.refl _ _ | refine Below.drew ?_) : Below W22.heap.size W22 _).mono HB_23.out.size)) (Nat.le_refl _)) HN0.out).mono ?_; rintro e w5 ⟨g5, rfl, o5, l5⟩; have hb5 := below_call6 (by repeat (first | assumption | exact Below.refl _ _ | refine Below.drew ?_) : Below W22.heap.size W22 _) l5; have ho5 := row_own o5; clear o5 l5)
        | (go_at_call 32; refine (eqTree_any _ _ z0 z0 _ ((row_own x0_23.out).below hb5 (Nat.le_refl _)) ho5).mono ?_; rintro e w6 ⟨rfl, l6⟩; have hb6 := below_call6 hb5 l6; clear l6))
    all_goals go_wp2_with fail
    all_goals go_meet
    all_goals
      case rel => exact ⟨by simp, Lib.hid (by repeat (first | assumption | exact Below.refl _ _ | refine Below.drew ?_))⟩
  case rest =>
    obtain ⟨rfl, HCut⟩ := hcut
    rename World => W26
    have l26 := HCut.out
    clear HCut
    have HB_27 := Lib.hid (HB_23.out.trans (l26.mono HB_23.out.size))
    have vw0_27 := Lib.hid (own_below vw0_23.out l26 (Nat.le_refl _))
    clear vw0_23
    have x0_27 := Lib.hid (own_below x0_23.out l26 (Nat.le_refl _))
    clear x0_23
    have vg0_27 := Lib.hid (own_below vg0_23.out l26 (Nat.le_refl _))
    clear vg0_23
    have A_27 := Lib.hid (A_23.out.below l26 A_23.out.lt)
    clear A_23
    have bx_27 := Lib.hid (bx_23.out.below l26 bx_23.out.lt)
    clear bx_23
    clear HB_23
    clear hc_A_24
    have hc_A_28 := A_27.out.cell
    clear hc_bx_25
    have hc_bx_29 := bx_27.out.cell
    clear l26
    go_wp2_with fail
    refine (markT_own _ z0.length 1 _ _ _ x0_27.out (by have := HL0.out; have := HN0.out; omega)).mono ?_
    rintro e W30 ⟨rfl, m30, gr30⟩
    have HB_30 := Lib.hid (HB_27.out.grown gr30 HB_27.out.size (fun q hq => (x0_27.out.lt q hq).1))
    have vw0_30 := Lib.hid (own_apart vw0_27.out gr30 (fun k h1 h2 => ap_vw0_x0 k h1 h2))
    clear vw0_27
    have vg0_30 := Lib.hid (own_apart vg0_27.out gr30 (fun k h1 h2 => ap_x0_vg0 k h2 h1))
    clear vg0_27
    have A_30 := Lib.hid (A_27.out.grown gr30 (fun e => bx_A_x0 _ e.symm rfl))
    clear A_27
    have bx_30 := Lib.hid (bx_27.out.grown gr30 (fun e => bx_bx_x0 _ e.symm rfl))
    clear bx_27
    have x0_30 := Lib.hid m30
    clear m30 gr30 x0_27 HB_27
    clear hc_A_28
    have hc_A_31 := A_30.out.cell
    clear hc_bx_29
    have hc_bx_32 := bx_30.out.cell
    go_wp2_with fail
    refine (eqIntS_any _ _ ps0 ps0 _ (row_own vg0_30.out) (row_own vw0_30.out)).mono ?_
    rintro e W33 ⟨rfl, k33, hw33⟩
    have l33 : Below W30.heap.size W30 W33 := by rw [hw33]; exact bdrew _ _
    clear hw33
    have HB_34 := Lib.hid (HB_30.out.trans (l33.mono HB_30.out.size))
    have vw0_34 := Lib.hid (own_below vw0_30.out l33 (Nat.le_refl _))
    clear vw0_30
    have x0_34 := Lib.hid (own_below x0_30.out l33 (Nat.le_refl _))
    clear x0_30
    have vg0_34 := Lib.hid (own_below vg0_30.out l33 (Nat.le_refl _))
    clear vg0_30
    have A_34 := Lib.hid (A_30.out.below l33 A_30.out.lt)
    clear A_30
    have bx_34 := Lib.hid (bx_30.out.below l33 bx_30.out.lt)
    clear bx_30
    clear HB_30
    clear hc_A_31
    have hc_A_35 := A_34.out.cell
    clear hc_bx_32
    have hc_bx_36 := bx_34.out.cell
    clear l33
    clear x0_34
    clear bx_34 hc_bx_36
    go_wp2_with fail
    refine (markI_own _ ps0.length 1 _ _ _ vg0_34.out (by have := HL0.out; have := HN0.out; omega)).mono ?_
    rintro e W37 ⟨rfl, m37, gr37⟩
    have HB_37 := Lib.hid (HB_34.out.grown gr37 HB_34.out.size (fun q hq => (vg0_34.out.lt q hq).1))
    have vw0_37 := Lib.hid (own_apart vw0_34.out gr37 (fun k h1 h2 => ap_vw0_vg0 k h1 h2))
    clear vw0_34
    have A_37 := Lib.hid (A_34.out.grown gr37 (fun e => bx_A_vg0 _ e.symm rfl))
    clear A_34
    have vg0_37 := Lib.hid m37
    clear m37 gr37 vg0_34 HB_34
    clear hc_A_35
    have hc_A_38 := A_37.out.cell
    go_wp2_with fail
    refine (heldI_own _ ps0.length 1 _ _ vg0_37.out (by have := HL0.out; have := HN0.out; omega)).mono ?_
    rintro e W ⟨rfl, rfl⟩
    go_wp2_with fail
    refine (toTree_lit _ z0 _ (HR0.out.below HB_37.out (Nat.le_refl _)) HN0.out).mono ?_
    rintro e W40 ⟨g_t0, rfl, o_t0, l40⟩
    have ap_vw0_t0 : ∀ k, (vw0 : Value).ownBlock = some k → (.slice (some ⟨g_t0, 0, none⟩) z0.length z0.length : Value).ownBlock ≠ some k := fun k h1 h2 => absurd (vw0_37.out.lt k h1).2 (Nat.not_lt.2 (o_t0.lt k h2).1)
    have ap_vg0_t0 : ∀ k, (vg0 : Value).ownBlock = some k → (.slice (some ⟨g_t0, 0, none⟩) z0.length z0.length : Value).ownBlock ≠ some k := fun k h1 h2 => absurd (vg0_37.out.lt k h1).2 (Nat.not_lt.2 (o_t0.lt k h2).1)
    have bx_A_t0 : ∀ k, (.slice (some ⟨g_t0, 0, none⟩) z0.length z0.length : Value).ownBlock = some k → k ≠ R0 := fun k h1 h2 => absurd A_37.out.lt (Nat.not_lt.2 (by rw [← h2]; exact (o_t0.lt k h1).1))
    have O_t0 := Lib.hid (own_base o_t0 (HB_37.out.size))
    have HB_41 := Lib.hid (HB_37.out.trans (l40.mono HB_37.out.size))
    have vw0_41 := Lib.hid (own_below vw0_37.out l40 (Nat.le_refl _))
    clear vw0_37
    have vg0_41 := Lib.hid (own_below vg0_37.out l40 (Nat.le_refl _))
    clear vg0_37
    have A_41 := Lib.hid (A_37.out.below l40 A_37.out.lt)
    clear A_37
    clear HB_37
    clear hc_A_38
    have hc_A_42 := A_41.out.cell
    clear o_t0 l40
    go_wp2_with fail
    refine (HIm.out g_t0 _ (row_own O_t0.out)).mono ?_
    rintro e W43 ⟨vh0, rfl, o_vh0, l43⟩
    have ap_vw0_vh0 : ∀ k, (vw0 : Value).ownBlock = some k → (vh0 : Value).ownBlock ≠ some k := fun k h1 h2 => absurd (vw0_41.out.lt k h1).2 (Nat.not_lt.2 (o_vh0.lt k h2).1)
    have ap_vg0_vh0 : ∀ k, (vg0 : Value).ownBlock = some k → (vh0 : Value).ownBlock ≠ some k := fun k h1 h2 => absurd (vg0_41.out.lt k h1).2 (Nat.not_lt.2 (o_vh0.lt k h2).1)
    have ap_t0_vh0 : ∀ k, (.slice (some ⟨g_t0, 0, none⟩) z0.length z0.length : Value).ownBlock = some k → (vh0 : Value).ownBlock ≠ some k := fun k h1 h2 => absurd (O_t0.out.lt k h1).2 (Nat.not_lt.2 (o_vh0.lt k h2).1)
    have bx_A_vh0 : ∀ k, (vh0 : Value).ownBlock = some k → k ≠ R0 := fun k h1 h2 => absurd A_41.out.lt (Nat.not_lt.2 (by rw [← h2]; exact (o_vh0.lt k h1).1))
    have O_vh0 := Lib.hid (own_base o_vh0 (HB_41.out.size))
    have HB_44 := Lib.hid (HB_41.out.trans (l43.mono HB_41.out.size))
    have vw0_44 := Lib.hid (own_below vw0_41.out l43 (Nat.le_refl _))
    clear vw0_41
    have vg0_44 := Lib.hid (own_below vg0_41.out l43 (Nat.le_refl _))
    clear vg0_41
    have t0_44 := Lib.hid (own_below O_t0.out l43 (Nat.le_refl _))
    clear O_t0
    have A_44 := Lib.hid (A_41.out.below l43 A_41.out.lt)
    clear A_41
    clear HB_41
    clear hc_A_42
    have hc_A_45 := A_44.out.cell
    clear l43 o_vh0
    go_wp2_with fail
    refine (eqIntS_any _ _ ps0 ps0 _ (row_own O_vh0.out) (row_own vw0_44.out)).mono ?_
    rintro e W46 ⟨rfl, k46, hw46⟩
    have l46 : Below W43.heap.size W43 W46 := by rw [hw46]; exact bdrew _ _
    clear hw46
    have HB_47 := Lib.hid (HB_44.out.trans (l46.mono HB_44.out.size))
    have vw0_47 := Lib.hid (own_below vw0_44.out l46 (Nat.le_refl _))
    clear vw0_44
    have vg0_47 := Lib.hid (own_below vg0_44.out l46 (Nat.le_refl _))
    clear vg0_44
    have t0_47 := Lib.hid (own_below t0_44.out l46 (Nat.le_refl _))
    clear t0_44
    have vh0_47 := Lib.hid (own_below O_vh0.out l46 (Nat.le_refl _))
    clear O_vh0
    have A_47 := Lib.hid (A_44.out.below l46 A_44.out.lt)
    clear A_44
    clear HB_44
    clear hc_A_45
    have hc_A_48 := A_47.out.cell
    clear l46
    go_wp2_with fail
    refine (heldI_own _ ps0.length 1 _ _ vg0_47.out (by have := HL0.out; have := HN0.out; omega)).mono ?_
    rintro e W ⟨rfl, rfl⟩
    go_wp2_with fail
    go_ret
    exact ⟨rfl, HB_47.out⟩
end Go.Proofs.Ytejdphfcogfcmaa
