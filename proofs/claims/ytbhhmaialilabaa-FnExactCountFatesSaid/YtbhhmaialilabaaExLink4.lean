/-
  The exact law of letters counted.
-/
import Derived.Test.YtbhhmaialilabaaCountI
import Derived.Test.YtbhhmaialilabaaLink5
import Derived.Test.YtbhhmaialilabaaExLinkB
import Derived.WalkLawsBesides
import Derived.Deep.RegionHeld3
import Derived.Deep.CutRange
namespace Go.Proofs.Ytbhhmaialilabaa
open Go.RowKit Go.Lib Go.Joins
set_option linter.unusedVariables false

set_option maxRecDepth 100000 in
set_option maxHeartbeats 8000000 in
theorem fnExactCountFates_wk (w : World) (v0 : Value) (z0 : Lk) (w0 : Row w v0 z0.q.length (z0.q.map Value.string)) (b0 : ∀ s ∈ z0.q, s.size ≤ maxLen) (c0 : z0.f.size ≤ maxLen) :
    Calls Try.prog 13 #[.agg #[v0, .string z0.f, .int .i64 z0.u]] w fun e w' => e = .returned (.bool true) ∧ Below w.heap.size w w' := by
  obtain ⟨p0, cap0, rfl, hc10, hc20, _⟩ := row_open w0
  unfold maxLen at hc20
  obtain ⟨W0, hW0⟩ : ∃ W0, W0 = w.alloc (.cells #[.slice p0 z0.q.length cap0, .string z0.f, .int .i64 z0.u] 55) := ⟨_, rfl⟩
  have HA0 : Hid (Bk W0 w.heap.size (.slice p0 z0.q.length cap0) z0.f z0.u 55) := Lib.hid (by rw [hW0]; exact Bk.new w _ _ _ _)
  have HB0 : Hid (Below w.heap.size w W0) := Lib.hid (by rw [hW0]; exact (Below.refl w.heap.size w).alloc (Nat.le_refl _) _)
  have HW0 := Lib.hid hW0
  clear hW0
  obtain ⟨R0, hR0⟩ : ∃ R0, R0 = w.heap.size := ⟨_, rfl⟩
  rw [← hR0] at HA0
  have HQ0 := Lib.hid hR0
  clear hR0
  have HR0 := Lib.hid w0
  have HSz := Lib.hid (fun (W : World) (hr : Row W (.slice p0 z0.q.length cap0) z0.q.length (z0.q.map Value.string)) => szLink_any (.slice p0 z0.q.length cap0) z0 W hr b0 c0 1048576 (by omega))
  clear w0 b0 c0
  go_enter Try.func13, Try.ntmps13
  go_upto_region 1 with fail
  rw [← HW0.out, ← HQ0.out]
  obtain ⟨hc0_A_1, hc1_A_1, hc2_A_1⟩ := HA0.out.cells
  go_wp2_with fail
  refine (HSz.out _ (HR0.out.below HB0.out (Nat.le_refl _))).mono ?_
  rintro e W2 ⟨l2, r0, rfl, hr1, hr0⟩
  have HB_3 := Lib.hid (HB0.out.trans (l2.mono HB0.out.size))
  have A_3 := Lib.hid (HA0.out.below l2 HA0.out.lt)
  clear HA0
  clear HB0
  clear hc0_A_1 hc1_A_1 hc2_A_1
  obtain ⟨hc0_A_4, hc1_A_4, hc2_A_4⟩ := A_3.out.cells
  clear l2
  by_cases hneg : r0 < 0
  · clear hr0
    go_wp2_with fail
    go_ret
    exact ⟨rfl, HB_3.out⟩
  obtain ⟨hm0, hs0, hf0, hr00⟩ := hr0.resolve_left hneg
  have HN0 := Lib.hid hm0
  have HF0 := Lib.hid hf0
  clear hr0 hs0 HSz
  have hm0' := hm0
  have hf0' := hf0
  have HSp := Lib.hid (fun (g0 : Nat) (W : World) (h0 : Row W (.slice (some ⟨g0, 0, none⟩) z0.q.length z0.q.length) z0.q.length (z0.q.map Value.string)) => specCount_any (.slice (some ⟨g0, 0, none⟩) z0.q.length z0.q.length) z0 W h0 (by omega))
  have HIm := Lib.hid (fun (g0 : Nat) (W : World) (h0 : Row W (.slice (some ⟨g0, 0, none⟩) z0.q.length z0.q.length) z0.q.length (z0.q.map Value.string)) => implCount_any (.slice (some ⟨g0, 0, none⟩) z0.q.length z0.q.length) z0 W h0)
  have hlen0 := cntV_len z0
  generalize cntV z0 = ps0 at HSp HIm hlen0
  have HL0 := Lib.hid hlen0
  clear hlen0
  generalize lkOk z0 = r0 at HSp HIm
  clear hm0 hf0 hm0' hf0'
  go_wp2_with fail
  refine (toLink_lit _ z0 _ (HR0.out.below HB_3.out (Nat.le_refl _)) HN0.out).mono ?_
  rintro e W5 ⟨g_s0, rfl, o_s0, l5⟩
  have bx_A_s0 : ∀ k, (.slice (some ⟨g_s0, 0, none⟩) z0.q.length z0.q.length : Value).ownBlock = some k → k ≠ R0 := fun k h1 h2 => absurd A_3.out.lt (Nat.not_lt.2 (by rw [← h2]; exact (o_s0.lt k h1).1))
  have BX_A_s0 := Lib.hid bx_A_s0
  clear bx_A_s0
  have O_s0 := Lib.hid (own_base o_s0 (HB_3.out.size))
  have HB_6 := Lib.hid (HB_3.out.trans (l5.mono HB_3.out.size))
  have A_6 := Lib.hid (A_3.out.below l5 A_3.out.lt)
  clear A_3
  clear HB_3
  clear hc0_A_4 hc1_A_4 hc2_A_4
  obtain ⟨hc0_A_7, hc1_A_7, hc2_A_7⟩ := A_6.out.cells
  clear o_s0 l5
  go_wp2_with fail
  refine (HSp.out g_s0 _ (row_own O_s0.out)).mono ?_
  rintro e W8 ⟨vw0, rfl, o_vw0, l8⟩
  obtain ⟨a_vw0, c_vw0, rfl, _, _⟩ := own_someS0 o_vw0
  have ap_s0_vw0 : ∀ k, (.slice (some ⟨g_s0, 0, none⟩) z0.q.length z0.q.length : Value).ownBlock = some k → (.slice a_vw0 ps0.length c_vw0 : Value).ownBlock ≠ some k := fun k h1 h2 => absurd (O_s0.out.lt k h1).2 (Nat.not_lt.2 (o_vw0.lt k h2).1)
  have AP_s0_vw0 := Lib.hid ap_s0_vw0
  clear ap_s0_vw0
  have bx_A_vw0 : ∀ k, (.slice a_vw0 ps0.length c_vw0 : Value).ownBlock = some k → k ≠ R0 := fun k h1 h2 => absurd A_6.out.lt (Nat.not_lt.2 (by rw [← h2]; exact (o_vw0.lt k h1).1))
  have BX_A_vw0 := Lib.hid bx_A_vw0
  clear bx_A_vw0
  have O_vw0 := Lib.hid (own_base o_vw0 (HB_6.out.size))
  have HB_9 := Lib.hid (HB_6.out.trans (l8.mono HB_6.out.size))
  have s0_9 := Lib.hid (own_below O_s0.out l8 (Nat.le_refl _))
  clear O_s0
  have A_9 := Lib.hid (A_6.out.below l8 A_6.out.lt)
  clear A_6
  clear HB_6
  clear hc0_A_7 hc1_A_7 hc2_A_7
  obtain ⟨hc0_A_10, hc1_A_10, hc2_A_10⟩ := A_9.out.cells
  clear l8 o_vw0
  clear s0_9
  go_wp2_with fail
  refine (toLink_lit _ z0 _ (HR0.out.below HB_9.out (Nat.le_refl _)) HN0.out).mono ?_
  rintro e W11 ⟨g_x0, rfl, o_x0, l11⟩
  have ap_vw0_x0 : ∀ k, (.slice a_vw0 ps0.length c_vw0 : Value).ownBlock = some k → (.slice (some ⟨g_x0, 0, none⟩) z0.q.length z0.q.length : Value).ownBlock ≠ some k := fun k h1 h2 => absurd (O_vw0.out.lt k h1).2 (Nat.not_lt.2 (o_x0.lt k h2).1)
  have AP_vw0_x0 := Lib.hid ap_vw0_x0
  clear ap_vw0_x0
  have bx_A_x0 : ∀ k, (.slice (some ⟨g_x0, 0, none⟩) z0.q.length z0.q.length : Value).ownBlock = some k → k ≠ R0 := fun k h1 h2 => absurd A_9.out.lt (Nat.not_lt.2 (by rw [← h2]; exact (o_x0.lt k h1).1))
  have BX_A_x0 := Lib.hid bx_A_x0
  clear bx_A_x0
  have O_x0 := Lib.hid (own_base o_x0 (HB_9.out.size))
  have HB_12 := Lib.hid (HB_9.out.trans (l11.mono HB_9.out.size))
  have vw0_12 := Lib.hid (own_below O_vw0.out l11 (Nat.le_refl _))
  clear O_vw0
  have A_12 := Lib.hid (A_9.out.below l11 A_9.out.lt)
  clear A_9
  clear HB_9
  clear hc0_A_10 hc1_A_10 hc2_A_10
  obtain ⟨hc0_A_13, hc1_A_13, hc2_A_13⟩ := A_12.out.cells
  clear o_x0 l11
  go_upto_region 7 with fail
  obtain ⟨W14, hW14⟩ : ∃ W14, W14 = W11.alloc (.cells #[.slice (some ⟨g_x0, 0, none⟩) z0.q.length z0.q.length, .string z0.f, .int .i64 z0.u] 26) := ⟨_, rfl⟩
  have l14 : Below W11.heap.size W11 W14 := by rw [hW14]; exact (Below.refl _ _).alloc (Nat.le_refl _) _
  have bx_b14 : Hid (Bk W14 W11.heap.size (.slice (some ⟨g_x0, 0, none⟩) z0.q.length z0.q.length) z0.f z0.u 26) := Lib.hid (by rw [hW14]; exact Bk.new _ _ _ _ _)
  rw [← hW14]
  clear hW14
  have BX_bx_vw0 : Hid (∀ k, (.slice a_vw0 ps0.length c_vw0 : Value).ownBlock = some k → k ≠ W11.heap.size) := Lib.hid (fun k h1 h2 => absurd (vw0_12.out.lt k h1).2 (by omega))
  have BX_bx_x0 : Hid (∀ k, (.slice (some ⟨g_x0, 0, none⟩) z0.q.length z0.q.length : Value).ownBlock = some k → k ≠ W11.heap.size) := Lib.hid (fun k h1 h2 => absurd (O_x0.out.lt k h1).2 (by omega))
  obtain ⟨X_bx, hX_bx⟩ : ∃ X, X = W11.heap.size := ⟨_, rfl⟩
  rw [← hX_bx] at bx_b14 BX_bx_vw0 BX_bx_x0 ⊢
  clear hX_bx
  have HB_15 := Lib.hid (HB_12.out.trans (l14.mono HB_12.out.size))
  have vw0_15 := Lib.hid (own_below vw0_12.out l14 (Nat.le_refl _))
  clear vw0_12
  have x0_15 := Lib.hid (own_below O_x0.out l14 (Nat.le_refl _))
  clear O_x0
  have A_15 := Lib.hid (A_12.out.below l14 A_12.out.lt)
  clear A_12
  clear HB_12
  clear hc0_A_13 hc1_A_13 hc2_A_13
  obtain ⟨hc0_A_16, hc1_A_16, hc2_A_16⟩ := A_15.out.cells
  clear l14
  clear hc0_A_16 hc1_A_16 hc2_A_16
  obtain ⟨hc0_A_17, hc1_A_17, hc2_A_17⟩ := A_15.out.cells
  obtain ⟨hc0_bx_18, hc1_bx_18, hc2_bx_18⟩ := bx_b14.out.cells
  go_wp2_with fail
  refine (HIm.out g_x0 _ (row_own x0_15.out)).mono ?_
  rintro e W19 ⟨vg0, rfl, o_vg0, l19⟩
  obtain ⟨a_vg0, c_vg0, rfl, _, _⟩ := own_someS0 o_vg0
  have ap_vw0_vg0 : ∀ k, (.slice a_vw0 ps0.length c_vw0 : Value).ownBlock = some k → (.slice a_vg0 ps0.length c_vg0 : Value).ownBlock ≠ some k := fun k h1 h2 => absurd (vw0_15.out.lt k h1).2 (Nat.not_lt.2 (o_vg0.lt k h2).1)
  have AP_vw0_vg0 := Lib.hid ap_vw0_vg0
  clear ap_vw0_vg0
  have ap_x0_vg0 : ∀ k, (.slice (some ⟨g_x0, 0, none⟩) z0.q.length z0.q.length : Value).ownBlock = some k → (.slice a_vg0 ps0.length c_vg0 : Value).ownBlock ≠ some k := fun k h1 h2 => absurd (x0_15.out.lt k h1).2 (Nat.not_lt.2 (o_vg0.lt k h2).1)
  have AP_x0_vg0 := Lib.hid ap_x0_vg0
  clear ap_x0_vg0
  have bx_A_vg0 : ∀ k, (.slice a_vg0 ps0.length c_vg0 : Value).ownBlock = some k → k ≠ R0 := fun k h1 h2 => absurd A_15.out.lt (Nat.not_lt.2 (by rw [← h2]; exact (o_vg0.lt k h1).1))
  have BX_A_vg0 := Lib.hid bx_A_vg0
  clear bx_A_vg0
  have bx_bx_vg0 : ∀ k, (.slice a_vg0 ps0.length c_vg0 : Value).ownBlock = some k → k ≠ X_bx := fun k h1 h2 => absurd bx_b14.out.lt (Nat.not_lt.2 (by rw [← h2]; exact (o_vg0.lt k h1).1))
  have BX_bx_vg0 := Lib.hid bx_bx_vg0
  clear bx_bx_vg0
  have O_vg0 := Lib.hid (own_base o_vg0 (HB_15.out.size))
  have HB_20 := Lib.hid (HB_15.out.trans (l19.mono HB_15.out.size))
  have vw0_20 := Lib.hid (own_below vw0_15.out l19 (Nat.le_refl _))
  clear vw0_15
  have x0_20 := Lib.hid (own_below x0_15.out l19 (Nat.le_refl _))
  clear x0_15
  have A_20 := Lib.hid (A_15.out.below l19 A_15.out.lt)
  clear A_15
  have bx_20 := Lib.hid (bx_b14.out.below l19 bx_b14.out.lt)
  clear bx_b14
  clear HB_15
  clear hc0_A_17 hc1_A_17 hc2_A_17
  obtain ⟨hc0_A_21, hc1_A_21, hc2_A_21⟩ := A_20.out.cells
  clear hc0_bx_18 hc1_bx_18 hc2_bx_18
  obtain ⟨hc0_bx_22, hc1_bx_22, hc2_bx_22⟩ := bx_20.out.cells
  clear l19 o_vg0
  go_wp2_with fail
  refine (eqIntS_any _ _ ps0 ps0 _ (row_own O_vg0.out) (row_own vw0_20.out)).mono ?_
  rintro e W23 ⟨rfl, k23, hw23⟩
  have l23 : Below W19.heap.size W19 W23 := by rw [hw23]; exact bdrew _ _
  clear hw23
  have HB_24 := Lib.hid (HB_20.out.trans (l23.mono HB_20.out.size))
  have vw0_24 := Lib.hid (own_below vw0_20.out l23 (Nat.le_refl _))
  clear vw0_20
  have x0_24 := Lib.hid (own_below x0_20.out l23 (Nat.le_refl _))
  clear x0_20
  have vg0_24 := Lib.hid (own_below O_vg0.out l23 (Nat.le_refl _))
  clear O_vg0
  have A_24 := Lib.hid (A_20.out.below l23 A_20.out.lt)
  clear A_20
  have bx_24 := Lib.hid (bx_20.out.below l23 bx_20.out.lt)
  clear bx_20
  clear HB_20
  clear hc0_A_21 hc1_A_21 hc2_A_21
  obtain ⟨hc0_A_25, hc1_A_25, hc2_A_25⟩ := A_24.out.cells
  clear hc0_bx_22 hc1_bx_22 hc2_bx_22
  obtain ⟨hc0_bx_26, hc1_bx_26, hc2_bx_26⟩ := bx_24.out.cells
  clear l23
  go_upto_region 10 with fail
  go_cut [45] from 41 to 45 (fun b wx => b = .bool false ∧ Hid (Below W23.heap.size W23 wx))
  case first => as_aux_lemma =>
    go_region_held3 (fun w' => w'.cell? ⟨X_bx, 0, none⟩ = some (.slice (some ⟨g_x0, 0, none⟩) z0.q.length z0.q.length) ∧ w'.cell? ⟨X_bx, 1, none⟩ = some (.string z0.f) ∧ w'.cell? ⟨X_bx, 2, none⟩ = some (.int .i64 z0.u) ∧ w'.cell? ⟨R0, 0, none⟩ = some (.slice p0 z0.q.length cap0) ∧ w'.cell? ⟨R0, 1, none⟩ = some (.string z0.f) ∧ w'.cell? ⟨R0, 2, none⟩ = some (.int .i64 z0.u) ∧ Below W23.heap.size W23 w')
      ((refine keep_links bx_24.out A_24.out ?_; repeat (first | assumption | exact Below.refl _ _ | refine Below.drew ?_)))
      (first
        | (go_at_call 45; refine (toLink_lit _ z0 _ (HR0.out.below (HB_24.out.trans ((by repeat (first | assumption | exact Below.refl _ _ | refine Below.drew ?_) : Below W23.heap.size W23 _).mono HB_24.out.size)) (Nat.le_refl _)) HN0.out).mono ?_; rintro e w5 ⟨g5, rfl, o5, l5⟩; have hb5 := below_call7 (by repeat (first | assumption | exact Below.refl _ _ | refine Below.drew ?_) : Below W23.heap.size W23 _) l5; have ho5 := row_own o5; clear o5 l5)
        | (go_at_call 46; refine (eqLink_same _ _ z0 _ ((row_own x0_24.out).below hb5 (Nat.le_refl _)) ho5).mono ?_; rintro e w6 ⟨rfl, l6⟩; have hb6 := below_call7 hb5 l6; clear l6))
    all_goals go_wp2_with fail
    all_goals go_meet
    all_goals
      case rel => exact ⟨by simp, Lib.hid (by repeat (first | assumption | exact Below.refl _ _ | refine Below.drew ?_))⟩
  case rest =>
    obtain ⟨rfl, HCut⟩ := hcut
    rename World => W27
    have l27 := HCut.out
    clear HCut
    have HB_28 := Lib.hid (HB_24.out.trans (l27.mono HB_24.out.size))
    have vw0_28 := Lib.hid (own_below vw0_24.out l27 (Nat.le_refl _))
    clear vw0_24
    have x0_28 := Lib.hid (own_below x0_24.out l27 (Nat.le_refl _))
    clear x0_24
    have vg0_28 := Lib.hid (own_below vg0_24.out l27 (Nat.le_refl _))
    clear vg0_24
    have A_28 := Lib.hid (A_24.out.below l27 A_24.out.lt)
    clear A_24
    have bx_28 := Lib.hid (bx_24.out.below l27 bx_24.out.lt)
    clear bx_24
    clear HB_24
    clear hc0_A_25 hc1_A_25 hc2_A_25
    obtain ⟨hc0_A_29, hc1_A_29, hc2_A_29⟩ := A_28.out.cells
    clear hc0_bx_26 hc1_bx_26 hc2_bx_26
    obtain ⟨hc0_bx_30, hc1_bx_30, hc2_bx_30⟩ := bx_28.out.cells
    clear l27
    go_wp2_with fail
    refine (markL_own _ _ _ z0.q.length 1 _ _ _ x0_28.out (by omega) (by have := HL0.out; have := HN0.out; omega)).mono ?_
    rintro e W31 ⟨rfl, m31, gr31⟩
    have HB_31 := Lib.hid (HB_28.out.grown gr31 HB_28.out.size (fun q hq => (x0_28.out.lt q hq).1))
    have vw0_31 := Lib.hid (own_apart vw0_28.out gr31 (fun k h1 h2 => AP_vw0_x0.out k h1 h2))
    clear vw0_28
    have vg0_31 := Lib.hid (own_apart vg0_28.out gr31 (fun k h1 h2 => AP_x0_vg0.out k h2 h1))
    clear vg0_28
    have A_31 := Lib.hid (A_28.out.grown gr31 (fun e => BX_A_x0.out _ e.symm rfl))
    clear A_28
    have bx_31 := Lib.hid (bx_28.out.grown gr31 (fun e => BX_bx_x0.out _ e.symm rfl))
    clear bx_28
    have x0_31 := Lib.hid m31
    clear m31 gr31 x0_28 HB_28
    clear hc0_A_29 hc1_A_29 hc2_A_29
    obtain ⟨hc0_A_32, hc1_A_32, hc2_A_32⟩ := A_31.out.cells
    clear hc0_bx_30 hc1_bx_30 hc2_bx_30
    obtain ⟨hc0_bx_33, hc1_bx_33, hc2_bx_33⟩ := bx_31.out.cells
    go_wp2_with fail
    refine (eqIntS_any _ _ ps0 ps0 _ (row_own vg0_31.out) (row_own vw0_31.out)).mono ?_
    rintro e W34 ⟨rfl, k34, hw34⟩
    have l34 : Below W31.heap.size W31 W34 := by rw [hw34]; exact bdrew _ _
    clear hw34
    have HB_35 := Lib.hid (HB_31.out.trans (l34.mono HB_31.out.size))
    have vw0_35 := Lib.hid (own_below vw0_31.out l34 (Nat.le_refl _))
    clear vw0_31
    have x0_35 := Lib.hid (own_below x0_31.out l34 (Nat.le_refl _))
    clear x0_31
    have vg0_35 := Lib.hid (own_below vg0_31.out l34 (Nat.le_refl _))
    clear vg0_31
    have A_35 := Lib.hid (A_31.out.below l34 A_31.out.lt)
    clear A_31
    have bx_35 := Lib.hid (bx_31.out.below l34 bx_31.out.lt)
    clear bx_31
    clear HB_31
    clear hc0_A_32 hc1_A_32 hc2_A_32
    obtain ⟨hc0_A_36, hc1_A_36, hc2_A_36⟩ := A_35.out.cells
    clear hc0_bx_33 hc1_bx_33 hc2_bx_33
    obtain ⟨hc0_bx_37, hc1_bx_37, hc2_bx_37⟩ := bx_35.out.cells
    clear l34
    clear x0_35
    clear bx_35 hc0_bx_37 hc1_bx_37 hc2_bx_37
    go_wp2_with fail
    refine (markI_own _ ps0.length 1 _ _ _ vg0_35.out (by have := HL0.out; have := HN0.out; omega)).mono ?_
    rintro e W38 ⟨rfl, m38, gr38⟩
    have HB_38 := Lib.hid (HB_35.out.grown gr38 HB_35.out.size (fun q hq => (vg0_35.out.lt q hq).1))
    have vw0_38 := Lib.hid (own_apart vw0_35.out gr38 (fun k h1 h2 => AP_vw0_vg0.out k h1 h2))
    clear vw0_35
    have A_38 := Lib.hid (A_35.out.grown gr38 (fun e => BX_A_vg0.out _ e.symm rfl))
    clear A_35
    have vg0_38 := Lib.hid m38
    clear m38 gr38 vg0_35 HB_35
    clear hc0_A_36 hc1_A_36 hc2_A_36
    obtain ⟨hc0_A_39, hc1_A_39, hc2_A_39⟩ := A_38.out.cells
    go_wp2_with fail
    refine (heldI_own _ ps0.length 1 _ _ vg0_38.out (by have := HL0.out; have := HN0.out; omega)).mono ?_
    rintro e W ⟨rfl, rfl⟩
    go_wp2_with fail
    refine (toLink_lit _ z0 _ (HR0.out.below HB_38.out (Nat.le_refl _)) HN0.out).mono ?_
    rintro e W41 ⟨g_t0, rfl, o_t0, l41⟩
    have ap_vw0_t0 : ∀ k, (.slice a_vw0 ps0.length c_vw0 : Value).ownBlock = some k → (.slice (some ⟨g_t0, 0, none⟩) z0.q.length z0.q.length : Value).ownBlock ≠ some k := fun k h1 h2 => absurd (vw0_38.out.lt k h1).2 (Nat.not_lt.2 (o_t0.lt k h2).1)
    have AP_vw0_t0 := Lib.hid ap_vw0_t0
    clear ap_vw0_t0
    have ap_vg0_t0 : ∀ k, (.slice a_vg0 ps0.length c_vg0 : Value).ownBlock = some k → (.slice (some ⟨g_t0, 0, none⟩) z0.q.length z0.q.length : Value).ownBlock ≠ some k := fun k h1 h2 => absurd (vg0_38.out.lt k h1).2 (Nat.not_lt.2 (o_t0.lt k h2).1)
    have AP_vg0_t0 := Lib.hid ap_vg0_t0
    clear ap_vg0_t0
    have bx_A_t0 : ∀ k, (.slice (some ⟨g_t0, 0, none⟩) z0.q.length z0.q.length : Value).ownBlock = some k → k ≠ R0 := fun k h1 h2 => absurd A_38.out.lt (Nat.not_lt.2 (by rw [← h2]; exact (o_t0.lt k h1).1))
    have BX_A_t0 := Lib.hid bx_A_t0
    clear bx_A_t0
    have O_t0 := Lib.hid (own_base o_t0 (HB_38.out.size))
    have HB_42 := Lib.hid (HB_38.out.trans (l41.mono HB_38.out.size))
    have vw0_42 := Lib.hid (own_below vw0_38.out l41 (Nat.le_refl _))
    clear vw0_38
    have vg0_42 := Lib.hid (own_below vg0_38.out l41 (Nat.le_refl _))
    clear vg0_38
    have A_42 := Lib.hid (A_38.out.below l41 A_38.out.lt)
    clear A_38
    clear HB_38
    clear hc0_A_39 hc1_A_39 hc2_A_39
    obtain ⟨hc0_A_43, hc1_A_43, hc2_A_43⟩ := A_42.out.cells
    clear o_t0 l41
    go_wp2_with fail
    refine (HIm.out g_t0 _ (row_own O_t0.out)).mono ?_
    rintro e W44 ⟨vh0, rfl, o_vh0, l44⟩
    obtain ⟨a_vh0, c_vh0, rfl, _, _⟩ := own_someS0 o_vh0
    have ap_vw0_vh0 : ∀ k, (.slice a_vw0 ps0.length c_vw0 : Value).ownBlock = some k → (.slice a_vh0 ps0.length c_vh0 : Value).ownBlock ≠ some k := fun k h1 h2 => absurd (vw0_42.out.lt k h1).2 (Nat.not_lt.2 (o_vh0.lt k h2).1)
    have AP_vw0_vh0 := Lib.hid ap_vw0_vh0
    clear ap_vw0_vh0
    have ap_vg0_vh0 : ∀ k, (.slice a_vg0 ps0.length c_vg0 : Value).ownBlock = some k → (.slice a_vh0 ps0.length c_vh0 : Value).ownBlock ≠ some k := fun k h1 h2 => absurd (vg0_42.out.lt k h1).2 (Nat.not_lt.2 (o_vh0.lt k h2).1)
    have AP_vg0_vh0 := Lib.hid ap_vg0_vh0
    clear ap_vg0_vh0
    have ap_t0_vh0 : ∀ k, (.slice (some ⟨g_t0, 0, none⟩) z0.q.length z0.q.length : Value).ownBlock = some k → (.slice a_vh0 ps0.length c_vh0 : Value).ownBlock ≠ some k := fun k h1 h2 => absurd (O_t0.out.lt k h1).2 (Nat.not_lt.2 (o_vh0.lt k h2).1)
    have AP_t0_vh0 := Lib.hid ap_t0_vh0
    clear ap_t0_vh0
    have bx_A_vh0 : ∀ k, (.slice a_vh0 ps0.length c_vh0 : Value).ownBlock = some k → k ≠ R0 := fun k h1 h2 => absurd A_42.out.lt (Nat.not_lt.2 (by rw [← h2]; exact (o_vh0.lt k h1).1))
    have BX_A_vh0 := Lib.hid bx_A_vh0
    clear bx_A_vh0
    have O_vh0 := Lib.hid (own_base o_vh0 (HB_42.out.size))
    have HB_45 := Lib.hid (HB_42.out.trans (l44.mono HB_42.out.size))
    have vw0_45 := Lib.hid (own_below vw0_42.out l44 (Nat.le_refl _))
    clear vw0_42
    have vg0_45 := Lib.hid (own_below vg0_42.out l44 (Nat.le_refl _))
    clear vg0_42
    have t0_45 := Lib.hid (own_below O_t0.out l44 (Nat.le_refl _))
    clear O_t0
    have A_45 := Lib.hid (A_42.out.below l44 A_42.out.lt)
    clear A_42
    clear HB_42
    clear hc0_A_43 hc1_A_43 hc2_A_43
    obtain ⟨hc0_A_46, hc1_A_46, hc2_A_46⟩ := A_45.out.cells
    clear l44 o_vh0
    go_wp2_with fail
    refine (eqIntS_any _ _ ps0 ps0 _ (row_own O_vh0.out) (row_own vw0_45.out)).mono ?_
    rintro e W47 ⟨rfl, k47, hw47⟩
    have l47 : Below W44.heap.size W44 W47 := by rw [hw47]; exact bdrew _ _
    clear hw47
    have HB_48 := Lib.hid (HB_45.out.trans (l47.mono HB_45.out.size))
    have vw0_48 := Lib.hid (own_below vw0_45.out l47 (Nat.le_refl _))
    clear vw0_45
    have vg0_48 := Lib.hid (own_below vg0_45.out l47 (Nat.le_refl _))
    clear vg0_45
    have t0_48 := Lib.hid (own_below t0_45.out l47 (Nat.le_refl _))
    clear t0_45
    have vh0_48 := Lib.hid (own_below O_vh0.out l47 (Nat.le_refl _))
    clear O_vh0
    have A_48 := Lib.hid (A_45.out.below l47 A_45.out.lt)
    clear A_45
    clear HB_45
    clear hc0_A_46 hc1_A_46 hc2_A_46
    obtain ⟨hc0_A_49, hc1_A_49, hc2_A_49⟩ := A_48.out.cells
    clear l47
    go_wp2_with fail
    refine (heldI_own _ ps0.length 1 _ _ vg0_48.out (by have := HL0.out; have := HN0.out; omega)).mono ?_
    rintro e W ⟨rfl, rfl⟩
    go_wp2_with fail
    go_ret
    exact ⟨rfl, HB_48.out⟩
theorem fnExactCountFates_walk (w : World) (v0_0 : Value) (s0_0 : List ByteArray) (w0_0 : Row w v0_0 s0_0.length (s0_0.map Value.string)) (b0_0 : ∀ s ∈ s0_0, s.size ≤ maxLen) (a0_1 : ByteArray) (w0_1 : a0_1.size ≤ maxLen) (a0_2 : Int) (w0_2 : (Lit.int .i64 a0_2).wf = true) (_hsh : w.ShapedOpen Try.prog) :
    Calls Try.prog 13 #[.agg #[v0_0, .string a0_1, .int .i64 a0_2]] w fun e w' => e = .returned (.bool true) ∧ Below w.heap.size w w' :=
  fnExactCountFates_wk w v0_0 ⟨s0_0, a0_1, a0_2⟩ w0_0 b0_0 w0_1
end Go.Proofs.Ytbhhmaialilabaa
