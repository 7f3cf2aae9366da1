/-
  The exact law of TreeText.
-/
import Derived.Test.YtejdphfcogfcmaaDoorTreeTI
import Derived.Test.YtejdphfcogfcmaaDoorExTreeB
import Derived.WalkLawsBesides
import Derived.Deep.RegionHeld3
import Derived.Deep.CutRange
namespace Go.Proofs.YtejdphfcogfcmaaDoor
open Go.RowKit Go.Lib Go.Joins
set_option linter.unusedVariables false

set_option maxRecDepth 100000 in
set_option maxHeartbeats 4000000 in
theorem fnExactTreeText_walk (w : World) (v0 : Value) (z0 : List Int) (w0 : Row w v0 z0.length (z0.map (Value.int .i64))) (b0 : ∀ z ∈ z0, (Lit.int .i64 z).wf = true) (_hsh : w.ShapedOpen Tryd.prog) (hL : laidMetH Tryd.prog Rows.fnExactTreeTextRow.laid w) :
    Calls Tryd.prog 3 #[.agg #[v0]] w fun e w' => e = .returned (.bool true) ∧ Below w.heap.size w w' := by
  have HTab := Lib.hid (tab_of_laid hL rfl (by simp [Rows.fnExactTreeTextRow]))
  clear hL
  obtain ⟨p0, cap0, rfl, hc10, hc20, _⟩ := row_open w0
  unfold maxLen at hc20
  obtain ⟨W0, hW0⟩ : ∃ W0, W0 = w.alloc (.cells #[.slice p0 z0.length cap0] 24) := ⟨_, rfl⟩
  have HA0 : Hid (Bx W0 w.heap.size (.slice p0 z0.length cap0) 24) := Lib.hid (by rw [hW0]; exact Bx.new w _ _)
  have HB0 : Hid (Below w.heap.size w W0) := Lib.hid (by rw [hW0]; exact (Below.refl w.heap.size w).alloc (Nat.le_refl _) _)
  have HW0 := Lib.hid hW0
  clear hW0
  obtain ⟨R0, hR0⟩ : ∃ R0, R0 = w.heap.size := ⟨_, rfl⟩
  rw [← hR0] at HA0
  have HQ0 := Lib.hid hR0
  clear hR0
  have hca := HA0.out.cell
  by_cases hn0 : (z0.length : Int) ≤ 1048576
  rotate_left
  · have HN0 := Lib.hid (fun (W : World) => szT_no p0 z0.length cap0 (1048576) W (by omega) (by omega) (by omega) (by unfold maxLen; omega))
    go_enter Tryd.func3, Tryd.ntmps3
    go_upto_region 1 with fail
    rw [← HW0.out, ← HQ0.out]
    go_wp2_with fail
    refine (HN0.out _).mono ?_
    rintro e W1 ⟨rfl, l1⟩
    have HB1 := Lib.hid (HB0.out.trans (l1.mono HB0.out.size))
    clear l1
    go_wp2_with fail
    go_ret
    exact ⟨rfl, HB1.out⟩
  have HY0 := Lib.hid (fun (W : World) => szT_yes p0 z0.length cap0 (1048576) W (by omega) (by omega))
  have hl0 : ¬ ((1048576) - (z0.length : Int) < 0) := by omega
  have hm0 : z0.length ≤ 1048576 := by omega
  have HR0 := Lib.hid w0
  have HN0 := Lib.hid hm0
  clear w0 b0
  have HSp := Lib.hid (fun (g0 : Nat) (W : World) (h0 : Row W (.slice (some ⟨g0, 0, none⟩) z0.length z0.length) z0.length (z0.map (Value.int .i64))) => specTreeText_any (.slice (some ⟨g0, 0, none⟩) z0.length z0.length) z0 W h0)
  have HIm := Lib.hid (fun (g0 : Nat) (W : World) (h0 : Row W (.slice (some ⟨g0, 0, none⟩) z0.length z0.length) z0.length (z0.map (Value.int .i64))) => fun (ht : Tab W) => implTreeText_any (.slice (some ⟨g0, 0, none⟩) z0.length z0.length) z0 W h0 ht)
  generalize ttV z0 = r0 at HSp HIm
  generalize trOk z0 = r1 at HSp HIm
  have HT := Lib.hid (show ((1 : Int)) = ((1 : Nat) : Int) from rfl)
  go_enter Tryd.func3, Tryd.ntmps3
  go_upto_region 1 with fail
  rw [← HW0.out, ← HQ0.out]
  go_wp2_with fail
  refine (HY0.out _).mono ?_
  rintro e W1 ⟨rfl, l1⟩
  have HB_2 := Lib.hid (HB0.out.trans (l1.mono HB0.out.size))
  have A_2 := Lib.hid (HA0.out.below l1 HA0.out.lt)
  clear HA0
  clear HB0
  clear hca
  have hc_A_3 := A_2.out.cell
  clear l1
  go_wp2_with fail
  refine (toTree_lit _ z0 _ (HR0.out.below HB_2.out (Nat.le_refl _)) HN0.out).mono ?_
  rintro e W4 ⟨g_s0, rfl, o_s0, l4⟩
  have bx_A_s0 : ∀ k, (.slice (some ⟨g_s0, 0, none⟩) z0.length z0.length : Value).ownBlock = some k → k ≠ R0 := fun k h1 h2 => absurd A_2.out.lt (Nat.not_lt.2 (by rw [← h2]; exact (o_s0.lt k h1).1))
  have O_s0 := Lib.hid (own_base o_s0 (HB_2.out.size))
  have HB_5 := Lib.hid (HB_2.out.trans (l4.mono HB_2.out.size))
  have A_5 := Lib.hid (A_2.out.below l4 A_2.out.lt)
  clear A_2
  clear HB_2
  clear hc_A_3
  have hc_A_6 := A_5.out.cell
  clear o_s0 l4
  go_wp2_with fail
  refine (HSp.out g_s0 _ (row_own O_s0.out)).mono ?_
  rintro e W7 ⟨rfl, l7⟩
  have HB_8 := Lib.hid (HB_5.out.trans (l7.mono HB_5.out.size))
  have s0_8 := Lib.hid (own_below O_s0.out l7 (Nat.le_refl _))
  clear O_s0
  have A_8 := Lib.hid (A_5.out.below l7 A_5.out.lt)
  clear A_5
  clear HB_5
  clear hc_A_6
  have hc_A_9 := A_8.out.cell
  clear l7
  clear s0_8
  go_wp2_with fail
  refine (toTree_lit _ z0 _ (HR0.out.below HB_8.out (Nat.le_refl _)) HN0.out).mono ?_
  rintro e W10 ⟨g_x0, rfl, o_x0, l10⟩
  have bx_A_x0 : ∀ k, (.slice (some ⟨g_x0, 0, none⟩) z0.length z0.length : Value).ownBlock = some k → k ≠ R0 := fun k h1 h2 => absurd A_8.out.lt (Nat.not_lt.2 (by rw [← h2]; exact (o_x0.lt k h1).1))
  have O_x0 := Lib.hid (own_base o_x0 (HB_8.out.size))
  have HB_11 := Lib.hid (HB_8.out.trans (l10.mono HB_8.out.size))
  have A_11 := Lib.hid (A_8.out.below l10 A_8.out.lt)
  clear A_8
  clear HB_8
  clear hc_A_9
  have hc_A_12 := A_11.out.cell
  clear o_x0 l10
  go_upto_region 7 with fail
  obtain ⟨W13, hW13⟩ : ∃ W13, W13 = W10.alloc (.cells #[.slice (some ⟨g_x0, 0, none⟩) z0.length z0.length] 28) := ⟨_, rfl⟩
  have l13 : Below W10.heap.size W10 W13 := by rw [hW13]; exact (Below.refl _ _).alloc (Nat.le_refl _) _
  have bx_b13 : Hid (Bx W13 W10.heap.size (.slice (some ⟨g_x0, 0, none⟩) z0.length z0.length) 28) := Lib.hid (by rw [hW13]; exact Bx.new _ _ _)
  rw [← hW13]
  clear hW13
  have bx_bx_x0 : ∀ k, (.slice (some ⟨g_x0, 0, none⟩) z0.length z0.length : Value).ownBlock = some k → k ≠ W10.heap.size := fun k h1 h2 => absurd (O_x0.out.lt k h1).2 (by omega)
  obtain ⟨X_bx, hX_bx⟩ : ∃ X, X = W10.heap.size := ⟨_, rfl⟩
  rw [← hX_bx] at bx_b13 bx_bx_x0 ⊢
  clear hX_bx
  have HB_14 := Lib.hid (HB_11.out.trans (l13.mono HB_11.out.size))
  have x0_14 := Lib.hid (own_below O_x0.out l13 (Nat.le_refl _))
  clear O_x0
  have A_14 := Lib.hid (A_11.out.below l13 A_11.out.lt)
  clear A_11
  clear HB_11
  clear hc_A_12
  have hc_A_15 := A_14.out.cell
  clear l13
  clear hc_A_15
  have hc_A_16 := A_14.out.cell
  have hc_bx_17 := bx_b13.out.cell
  go_wp2_with fail
  refine (HIm.out g_x0 _ (row_own x0_14.out) (HTab.out.below HB_14.out)).mono ?_
  rintro e W18 ⟨rfl, l18⟩
  have HB_19 := Lib.hid (HB_14.out.trans (l18.mono HB_14.out.size))
  have x0_19 := Lib.hid (own_below x0_14.out l18 (Nat.le_refl _))
  clear x0_14
  have A_19 := Lib.hid (A_14.out.below l18 A_14.out.lt)
  clear A_14
  have bx_19 := Lib.hid (bx_b13.out.below l18 bx_b13.out.lt)
  clear bx_b13
  clear HB_14
  clear hc_A_16
  have hc_A_20 := A_19.out.cell
  clear hc_bx_17
  have hc_bx_21 := bx_19.out.cell
  clear l18
  go_upto_region 10 with fail
  go_cut [39] from 35 to 39 (fun b wx => b = .bool false ∧ Hid (Below W18.heap.size W18 wx))
  case first => as_aux_lemma =>
    go_region_held3 (fun w' => w'.cell? ⟨X_bx, 0, none⟩ = some (.slice (some ⟨g_x0, 0, none⟩) z0.length z0.length) ∧ w'.cell? ⟨R0, 0, none⟩ = some (.slice p0 z0.length cap0) ∧ Below W18.heap.size W18 w')
      ((refine keep_two6 bx_19.out.cell bx_19.out.lt A_19.out.cell A_19.out.lt ?_; repeat (first | assumption | exact Below.refl _ _ | refine Below.drew ?_)))
      (first
        | (go_at_call 7; refine (toTree_lit _ z0 _ (HR0.out.below (HB_19.out.trans ((by repeat (first | assumption | exact Below.refl _ _ | refine Below.drew ?_) : Below W18.heap.size W18 _).mono HB_19.out.size)) (Nat.le_refl _)) HN0.out).mono ?_; rintro e w5 ⟨g5, rfl, o5, l5⟩; have hb5 := below_call6 (by repeat (first | assumption | exact Below.refl _ _ | refine Below.drew ?_) : Below W18.heap.size W18 _) l5; have ho5 := row_own o5; clear o5 l5)
        | (go_at_call 9; refine (eqTree_any _ _ z0 z0 _ ((row_own x0_19.out).below hb5 (Nat.le_refl _)) ho5).mono ?_; rintro e w6 ⟨rfl, l6⟩; have hb6 := below_call6 hb5 l6; clear l6))
    all_goals go_wp2_with fail
    all_goals go_meet
    all_goals
      case rel => exact ⟨by simp, Lib.hid (by repeat (first | assumption | exact Below.refl _ _ | refine Below.drew ?_))⟩
  case rest =>
    obtain ⟨rfl, HCut⟩ := hcut
    rename World => W22
    have l22 := HCut.out
    clear HCut
    have HB_23 := Lib.hid (HB_19.out.trans (l22.mono HB_19.out.size))
    have x0_23 := Lib.hid (own_below x0_19.out l22 (Nat.le_refl _))
    clear x0_19
    have A_23 := Lib.hid (A_19.out.below l22 A_19.out.lt)
    clear A_19
    have bx_23 := Lib.hid (bx_19.out.below l22 bx_19.out.lt)
    clear bx_19
    clear HB_19
    clear hc_A_20
    have hc_A_24 := A_23.out.cell
    clear hc_bx_21
    have hc_bx_25 := bx_23.out.cell
    clear l22
    go_wp2_with fail
    go_ret
    exact ⟨rfl, HB_23.out⟩
end Go.Proofs.YtejdphfcogfcmaaDoor
