/-
  The exact law of ParseTree.
-/
import Derived.Test.YtejdphfcogfcmaaDoorTreePI
import Derived.Test.YtejdphfcogfcmaaDoorExTreeB
import Derived.WalkLawsBesides
import Derived.Deep.RegionHeld3
import Derived.Deep.CutRange
namespace Go.Proofs.YtejdphfcogfcmaaDoor
open Go.RowKit Go.Lib Go.Joins
set_option linter.unusedVariables false

set_option maxRecDepth 100000 in
set_option maxHeartbeats 4000000 in
theorem fnExactParseTree_walk (w : World) (a0 : ByteArray) (w0 : a0.size ≤ maxLen) (_hsh : w.ShapedOpen Tryd.prog) (hL : laidMetH Tryd.prog Rows.fnExactParseTreeRow.laid w) :
    Calls Tryd.prog 4 #[.string a0] w fun e w' => e = .returned (.bool true) ∧ Below w.heap.size w w' := by
  have HTab := Lib.hid (tab_of_laid hL rfl (by simp [Rows.fnExactParseTreeRow]))
  have HErr := Lib.hid (errs_of_laid hL rfl (by simp [Rows.fnExactParseTreeRow]) (by simp [Rows.fnExactParseTreeRow]))
  clear hL
  unfold maxLen at w0
  by_cases hn0 : a0.size ≤ 1048576
  rotate_left
  · have hn0' : ¬ (a0.size : Int) ≤ 1048576 := by omega
    go_enter Tryd.func4, Tryd.ntmps4
    go_wp2_with fail
    go_ret
    exact ⟨rfl, Below.refl _ _⟩
  have hn0' : (a0.size : Int) ≤ 1048576 := by omega
  have HSp := Lib.hid (fun (W : World) => specParseTree_any a0 W (by omega))
  have HIm := Lib.hid (fun (W : World) => fun (ht : Tab W) (he : Errs W) => implParseTree_any a0 W (by omega) ht he)
  have hlen0 := ptL_len8 a0
  generalize ptL a0 = ps0 at HSp HIm hlen0
  have HL0 := Lib.hid hlen0
  clear hlen0
  generalize ptB a0 = r0 at HSp HIm
  have HT := Lib.hid (show ((1 : Int)) = ((1 : Nat) : Int) from rfl)
  go_enter Tryd.func4, Tryd.ntmps4
  go_wp2_with fail
  refine (HSp.out _).mono ?_
  rintro e W1 ⟨vw0, rfl, o_vw0, l1⟩
  obtain ⟨a_vw0, c_vw0, rfl, _, _⟩ := own_some_e o_vw0
  have O_vw0 := Lib.hid o_vw0
  have HB_2 := Lib.hid l1
  clear l1 o_vw0
  go_upto_region 4 with fail
  obtain ⟨W3, hW3⟩ : ∃ W3, W3 = W1.alloc (.cells #[.slice a_vw0 ps0.length c_vw0] 28) := ⟨_, rfl⟩
  have l3 : Below W1.heap.size W1 W3 := by rw [hW3]; exact (Below.refl _ _).alloc (Nat.le_refl _) _
  have bw_b3 : Hid (Bx W3 W1.heap.size (.slice a_vw0 ps0.length c_vw0) 28) := Lib.hid (by rw [hW3]; exact Bx.new _ _ _)
  rw [← hW3]
  clear hW3
  have bx_bw_vw0 : ∀ k, (.slice a_vw0 ps0.length c_vw0 : Value).ownBlock = some k → k ≠ W1.heap.size := fun k h1 h2 => absurd (O_vw0.out.lt k h1).2 (by omega)
  obtain ⟨X_bw, hX_bw⟩ : ∃ X, X = W1.heap.size := ⟨_, rfl⟩
  rw [← hX_bw] at bw_b3 bx_bw_vw0 ⊢
  clear hX_bw
  have HB_4 := Lib.hid (HB_2.out.trans (l3.mono HB_2.out.size))
  have vw0_4 := Lib.hid (own_below O_vw0.out l3 (Nat.le_refl _))
  clear O_vw0
  clear HB_2
  clear l3
  have hc_bw_5 := bw_b3.out.cell
  go_wp2_with fail
  refine (HIm.out _ (HTab.out.below HB_4.out) (HErr.out.below HB_4.out)).mono ?_
  rintro e W6 ⟨vg0, rfl, o_vg0, l6⟩
  obtain ⟨a_vg0, c_vg0, rfl, _, _⟩ := own_some_e o_vg0
  have ap_vw0_vg0 : ∀ k, (.slice a_vw0 ps0.length c_vw0 : Value).ownBlock = some k → (.slice a_vg0 ps0.length c_vg0 : Value).ownBlock ≠ some k := fun k h1 h2 => absurd (vw0_4.out.lt k h1).2 (Nat.not_lt.2 (o_vg0.lt k h2).1)
  have bx_bw_vg0 : ∀ k, (.slice a_vg0 ps0.length c_vg0 : Value).ownBlock = some k → k ≠ X_bw := fun k h1 h2 => absurd bw_b3.out.lt (Nat.not_lt.2 (by rw [← h2]; exact (o_vg0.lt k h1).1))
  have O_vg0 := Lib.hid (own_base o_vg0 (HB_4.out.size))
  have HB_7 := Lib.hid (HB_4.out.trans (l6.mono HB_4.out.size))
  have vw0_7 := Lib.hid (own_below vw0_4.out l6 (Nat.le_refl _))
  clear vw0_4
  have bw_7 := Lib.hid (bw_b3.out.below l6 bw_b3.out.lt)
  clear bw_b3
  clear HB_4
  clear hc_bw_5
  have hc_bw_8 := bw_7.out.cell
  clear l6 o_vg0
  go_upto_region 5 with fail
  obtain ⟨W9, hW9⟩ : ∃ W9, W9 = W6.alloc (.cells #[.slice a_vg0 ps0.length c_vg0] 28) := ⟨_, rfl⟩
  have l9 : Below W6.heap.size W6 W9 := by rw [hW9]; exact (Below.refl _ _).alloc (Nat.le_refl _) _
  have bg_b9 : Hid (Bx W9 W6.heap.size (.slice a_vg0 ps0.length c_vg0) 28) := Lib.hid (by rw [hW9]; exact Bx.new _ _ _)
  rw [← hW9]
  clear hW9
  have bx_bg_vw0 : ∀ k, (.slice a_vw0 ps0.length c_vw0 : Value).ownBlock = some k → k ≠ W6.heap.size := fun k h1 h2 => absurd (vw0_7.out.lt k h1).2 (by omega)
  have bx_bg_vg0 : ∀ k, (.slice a_vg0 ps0.length c_vg0 : Value).ownBlock = some k → k ≠ W6.heap.size := fun k h1 h2 => absurd (O_vg0.out.lt k h1).2 (by omega)
  obtain ⟨X_bg, hX_bg⟩ : ∃ X, X = W6.heap.size := ⟨_, rfl⟩
  rw [← hX_bg] at bg_b9 bx_bg_vw0 bx_bg_vg0 ⊢
  clear hX_bg
  have HB_10 := Lib.hid (HB_7.out.trans (l9.mono HB_7.out.size))
  have vw0_10 := Lib.hid (own_below vw0_7.out l9 (Nat.le_refl _))
  clear vw0_7
  have vg0_10 := Lib.hid (own_below O_vg0.out l9 (Nat.le_refl _))
  clear O_vg0
  have bw_10 := Lib.hid (bw_7.out.below l9 bw_7.out.lt)
  clear bw_7
  clear HB_7
  clear hc_bw_8
  have hc_bw_11 := bw_10.out.cell
  clear l9
  clear hc_bw_11
  have hc_bw_12 := bw_10.out.cell
  have hc_bg_13 := bg_b9.out.cell
  go_wp2_with fail
  refine (eqTree_any _ _ ps0 ps0 _ (row_own vg0_10.out) (row_own vw0_10.out)).mono ?_
  rintro e W14 ⟨rfl, l14⟩
  have HB_15 := Lib.hid (HB_10.out.trans (l14.mono HB_10.out.size))
  have vw0_15 := Lib.hid (own_below vw0_10.out l14 (Nat.le_refl _))
  clear vw0_10
  have vg0_15 := Lib.hid (own_below vg0_10.out l14 (Nat.le_refl _))
  clear vg0_10
  have bw_15 := Lib.hid (bw_10.out.below l14 bw_10.out.lt)
  clear bw_10
  have bg_15 := Lib.hid (bg_b9.out.below l14 bg_b9.out.lt)
  clear bg_b9
  clear HB_10
  clear hc_bw_12
  have hc_bw_16 := bw_15.out.cell
  clear hc_bg_13
  have hc_bg_17 := bg_15.out.cell
  clear l14
  go_wp2_with fail
  refine (markT_own _ ps0.length 1 _ _ _ vg0_15.out (by have := HL0.out; omega)).mono ?_
  rintro e W18 ⟨rfl, m18, gr18⟩
  have HB_18 := Lib.hid (HB_15.out.grown gr18 HB_15.out.size (fun q hq => (vg0_15.out.lt q hq).1))
  have vw0_18 := Lib.hid (own_apart vw0_15.out gr18 (fun k h1 h2 => ap_vw0_vg0 k h1 h2))
  clear vw0_15
  have bw_18 := Lib.hid (bw_15.out.grown gr18 (fun e => bx_bw_vg0 _ e.symm rfl))
  clear bw_15
  have bg_18 := Lib.hid (bg_15.out.grown gr18 (fun e => bx_bg_vg0 _ e.symm rfl))
  clear bg_15
  have vg0_18 := Lib.hid m18
  clear m18 gr18 vg0_15 HB_15
  clear hc_bw_16
  have hc_bw_19 := bw_18.out.cell
  clear hc_bg_17
  have hc_bg_20 := bg_18.out.cell
  go_wp2_with fail
  refine (heldT_own _ ps0.length 1 _ _ vg0_18.out (by have := HL0.out; omega)).mono ?_
  rintro e W21 ⟨rfl, l21⟩
  have HB_22 := Lib.hid (HB_18.out.trans (l21.mono HB_18.out.size))
  have vw0_22 := Lib.hid (own_below vw0_18.out l21 (Nat.le_refl _))
  clear vw0_18
  have vg0_22 := Lib.hid (own_below vg0_18.out l21 (Nat.le_refl _))
  clear vg0_18
  have bw_22 := Lib.hid (bw_18.out.below l21 bw_18.out.lt)
  clear bw_18
  have bg_22 := Lib.hid (bg_18.out.below l21 bg_18.out.lt)
  clear bg_18
  clear HB_18
  clear hc_bw_19
  have hc_bw_23 := bw_22.out.cell
  clear hc_bg_20
  have hc_bg_24 := bg_22.out.cell
  clear l21
  go_wp2_with fail
  refine (HIm.out _ (HTab.out.below HB_22.out) (HErr.out.below HB_22.out)).mono ?_
  rintro e W25 ⟨vh0, rfl, o_vh0, l25⟩
  obtain ⟨a_vh0, c_vh0, rfl, _, _⟩ := own_some_e o_vh0
  have ap_vw0_vh0 : ∀ k, (.slice a_vw0 ps0.length c_vw0 : Value).ownBlock = some k → (.slice a_vh0 ps0.length c_vh0 : Value).ownBlock ≠ some k := fun k h1 h2 => absurd (vw0_22.out.lt k h1).2 (Nat.not_lt.2 (o_vh0.lt k h2).1)
  have ap_vg0_vh0 : ∀ k, (.slice a_vg0 ps0.length c_vg0 : Value).ownBlock = some k → (.slice a_vh0 ps0.length c_vh0 : Value).ownBlock ≠ some k := fun k h1 h2 => absurd (vg0_22.out.lt k h1).2 (Nat.not_lt.2 (o_vh0.lt k h2).1)
  have bx_bw_vh0 : ∀ k, (.slice a_vh0 ps0.length c_vh0 : Value).ownBlock = some k → k ≠ X_bw := fun k h1 h2 => absurd bw_22.out.lt (Nat.not_lt.2 (by rw [← h2]; exact (o_vh0.lt k h1).1))
  have bx_bg_vh0 : ∀ k, (.slice a_vh0 ps0.length c_vh0 : Value).ownBlock = some k → k ≠ X_bg := fun k h1 h2 => absurd bg_22.out.lt (Nat.not_lt.2 (by rw [← h2]; exact (o_vh0.lt k h1).1))
  have O_vh0 := Lib.hid (own_base o_vh0 (HB_22.out.size))
  have HB_26 := Lib.hid (HB_22.out.trans (l25.mono HB_22.out.size))
  have vw0_26 := Lib.hid (own_below vw0_22.out l25 (Nat.le_refl _))
  clear vw0_22
  have vg0_26 := Lib.hid (own_below vg0_22.out l25 (Nat.le_refl _))
  clear vg0_22
  have bw_26 := Lib.hid (bw_22.out.below l25 bw_22.out.lt)
  clear bw_22
  have bg_26 := Lib.hid (bg_22.out.below l25 bg_22.out.lt)
  clear bg_22
  clear HB_22
  clear hc_bw_23
  have hc_bw_27 := bw_26.out.cell
  clear hc_bg_24
  have hc_bg_28 := bg_26.out.cell
  clear l25 o_vh0
  go_upto_region 16 with fail
  obtain ⟨W29, hW29⟩ : ∃ W29, W29 = W25.alloc (.cells #[.slice a_vh0 ps0.length c_vh0] 28) := ⟨_, rfl⟩
  have l29 : Below W25.heap.size W25 W29 := by rw [hW29]; exact (Below.refl _ _).alloc (Nat.le_refl _) _
  have bh_b29 : Hid (Bx W29 W25.heap.size (.slice a_vh0 ps0.length c_vh0) 28) := Lib.hid (by rw [hW29]; exact Bx.new _ _ _)
  rw [← hW29]
  clear hW29
  have bx_bh_vw0 : ∀ k, (.slice a_vw0 ps0.length c_vw0 : Value).ownBlock = some k → k ≠ W25.heap.size := fun k h1 h2 => absurd (vw0_26.out.lt k h1).2 (by omega)
  have bx_bh_vg0 : ∀ k, (.slice a_vg0 ps0.length c_vg0 : Value).ownBlock = some k → k ≠ W25.heap.size := fun k h1 h2 => absurd (vg0_26.out.lt k h1).2 (by omega)
  have bx_bh_vh0 : ∀ k, (.slice a_vh0 ps0.length c_vh0 : Value).ownBlock = some k → k ≠ W25.heap.size := fun k h1 h2 => absurd (O_vh0.out.lt k h1).2 (by omega)
  obtain ⟨X_bh, hX_bh⟩ : ∃ X, X = W25.heap.size := ⟨_, rfl⟩
  rw [← hX_bh] at bh_b29 bx_bh_vw0 bx_bh_vg0 bx_bh_vh0 ⊢
  clear hX_bh
  have HB_30 := Lib.hid (HB_26.out.trans (l29.mono HB_26.out.size))
  have vw0_30 := Lib.hid (own_below vw0_26.out l29 (Nat.le_refl _))
  clear vw0_26
  have vg0_30 := Lib.hid (own_below vg0_26.out l29 (Nat.le_refl _))
  clear vg0_26
  have vh0_30 := Lib.hid (own_below O_vh0.out l29 (Nat.le_refl _))
  clear O_vh0
  have bw_30 := Lib.hid (bw_26.out.below l29 bw_26.out.lt)
  clear bw_26
  have bg_30 := Lib.hid (bg_26.out.below l29 bg_26.out.lt)
  clear bg_26
  clear HB_26
  clear hc_bw_27
  have hc_bw_31 := bw_30.out.cell
  clear hc_bg_28
  have hc_bg_32 := bg_30.out.cell
  clear l29
  clear hc_bw_31
  have hc_bw_33 := bw_30.out.cell
  clear hc_bg_32
  have hc_bg_34 := bg_30.out.cell
  have hc_bh_35 := bh_b29.out.cell
  go_wp2_with fail
  refine (eqTree_any _ _ ps0 ps0 _ (row_own vh0_30.out) (row_own vw0_30.out)).mono ?_
  rintro e W36 ⟨rfl, l36⟩
  have HB_37 := Lib.hid (HB_30.out.trans (l36.mono HB_30.out.size))
  have vw0_37 := Lib.hid (own_below vw0_30.out l36 (Nat.le_refl _))
  clear vw0_30
  have vg0_37 := Lib.hid (own_below vg0_30.out l36 (Nat.le_refl _))
  clear vg0_30
  have vh0_37 := Lib.hid (own_below vh0_30.out l36 (Nat.le_refl _))
  clear vh0_30
  have bw_37 := Lib.hid (bw_30.out.below l36 bw_30.out.lt)
  clear bw_30
  have bg_37 := Lib.hid (bg_30.out.below l36 bg_30.out.lt)
  clear bg_30
  have bh_37 := Lib.hid (bh_b29.out.below l36 bh_b29.out.lt)
  clear bh_b29
  clear HB_30
  clear hc_bw_33
  have hc_bw_38 := bw_37.out.cell
  clear hc_bg_34
  have hc_bg_39 := bg_37.out.cell
  clear hc_bh_35
  have hc_bh_40 := bh_37.out.cell
  clear l36
  go_wp2_with fail
  refine (heldT_own _ ps0.length 1 _ _ vg0_37.out (by have := HL0.out; omega)).mono ?_
  rintro e W41 ⟨rfl, l41⟩
  have HB_42 := Lib.hid (HB_37.out.trans (l41.mono HB_37.out.size))
  have vw0_42 := Lib.hid (own_below vw0_37.out l41 (Nat.le_refl _))
  clear vw0_37
  have vg0_42 := Lib.hid (own_below vg0_37.out l41 (Nat.le_refl _))
  clear vg0_37
  have vh0_42 := Lib.hid (own_below vh0_37.out l41 (Nat.le_refl _))
  clear vh0_37
  have bw_42 := Lib.hid (bw_37.out.below l41 bw_37.out.lt)
  clear bw_37
  have bg_42 := Lib.hid (bg_37.out.below l41 bg_37.out.lt)
  clear bg_37
  have bh_42 := Lib.hid (bh_37.out.below l41 bh_37.out.lt)
  clear bh_37
  clear HB_37
  clear hc_bw_38
  have hc_bw_43 := bw_42.out.cell
  clear hc_bg_39
  have hc_bg_44 := bg_42.out.cell
  clear hc_bh_40
  have hc_bh_45 := bh_42.out.cell
  clear l41
  go_wp2_with fail
  go_ret
  exact ⟨rfl, HB_42.out⟩
end Go.Proofs.YtejdphfcogfcmaaDoor
