/-
  The exact law of a new source.
-/
import Derived.Test.YtlendmiolhgecaaSrc
import Derived.Test.YtlendmiolhgecaaSrcI
import Derived.Test.YtlendmiolhgecaaSrcS
import Derived.WalkLawsBesides
import Derived.Deep.RegionHeld3
import Derived.Deep.CutRange
namespace Go.Proofs.Ytlendmiolhgecaa
open Go.RowKit Go.Lib Go.Joins
set_option linter.unusedVariables false

set_option maxRecDepth 100000 in
set_option maxHeartbeats 4000000 in
theorem fnExactNewSource_walk (w : World) (a0 : Int) (w0 : (Lit.int .i64 a0).wf = true) (a1 : Int) (w1 : (Lit.int .i64 a1).wf = true) (_hsh : w.ShapedOpen Try.prog) :
    Calls Try.prog 4 #[.int .i64 a0, .int .i64 a1] w fun e w' => e = .returned (.bool true) ∧ Below w.heap.size w w' := by
  have HB0 := Lib.hid (Below.refl w.heap.size w)
  have HSp := Lib.hid (fun (W : World) => specNew_any a0 a1 W)
  have HIm := Lib.hid (fun (W : World) => implNew_any a0 a1 W)
  generalize (newV a0 a1).w.t = pt at HSp HIm
  generalize (newV a0 a1).w.z = pz at HSp HIm
  generalize soOk (newW a0 a1) = ok at HSp HIm
  clear w0 w1
  have HEq := Lib.hid (fun (W : World) => eqSo_same (.slice none 0 0) (.slice none 0 0) (.slice none 0 0) (.slice none 0 0) ⟨⟨pt, pz, []⟩, 0, 0, []⟩ W (row_none _ none 0 (by unfold maxLen; omega)) (row_none _ none 0 (by unfold maxLen; omega)) (row_none _ none 0 (by unfold maxLen; omega)) (row_none _ none 0 (by unfold maxLen; omega)))
  dsimp only at HEq
  have HMk := Lib.hid (fun (W : World) => markSo_own (.slice none 0 0) (.slice none 0 0) pt pz 0 0 0 0 1 w.heap.size [] [] W (World.ownsRow_nil _ _ _ _) (World.ownsRow_nil _ _ _ _) (fun k h => by cases h) (by omega) (by omega))
  have HHe := Lib.hid (fun (W : World) => heldSo_own (.slice none 0 0) (.slice none 0 0) pt pz 0 0 0 0 1 w.heap.size W (World.ownsRow_nil _ _ _ _) (World.ownsRow_nil _ _ _ _) (fun k h => by cases h) (by omega) (by omega))
  go_enter Try.func4, Try.ntmps4
  go_wp2_with fail
  refine (HSp.out _).mono ?_
  rintro e W1 ⟨rfl, l1⟩
  have HB_2 := Lib.hid (HB0.out.trans (l1.mono HB0.out.size))
  clear l1
  go_upto_region 2 with fail
  obtain ⟨W3, hW3⟩ : ∃ W3, W3 = W1.alloc (.cells #[.int .i64 pt, .int .i64 pz, .slice none 0 0, .int .i64 0, .int .i64 0, .slice none 0 0] 29) := ⟨_, rfl⟩
  have l3 : Below W1.heap.size W1 W3 := by rw [hW3]; exact (Below.refl _ _).alloc (Nat.le_refl _) _
  have X3_W : Hid (Bx W3 W1.heap.size #[.int .i64 pt, .int .i64 pz, .slice none 0 0, .int .i64 0, .int .i64 0, .slice none 0 0] 29) := Lib.hid (by rw [hW3]; exact Bx.new _ _ _)
  rw [← hW3]
  clear hW3
  have HG_W : Hid (w.heap.size ≤ W1.heap.size) := Lib.hid HB_2.out.size
  obtain ⟨R_W, hR_W⟩ : ∃ X, X = W1.heap.size := ⟨_, rfl⟩
  rw [← hR_W] at X3_W HG_W ⊢
  clear hR_W
  have HB_4 := Lib.hid (HB_2.out.trans (l3.mono HB_2.out.size))
  clear l3
  have c5_W_0 := X3_W.out.at 0 (v := .int .i64 pt) rfl
  have c5_W_1 := X3_W.out.at 1 (v := .int .i64 pz) rfl
  have c5_W_2 := X3_W.out.at 2 (v := .slice none 0 0) rfl
  have c5_W_3 := X3_W.out.at 3 (v := .int .i64 0) rfl
  have c5_W_4 := X3_W.out.at 4 (v := .int .i64 0) rfl
  have c5_W_5 := X3_W.out.at 5 (v := .slice none 0 0) rfl
  go_wp2_with fail
  refine (HIm.out _).mono ?_
  rintro e W6 ⟨rfl, l6⟩
  clear c5_W_0 c5_W_1 c5_W_2 c5_W_3 c5_W_4 c5_W_5
  have HB_7 := Lib.hid (HB_4.out.trans (l6.mono HB_4.out.size))
  have W_7 := Lib.hid (X3_W.out.below l6 X3_W.out.lt)
  clear X3_W
  clear l6
  have c8_W_0 := W_7.out.at 0 (v := .int .i64 pt) rfl
  have c8_W_1 := W_7.out.at 1 (v := .int .i64 pz) rfl
  have c8_W_2 := W_7.out.at 2 (v := .slice none 0 0) rfl
  have c8_W_3 := W_7.out.at 3 (v := .int .i64 0) rfl
  have c8_W_4 := W_7.out.at 4 (v := .int .i64 0) rfl
  have c8_W_5 := W_7.out.at 5 (v := .slice none 0 0) rfl
  go_upto_region 3 with fail
  obtain ⟨W9, hW9⟩ : ∃ W9, W9 = W6.alloc (.cells #[.int .i64 pt, .int .i64 pz, .slice none 0 0, .int .i64 0, .int .i64 0, .slice none 0 0] 29) := ⟨_, rfl⟩
  have l9 : Below W6.heap.size W6 W9 := by rw [hW9]; exact (Below.refl _ _).alloc (Nat.le_refl _) _
  have X9_G : Hid (Bx W9 W6.heap.size #[.int .i64 pt, .int .i64 pz, .slice none 0 0, .int .i64 0, .int .i64 0, .slice none 0 0] 29) := Lib.hid (by rw [hW9]; exact Bx.new _ _ _)
  rw [← hW9]
  clear hW9
  have HG_G : Hid (w.heap.size ≤ W6.heap.size) := Lib.hid HB_7.out.size
  have HN_G_W : Hid (R_W < W6.heap.size) := Lib.hid W_7.out.lt
  obtain ⟨R_G, hR_G⟩ : ∃ X, X = W6.heap.size := ⟨_, rfl⟩
  rw [← hR_G] at X9_G HG_G HN_G_W ⊢
  clear hR_G
  clear c8_W_0 c8_W_1 c8_W_2 c8_W_3 c8_W_4 c8_W_5
  have HB_10 := Lib.hid (HB_7.out.trans (l9.mono HB_7.out.size))
  have W_10 := Lib.hid (W_7.out.below l9 W_7.out.lt)
  clear W_7
  clear l9
  have c11_W_0 := W_10.out.at 0 (v := .int .i64 pt) rfl
  have c11_W_1 := W_10.out.at 1 (v := .int .i64 pz) rfl
  have c11_W_2 := W_10.out.at 2 (v := .slice none 0 0) rfl
  have c11_W_3 := W_10.out.at 3 (v := .int .i64 0) rfl
  have c11_W_4 := W_10.out.at 4 (v := .int .i64 0) rfl
  have c11_W_5 := W_10.out.at 5 (v := .slice none 0 0) rfl
  have c12_G_0 := X9_G.out.at 0 (v := .int .i64 pt) rfl
  have c12_G_1 := X9_G.out.at 1 (v := .int .i64 pz) rfl
  have c12_G_2 := X9_G.out.at 2 (v := .slice none 0 0) rfl
  have c12_G_3 := X9_G.out.at 3 (v := .int .i64 0) rfl
  have c12_G_4 := X9_G.out.at 4 (v := .int .i64 0) rfl
  have c12_G_5 := X9_G.out.at 5 (v := .slice none 0 0) rfl
  go_wp2_with fail
  refine (HEq.out _).mono ?_
  rintro e W13 ⟨rfl, l13⟩
  clear c11_W_0 c11_W_1 c11_W_2 c11_W_3 c11_W_4 c11_W_5
  clear c12_G_0 c12_G_1 c12_G_2 c12_G_3 c12_G_4 c12_G_5
  have HB_14 := Lib.hid (HB_10.out.trans (l13.mono HB_10.out.size))
  have W_14 := Lib.hid (W_10.out.below l13 W_10.out.lt)
  clear W_10
  have G_14 := Lib.hid (X9_G.out.below l13 X9_G.out.lt)
  clear X9_G
  clear l13
  have c15_W_0 := W_14.out.at 0 (v := .int .i64 pt) rfl
  have c15_W_1 := W_14.out.at 1 (v := .int .i64 pz) rfl
  have c15_W_2 := W_14.out.at 2 (v := .slice none 0 0) rfl
  have c15_W_3 := W_14.out.at 3 (v := .int .i64 0) rfl
  have c15_W_4 := W_14.out.at 4 (v := .int .i64 0) rfl
  have c15_W_5 := W_14.out.at 5 (v := .slice none 0 0) rfl
  have c16_G_0 := G_14.out.at 0 (v := .int .i64 pt) rfl
  have c16_G_1 := G_14.out.at 1 (v := .int .i64 pz) rfl
  have c16_G_2 := G_14.out.at 2 (v := .slice none 0 0) rfl
  have c16_G_3 := G_14.out.at 3 (v := .int .i64 0) rfl
  have c16_G_4 := G_14.out.at 4 (v := .int .i64 0) rfl
  have c16_G_5 := G_14.out.at 5 (v := .slice none 0 0) rfl
  go_wp2_with fail
  refine (HMk.out _).mono ?_
  rintro e W17 ⟨rfl, _, _, wm, ga, gb⟩
  have l17 := below_none (grown_trans ga gb)
  clear ga gb
  clear c15_W_0 c15_W_1 c15_W_2 c15_W_3 c15_W_4 c15_W_5
  clear c16_G_0 c16_G_1 c16_G_2 c16_G_3 c16_G_4 c16_G_5
  have HB_18 := Lib.hid (HB_14.out.trans (l17.mono HB_14.out.size))
  have W_18 := Lib.hid (W_14.out.below l17 W_14.out.lt)
  clear W_14
  have G_18 := Lib.hid (G_14.out.below l17 G_14.out.lt)
  clear G_14
  clear l17
  have c19_W_0 := W_18.out.at 0 (v := .int .i64 pt) rfl
  have c19_W_1 := W_18.out.at 1 (v := .int .i64 pz) rfl
  have c19_W_2 := W_18.out.at 2 (v := .slice none 0 0) rfl
  have c19_W_3 := W_18.out.at 3 (v := .int .i64 0) rfl
  have c19_W_4 := W_18.out.at 4 (v := .int .i64 0) rfl
  have c19_W_5 := W_18.out.at 5 (v := .slice none 0 0) rfl
  have c20_G_0 := G_18.out.at 0 (v := .int .i64 pt) rfl
  have c20_G_1 := G_18.out.at 1 (v := .int .i64 pz) rfl
  have c20_G_2 := G_18.out.at 2 (v := .slice none 0 0) rfl
  have c20_G_3 := G_18.out.at 3 (v := .int .i64 0) rfl
  have c20_G_4 := G_18.out.at 4 (v := .int .i64 0) rfl
  have c20_G_5 := G_18.out.at 5 (v := .slice none 0 0) rfl
  go_wp2_with fail
  refine (HHe.out _).mono ?_
  rintro e W21 ⟨rfl, l21⟩
  clear c19_W_0 c19_W_1 c19_W_2 c19_W_3 c19_W_4 c19_W_5
  clear c20_G_0 c20_G_1 c20_G_2 c20_G_3 c20_G_4 c20_G_5
  have HB_22 := Lib.hid (HB_18.out.trans (l21.mono HB_18.out.size))
  have W_22 := Lib.hid (W_18.out.below l21 W_18.out.lt)
  clear W_18
  have G_22 := Lib.hid (G_18.out.below l21 G_18.out.lt)
  clear G_18
  clear l21
  have c23_W_0 := W_22.out.at 0 (v := .int .i64 pt) rfl
  have c23_W_1 := W_22.out.at 1 (v := .int .i64 pz) rfl
  have c23_W_2 := W_22.out.at 2 (v := .slice none 0 0) rfl
  have c23_W_3 := W_22.out.at 3 (v := .int .i64 0) rfl
  have c23_W_4 := W_22.out.at 4 (v := .int .i64 0) rfl
  have c23_W_5 := W_22.out.at 5 (v := .slice none 0 0) rfl
  have c24_G_0 := G_22.out.at 0 (v := .int .i64 pt) rfl
  have c24_G_1 := G_22.out.at 1 (v := .int .i64 pz) rfl
  have c24_G_2 := G_22.out.at 2 (v := .slice none 0 0) rfl
  have c24_G_3 := G_22.out.at 3 (v := .int .i64 0) rfl
  have c24_G_4 := G_22.out.at 4 (v := .int .i64 0) rfl
  have c24_G_5 := G_22.out.at 5 (v := .slice none 0 0) rfl
  go_wp2_with fail
  refine (HIm.out _).mono ?_
  rintro e W25 ⟨rfl, l25⟩
  clear c23_W_0 c23_W_1 c23_W_2 c23_W_3 c23_W_4 c23_W_5
  clear c24_G_0 c24_G_1 c24_G_2 c24_G_3 c24_G_4 c24_G_5
  have HB_26 := Lib.hid (HB_22.out.trans (l25.mono HB_22.out.size))
  have W_26 := Lib.hid (W_22.out.below l25 W_22.out.lt)
  clear W_22
  have G_26 := Lib.hid (G_22.out.below l25 G_22.out.lt)
  clear G_22
  clear l25
  have c27_W_0 := W_26.out.at 0 (v := .int .i64 pt) rfl
  have c27_W_1 := W_26.out.at 1 (v := .int .i64 pz) rfl
  have c27_W_2 := W_26.out.at 2 (v := .slice none 0 0) rfl
  have c27_W_3 := W_26.out.at 3 (v := .int .i64 0) rfl
  have c27_W_4 := W_26.out.at 4 (v := .int .i64 0) rfl
  have c27_W_5 := W_26.out.at 5 (v := .slice none 0 0) rfl
  have c28_G_0 := G_26.out.at 0 (v := .int .i64 pt) rfl
  have c28_G_1 := G_26.out.at 1 (v := .int .i64 pz) rfl
  have c28_G_2 := G_26.out.at 2 (v := .slice none 0 0) rfl
  have c28_G_3 := G_26.out.at 3 (v := .int .i64 0) rfl
  have c28_G_4 := G_26.out.at 4 (v := .int .i64 0) rfl
  have c28_G_5 := G_26.out.at 5 (v := .slice none 0 0) rfl
  go_upto_region 14 with fail
  obtain ⟨W29, hW29⟩ : ∃ W29, W29 = W25.alloc (.cells #[.int .i64 pt, .int .i64 pz, .slice none 0 0, .int .i64 0, .int .i64 0, .slice none 0 0] 29) := ⟨_, rfl⟩
  have l29 : Below W25.heap.size W25 W29 := by rw [hW29]; exact (Below.refl _ _).alloc (Nat.le_refl _) _
  have X29_H : Hid (Bx W29 W25.heap.size #[.int .i64 pt, .int .i64 pz, .slice none 0 0, .int .i64 0, .int .i64 0, .slice none 0 0] 29) := Lib.hid (by rw [hW29]; exact Bx.new _ _ _)
  rw [← hW29]
  clear hW29
  have HG_H : Hid (w.heap.size ≤ W25.heap.size) := Lib.hid HB_26.out.size
  have HN_H_W : Hid (R_W < W25.heap.size) := Lib.hid W_26.out.lt
  have HN_H_G : Hid (R_G < W25.heap.size) := Lib.hid G_26.out.lt
  obtain ⟨R_H, hR_H⟩ : ∃ X, X = W25.heap.size := ⟨_, rfl⟩
  rw [← hR_H] at X29_H HG_H HN_H_W HN_H_G ⊢
  clear hR_H
  clear c27_W_0 c27_W_1 c27_W_2 c27_W_3 c27_W_4 c27_W_5
  clear c28_G_0 c28_G_1 c28_G_2 c28_G_3 c28_G_4 c28_G_5
  have HB_30 := Lib.hid (HB_26.out.trans (l29.mono HB_26.out.size))
  have W_30 := Lib.hid (W_26.out.below l29 W_26.out.lt)
  clear W_26
  have G_30 := Lib.hid (G_26.out.below l29 G_26.out.lt)
  clear G_26
  clear l29
  have c31_W_0 := W_30.out.at 0 (v := .int .i64 pt) rfl
  have c31_W_1 := W_30.out.at 1 (v := .int .i64 pz) rfl
  have c31_W_2 := W_30.out.at 2 (v := .slice none 0 0) rfl
  have c31_W_3 := W_30.out.at 3 (v := .int .i64 0) rfl
  have c31_W_4 := W_30.out.at 4 (v := .int .i64 0) rfl
  have c31_W_5 := W_30.out.at 5 (v := .slice none 0 0) rfl
  have c32_G_0 := G_30.out.at 0 (v := .int .i64 pt) rfl
  have c32_G_1 := G_30.out.at 1 (v := .int .i64 pz) rfl
  have c32_G_2 := G_30.out.at 2 (v := .slice none 0 0) rfl
  have c32_G_3 := G_30.out.at 3 (v := .int .i64 0) rfl
  have c32_G_4 := G_30.out.at 4 (v := .int .i64 0) rfl
  have c32_G_5 := G_30.out.at 5 (v := .slice none 0 0) rfl
  have c33_H_0 := X29_H.out.at 0 (v := .int .i64 pt) rfl
  have c33_H_1 := X29_H.out.at 1 (v := .int .i64 pz) rfl
  have c33_H_2 := X29_H.out.at 2 (v := .slice none 0 0) rfl
  have c33_H_3 := X29_H.out.at 3 (v := .int .i64 0) rfl
  have c33_H_4 := X29_H.out.at 4 (v := .int .i64 0) rfl
  have c33_H_5 := X29_H.out.at 5 (v := .slice none 0 0) rfl
  go_wp2_with fail
  refine (HEq.out _).mono ?_
  rintro e W34 ⟨rfl, l34⟩
  clear c31_W_0 c31_W_1 c31_W_2 c31_W_3 c31_W_4 c31_W_5
  clear c32_G_0 c32_G_1 c32_G_2 c32_G_3 c32_G_4 c32_G_5
  clear c33_H_0 c33_H_1 c33_H_2 c33_H_3 c33_H_4 c33_H_5
  have HB_35 := Lib.hid (HB_30.out.trans (l34.mono HB_30.out.size))
  have W_35 := Lib.hid (W_30.out.below l34 W_30.out.lt)
  clear W_30
  have G_35 := Lib.hid (G_30.out.below l34 G_30.out.lt)
  clear G_30
  have H_35 := Lib.hid (X29_H.out.below l34 X29_H.out.lt)
  clear X29_H
  clear l34
  have c36_W_0 := W_35.out.at 0 (v := .int .i64 pt) rfl
  have c36_W_1 := W_35.out.at 1 (v := .int .i64 pz) rfl
  have c36_W_2 := W_35.out.at 2 (v := .slice none 0 0) rfl
  have c36_W_3 := W_35.out.at 3 (v := .int .i64 0) rfl
  have c36_W_4 := W_35.out.at 4 (v := .int .i64 0) rfl
  have c36_W_5 := W_35.out.at 5 (v := .slice none 0 0) rfl
  have c37_G_0 := G_35.out.at 0 (v := .int .i64 pt) rfl
  have c37_G_1 := G_35.out.at 1 (v := .int .i64 pz) rfl
  have c37_G_2 := G_35.out.at 2 (v := .slice none 0 0) rfl
  have c37_G_3 := G_35.out.at 3 (v := .int .i64 0) rfl
  have c37_G_4 := G_35.out.at 4 (v := .int .i64 0) rfl
  have c37_G_5 := G_35.out.at 5 (v := .slice none 0 0) rfl
  have c38_H_0 := H_35.out.at 0 (v := .int .i64 pt) rfl
  have c38_H_1 := H_35.out.at 1 (v := .int .i64 pz) rfl
  have c38_H_2 := H_35.out.at 2 (v := .slice none 0 0) rfl
  have c38_H_3 := H_35.out.at 3 (v := .int .i64 0) rfl
  have c38_H_4 := H_35.out.at 4 (v := .int .i64 0) rfl
  have c38_H_5 := H_35.out.at 5 (v := .slice none 0 0) rfl
  go_wp2_with fail
  refine (HHe.out _).mono ?_
  rintro e W39 ⟨rfl, l39⟩
  clear c36_W_0 c36_W_1 c36_W_2 c36_W_3 c36_W_4 c36_W_5
  clear c37_G_0 c37_G_1 c37_G_2 c37_G_3 c37_G_4 c37_G_5
  clear c38_H_0 c38_H_1 c38_H_2 c38_H_3 c38_H_4 c38_H_5
  have HB_40 := Lib.hid (HB_35.out.trans (l39.mono HB_35.out.size))
  have W_40 := Lib.hid (W_35.out.below l39 W_35.out.lt)
  clear W_35
  have G_40 := Lib.hid (G_35.out.below l39 G_35.out.lt)
  clear G_35
  have H_40 := Lib.hid (H_35.out.below l39 H_35.out.lt)
  clear H_35
  clear l39
  have c41_W_0 := W_40.out.at 0 (v := .int .i64 pt) rfl
  have c41_W_1 := W_40.out.at 1 (v := .int .i64 pz) rfl
  have c41_W_2 := W_40.out.at 2 (v := .slice none 0 0) rfl
  have c41_W_3 := W_40.out.at 3 (v := .int .i64 0) rfl
  have c41_W_4 := W_40.out.at 4 (v := .int .i64 0) rfl
  have c41_W_5 := W_40.out.at 5 (v := .slice none 0 0) rfl
  have c42_G_0 := G_40.out.at 0 (v := .int .i64 pt) rfl
  have c42_G_1 := G_40.out.at 1 (v := .int .i64 pz) rfl
  have c42_G_2 := G_40.out.at 2 (v := .slice none 0 0) rfl
  have c42_G_3 := G_40.out.at 3 (v := .int .i64 0) rfl
  have c42_G_4 := G_40.out.at 4 (v := .int .i64 0) rfl
  have c42_G_5 := G_40.out.at 5 (v := .slice none 0 0) rfl
  have c43_H_0 := H_40.out.at 0 (v := .int .i64 pt) rfl
  have c43_H_1 := H_40.out.at 1 (v := .int .i64 pz) rfl
  have c43_H_2 := H_40.out.at 2 (v := .slice none 0 0) rfl
  have c43_H_3 := H_40.out.at 3 (v := .int .i64 0) rfl
  have c43_H_4 := H_40.out.at 4 (v := .int .i64 0) rfl
  have c43_H_5 := H_40.out.at 5 (v := .slice none 0 0) rfl
  go_wp2_with fail
  go_ret
  exact ⟨rfl, HB_40.out⟩
end Go.Proofs.Ytlendmiolhgecaa
