/-
  The exact law of texts that are read.
-/
import Derived.Test.YtpmjdppipalfcaaDoorTl1
import Derived.Test.YtpmjdppipalfcaaDoorRcvS
import Derived.WalkLawsBesides
import Derived.Deep.RegionHeld3
import Derived.Deep.CutRange
namespace Go.Proofs.YtpmjdppipalfcaaDoor
open Go.RowKit Go.Lib Go.Joins
set_option linter.unusedVariables false

set_option maxRecDepth 100000 in
set_option maxHeartbeats 8000000 in
theorem fnExactParseSlots_wk (a0 : ByteArray) (w : World) (w0 : a0.size ≤ maxLen) (hTab : Tab w) (hErrs : Errs w) :
    Calls Tryd.prog 5 #[.string a0] w fun e w' => e = .returned (.bool true) ∧ Below w.heap.size w w' := by
  have hm0 := w0
  unfold maxLen at hm0
  have HB0 := Lib.hid (Below.refl w.heap.size w)
  have HTab_ := Lib.hid hTab
  clear hTab
  have HErrs_ := Lib.hid hErrs
  clear hErrs
  by_cases hn0 : a0.size ≤ 1048576
  rotate_left
  · have hn0' : (1048576 : Int) < (a0.size : Int) := by omega
    go_enter Tryd.func5, Tryd.ntmps5
    go_wp2_with fail
    go_ret
    exact ⟨rfl, HB0.out⟩
  have hn0' : ¬ (1048576 : Int) < (a0.size : Int) := by omega
  have HSp := Lib.hid (fun (W : World) => specParse_any a0 W hn0)
  have HIm := Lib.hid (fun (W : World) (xTab : Tab W) (xErrs : Errs W) => implParse_any a0 W hn0 xTab xErrs)
  have hlen0 := psV_len a0
  generalize psV a0 = ps0 at HSp HIm hlen0
  generalize psB a0 = r0_ at HSp HIm
  have HL0 := Lib.hid hlen0
  clear hlen0
  obtain ⟨km, hkm⟩ : ∃ km : Nat, 1 + 2 * ps0.q.length = km := ⟨_, rfl⟩
  have hkm0 : ¬ ((km : Nat) : Int) < 0 := by omega
  have HKm := Lib.hid hkm
  clear hkm
  go_enter Tryd.func5, Tryd.ntmps5
  go_wp2_with fail
  refine (HSp.out _).mono ?_
  rintro e W1 ⟨v_w, rfl, o_w, l1⟩
  have rw_0 := rowz_own o_w
  have r2_0 := rw_0
  obtain ⟨a_w, c_w, rfl, _⟩ := r2_0
  have RV := Lib.hid rw_0
  clear rw_0 o_w
  have HV0 := Lib.hid (Below.refl W1.heap.size W1)
  have HB_2 := Lib.hid (HB0.out.trans (l1.mono HB0.out.size))
  clear l1
  go_upto_region 4 with fail
  obtain ⟨W3, hW3⟩ : ∃ W3, W3 = W1.alloc (.cells #[.int .i64 ps0.x, .slice a_w ps0.q.length c_w] 26) := ⟨_, rfl⟩
  have l3 : Below W1.heap.size W1 W3 := by rw [hW3]; exact (Below.refl _ _).alloc (Nat.le_refl _) _
  have X3_vwB : Hid (Bx W3 W1.heap.size #[.int .i64 ps0.x, .slice a_w ps0.q.length c_w] 26) := Lib.hid (by rw [hW3]; exact Bx.new _ _ _)
  rw [← hW3]
  clear hW3
  have HG_vwB : Hid (w.heap.size ≤ W1.heap.size) := Lib.hid HB_2.out.size
  obtain ⟨R_vwB, hR_vwB⟩ : ∃ X, X = W1.heap.size := ⟨_, rfl⟩
  rw [← hR_vwB] at X3_vwB HG_vwB ⊢
  clear hR_vwB
  have HB_4 := Lib.hid (HB_2.out.trans (l3.mono HB_2.out.size))
  have HV_4 := Lib.hid (HV0.out.trans (l3.mono HV0.out.size))
  clear HV0
  clear l3
  have c5_vwB_0 := X3_vwB.out.at 0 (v := .int .i64 ps0.x) rfl
  have c5_vwB_1 := X3_vwB.out.at 1 (v := .slice a_w ps0.q.length c_w) rfl
  go_wp2_with fail
  refine (HIm.out _ (HTab_.out.below HB_4.out) (HErrs_.out.below HB_4.out)).mono ?_
  rintro e W6 ⟨v_g, rfl, o_g, l6⟩
  obtain ⟨a_g, c_g, rfl, _, _⟩ := ownz_slice o_g
  have BV_HV_g : Hid (∀ k, (.slice a_g ps0.q.length c_g : Value).ownBlock = some k → W1.heap.size ≤ k) := Lib.hid (fun k h => Nat.le_trans HV_4.out.size (o_g.lt k h).1)
  have O_g := Lib.hid (ownz_base o_g HB_4.out.size)
  have BX_vwB_g : Hid (∀ k, (.slice a_g ps0.q.length c_g : Value).ownBlock = some k → k ≠ R_vwB) := Lib.hid (fun k h1 h2 => absurd X3_vwB.out.lt (Nat.not_lt.2 (by rw [← h2]; exact (o_g.lt k h1).1)))
  clear o_g
  clear c5_vwB_0 c5_vwB_1
  have HB_7 := Lib.hid (HB_4.out.trans (l6.mono HB_4.out.size))
  have HV_7 := Lib.hid (HV_4.out.trans (l6.mono HV_4.out.size))
  clear HV_4
  have vwB_7 := Lib.hid (X3_vwB.out.below l6 X3_vwB.out.lt)
  clear X3_vwB
  clear l6
  have c8_vwB_0 := vwB_7.out.at 0 (v := .int .i64 ps0.x) rfl
  have c8_vwB_1 := vwB_7.out.at 1 (v := .slice a_w ps0.q.length c_w) rfl
  go_upto_region 5 with fail
  obtain ⟨W9, hW9⟩ : ∃ W9, W9 = W6.alloc (.cells #[.int .i64 ps0.x, .slice a_g ps0.q.length c_g] 26) := ⟨_, rfl⟩
  have l9 : Below W6.heap.size W6 W9 := by rw [hW9]; exact (Below.refl _ _).alloc (Nat.le_refl _) _
  have X9_gB : Hid (Bx W9 W6.heap.size #[.int .i64 ps0.x, .slice a_g ps0.q.length c_g] 26) := Lib.hid (by rw [hW9]; exact Bx.new _ _ _)
  rw [← hW9]
  clear hW9
  have BX_gB_g : Hid (∀ k, (.slice a_g ps0.q.length c_g : Value).ownBlock = some k → k ≠ W6.heap.size) := Lib.hid (fun k h1 h2 => absurd (O_g.out.lt k h1).2 (by omega))
  have HG_gB : Hid (w.heap.size ≤ W6.heap.size) := Lib.hid HB_7.out.size
  have HN_gB_vwB : Hid (R_vwB < W6.heap.size) := Lib.hid vwB_7.out.lt
  obtain ⟨R_gB, hR_gB⟩ : ∃ X, X = W6.heap.size := ⟨_, rfl⟩
  rw [← hR_gB] at X9_gB HG_gB BX_gB_g HN_gB_vwB ⊢
  clear hR_gB
  clear c8_vwB_0 c8_vwB_1
  have HB_10 := Lib.hid (HB_7.out.trans (l9.mono HB_7.out.size))
  have g_10 := Lib.hid (ownz_below O_g.out l9 (Nat.le_refl _))
  clear O_g
  have HV_10 := Lib.hid (HV_7.out.trans (l9.mono HV_7.out.size))
  clear HV_7
  have vwB_10 := Lib.hid (vwB_7.out.below l9 vwB_7.out.lt)
  clear vwB_7
  clear l9
  have c11_vwB_0 := vwB_10.out.at 0 (v := .int .i64 ps0.x) rfl
  have c11_vwB_1 := vwB_10.out.at 1 (v := .slice a_w ps0.q.length c_w) rfl
  have c12_gB_0 := X9_gB.out.at 0 (v := .int .i64 ps0.x) rfl
  have c12_gB_1 := X9_gB.out.at 1 (v := .slice a_g ps0.q.length c_g) rfl
  go_wp2_with fail
  refine (eqRw_same _ _ ps0 _ (rowz_own g_10.out) (RV.out.below HV_10.out (Nat.le_refl _))).mono ?_
  rintro e W13 ⟨rfl, l13⟩
  clear c11_vwB_0 c11_vwB_1
  clear c12_gB_0 c12_gB_1
  have HB_14 := Lib.hid (HB_10.out.trans (l13.mono HB_10.out.size))
  have g_14 := Lib.hid (ownz_below g_10.out l13 (Nat.le_refl _))
  clear g_10
  have HV_14 := Lib.hid (HV_10.out.trans (l13.mono HV_10.out.size))
  clear HV_10
  have vwB_14 := Lib.hid (vwB_10.out.below l13 vwB_10.out.lt)
  clear vwB_10
  have gB_14 := Lib.hid (X9_gB.out.below l13 X9_gB.out.lt)
  clear X9_gB
  clear l13
  have c15_vwB_0 := vwB_14.out.at 0 (v := .int .i64 ps0.x) rfl
  have c15_vwB_1 := vwB_14.out.at 1 (v := .slice a_w ps0.q.length c_w) rfl
  have c16_gB_0 := gB_14.out.at 0 (v := .int .i64 ps0.x) rfl
  have c16_gB_1 := gB_14.out.at 1 (v := .slice a_g ps0.q.length c_g) rfl
  have hMi := markRw_own (.slice a_g ps0.q.length c_g) ps0.x ps0.q.length 1 _ _ W13 g_14.out (by omega) (by have := HL0.out; omega)
  rw [HKm.out] at hMi
  have HMi := Lib.hid hMi
  clear hMi
  go_wp2_with fail
  refine (HMi.out).mono ?_
  rintro e W17 ⟨rfl, m17, gr17⟩
  clear c15_vwB_0 c15_vwB_1
  clear c16_gB_0 c16_gB_1
  have HB_17 := Lib.hid (HB_14.out.grown gr17 HB_14.out.size (fun q hq => (g_14.out.lt q hq).1))
  have vwB_17 := Lib.hid (vwB_14.out.grown gr17 (fun e => BX_vwB_g.out _ e.symm rfl))
  clear vwB_14
  have gB_17 := Lib.hid (gB_14.out.grown gr17 (fun e => BX_gB_g.out _ e.symm rfl))
  clear gB_14
  have HV_17 := Lib.hid (HV_14.out.grown gr17 HV_14.out.size (fun q hq => BV_HV_g.out q hq))
  clear HV_14
  have g_17 := Lib.hid m17
  clear m17 gr17 g_14
  have c18_vwB_0 := vwB_17.out.at 0 (v := .int .i64 ps0.x) rfl
  have c18_vwB_1 := vwB_17.out.at 1 (v := .slice a_w ps0.q.length c_w) rfl
  have c19_gB_0 := gB_17.out.at 0 (v := .int .i64 ps0.x) rfl
  have c19_gB_1 := gB_17.out.at 1 (v := .slice a_g ps0.q.length c_g) rfl
  clear HMi
  have hHi := heldRw_own (.slice a_g ps0.q.length c_g) ps0.x ps0.q.length 1 _ W17 g_17.out (by omega) (by have := HL0.out; omega)
  rw [HKm.out] at hHi
  have HHi := Lib.hid hHi
  clear hHi
  go_wp2_with fail
  refine (HHi.out).mono ?_
  rintro e W20 ⟨rfl, l20⟩
  clear c18_vwB_0 c18_vwB_1
  clear c19_gB_0 c19_gB_1
  have HB_21 := Lib.hid (HB_17.out.trans (l20.mono HB_17.out.size))
  have g_21 := Lib.hid (ownz_below g_17.out l20 (Nat.le_refl _))
  clear g_17
  have HV_21 := Lib.hid (HV_17.out.trans (l20.mono HV_17.out.size))
  clear HV_17
  have vwB_21 := Lib.hid (vwB_17.out.below l20 vwB_17.out.lt)
  clear vwB_17
  have gB_21 := Lib.hid (gB_17.out.below l20 gB_17.out.lt)
  clear gB_17
  clear l20
  have c22_vwB_0 := vwB_21.out.at 0 (v := .int .i64 ps0.x) rfl
  have c22_vwB_1 := vwB_21.out.at 1 (v := .slice a_w ps0.q.length c_w) rfl
  have c23_gB_0 := gB_21.out.at 0 (v := .int .i64 ps0.x) rfl
  have c23_gB_1 := gB_21.out.at 1 (v := .slice a_g ps0.q.length c_g) rfl
  clear HHi
  go_wp2_with fail
  refine (HIm.out _ (HTab_.out.below HB_21.out) (HErrs_.out.below HB_21.out)).mono ?_
  rintro e W24 ⟨v_h, rfl, o_h, l24⟩
  obtain ⟨a_h, c_h, rfl, _, _⟩ := ownz_slice o_h
  have AP_g_h : Hid (∀ k, (.slice a_g ps0.q.length c_g : Value).ownBlock = some k → (.slice a_h ps0.q.length c_h : Value).ownBlock ≠ some k) := Lib.hid (fun k h1 h2 => absurd (g_21.out.lt k h1).2 (Nat.not_lt.2 (o_h.lt k h2).1))
  have BV_HV_h : Hid (∀ k, (.slice a_h ps0.q.length c_h : Value).ownBlock = some k → W1.heap.size ≤ k) := Lib.hid (fun k h => Nat.le_trans HV_21.out.size (o_h.lt k h).1)
  have O_h := Lib.hid (ownz_base o_h HB_21.out.size)
  have BX_vwB_h : Hid (∀ k, (.slice a_h ps0.q.length c_h : Value).ownBlock = some k → k ≠ R_vwB) := Lib.hid (fun k h1 h2 => absurd vwB_21.out.lt (Nat.not_lt.2 (by rw [← h2]; exact (o_h.lt k h1).1)))
  have BX_gB_h : Hid (∀ k, (.slice a_h ps0.q.length c_h : Value).ownBlock = some k → k ≠ R_gB) := Lib.hid (fun k h1 h2 => absurd gB_21.out.lt (Nat.not_lt.2 (by rw [← h2]; exact (o_h.lt k h1).1)))
  clear o_h
  clear c22_vwB_0 c22_vwB_1
  clear c23_gB_0 c23_gB_1
  have HB_25 := Lib.hid (HB_21.out.trans (l24.mono HB_21.out.size))
  have g_25 := Lib.hid (ownz_below g_21.out l24 (Nat.le_refl _))
  clear g_21
  have HV_25 := Lib.hid (HV_21.out.trans (l24.mono HV_21.out.size))
  clear HV_21
  have vwB_25 := Lib.hid (vwB_21.out.below l24 vwB_21.out.lt)
  clear vwB_21
  have gB_25 := Lib.hid (gB_21.out.below l24 gB_21.out.lt)
  clear gB_21
  clear l24
  have c26_vwB_0 := vwB_25.out.at 0 (v := .int .i64 ps0.x) rfl
  have c26_vwB_1 := vwB_25.out.at 1 (v := .slice a_w ps0.q.length c_w) rfl
  have c27_gB_0 := gB_25.out.at 0 (v := .int .i64 ps0.x) rfl
  have c27_gB_1 := gB_25.out.at 1 (v := .slice a_g ps0.q.length c_g) rfl
  go_upto_region 16 with fail
  obtain ⟨W28, hW28⟩ : ∃ W28, W28 = W24.alloc (.cells #[.int .i64 ps0.x, .slice a_h ps0.q.length c_h] 26) := ⟨_, rfl⟩
  have l28 : Below W24.heap.size W24 W28 := by rw [hW28]; exact (Below.refl _ _).alloc (Nat.le_refl _) _
  have X28_hB : Hid (Bx W28 W24.heap.size #[.int .i64 ps0.x, .slice a_h ps0.q.length c_h] 26) := Lib.hid (by rw [hW28]; exact Bx.new _ _ _)
  rw [← hW28]
  clear hW28
  have BX_hB_g : Hid (∀ k, (.slice a_g ps0.q.length c_g : Value).ownBlock = some k → k ≠ W24.heap.size) := Lib.hid (fun k h1 h2 => absurd (g_25.out.lt k h1).2 (by omega))
  have BX_hB_h : Hid (∀ k, (.slice a_h ps0.q.length c_h : Value).ownBlock = some k → k ≠ W24.heap.size) := Lib.hid (fun k h1 h2 => absurd (O_h.out.lt k h1).2 (by omega))
  have HG_hB : Hid (w.heap.size ≤ W24.heap.size) := Lib.hid HB_25.out.size
  have HN_hB_vwB : Hid (R_vwB < W24.heap.size) := Lib.hid vwB_25.out.lt
  have HN_hB_gB : Hid (R_gB < W24.heap.size) := Lib.hid gB_25.out.lt
  obtain ⟨R_hB, hR_hB⟩ : ∃ X, X = W24.heap.size := ⟨_, rfl⟩
  rw [← hR_hB] at X28_hB HG_hB BX_hB_g BX_hB_h HN_hB_vwB HN_hB_gB ⊢
  clear hR_hB
  clear c26_vwB_0 c26_vwB_1
  clear c27_gB_0 c27_gB_1
  have HB_29 := Lib.hid (HB_25.out.trans (l28.mono HB_25.out.size))
  have g_29 := Lib.hid (ownz_below g_25.out l28 (Nat.le_refl _))
  clear g_25
  have h_29 := Lib.hid (ownz_below O_h.out l28 (Nat.le_refl _))
  clear O_h
  have HV_29 := Lib.hid (HV_25.out.trans (l28.mono HV_25.out.size))
  clear HV_25
  have vwB_29 := Lib.hid (vwB_25.out.below l28 vwB_25.out.lt)
  clear vwB_25
  have gB_29 := Lib.hid (gB_25.out.below l28 gB_25.out.lt)
  clear gB_25
  clear l28
  have c30_vwB_0 := vwB_29.out.at 0 (v := .int .i64 ps0.x) rfl
  have c30_vwB_1 := vwB_29.out.at 1 (v := .slice a_w ps0.q.length c_w) rfl
  have c31_gB_0 := gB_29.out.at 0 (v := .int .i64 ps0.x) rfl
  have c31_gB_1 := gB_29.out.at 1 (v := .slice a_g ps0.q.length c_g) rfl
  have c32_hB_0 := X28_hB.out.at 0 (v := .int .i64 ps0.x) rfl
  have c32_hB_1 := X28_hB.out.at 1 (v := .slice a_h ps0.q.length c_h) rfl
  go_wp2_with fail
  refine (eqRw_same _ _ ps0 _ (rowz_own h_29.out) (RV.out.below HV_29.out (Nat.le_refl _))).mono ?_
  rintro e W33 ⟨rfl, l33⟩
  clear c30_vwB_0 c30_vwB_1
  clear c31_gB_0 c31_gB_1
  clear c32_hB_0 c32_hB_1
  have HB_34 := Lib.hid (HB_29.out.trans (l33.mono HB_29.out.size))
  have g_34 := Lib.hid (ownz_below g_29.out l33 (Nat.le_refl _))
  clear g_29
  have h_34 := Lib.hid (ownz_below h_29.out l33 (Nat.le_refl _))
  clear h_29
  have HV_34 := Lib.hid (HV_29.out.trans (l33.mono HV_29.out.size))
  clear HV_29
  have vwB_34 := Lib.hid (vwB_29.out.below l33 vwB_29.out.lt)
  clear vwB_29
  have gB_34 := Lib.hid (gB_29.out.below l33 gB_29.out.lt)
  clear gB_29
  have hB_34 := Lib.hid (X28_hB.out.below l33 X28_hB.out.lt)
  clear X28_hB
  clear l33
  have c35_vwB_0 := vwB_34.out.at 0 (v := .int .i64 ps0.x) rfl
  have c35_vwB_1 := vwB_34.out.at 1 (v := .slice a_w ps0.q.length c_w) rfl
  have c36_gB_0 := gB_34.out.at 0 (v := .int .i64 ps0.x) rfl
  have c36_gB_1 := gB_34.out.at 1 (v := .slice a_g ps0.q.length c_g) rfl
  have c37_hB_0 := hB_34.out.at 0 (v := .int .i64 ps0.x) rfl
  have c37_hB_1 := hB_34.out.at 1 (v := .slice a_h ps0.q.length c_h) rfl
  have hHi := heldRw_own (.slice a_g ps0.q.length c_g) ps0.x ps0.q.length 1 _ W33 g_34.out (by omega) (by have := HL0.out; omega)
  rw [HKm.out] at hHi
  have HHi := Lib.hid hHi
  clear hHi
  go_wp2_with fail
  refine (HHi.out).mono ?_
  rintro e W38 ⟨rfl, l38⟩
  clear c35_vwB_0 c35_vwB_1
  clear c36_gB_0 c36_gB_1
  clear c37_hB_0 c37_hB_1
  have HB_39 := Lib.hid (HB_34.out.trans (l38.mono HB_34.out.size))
  have g_39 := Lib.hid (ownz_below g_34.out l38 (Nat.le_refl _))
  clear g_34
  have h_39 := Lib.hid (ownz_below h_34.out l38 (Nat.le_refl _))
  clear h_34
  have HV_39 := Lib.hid (HV_34.out.trans (l38.mono HV_34.out.size))
  clear HV_34
  have vwB_39 := Lib.hid (vwB_34.out.below l38 vwB_34.out.lt)
  clear vwB_34
  have gB_39 := Lib.hid (gB_34.out.below l38 gB_34.out.lt)
  clear gB_34
  have hB_39 := Lib.hid (hB_34.out.below l38 hB_34.out.lt)
  clear hB_34
  clear l38
  have c40_vwB_0 := vwB_39.out.at 0 (v := .int .i64 ps0.x) rfl
  have c40_vwB_1 := vwB_39.out.at 1 (v := .slice a_w ps0.q.length c_w) rfl
  have c41_gB_0 := gB_39.out.at 0 (v := .int .i64 ps0.x) rfl
  have c41_gB_1 := gB_39.out.at 1 (v := .slice a_g ps0.q.length c_g) rfl
  have c42_hB_0 := hB_39.out.at 0 (v := .int .i64 ps0.x) rfl
  have c42_hB_1 := hB_39.out.at 1 (v := .slice a_h ps0.q.length c_h) rfl
  clear HHi
  go_wp2_with fail
  go_ret
  exact ⟨rfl, HB_39.out⟩
theorem fnExactParseSlots_walk (w : World) (a0 : ByteArray) (w0 : a0.size ≤ maxLen) (_hsh : w.ShapedOpen Tryd.prog) (hL : laidMetH Tryd.prog Rows.fnExactParseSlotsRow.laid w) :
    Calls Tryd.prog 5 #[.string a0] w fun e w' => e = .returned (.bool true) ∧ Below w.heap.size w w' :=
  fnExactParseSlots_wk a0 w w0 (tab_of_laid hL rfl (by simp [Rows.fnExactParseSlotsRow])) (errs_of_laid hL rfl (by simp [Rows.fnExactParseSlotsRow]) (by simp [Rows.fnExactParseSlotsRow]))
end Go.Proofs.YtpmjdppipalfcaaDoor
