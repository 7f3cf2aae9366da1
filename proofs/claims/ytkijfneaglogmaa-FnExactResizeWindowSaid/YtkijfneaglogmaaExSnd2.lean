/-
  The exact laws of windows that are cut: drops and new sizes, held serials.
-/
import Derived.Test.YtkijfneaglogmaaSndI2
import Derived.Test.YtkijfneaglogmaaSndS
import Derived.Test.YtkijfneaglogmaaSnd4
import Derived.Test.YtkijfneaglogmaaSnd5
import Derived.Test.YtkijfneaglogmaaInts
import Derived.WalkLawsBesides
import Derived.Deep.RegionHeld3
import Derived.Deep.CutRange
namespace Go.Proofs.Ytkijfneaglogmaa
open Go.RowKit Go.Lib Go.Joins
set_option linter.unusedVariables false

set_option maxRecDepth 100000 in
set_option maxHeartbeats 8000000 in
theorem fnExactDropItems_wk (v0 : Value) (z0 : Sw) (w : World) (w0 : Row w v0 z0.q.length (z0.q.map Value.string)) (b0 : ∀ s ∈ z0.q, s.size ≤ maxLen) (a1 : Int) (w1 : (Lit.int .i64 a1).wf = true) :
    Calls Try.prog 9 #[.agg #[.int .i64 z0.t, .int .i64 z0.z, v0], .int .i64 a1] w fun e w' => e = .returned (.bool true) ∧ Below w.heap.size w w' := by
  obtain ⟨p0, cap0, rfl, hc10, hc20, _⟩ := row_open w0
  unfold maxLen at hc20
  have HR0 := Lib.hid w0
  have HSz := Lib.hid (fun (W : World) (hr : Row W (.slice p0 z0.q.length cap0) z0.q.length (z0.q.map Value.string)) => szSw_any (.slice p0 z0.q.length cap0) z0 W hr b0 1048576 (by omega))
  have HSm := Lib.hid b0
  clear w0 b0
  obtain ⟨W0, R_AW, hW0, hR_AW, hX_AW, hB0⟩ := entry1 w #[.int .i64 z0.t, .int .i64 z0.z, .slice p0 z0.q.length cap0] 58
  have HW0 := Lib.hid hW0
  have HB0 := Lib.hid hB0
  have HR_AW := Lib.hid hR_AW
  have HX_AW := Lib.hid hX_AW
  clear hW0 hB0 hR_AW hX_AW
  have c1_AW_0 := HX_AW.out.at 0 (v := .int .i64 z0.t) rfl
  have c1_AW_1 := HX_AW.out.at 1 (v := .int .i64 z0.z) rfl
  have c1_AW_2 := HX_AW.out.at 2 (v := .slice p0 z0.q.length cap0) rfl
  go_enter Try.func9, Try.ntmps9
  go_upto_region 1 with fail
  rw [← HW0.out, ← HR_AW.out]
  go_wp2_with fail
  refine (HSz.out _ (HR0.out.below HB0.out (Nat.le_refl _))).mono ?_
  rintro e W2 ⟨l2, r0, rfl, hr1, hr0⟩
  clear c1_AW_0 c1_AW_1 c1_AW_2
  have HB_3 := Lib.hid (HB0.out.trans (l2.mono HB0.out.size))
  have AW_3 := Lib.hid (HX_AW.out.below l2 HX_AW.out.lt)
  clear l2
  have c4_AW_0 := AW_3.out.at 0 (v := .int .i64 z0.t) rfl
  have c4_AW_1 := AW_3.out.at 1 (v := .int .i64 z0.z) rfl
  have c4_AW_2 := AW_3.out.at 2 (v := .slice p0 z0.q.length cap0) rfl
  by_cases hneg : r0 < 0
  · clear hr0
    go_wp2_with fail
    go_ret
    exact ⟨rfl, HB_3.out⟩
  obtain ⟨hm0, hs0, hr00⟩ := hr0.resolve_left hneg
  have HN0 := Lib.hid hm0
  clear hr0 hs0 HSz
  have HSp := Lib.hid (fun (v : Value) (W : World) (hr : Row W v z0.q.length (z0.q.map Value.string)) (hf : FitA v z0.q.length) => specDrop9_any v z0 a1 W hr HSm.out hf)
  have HIm := Lib.hid (fun (v : Value) (W : World) (hr : Row W v z0.q.length (z0.q.map Value.string)) (hf : FitA v z0.q.length) => implDrop9_any v z0 a1 W hr HSm.out hf)
  have hlen0 := dropV_len z0 a1 hm0
  generalize dropV z0 a1 = ps0 at HSp HIm hlen0
  have HL0 := Lib.hid hlen0
  clear hlen0
  generalize dropC z0 a1 = r0_ at HSp HIm
  generalize dropOk z0 a1 = r1_ at HSp HIm
  clear hm0
  go_wp2_with fail
  refine (toSw_lit _ z0 _ (HR0.out.below HB_3.out (Nat.le_refl _)) HN0.out).mono ?_
  rintro e W5 ⟨g_s, rfl, o_s, l5⟩
  have O_s := Lib.hid (own_base o_s HB_3.out.size)
  have BX_AW_s : Hid (∀ k, (.slice (some ⟨g_s, 0, none⟩) z0.q.length z0.q.length : Value).ownBlock = some k → k ≠ R_AW) := Lib.hid (fun k h1 h2 => absurd AW_3.out.lt (Nat.not_lt.2 (by rw [← h2]; exact (o_s.lt k h1).1)))
  clear o_s
  clear c4_AW_0 c4_AW_1 c4_AW_2
  have HB_6 := Lib.hid (HB_3.out.trans (l5.mono HB_3.out.size))
  have AW_6 := Lib.hid (AW_3.out.below l5 AW_3.out.lt)
  clear AW_3
  clear l5
  have c7_AW_0 := AW_6.out.at 0 (v := .int .i64 z0.t) rfl
  have c7_AW_1 := AW_6.out.at 1 (v := .int .i64 z0.z) rfl
  have c7_AW_2 := AW_6.out.at 2 (v := .slice p0 z0.q.length cap0) rfl
  go_wp2_with fail
  refine (HSp.out _ _ (row_own O_s.out) (fitA_some _ _)).mono ?_
  rintro e W8 ⟨v_vw, rfl, o_vw, l8⟩
  obtain ⟨a_vw, c_vw, rfl, _, _⟩ := own_someS0 o_vw
  have AP_s_vw : Hid (∀ k, (.slice (some ⟨g_s, 0, none⟩) z0.q.length z0.q.length : Value).ownBlock = some k → (.slice a_vw ps0.q.length c_vw : Value).ownBlock ≠ some k) := Lib.hid (fun k h1 h2 => absurd (O_s.out.lt k h1).2 (Nat.not_lt.2 (o_vw.lt k h2).1))
  have O_vw := Lib.hid (own_base o_vw HB_6.out.size)
  have BX_AW_vw : Hid (∀ k, (.slice a_vw ps0.q.length c_vw : Value).ownBlock = some k → k ≠ R_AW) := Lib.hid (fun k h1 h2 => absurd AW_6.out.lt (Nat.not_lt.2 (by rw [← h2]; exact (o_vw.lt k h1).1)))
  clear o_vw
  clear c7_AW_0 c7_AW_1 c7_AW_2
  have HB_9 := Lib.hid (HB_6.out.trans (l8.mono HB_6.out.size))
  have s_9 := Lib.hid (own_below O_s.out l8 (Nat.le_refl _))
  clear O_s
  have AW_9 := Lib.hid (AW_6.out.below l8 AW_6.out.lt)
  clear AW_6
  clear l8
  have c10_AW_0 := AW_9.out.at 0 (v := .int .i64 z0.t) rfl
  have c10_AW_1 := AW_9.out.at 1 (v := .int .i64 z0.z) rfl
  have c10_AW_2 := AW_9.out.at 2 (v := .slice p0 z0.q.length cap0) rfl
  go_upto_region 6 with fail
  obtain ⟨W11, hW11⟩ : ∃ W11, W11 = W8.alloc (.cells #[.int .i64 ps0.t, .int .i64 ps0.z, .slice a_vw ps0.q.length c_vw] 26) := ⟨_, rfl⟩
  have l11 : Below W8.heap.size W8 W11 := by rw [hW11]; exact (Below.refl _ _).alloc (Nat.le_refl _) _
  have X11_vwB0 : Hid (Bx W11 W8.heap.size #[.int .i64 ps0.t, .int .i64 ps0.z, .slice a_vw ps0.q.length c_vw] 26) := Lib.hid (by rw [hW11]; exact Bx.new _ _ _)
  rw [← hW11]
  clear hW11
  have BX_vwB0_s : Hid (∀ k, (.slice (some ⟨g_s, 0, none⟩) z0.q.length z0.q.length : Value).ownBlock = some k → k ≠ W8.heap.size) := Lib.hid (fun k h1 h2 => absurd (s_9.out.lt k h1).2 (by omega))
  have BX_vwB0_vw : Hid (∀ k, (.slice a_vw ps0.q.length c_vw : Value).ownBlock = some k → k ≠ W8.heap.size) := Lib.hid (fun k h1 h2 => absurd (O_vw.out.lt k h1).2 (by omega))
  have HG_vwB0 : Hid (w.heap.size ≤ W8.heap.size) := Lib.hid HB_9.out.size
  have HN_vwB0_AW : Hid (R_AW < W8.heap.size) := Lib.hid AW_9.out.lt
  obtain ⟨R_vwB0, hR_vwB0⟩ : ∃ X, X = W8.heap.size := ⟨_, rfl⟩
  rw [← hR_vwB0] at X11_vwB0 HG_vwB0 BX_vwB0_s BX_vwB0_vw HN_vwB0_AW ⊢
  clear hR_vwB0
  clear c10_AW_0 c10_AW_1 c10_AW_2
  have HB_12 := Lib.hid (HB_9.out.trans (l11.mono HB_9.out.size))
  have s_12 := Lib.hid (own_below s_9.out l11 (Nat.le_refl _))
  clear s_9
  have vw_12 := Lib.hid (own_below O_vw.out l11 (Nat.le_refl _))
  clear O_vw
  have AW_12 := Lib.hid (AW_9.out.below l11 AW_9.out.lt)
  clear AW_9
  clear l11
  have c13_AW_0 := AW_12.out.at 0 (v := .int .i64 z0.t) rfl
  have c13_AW_1 := AW_12.out.at 1 (v := .int .i64 z0.z) rfl
  have c13_AW_2 := AW_12.out.at 2 (v := .slice p0 z0.q.length cap0) rfl
  have c14_vwB0_0 := X11_vwB0.out.at 0 (v := .int .i64 ps0.t) rfl
  have c14_vwB0_1 := X11_vwB0.out.at 1 (v := .int .i64 ps0.z) rfl
  have c14_vwB0_2 := X11_vwB0.out.at 2 (v := .slice a_vw ps0.q.length c_vw) rfl
  clear s_12
  go_wp2_with fail
  refine (toSw_lit _ z0 _ (HR0.out.below HB_12.out (Nat.le_refl _)) HN0.out).mono ?_
  rintro e W15 ⟨g_x, rfl, o_x, l15⟩
  have AP_vw_x : Hid (∀ k, (.slice a_vw ps0.q.length c_vw : Value).ownBlock = some k → (.slice (some ⟨g_x, 0, none⟩) z0.q.length z0.q.length : Value).ownBlock ≠ some k) := Lib.hid (fun k h1 h2 => absurd (vw_12.out.lt k h1).2 (Nat.not_lt.2 (o_x.lt k h2).1))
  have O_x := Lib.hid (own_base o_x HB_12.out.size)
  have BX_AW_x : Hid (∀ k, (.slice (some ⟨g_x, 0, none⟩) z0.q.length z0.q.length : Value).ownBlock = some k → k ≠ R_AW) := Lib.hid (fun k h1 h2 => absurd AW_12.out.lt (Nat.not_lt.2 (by rw [← h2]; exact (o_x.lt k h1).1)))
  have BX_vwB0_x : Hid (∀ k, (.slice (some ⟨g_x, 0, none⟩) z0.q.length z0.q.length : Value).ownBlock = some k → k ≠ R_vwB0) := Lib.hid (fun k h1 h2 => absurd X11_vwB0.out.lt (Nat.not_lt.2 (by rw [← h2]; exact (o_x.lt k h1).1)))
  clear o_x
  clear c13_AW_0 c13_AW_1 c13_AW_2
  clear c14_vwB0_0 c14_vwB0_1 c14_vwB0_2
  have HB_16 := Lib.hid (HB_12.out.trans (l15.mono HB_12.out.size))
  have vw_16 := Lib.hid (own_below vw_12.out l15 (Nat.le_refl _))
  clear vw_12
  have AW_16 := Lib.hid (AW_12.out.below l15 AW_12.out.lt)
  clear AW_12
  have vwB0_16 := Lib.hid (X11_vwB0.out.below l15 X11_vwB0.out.lt)
  clear X11_vwB0
  clear l15
  have c17_AW_0 := AW_16.out.at 0 (v := .int .i64 z0.t) rfl
  have c17_AW_1 := AW_16.out.at 1 (v := .int .i64 z0.z) rfl
  have c17_AW_2 := AW_16.out.at 2 (v := .slice p0 z0.q.length cap0) rfl
  have c18_vwB0_0 := vwB0_16.out.at 0 (v := .int .i64 ps0.t) rfl
  have c18_vwB0_1 := vwB0_16.out.at 1 (v := .int .i64 ps0.z) rfl
  have c18_vwB0_2 := vwB0_16.out.at 2 (v := .slice a_vw ps0.q.length c_vw) rfl
  go_upto_region 7 with fail
  obtain ⟨W19, hW19⟩ : ∃ W19, W19 = W15.alloc (.cells #[.int .i64 z0.t, .int .i64 z0.z, .slice (some ⟨g_x, 0, none⟩) z0.q.length z0.q.length] 26) := ⟨_, rfl⟩
  have l19 : Below W15.heap.size W15 W19 := by rw [hW19]; exact (Below.refl _ _).alloc (Nat.le_refl _) _
  have X19_X : Hid (Bx W19 W15.heap.size #[.int .i64 z0.t, .int .i64 z0.z, .slice (some ⟨g_x, 0, none⟩) z0.q.length z0.q.length] 26) := Lib.hid (by rw [hW19]; exact Bx.new _ _ _)
  rw [← hW19]
  clear hW19
  have BX_X_vw : Hid (∀ k, (.slice a_vw ps0.q.length c_vw : Value).ownBlock = some k → k ≠ W15.heap.size) := Lib.hid (fun k h1 h2 => absurd (vw_16.out.lt k h1).2 (by omega))
  have BX_X_x : Hid (∀ k, (.slice (some ⟨g_x, 0, none⟩) z0.q.length z0.q.length : Value).ownBlock = some k → k ≠ W15.heap.size) := Lib.hid (fun k h1 h2 => absurd (O_x.out.lt k h1).2 (by omega))
  have HG_X : Hid (w.heap.size ≤ W15.heap.size) := Lib.hid HB_16.out.size
  have HN_X_AW : Hid (R_AW < W15.heap.size) := Lib.hid AW_16.out.lt
  have HN_X_vwB0 : Hid (R_vwB0 < W15.heap.size) := Lib.hid vwB0_16.out.lt
  obtain ⟨R_X, hR_X⟩ : ∃ X, X = W15.heap.size := ⟨_, rfl⟩
  rw [← hR_X] at X19_X HG_X BX_X_vw BX_X_x HN_X_AW HN_X_vwB0 ⊢
  clear hR_X
  clear c17_AW_0 c17_AW_1 c17_AW_2
  clear c18_vwB0_0 c18_vwB0_1 c18_vwB0_2
  have HB_20 := Lib.hid (HB_16.out.trans (l19.mono HB_16.out.size))
  have vw_20 := Lib.hid (own_below vw_16.out l19 (Nat.le_refl _))
  clear vw_16
  have x_20 := Lib.hid (own_below O_x.out l19 (Nat.le_refl _))
  clear O_x
  have AW_20 := Lib.hid (AW_16.out.below l19 AW_16.out.lt)
  clear AW_16
  have vwB0_20 := Lib.hid (vwB0_16.out.below l19 vwB0_16.out.lt)
  clear vwB0_16
  clear l19
  have c21_AW_0 := AW_20.out.at 0 (v := .int .i64 z0.t) rfl
  have c21_AW_1 := AW_20.out.at 1 (v := .int .i64 z0.z) rfl
  have c21_AW_2 := AW_20.out.at 2 (v := .slice p0 z0.q.length cap0) rfl
  have c22_vwB0_0 := vwB0_20.out.at 0 (v := .int .i64 ps0.t) rfl
  have c22_vwB0_1 := vwB0_20.out.at 1 (v := .int .i64 ps0.z) rfl
  have c22_vwB0_2 := vwB0_20.out.at 2 (v := .slice a_vw ps0.q.length c_vw) rfl
  have c23_X_0 := X19_X.out.at 0 (v := .int .i64 z0.t) rfl
  have c23_X_1 := X19_X.out.at 1 (v := .int .i64 z0.z) rfl
  have c23_X_2 := X19_X.out.at 2 (v := .slice (some ⟨g_x, 0, none⟩) z0.q.length z0.q.length) rfl
  go_wp2_with fail
  refine (HIm.out _ _ (row_own x_20.out) (fitA_some _ _)).mono ?_
  rintro e W24 ⟨v_vg, rfl, o_vg, l24⟩
  obtain ⟨a_vg, c_vg, rfl, _, _⟩ := own_someS0 o_vg
  have AP_vw_vg : Hid (∀ k, (.slice a_vw ps0.q.length c_vw : Value).ownBlock = some k → (.slice a_vg ps0.q.length c_vg : Value).ownBlock ≠ some k) := Lib.hid (fun k h1 h2 => absurd (vw_20.out.lt k h1).2 (Nat.not_lt.2 (o_vg.lt k h2).1))
  have AP_x_vg : Hid (∀ k, (.slice (some ⟨g_x, 0, none⟩) z0.q.length z0.q.length : Value).ownBlock = some k → (.slice a_vg ps0.q.length c_vg : Value).ownBlock ≠ some k) := Lib.hid (fun k h1 h2 => absurd (x_20.out.lt k h1).2 (Nat.not_lt.2 (o_vg.lt k h2).1))
  have O_vg := Lib.hid (own_base o_vg HB_20.out.size)
  have BX_AW_vg : Hid (∀ k, (.slice a_vg ps0.q.length c_vg : Value).ownBlock = some k → k ≠ R_AW) := Lib.hid (fun k h1 h2 => absurd AW_20.out.lt (Nat.not_lt.2 (by rw [← h2]; exact (o_vg.lt k h1).1)))
  have BX_vwB0_vg : Hid (∀ k, (.slice a_vg ps0.q.length c_vg : Value).ownBlock = some k → k ≠ R_vwB0) := Lib.hid (fun k h1 h2 => absurd vwB0_20.out.lt (Nat.not_lt.2 (by rw [← h2]; exact (o_vg.lt k h1).1)))
  have BX_X_vg : Hid (∀ k, (.slice a_vg ps0.q.length c_vg : Value).ownBlock = some k → k ≠ R_X) := Lib.hid (fun k h1 h2 => absurd X19_X.out.lt (Nat.not_lt.2 (by rw [← h2]; exact (o_vg.lt k h1).1)))
  clear o_vg
  clear c21_AW_0 c21_AW_1 c21_AW_2
  clear c22_vwB0_0 c22_vwB0_1 c22_vwB0_2
  clear c23_X_0 c23_X_1 c23_X_2
  have HB_25 := Lib.hid (HB_20.out.trans (l24.mono HB_20.out.size))
  have vw_25 := Lib.hid (own_below vw_20.out l24 (Nat.le_refl _))
  clear vw_20
  have x_25 := Lib.hid (own_below x_20.out l24 (Nat.le_refl _))
  clear x_20
  have AW_25 := Lib.hid (AW_20.out.below l24 AW_20.out.lt)
  clear AW_20
  have vwB0_25 := Lib.hid (vwB0_20.out.below l24 vwB0_20.out.lt)
  clear vwB0_20
  have X_25 := Lib.hid (X19_X.out.below l24 X19_X.out.lt)
  clear X19_X
  clear l24
  have c26_AW_0 := AW_25.out.at 0 (v := .int .i64 z0.t) rfl
  have c26_AW_1 := AW_25.out.at 1 (v := .int .i64 z0.z) rfl
  have c26_AW_2 := AW_25.out.at 2 (v := .slice p0 z0.q.length cap0) rfl
  have c27_vwB0_0 := vwB0_25.out.at 0 (v := .int .i64 ps0.t) rfl
  have c27_vwB0_1 := vwB0_25.out.at 1 (v := .int .i64 ps0.z) rfl
  have c27_vwB0_2 := vwB0_25.out.at 2 (v := .slice a_vw ps0.q.length c_vw) rfl
  have c28_X_0 := X_25.out.at 0 (v := .int .i64 z0.t) rfl
  have c28_X_1 := X_25.out.at 1 (v := .int .i64 z0.z) rfl
  have c28_X_2 := X_25.out.at 2 (v := .slice (some ⟨g_x, 0, none⟩) z0.q.length z0.q.length) rfl
  go_upto_region 8 with fail
  obtain ⟨W29, hW29⟩ : ∃ W29, W29 = W24.alloc (.cells #[.int .i64 ps0.t, .int .i64 ps0.z, .slice a_vg ps0.q.length c_vg] 26) := ⟨_, rfl⟩
  have l29 : Below W24.heap.size W24 W29 := by rw [hW29]; exact (Below.refl _ _).alloc (Nat.le_refl _) _
  have X29_vgB0 : Hid (Bx W29 W24.heap.size #[.int .i64 ps0.t, .int .i64 ps0.z, .slice a_vg ps0.q.length c_vg] 26) := Lib.hid (by rw [hW29]; exact Bx.new _ _ _)
  rw [← hW29]
  clear hW29
  have BX_vgB0_vw : Hid (∀ k, (.slice a_vw ps0.q.length c_vw : Value).ownBlock = some k → k ≠ W24.heap.size) := Lib.hid (fun k h1 h2 => absurd (vw_25.out.lt k h1).2 (by omega))
  have BX_vgB0_x : Hid (∀ k, (.slice (some ⟨g_x, 0, none⟩) z0.q.length z0.q.length : Value).ownBlock = some k → k ≠ W24.heap.size) := Lib.hid (fun k h1 h2 => absurd (x_25.out.lt k h1).2 (by omega))
  have BX_vgB0_vg : Hid (∀ k, (.slice a_vg ps0.q.length c_vg : Value).ownBlock = some k → k ≠ W24.heap.size) := Lib.hid (fun k h1 h2 => absurd (O_vg.out.lt k h1).2 (by omega))
  have HG_vgB0 : Hid (w.heap.size ≤ W24.heap.size) := Lib.hid HB_25.out.size
  have HN_vgB0_AW : Hid (R_AW < W24.heap.size) := Lib.hid AW_25.out.lt
  have HN_vgB0_vwB0 : Hid (R_vwB0 < W24.heap.size) := Lib.hid vwB0_25.out.lt
  have HN_vgB0_X : Hid (R_X < W24.heap.size) := Lib.hid X_25.out.lt
  obtain ⟨R_vgB0, hR_vgB0⟩ : ∃ X, X = W24.heap.size := ⟨_, rfl⟩
  rw [← hR_vgB0] at X29_vgB0 HG_vgB0 BX_vgB0_vw BX_vgB0_x BX_vgB0_vg HN_vgB0_AW HN_vgB0_vwB0 HN_vgB0_X ⊢
  clear hR_vgB0
  clear c26_AW_0 c26_AW_1 c26_AW_2
  clear c27_vwB0_0 c27_vwB0_1 c27_vwB0_2
  clear c28_X_0 c28_X_1 c28_X_2
  have HB_30 := Lib.hid (HB_25.out.trans (l29.mono HB_25.out.size))
  have vw_30 := Lib.hid (own_below vw_25.out l29 (Nat.le_refl _))
  clear vw_25
  have x_30 := Lib.hid (own_below x_25.out l29 (Nat.le_refl _))
  clear x_25
  have vg_30 := Lib.hid (own_below O_vg.out l29 (Nat.le_refl _))
  clear O_vg
  have AW_30 := Lib.hid (AW_25.out.below l29 AW_25.out.lt)
  clear AW_25
  have vwB0_30 := Lib.hid (vwB0_25.out.below l29 vwB0_25.out.lt)
  clear vwB0_25
  have X_30 := Lib.hid (X_25.out.below l29 X_25.out.lt)
  clear X_25
  clear l29
  have c31_AW_0 := AW_30.out.at 0 (v := .int .i64 z0.t) rfl
  have c31_AW_1 := AW_30.out.at 1 (v := .int .i64 z0.z) rfl
  have c31_AW_2 := AW_30.out.at 2 (v := .slice p0 z0.q.length cap0) rfl
  have c32_vwB0_0 := vwB0_30.out.at 0 (v := .int .i64 ps0.t) rfl
  have c32_vwB0_1 := vwB0_30.out.at 1 (v := .int .i64 ps0.z) rfl
  have c32_vwB0_2 := vwB0_30.out.at 2 (v := .slice a_vw ps0.q.length c_vw) rfl
  have c33_X_0 := X_30.out.at 0 (v := .int .i64 z0.t) rfl
  have c33_X_1 := X_30.out.at 1 (v := .int .i64 z0.z) rfl
  have c33_X_2 := X_30.out.at 2 (v := .slice (some ⟨g_x, 0, none⟩) z0.q.length z0.q.length) rfl
  have c34_vgB0_0 := X29_vgB0.out.at 0 (v := .int .i64 ps0.t) rfl
  have c34_vgB0_1 := X29_vgB0.out.at 1 (v := .int .i64 ps0.z) rfl
  have c34_vgB0_2 := X29_vgB0.out.at 2 (v := .slice a_vg ps0.q.length c_vg) rfl
  go_wp2_with fail
  refine (eqSw_same _ _ ps0 _ (row_own vg_30.out) (row_own vw_30.out)).mono ?_
  rintro e W35 ⟨rfl, l35⟩
  clear c31_AW_0 c31_AW_1 c31_AW_2
  clear c32_vwB0_0 c32_vwB0_1 c32_vwB0_2
  clear c33_X_0 c33_X_1 c33_X_2
  clear c34_vgB0_0 c34_vgB0_1 c34_vgB0_2
  have HB_36 := Lib.hid (HB_30.out.trans (l35.mono HB_30.out.size))
  have vw_36 := Lib.hid (own_below vw_30.out l35 (Nat.le_refl _))
  clear vw_30
  have x_36 := Lib.hid (own_below x_30.out l35 (Nat.le_refl _))
  clear x_30
  have vg_36 := Lib.hid (own_below vg_30.out l35 (Nat.le_refl _))
  clear vg_30
  have AW_36 := Lib.hid (AW_30.out.below l35 AW_30.out.lt)
  clear AW_30
  have vwB0_36 := Lib.hid (vwB0_30.out.below l35 vwB0_30.out.lt)
  clear vwB0_30
  have X_36 := Lib.hid (X_30.out.below l35 X_30.out.lt)
  clear X_30
  have vgB0_36 := Lib.hid (X29_vgB0.out.below l35 X29_vgB0.out.lt)
  clear X29_vgB0
  clear l35
  have c37_AW_0 := AW_36.out.at 0 (v := .int .i64 z0.t) rfl
  have c37_AW_1 := AW_36.out.at 1 (v := .int .i64 z0.z) rfl
  have c37_AW_2 := AW_36.out.at 2 (v := .slice p0 z0.q.length cap0) rfl
  have c38_vwB0_0 := vwB0_36.out.at 0 (v := .int .i64 ps0.t) rfl
  have c38_vwB0_1 := vwB0_36.out.at 1 (v := .int .i64 ps0.z) rfl
  have c38_vwB0_2 := vwB0_36.out.at 2 (v := .slice a_vw ps0.q.length c_vw) rfl
  have c39_X_0 := X_36.out.at 0 (v := .int .i64 z0.t) rfl
  have c39_X_1 := X_36.out.at 1 (v := .int .i64 z0.z) rfl
  have c39_X_2 := X_36.out.at 2 (v := .slice (some ⟨g_x, 0, none⟩) z0.q.length z0.q.length) rfl
  have c40_vgB0_0 := vgB0_36.out.at 0 (v := .int .i64 ps0.t) rfl
  have c40_vgB0_1 := vgB0_36.out.at 1 (v := .int .i64 ps0.z) rfl
  have c40_vgB0_2 := vgB0_36.out.at 2 (v := .slice a_vg ps0.q.length c_vg) rfl
  go_upto_region 10 with fail
  go_cut [59] from 55 to 59 (fun b wx => b = .bool false ∧ Hid (Below W35.heap.size W35 wx))
  case first => as_aux_lemma =>
    have HK1 := Lib.hid (fun (w' : World) (hb : Below W35.heap.size W35 w') => (show w'.cell? ⟨R_X, 0, none⟩ = some (.int .i64 z0.t) ∧ w'.cell? ⟨R_X, 1, none⟩ = some (.int .i64 z0.z) ∧ w'.cell? ⟨R_X, 2, none⟩ = some (.slice (some ⟨g_x, 0, none⟩) z0.q.length z0.q.length) ∧ w'.cell? ⟨R_AW, 0, none⟩ = some (.int .i64 z0.t) ∧ w'.cell? ⟨R_AW, 1, none⟩ = some (.int .i64 z0.z) ∧ w'.cell? ⟨R_AW, 2, none⟩ = some (.slice p0 z0.q.length cap0) ∧ Below w.heap.size w w' from ⟨(hb.cell (p := ⟨R_X, 0, none⟩) X_36.out.lt).trans (X_36.out.at 0 (v := .int .i64 z0.t) rfl), (hb.cell (p := ⟨R_X, 1, none⟩) X_36.out.lt).trans (X_36.out.at 1 (v := .int .i64 z0.z) rfl), (hb.cell (p := ⟨R_X, 2, none⟩) X_36.out.lt).trans (X_36.out.at 2 (v := .slice (some ⟨g_x, 0, none⟩) z0.q.length z0.q.length) rfl), (hb.cell (p := ⟨R_AW, 0, none⟩) AW_36.out.lt).trans (AW_36.out.at 0 (v := .int .i64 z0.t) rfl), (hb.cell (p := ⟨R_AW, 1, none⟩) AW_36.out.lt).trans (AW_36.out.at 1 (v := .int .i64 z0.z) rfl), (hb.cell (p := ⟨R_AW, 2, none⟩) AW_36.out.lt).trans (AW_36.out.at 2 (v := .slice p0 z0.q.length cap0) rfl), HB_36.out.trans (hb.mono HB_36.out.size)⟩))
    go_region_held3 (fun w' => w'.cell? ⟨R_X, 0, none⟩ = some (.int .i64 z0.t) ∧ w'.cell? ⟨R_X, 1, none⟩ = some (.int .i64 z0.z) ∧ w'.cell? ⟨R_X, 2, none⟩ = some (.slice (some ⟨g_x, 0, none⟩) z0.q.length z0.q.length) ∧ w'.cell? ⟨R_AW, 0, none⟩ = some (.int .i64 z0.t) ∧ w'.cell? ⟨R_AW, 1, none⟩ = some (.int .i64 z0.z) ∧ w'.cell? ⟨R_AW, 2, none⟩ = some (.slice p0 z0.q.length cap0) ∧ Below w.heap.size w w')
      ((first | (with_reducible refine HK1.out _ ?_; (repeat (first | with_reducible assumption | with_reducible exact Below.refl _ _ | with_reducible refine Below.drew ?_ | with_reducible refine below_alloc' ?_)); done)))
      (first
        | (go_at_call 45; refine (toSw_lit _ z0 _ (HR0.out.below (HB_36.out.trans ((by repeat (first | with_reducible assumption | with_reducible exact Below.refl _ _ | with_reducible refine Below.drew ?_ | with_reducible refine below_alloc' ?_) : Below W35.heap.size W35 _).mono HB_36.out.size)) (Nat.le_refl _)) HN0.out).mono ?_; rintro e w5 ⟨g5, rfl, o5, l5⟩; have hb5 := below_call7 (by repeat (first | with_reducible assumption | with_reducible exact Below.refl _ _ | with_reducible refine Below.drew ?_ | with_reducible refine below_alloc' ?_) : Below W35.heap.size W35 _) l5; have ho5 := row_own o5; clear o5 l5)
        | (go_at_call 46; refine (eqSw_same _ _ z0 _ ((row_own x_36.out).below hb5 (Nat.le_refl _)) ho5).mono ?_; rintro e w6 ⟨rfl, l6⟩; have hb6 := below_call7 hb5 l6; clear l6))
    all_goals go_wp2_with fail
    all_goals go_meet
    all_goals
      case rel => exact ⟨by simp, Lib.hid (by repeat (first | with_reducible assumption | with_reducible exact Below.refl _ _ | with_reducible refine Below.drew ?_ | with_reducible refine below_alloc' ?_))⟩
  case rest =>
    obtain ⟨rfl, HCut⟩ := hcut
    rename World => W41
    have l41 := HCut.out
    clear HCut
    clear c37_AW_0 c37_AW_1 c37_AW_2
    clear c38_vwB0_0 c38_vwB0_1 c38_vwB0_2
    clear c39_X_0 c39_X_1 c39_X_2
    clear c40_vgB0_0 c40_vgB0_1 c40_vgB0_2
    have HB_42 := Lib.hid (HB_36.out.trans (l41.mono HB_36.out.size))
    have vw_42 := Lib.hid (own_below vw_36.out l41 (Nat.le_refl _))
    clear vw_36
    have x_42 := Lib.hid (own_below x_36.out l41 (Nat.le_refl _))
    clear x_36
    have vg_42 := Lib.hid (own_below vg_36.out l41 (Nat.le_refl _))
    clear vg_36
    have AW_42 := Lib.hid (AW_36.out.below l41 AW_36.out.lt)
    clear AW_36
    have vwB0_42 := Lib.hid (vwB0_36.out.below l41 vwB0_36.out.lt)
    clear vwB0_36
    have X_42 := Lib.hid (X_36.out.below l41 X_36.out.lt)
    clear X_36
    have vgB0_42 := Lib.hid (vgB0_36.out.below l41 vgB0_36.out.lt)
    clear vgB0_36
    clear l41
    have c43_AW_0 := AW_42.out.at 0 (v := .int .i64 z0.t) rfl
    have c43_AW_1 := AW_42.out.at 1 (v := .int .i64 z0.z) rfl
    have c43_AW_2 := AW_42.out.at 2 (v := .slice p0 z0.q.length cap0) rfl
    have c44_vwB0_0 := vwB0_42.out.at 0 (v := .int .i64 ps0.t) rfl
    have c44_vwB0_1 := vwB0_42.out.at 1 (v := .int .i64 ps0.z) rfl
    have c44_vwB0_2 := vwB0_42.out.at 2 (v := .slice a_vw ps0.q.length c_vw) rfl
    have c45_X_0 := X_42.out.at 0 (v := .int .i64 z0.t) rfl
    have c45_X_1 := X_42.out.at 1 (v := .int .i64 z0.z) rfl
    have c45_X_2 := X_42.out.at 2 (v := .slice (some ⟨g_x, 0, none⟩) z0.q.length z0.q.length) rfl
    have c46_vgB0_0 := vgB0_42.out.at 0 (v := .int .i64 ps0.t) rfl
    have c46_vgB0_1 := vgB0_42.out.at 1 (v := .int .i64 ps0.z) rfl
    have c46_vgB0_2 := vgB0_42.out.at 2 (v := .slice a_vg ps0.q.length c_vg) rfl
    go_wp2_with fail
    refine (markSw_own _ _ _ z0.q.length 1 _ _ _ x_42.out (by omega) (by have := HL0.out; have := HN0.out; omega)).mono ?_
    rintro e W47 ⟨rfl, m47, gr47⟩
    clear c43_AW_0 c43_AW_1 c43_AW_2
    clear c44_vwB0_0 c44_vwB0_1 c44_vwB0_2
    clear c45_X_0 c45_X_1 c45_X_2
    clear c46_vgB0_0 c46_vgB0_1 c46_vgB0_2
    have HB_47 := Lib.hid (HB_42.out.grown gr47 HB_42.out.size (fun q hq => (x_42.out.lt q hq).1))
    have vw_47 := Lib.hid (own_apart vw_42.out gr47 (fun k h1 h2 => AP_vw_x.out k h1 h2))
    clear vw_42
    have vg_47 := Lib.hid (own_apart vg_42.out gr47 (fun k h1 h2 => AP_x_vg.out k h2 h1))
    clear vg_42
    have AW_47 := Lib.hid (AW_42.out.grown gr47 (fun e => BX_AW_x.out _ e.symm rfl))
    clear AW_42
    have vwB0_47 := Lib.hid (vwB0_42.out.grown gr47 (fun e => BX_vwB0_x.out _ e.symm rfl))
    clear vwB0_42
    have X_47 := Lib.hid (X_42.out.grown gr47 (fun e => BX_X_x.out _ e.symm rfl))
    clear X_42
    have vgB0_47 := Lib.hid (vgB0_42.out.grown gr47 (fun e => BX_vgB0_x.out _ e.symm rfl))
    clear vgB0_42
    have x_47 := Lib.hid m47
    clear m47 gr47 x_42
    have c48_AW_0 := AW_47.out.at 0 (v := .int .i64 z0.t) rfl
    have c48_AW_1 := AW_47.out.at 1 (v := .int .i64 z0.z) rfl
    have c48_AW_2 := AW_47.out.at 2 (v := .slice p0 z0.q.length cap0) rfl
    have c49_vwB0_0 := vwB0_47.out.at 0 (v := .int .i64 ps0.t) rfl
    have c49_vwB0_1 := vwB0_47.out.at 1 (v := .int .i64 ps0.z) rfl
    have c49_vwB0_2 := vwB0_47.out.at 2 (v := .slice a_vw ps0.q.length c_vw) rfl
    have c50_X_0 := X_47.out.at 0 (v := .int .i64 z0.t) rfl
    have c50_X_1 := X_47.out.at 1 (v := .int .i64 z0.z) rfl
    have c50_X_2 := X_47.out.at 2 (v := .slice (some ⟨g_x, 0, none⟩) z0.q.length z0.q.length) rfl
    have c51_vgB0_0 := vgB0_47.out.at 0 (v := .int .i64 ps0.t) rfl
    have c51_vgB0_1 := vgB0_47.out.at 1 (v := .int .i64 ps0.z) rfl
    have c51_vgB0_2 := vgB0_47.out.at 2 (v := .slice a_vg ps0.q.length c_vg) rfl
    go_wp2_with fail
    refine (eqSw_same _ _ ps0 _ (row_own vg_47.out) (row_own vw_47.out)).mono ?_
    rintro e W52 ⟨rfl, l52⟩
    clear c48_AW_0 c48_AW_1 c48_AW_2
    clear c49_vwB0_0 c49_vwB0_1 c49_vwB0_2
    clear c50_X_0 c50_X_1 c50_X_2
    clear c51_vgB0_0 c51_vgB0_1 c51_vgB0_2
    have HB_53 := Lib.hid (HB_47.out.trans (l52.mono HB_47.out.size))
    have vw_53 := Lib.hid (own_below vw_47.out l52 (Nat.le_refl _))
    clear vw_47
    have x_53 := Lib.hid (own_below x_47.out l52 (Nat.le_refl _))
    clear x_47
    have vg_53 := Lib.hid (own_below vg_47.out l52 (Nat.le_refl _))
    clear vg_47
    have AW_53 := Lib.hid (AW_47.out.below l52 AW_47.out.lt)
    clear AW_47
    have vwB0_53 := Lib.hid (vwB0_47.out.below l52 vwB0_47.out.lt)
    clear vwB0_47
    have X_53 := Lib.hid (X_47.out.below l52 X_47.out.lt)
    clear X_47
    have vgB0_53 := Lib.hid (vgB0_47.out.below l52 vgB0_47.out.lt)
    clear vgB0_47
    clear l52
    have c54_AW_0 := AW_53.out.at 0 (v := .int .i64 z0.t) rfl
    have c54_AW_1 := AW_53.out.at 1 (v := .int .i64 z0.z) rfl
    have c54_AW_2 := AW_53.out.at 2 (v := .slice p0 z0.q.length cap0) rfl
    have c55_vwB0_0 := vwB0_53.out.at 0 (v := .int .i64 ps0.t) rfl
    have c55_vwB0_1 := vwB0_53.out.at 1 (v := .int .i64 ps0.z) rfl
    have c55_vwB0_2 := vwB0_53.out.at 2 (v := .slice a_vw ps0.q.length c_vw) rfl
    have c56_X_0 := X_53.out.at 0 (v := .int .i64 z0.t) rfl
    have c56_X_1 := X_53.out.at 1 (v := .int .i64 z0.z) rfl
    have c56_X_2 := X_53.out.at 2 (v := .slice (some ⟨g_x, 0, none⟩) z0.q.length z0.q.length) rfl
    have c57_vgB0_0 := vgB0_53.out.at 0 (v := .int .i64 ps0.t) rfl
    have c57_vgB0_1 := vgB0_53.out.at 1 (v := .int .i64 ps0.z) rfl
    have c57_vgB0_2 := vgB0_53.out.at 2 (v := .slice a_vg ps0.q.length c_vg) rfl
    clear x_53
    clear c56_X_0 c56_X_1 c56_X_2
    clear X_53
    go_wp2_with fail
    refine (markSw_own _ _ _ ps0.q.length 1 _ _ _ vg_53.out (by omega) (by have := HL0.out; have := HN0.out; omega)).mono ?_
    rintro e W58 ⟨rfl, m58, gr58⟩
    clear c54_AW_0 c54_AW_1 c54_AW_2
    clear c55_vwB0_0 c55_vwB0_1 c55_vwB0_2
    clear c57_vgB0_0 c57_vgB0_1 c57_vgB0_2
    have HB_58 := Lib.hid (HB_53.out.grown gr58 HB_53.out.size (fun q hq => (vg_53.out.lt q hq).1))
    have vw_58 := Lib.hid (own_apart vw_53.out gr58 (fun k h1 h2 => AP_vw_vg.out k h1 h2))
    clear vw_53
    have AW_58 := Lib.hid (AW_53.out.grown gr58 (fun e => BX_AW_vg.out _ e.symm rfl))
    clear AW_53
    have vwB0_58 := Lib.hid (vwB0_53.out.grown gr58 (fun e => BX_vwB0_vg.out _ e.symm rfl))
    clear vwB0_53
    have vgB0_58 := Lib.hid (vgB0_53.out.grown gr58 (fun e => BX_vgB0_vg.out _ e.symm rfl))
    clear vgB0_53
    have vg_58 := Lib.hid m58
    clear m58 gr58 vg_53
    have c59_AW_0 := AW_58.out.at 0 (v := .int .i64 z0.t) rfl
    have c59_AW_1 := AW_58.out.at 1 (v := .int .i64 z0.z) rfl
    have c59_AW_2 := AW_58.out.at 2 (v := .slice p0 z0.q.length cap0) rfl
    have c60_vwB0_0 := vwB0_58.out.at 0 (v := .int .i64 ps0.t) rfl
    have c60_vwB0_1 := vwB0_58.out.at 1 (v := .int .i64 ps0.z) rfl
    have c60_vwB0_2 := vwB0_58.out.at 2 (v := .slice a_vw ps0.q.length c_vw) rfl
    have c61_vgB0_0 := vgB0_58.out.at 0 (v := .int .i64 ps0.t) rfl
    have c61_vgB0_1 := vgB0_58.out.at 1 (v := .int .i64 ps0.z) rfl
    have c61_vgB0_2 := vgB0_58.out.at 2 (v := .slice a_vg ps0.q.length c_vg) rfl
    go_wp2_with fail
    refine (heldSw_own _ _ _ ps0.q.length 1 _ _ vg_58.out (by omega) (by have := HL0.out; have := HN0.out; omega)).mono ?_
    rintro e W62 ⟨rfl, l62⟩
    clear c59_AW_0 c59_AW_1 c59_AW_2
    clear c60_vwB0_0 c60_vwB0_1 c60_vwB0_2
    clear c61_vgB0_0 c61_vgB0_1 c61_vgB0_2
    have HB_63 := Lib.hid (HB_58.out.trans (l62.mono HB_58.out.size))
    have vw_63 := Lib.hid (own_below vw_58.out l62 (Nat.le_refl _))
    clear vw_58
    have vg_63 := Lib.hid (own_below vg_58.out l62 (Nat.le_refl _))
    clear vg_58
    have AW_63 := Lib.hid (AW_58.out.below l62 AW_58.out.lt)
    clear AW_58
    have vwB0_63 := Lib.hid (vwB0_58.out.below l62 vwB0_58.out.lt)
    clear vwB0_58
    have vgB0_63 := Lib.hid (vgB0_58.out.below l62 vgB0_58.out.lt)
    clear vgB0_58
    clear l62
    have c64_AW_0 := AW_63.out.at 0 (v := .int .i64 z0.t) rfl
    have c64_AW_1 := AW_63.out.at 1 (v := .int .i64 z0.z) rfl
    have c64_AW_2 := AW_63.out.at 2 (v := .slice p0 z0.q.length cap0) rfl
    have c65_vwB0_0 := vwB0_63.out.at 0 (v := .int .i64 ps0.t) rfl
    have c65_vwB0_1 := vwB0_63.out.at 1 (v := .int .i64 ps0.z) rfl
    have c65_vwB0_2 := vwB0_63.out.at 2 (v := .slice a_vw ps0.q.length c_vw) rfl
    have c66_vgB0_0 := vgB0_63.out.at 0 (v := .int .i64 ps0.t) rfl
    have c66_vgB0_1 := vgB0_63.out.at 1 (v := .int .i64 ps0.z) rfl
    have c66_vgB0_2 := vgB0_63.out.at 2 (v := .slice a_vg ps0.q.length c_vg) rfl
    go_wp2_with fail
    refine (toSw_lit _ z0 _ (HR0.out.below HB_63.out (Nat.le_refl _)) HN0.out).mono ?_
    rintro e W67 ⟨g_t, rfl, o_t, l67⟩
    have AP_vw_t : Hid (∀ k, (.slice a_vw ps0.q.length c_vw : Value).ownBlock = some k → (.slice (some ⟨g_t, 0, none⟩) z0.q.length z0.q.length : Value).ownBlock ≠ some k) := Lib.hid (fun k h1 h2 => absurd (vw_63.out.lt k h1).2 (Nat.not_lt.2 (o_t.lt k h2).1))
    have AP_vg_t : Hid (∀ k, (.slice a_vg ps0.q.length c_vg : Value).ownBlock = some k → (.slice (some ⟨g_t, 0, none⟩) z0.q.length z0.q.length : Value).ownBlock ≠ some k) := Lib.hid (fun k h1 h2 => absurd (vg_63.out.lt k h1).2 (Nat.not_lt.2 (o_t.lt k h2).1))
    have O_t := Lib.hid (own_base o_t HB_63.out.size)
    have BX_AW_t : Hid (∀ k, (.slice (some ⟨g_t, 0, none⟩) z0.q.length z0.q.length : Value).ownBlock = some k → k ≠ R_AW) := Lib.hid (fun k h1 h2 => absurd AW_63.out.lt (Nat.not_lt.2 (by rw [← h2]; exact (o_t.lt k h1).1)))
    have BX_vwB0_t : Hid (∀ k, (.slice (some ⟨g_t, 0, none⟩) z0.q.length z0.q.length : Value).ownBlock = some k → k ≠ R_vwB0) := Lib.hid (fun k h1 h2 => absurd vwB0_63.out.lt (Nat.not_lt.2 (by rw [← h2]; exact (o_t.lt k h1).1)))
    have BX_vgB0_t : Hid (∀ k, (.slice (some ⟨g_t, 0, none⟩) z0.q.length z0.q.length : Value).ownBlock = some k → k ≠ R_vgB0) := Lib.hid (fun k h1 h2 => absurd vgB0_63.out.lt (Nat.not_lt.2 (by rw [← h2]; exact (o_t.lt k h1).1)))
    clear o_t
    clear c64_AW_0 c64_AW_1 c64_AW_2
    clear c65_vwB0_0 c65_vwB0_1 c65_vwB0_2
    clear c66_vgB0_0 c66_vgB0_1 c66_vgB0_2
    have HB_68 := Lib.hid (HB_63.out.trans (l67.mono HB_63.out.size))
    have vw_68 := Lib.hid (own_below vw_63.out l67 (Nat.le_refl _))
    clear vw_63
    have vg_68 := Lib.hid (own_below vg_63.out l67 (Nat.le_refl _))
    clear vg_63
    have AW_68 := Lib.hid (AW_63.out.below l67 AW_63.out.lt)
    clear AW_63
    have vwB0_68 := Lib.hid (vwB0_63.out.below l67 vwB0_63.out.lt)
    clear vwB0_63
    have vgB0_68 := Lib.hid (vgB0_63.out.below l67 vgB0_63.out.lt)
    clear vgB0_63
    clear l67
    have c69_AW_0 := AW_68.out.at 0 (v := .int .i64 z0.t) rfl
    have c69_AW_1 := AW_68.out.at 1 (v := .int .i64 z0.z) rfl
    have c69_AW_2 := AW_68.out.at 2 (v := .slice p0 z0.q.length cap0) rfl
    have c70_vwB0_0 := vwB0_68.out.at 0 (v := .int .i64 ps0.t) rfl
    have c70_vwB0_1 := vwB0_68.out.at 1 (v := .int .i64 ps0.z) rfl
    have c70_vwB0_2 := vwB0_68.out.at 2 (v := .slice a_vw ps0.q.length c_vw) rfl
    have c71_vgB0_0 := vgB0_68.out.at 0 (v := .int .i64 ps0.t) rfl
    have c71_vgB0_1 := vgB0_68.out.at 1 (v := .int .i64 ps0.z) rfl
    have c71_vgB0_2 := vgB0_68.out.at 2 (v := .slice a_vg ps0.q.length c_vg) rfl
    go_wp2_with fail
    refine (HIm.out _ _ (row_own O_t.out) (fitA_some _ _)).mono ?_
    rintro e W72 ⟨v_vh, rfl, o_vh, l72⟩
    obtain ⟨a_vh, c_vh, rfl, _, _⟩ := own_someS0 o_vh
    have AP_vw_vh : Hid (∀ k, (.slice a_vw ps0.q.length c_vw : Value).ownBlock = some k → (.slice a_vh ps0.q.length c_vh : Value).ownBlock ≠ some k) := Lib.hid (fun k h1 h2 => absurd (vw_68.out.lt k h1).2 (Nat.not_lt.2 (o_vh.lt k h2).1))
    have AP_vg_vh : Hid (∀ k, (.slice a_vg ps0.q.length c_vg : Value).ownBlock = some k → (.slice a_vh ps0.q.length c_vh : Value).ownBlock ≠ some k) := Lib.hid (fun k h1 h2 => absurd (vg_68.out.lt k h1).2 (Nat.not_lt.2 (o_vh.lt k h2).1))
    have AP_t_vh : Hid (∀ k, (.slice (some ⟨g_t, 0, none⟩) z0.q.length z0.q.length : Value).ownBlock = some k → (.slice a_vh ps0.q.length c_vh : Value).ownBlock ≠ some k) := Lib.hid (fun k h1 h2 => absurd (O_t.out.lt k h1).2 (Nat.not_lt.2 (o_vh.lt k h2).1))
    have O_vh := Lib.hid (own_base o_vh HB_68.out.size)
    have BX_AW_vh : Hid (∀ k, (.slice a_vh ps0.q.length c_vh : Value).ownBlock = some k → k ≠ R_AW) := Lib.hid (fun k h1 h2 => absurd AW_68.out.lt (Nat.not_lt.2 (by rw [← h2]; exact (o_vh.lt k h1).1)))
    have BX_vwB0_vh : Hid (∀ k, (.slice a_vh ps0.q.length c_vh : Value).ownBlock = some k → k ≠ R_vwB0) := Lib.hid (fun k h1 h2 => absurd vwB0_68.out.lt (Nat.not_lt.2 (by rw [← h2]; exact (o_vh.lt k h1).1)))
    have BX_vgB0_vh : Hid (∀ k, (.slice a_vh ps0.q.length c_vh : Value).ownBlock = some k → k ≠ R_vgB0) := Lib.hid (fun k h1 h2 => absurd vgB0_68.out.lt (Nat.not_lt.2 (by rw [← h2]; exact (o_vh.lt k h1).1)))
    clear o_vh
    clear c69_AW_0 c69_AW_1 c69_AW_2
    clear c70_vwB0_0 c70_vwB0_1 c70_vwB0_2
    clear c71_vgB0_0 c71_vgB0_1 c71_vgB0_2
    have HB_73 := Lib.hid (HB_68.out.trans (l72.mono HB_68.out.size))
    have vw_73 := Lib.hid (own_below vw_68.out l72 (Nat.le_refl _))
    clear vw_68
    have vg_73 := Lib.hid (own_below vg_68.out l72 (Nat.le_refl _))
    clear vg_68
    have t_73 := Lib.hid (own_below O_t.out l72 (Nat.le_refl _))
    clear O_t
    have AW_73 := Lib.hid (AW_68.out.below l72 AW_68.out.lt)
    clear AW_68
    have vwB0_73 := Lib.hid (vwB0_68.out.below l72 vwB0_68.out.lt)
    clear vwB0_68
    have vgB0_73 := Lib.hid (vgB0_68.out.below l72 vgB0_68.out.lt)
    clear vgB0_68
    clear l72
    have c74_AW_0 := AW_73.out.at 0 (v := .int .i64 z0.t) rfl
    have c74_AW_1 := AW_73.out.at 1 (v := .int .i64 z0.z) rfl
    have c74_AW_2 := AW_73.out.at 2 (v := .slice p0 z0.q.length cap0) rfl
    have c75_vwB0_0 := vwB0_73.out.at 0 (v := .int .i64 ps0.t) rfl
    have c75_vwB0_1 := vwB0_73.out.at 1 (v := .int .i64 ps0.z) rfl
    have c75_vwB0_2 := vwB0_73.out.at 2 (v := .slice a_vw ps0.q.length c_vw) rfl
    have c76_vgB0_0 := vgB0_73.out.at 0 (v := .int .i64 ps0.t) rfl
    have c76_vgB0_1 := vgB0_73.out.at 1 (v := .int .i64 ps0.z) rfl
    have c76_vgB0_2 := vgB0_73.out.at 2 (v := .slice a_vg ps0.q.length c_vg) rfl
    go_upto_region 25 with fail
    obtain ⟨W77, hW77⟩ : ∃ W77, W77 = W72.alloc (.cells #[.int .i64 ps0.t, .int .i64 ps0.z, .slice a_vh ps0.q.length c_vh] 26) := ⟨_, rfl⟩
    have l77 : Below W72.heap.size W72 W77 := by rw [hW77]; exact (Below.refl _ _).alloc (Nat.le_refl _) _
    have X77_vhB0 : Hid (Bx W77 W72.heap.size #[.int .i64 ps0.t, .int .i64 ps0.z, .slice a_vh ps0.q.length c_vh] 26) := Lib.hid (by rw [hW77]; exact Bx.new _ _ _)
    rw [← hW77]
    clear hW77
    have BX_vhB0_vw : Hid (∀ k, (.slice a_vw ps0.q.length c_vw : Value).ownBlock = some k → k ≠ W72.heap.size) := Lib.hid (fun k h1 h2 => absurd (vw_73.out.lt k h1).2 (by omega))
    have BX_vhB0_vg : Hid (∀ k, (.slice a_vg ps0.q.length c_vg : Value).ownBlock = some k → k ≠ W72.heap.size) := Lib.hid (fun k h1 h2 => absurd (vg_73.out.lt k h1).2 (by omega))
    have BX_vhB0_t : Hid (∀ k, (.slice (some ⟨g_t, 0, none⟩) z0.q.length z0.q.length : Value).ownBlock = some k → k ≠ W72.heap.size) := Lib.hid (fun k h1 h2 => absurd (t_73.out.lt k h1).2 (by omega))
    have BX_vhB0_vh : Hid (∀ k, (.slice a_vh ps0.q.length c_vh : Value).ownBlock = some k → k ≠ W72.heap.size) := Lib.hid (fun k h1 h2 => absurd (O_vh.out.lt k h1).2 (by omega))
    have HG_vhB0 : Hid (w.heap.size ≤ W72.heap.size) := Lib.hid HB_73.out.size
    have HN_vhB0_AW : Hid (R_AW < W72.heap.size) := Lib.hid AW_73.out.lt
    have HN_vhB0_vwB0 : Hid (R_vwB0 < W72.heap.size) := Lib.hid vwB0_73.out.lt
    have HN_vhB0_vgB0 : Hid (R_vgB0 < W72.heap.size) := Lib.hid vgB0_73.out.lt
    obtain ⟨R_vhB0, hR_vhB0⟩ : ∃ X, X = W72.heap.size := ⟨_, rfl⟩
    rw [← hR_vhB0] at X77_vhB0 HG_vhB0 BX_vhB0_vw BX_vhB0_vg BX_vhB0_t BX_vhB0_vh HN_vhB0_AW HN_vhB0_vwB0 HN_vhB0_vgB0 ⊢
    clear hR_vhB0
    clear c74_AW_0 c74_AW_1 c74_AW_2
    clear c75_vwB0_0 c75_vwB0_1 c75_vwB0_2
    clear c76_vgB0_0 c76_vgB0_1 c76_vgB0_2
    have HB_78 := Lib.hid (HB_73.out.trans (l77.mono HB_73.out.size))
    have vw_78 := Lib.hid (own_below vw_73.out l77 (Nat.le_refl _))
    clear vw_73
    have vg_78 := Lib.hid (own_below vg_73.out l77 (Nat.le_refl _))
    clear vg_73
    have t_78 := Lib.hid (own_below t_73.out l77 (Nat.le_refl _))
    clear t_73
    have vh_78 := Lib.hid (own_below O_vh.out l77 (Nat.le_refl _))
    clear O_vh
    have AW_78 := Lib.hid (AW_73.out.below l77 AW_73.out.lt)
    clear AW_73
    have vwB0_78 := Lib.hid (vwB0_73.out.below l77 vwB0_73.out.lt)
    clear vwB0_73
    have vgB0_78 := Lib.hid (vgB0_73.out.below l77 vgB0_73.out.lt)
    clear vgB0_73
    clear l77
    have c79_AW_0 := AW_78.out.at 0 (v := .int .i64 z0.t) rfl
    have c79_AW_1 := AW_78.out.at 1 (v := .int .i64 z0.z) rfl
    have c79_AW_2 := AW_78.out.at 2 (v := .slice p0 z0.q.length cap0) rfl
    have c80_vwB0_0 := vwB0_78.out.at 0 (v := .int .i64 ps0.t) rfl
    have c80_vwB0_1 := vwB0_78.out.at 1 (v := .int .i64 ps0.z) rfl
    have c80_vwB0_2 := vwB0_78.out.at 2 (v := .slice a_vw ps0.q.length c_vw) rfl
    have c81_vgB0_0 := vgB0_78.out.at 0 (v := .int .i64 ps0.t) rfl
    have c81_vgB0_1 := vgB0_78.out.at 1 (v := .int .i64 ps0.z) rfl
    have c81_vgB0_2 := vgB0_78.out.at 2 (v := .slice a_vg ps0.q.length c_vg) rfl
    have c82_vhB0_0 := X77_vhB0.out.at 0 (v := .int .i64 ps0.t) rfl
    have c82_vhB0_1 := X77_vhB0.out.at 1 (v := .int .i64 ps0.z) rfl
    have c82_vhB0_2 := X77_vhB0.out.at 2 (v := .slice a_vh ps0.q.length c_vh) rfl
    go_wp2_with fail
    refine (eqSw_same _ _ ps0 _ (row_own vh_78.out) (row_own vw_78.out)).mono ?_
    rintro e W83 ⟨rfl, l83⟩
    clear c79_AW_0 c79_AW_1 c79_AW_2
    clear c80_vwB0_0 c80_vwB0_1 c80_vwB0_2
    clear c81_vgB0_0 c81_vgB0_1 c81_vgB0_2
    clear c82_vhB0_0 c82_vhB0_1 c82_vhB0_2
    have HB_84 := Lib.hid (HB_78.out.trans (l83.mono HB_78.out.size))
    have vw_84 := Lib.hid (own_below vw_78.out l83 (Nat.le_refl _))
    clear vw_78
    have vg_84 := Lib.hid (own_below vg_78.out l83 (Nat.le_refl _))
    clear vg_78
    have t_84 := Lib.hid (own_below t_78.out l83 (Nat.le_refl _))
    clear t_78
    have vh_84 := Lib.hid (own_below vh_78.out l83 (Nat.le_refl _))
    clear vh_78
    have AW_84 := Lib.hid (AW_78.out.below l83 AW_78.out.lt)
    clear AW_78
    have vwB0_84 := Lib.hid (vwB0_78.out.below l83 vwB0_78.out.lt)
    clear vwB0_78
    have vgB0_84 := Lib.hid (vgB0_78.out.below l83 vgB0_78.out.lt)
    clear vgB0_78
    have vhB0_84 := Lib.hid (X77_vhB0.out.below l83 X77_vhB0.out.lt)
    clear X77_vhB0
    clear l83
    have c85_AW_0 := AW_84.out.at 0 (v := .int .i64 z0.t) rfl
    have c85_AW_1 := AW_84.out.at 1 (v := .int .i64 z0.z) rfl
    have c85_AW_2 := AW_84.out.at 2 (v := .slice p0 z0.q.length cap0) rfl
    have c86_vwB0_0 := vwB0_84.out.at 0 (v := .int .i64 ps0.t) rfl
    have c86_vwB0_1 := vwB0_84.out.at 1 (v := .int .i64 ps0.z) rfl
    have c86_vwB0_2 := vwB0_84.out.at 2 (v := .slice a_vw ps0.q.length c_vw) rfl
    have c87_vgB0_0 := vgB0_84.out.at 0 (v := .int .i64 ps0.t) rfl
    have c87_vgB0_1 := vgB0_84.out.at 1 (v := .int .i64 ps0.z) rfl
    have c87_vgB0_2 := vgB0_84.out.at 2 (v := .slice a_vg ps0.q.length c_vg) rfl
    have c88_vhB0_0 := vhB0_84.out.at 0 (v := .int .i64 ps0.t) rfl
    have c88_vhB0_1 := vhB0_84.out.at 1 (v := .int .i64 ps0.z) rfl
    have c88_vhB0_2 := vhB0_84.out.at 2 (v := .slice a_vh ps0.q.length c_vh) rfl
    go_wp2_with fail
    refine (heldSw_own _ _ _ ps0.q.length 1 _ _ vg_84.out (by omega) (by have := HL0.out; have := HN0.out; omega)).mono ?_
    rintro e W89 ⟨rfl, l89⟩
    clear c85_AW_0 c85_AW_1 c85_AW_2
    clear c86_vwB0_0 c86_vwB0_1 c86_vwB0_2
    clear c87_vgB0_0 c87_vgB0_1 c87_vgB0_2
    clear c88_vhB0_0 c88_vhB0_1 c88_vhB0_2
    have HB_90 := Lib.hid (HB_84.out.trans (l89.mono HB_84.out.size))
    have vw_90 := Lib.hid (own_below vw_84.out l89 (Nat.le_refl _))
    clear vw_84
    have vg_90 := Lib.hid (own_below vg_84.out l89 (Nat.le_refl _))
    clear vg_84
    have t_90 := Lib.hid (own_below t_84.out l89 (Nat.le_refl _))
    clear t_84
    have vh_90 := Lib.hid (own_below vh_84.out l89 (Nat.le_refl _))
    clear vh_84
    have AW_90 := Lib.hid (AW_84.out.below l89 AW_84.out.lt)
    clear AW_84
    have vwB0_90 := Lib.hid (vwB0_84.out.below l89 vwB0_84.out.lt)
    clear vwB0_84
    have vgB0_90 := Lib.hid (vgB0_84.out.below l89 vgB0_84.out.lt)
    clear vgB0_84
    have vhB0_90 := Lib.hid (vhB0_84.out.below l89 vhB0_84.out.lt)
    clear vhB0_84
    clear l89
    have c91_AW_0 := AW_90.out.at 0 (v := .int .i64 z0.t) rfl
    have c91_AW_1 := AW_90.out.at 1 (v := .int .i64 z0.z) rfl
    have c91_AW_2 := AW_90.out.at 2 (v := .slice p0 z0.q.length cap0) rfl
    have c92_vwB0_0 := vwB0_90.out.at 0 (v := .int .i64 ps0.t) rfl
    have c92_vwB0_1 := vwB0_90.out.at 1 (v := .int .i64 ps0.z) rfl
    have c92_vwB0_2 := vwB0_90.out.at 2 (v := .slice a_vw ps0.q.length c_vw) rfl
    have c93_vgB0_0 := vgB0_90.out.at 0 (v := .int .i64 ps0.t) rfl
    have c93_vgB0_1 := vgB0_90.out.at 1 (v := .int .i64 ps0.z) rfl
    have c93_vgB0_2 := vgB0_90.out.at 2 (v := .slice a_vg ps0.q.length c_vg) rfl
    have c94_vhB0_0 := vhB0_90.out.at 0 (v := .int .i64 ps0.t) rfl
    have c94_vhB0_1 := vhB0_90.out.at 1 (v := .int .i64 ps0.z) rfl
    have c94_vhB0_2 := vhB0_90.out.at 2 (v := .slice a_vh ps0.q.length c_vh) rfl
    go_wp2_with fail
    go_ret
    exact ⟨rfl, HB_90.out⟩
theorem fnExactDropItems_walk (w : World) (a0_0 : Int) (w0_0 : (Lit.int .i64 a0_0).wf = true) (a0_1 : Int) (w0_1 : (Lit.int .i64 a0_1).wf = true) (v0_2 : Value) (s0_2 : List ByteArray) (w0_2 : Row w v0_2 s0_2.length (s0_2.map Value.string)) (b0_2 : ∀ s ∈ s0_2, s.size ≤ maxLen) (a1 : Int) (w1 : (Lit.int .i64 a1).wf = true) (_hsh : w.ShapedOpen Try.prog) :
    Calls Try.prog 9 #[.agg #[.int .i64 a0_0, .int .i64 a0_1, v0_2], .int .i64 a1] w fun e w' => e = .returned (.bool true) ∧ Below w.heap.size w w' :=
  fnExactDropItems_wk v0_2 ⟨a0_0, a0_1, s0_2⟩ w w0_2 b0_2 a1 w1
set_option maxRecDepth 100000 in
set_option maxHeartbeats 8000000 in
theorem fnExactResizeWindow_wk (v0 : Value) (z0 : Sw) (w : World) (w0 : Row w v0 z0.q.length (z0.q.map Value.string)) (b0 : ∀ s ∈ z0.q, s.size ≤ maxLen) (a1 : Int) (w1 : (Lit.int .i64 a1).wf = true) :
    Calls Try.prog 10 #[.agg #[.int .i64 z0.t, .int .i64 z0.z, v0], .int .i64 a1] w fun e w' => e = .returned (.bool true) ∧ Below w.heap.size w w' := by
  obtain ⟨p0, cap0, rfl, hc10, hc20, _⟩ := row_open w0
  unfold maxLen at hc20
  have HR0 := Lib.hid w0
  have HSz := Lib.hid (fun (W : World) (hr : Row W (.slice p0 z0.q.length cap0) z0.q.length (z0.q.map Value.string)) => szSw_any (.slice p0 z0.q.length cap0) z0 W hr b0 1048576 (by omega))
  have HSm := Lib.hid b0
  clear w0 b0
  obtain ⟨W0, R_AW, hW0, hR_AW, hX_AW, hB0⟩ := entry1 w #[.int .i64 z0.t, .int .i64 z0.z, .slice p0 z0.q.length cap0] 58
  have HW0 := Lib.hid hW0
  have HB0 := Lib.hid hB0
  have HR_AW := Lib.hid hR_AW
  have HX_AW := Lib.hid hX_AW
  clear hW0 hB0 hR_AW hX_AW
  have c1_AW_0 := HX_AW.out.at 0 (v := .int .i64 z0.t) rfl
  have c1_AW_1 := HX_AW.out.at 1 (v := .int .i64 z0.z) rfl
  have c1_AW_2 := HX_AW.out.at 2 (v := .slice p0 z0.q.length cap0) rfl
  go_enter Try.func10, Try.ntmps10
  go_upto_region 1 with fail
  rw [← HW0.out, ← HR_AW.out]
  go_wp2_with fail
  refine (HSz.out _ (HR0.out.below HB0.out (Nat.le_refl _))).mono ?_
  rintro e W2 ⟨l2, r0, rfl, hr1, hr0⟩
  clear c1_AW_0 c1_AW_1 c1_AW_2
  have HB_3 := Lib.hid (HB0.out.trans (l2.mono HB0.out.size))
  have AW_3 := Lib.hid (HX_AW.out.below l2 HX_AW.out.lt)
  clear l2
  have c4_AW_0 := AW_3.out.at 0 (v := .int .i64 z0.t) rfl
  have c4_AW_1 := AW_3.out.at 1 (v := .int .i64 z0.z) rfl
  have c4_AW_2 := AW_3.out.at 2 (v := .slice p0 z0.q.length cap0) rfl
  by_cases hneg : r0 < 0
  · clear hr0
    go_wp2_with fail
    go_ret
    exact ⟨rfl, HB_3.out⟩
  obtain ⟨hm0, hs0, hr00⟩ := hr0.resolve_left hneg
  have HN0 := Lib.hid hm0
  clear hr0 hs0 HSz
  have HSp := Lib.hid (fun (v : Value) (W : World) (hr : Row W v z0.q.length (z0.q.map Value.string)) (hf : FitA v z0.q.length) => specSize_any v z0 a1 W hr HSm.out hf)
  have HIm := Lib.hid (fun (v : Value) (W : World) (hr : Row W v z0.q.length (z0.q.map Value.string)) (hf : FitA v z0.q.length) => implSize_any v z0 a1 W hr HSm.out hf)
  have hlen0 := sizeV_len z0 a1 hm0
  generalize sizeV z0 a1 = ps0 at HSp HIm hlen0
  have HL0 := Lib.hid hlen0
  clear hlen0
  generalize sizeOk z0 a1 = r0_ at HSp HIm
  clear hm0
  go_wp2_with fail
  refine (toSw_lit _ z0 _ (HR0.out.below HB_3.out (Nat.le_refl _)) HN0.out).mono ?_
  rintro e W5 ⟨g_s, rfl, o_s, l5⟩
  have O_s := Lib.hid (own_base o_s HB_3.out.size)
  have BX_AW_s : Hid (∀ k, (.slice (some ⟨g_s, 0, none⟩) z0.q.length z0.q.length : Value).ownBlock = some k → k ≠ R_AW) := Lib.hid (fun k h1 h2 => absurd AW_3.out.lt (Nat.not_lt.2 (by rw [← h2]; exact (o_s.lt k h1).1)))
  clear o_s
  clear c4_AW_0 c4_AW_1 c4_AW_2
  have HB_6 := Lib.hid (HB_3.out.trans (l5.mono HB_3.out.size))
  have AW_6 := Lib.hid (AW_3.out.below l5 AW_3.out.lt)
  clear AW_3
  clear l5
  have c7_AW_0 := AW_6.out.at 0 (v := .int .i64 z0.t) rfl
  have c7_AW_1 := AW_6.out.at 1 (v := .int .i64 z0.z) rfl
  have c7_AW_2 := AW_6.out.at 2 (v := .slice p0 z0.q.length cap0) rfl
  go_wp2_with fail
  refine (HSp.out _ _ (row_own O_s.out) (fitA_some _ _)).mono ?_
  rintro e W8 ⟨v_vw, rfl, o_vw, l8⟩
  obtain ⟨a_vw, c_vw, rfl, _, _⟩ := own_someS0 o_vw
  have AP_s_vw : Hid (∀ k, (.slice (some ⟨g_s, 0, none⟩) z0.q.length z0.q.length : Value).ownBlock = some k → (.slice a_vw ps0.q.length c_vw : Value).ownBlock ≠ some k) := Lib.hid (fun k h1 h2 => absurd (O_s.out.lt k h1).2 (Nat.not_lt.2 (o_vw.lt k h2).1))
  have O_vw := Lib.hid (own_base o_vw HB_6.out.size)
  have BX_AW_vw : Hid (∀ k, (.slice a_vw ps0.q.length c_vw : Value).ownBlock = some k → k ≠ R_AW) := Lib.hid (fun k h1 h2 => absurd AW_6.out.lt (Nat.not_lt.2 (by rw [← h2]; exact (o_vw.lt k h1).1)))
  clear o_vw
  clear c7_AW_0 c7_AW_1 c7_AW_2
  have HB_9 := Lib.hid (HB_6.out.trans (l8.mono HB_6.out.size))
  have s_9 := Lib.hid (own_below O_s.out l8 (Nat.le_refl _))
  clear O_s
  have AW_9 := Lib.hid (AW_6.out.below l8 AW_6.out.lt)
  clear AW_6
  clear l8
  have c10_AW_0 := AW_9.out.at 0 (v := .int .i64 z0.t) rfl
  have c10_AW_1 := AW_9.out.at 1 (v := .int .i64 z0.z) rfl
  have c10_AW_2 := AW_9.out.at 2 (v := .slice p0 z0.q.length cap0) rfl
  go_upto_region 6 with fail
  obtain ⟨W11, hW11⟩ : ∃ W11, W11 = W8.alloc (.cells #[.int .i64 ps0.t, .int .i64 ps0.z, .slice a_vw ps0.q.length c_vw] 26) := ⟨_, rfl⟩
  have l11 : Below W8.heap.size W8 W11 := by rw [hW11]; exact (Below.refl _ _).alloc (Nat.le_refl _) _
  have X11_vwB0 : Hid (Bx W11 W8.heap.size #[.int .i64 ps0.t, .int .i64 ps0.z, .slice a_vw ps0.q.length c_vw] 26) := Lib.hid (by rw [hW11]; exact Bx.new _ _ _)
  rw [← hW11]
  clear hW11
  have BX_vwB0_s : Hid (∀ k, (.slice (some ⟨g_s, 0, none⟩) z0.q.length z0.q.length : Value).ownBlock = some k → k ≠ W8.heap.size) := Lib.hid (fun k h1 h2 => absurd (s_9.out.lt k h1).2 (by omega))
  have BX_vwB0_vw : Hid (∀ k, (.slice a_vw ps0.q.length c_vw : Value).ownBlock = some k → k ≠ W8.heap.size) := Lib.hid (fun k h1 h2 => absurd (O_vw.out.lt k h1).2 (by omega))
  have HG_vwB0 : Hid (w.heap.size ≤ W8.heap.size) := Lib.hid HB_9.out.size
  have HN_vwB0_AW : Hid (R_AW < W8.heap.size) := Lib.hid AW_9.out.lt
  obtain ⟨R_vwB0, hR_vwB0⟩ : ∃ X, X = W8.heap.size := ⟨_, rfl⟩
  rw [← hR_vwB0] at X11_vwB0 HG_vwB0 BX_vwB0_s BX_vwB0_vw HN_vwB0_AW ⊢
  clear hR_vwB0
  clear c10_AW_0 c10_AW_1 c10_AW_2
  have HB_12 := Lib.hid (HB_9.out.trans (l11.mono HB_9.out.size))
  have s_12 := Lib.hid (own_below s_9.out l11 (Nat.le_refl _))
  clear s_9
  have vw_12 := Lib.hid (own_below O_vw.out l11 (Nat.le_refl _))
  clear O_vw
  have AW_12 := Lib.hid (AW_9.out.below l11 AW_9.out.lt)
  clear AW_9
  clear l11
  have c13_AW_0 := AW_12.out.at 0 (v := .int .i64 z0.t) rfl
  have c13_AW_1 := AW_12.out.at 1 (v := .int .i64 z0.z) rfl
  have c13_AW_2 := AW_12.out.at 2 (v := .slice p0 z0.q.length cap0) rfl
  have c14_vwB0_0 := X11_vwB0.out.at 0 (v := .int .i64 ps0.t) rfl
  have c14_vwB0_1 := X11_vwB0.out.at 1 (v := .int .i64 ps0.z) rfl
  have c14_vwB0_2 := X11_vwB0.out.at 2 (v := .slice a_vw ps0.q.length c_vw) rfl
  clear s_12
  go_wp2_with fail
  refine (toSw_lit _ z0 _ (HR0.out.below HB_12.out (Nat.le_refl _)) HN0.out).mono ?_
  rintro e W15 ⟨g_x, rfl, o_x, l15⟩
  have AP_vw_x : Hid (∀ k, (.slice a_vw ps0.q.length c_vw : Value).ownBlock = some k → (.slice (some ⟨g_x, 0, none⟩) z0.q.length z0.q.length : Value).ownBlock ≠ some k) := Lib.hid (fun k h1 h2 => absurd (vw_12.out.lt k h1).2 (Nat.not_lt.2 (o_x.lt k h2).1))
  have O_x := Lib.hid (own_base o_x HB_12.out.size)
  have BX_AW_x : Hid (∀ k, (.slice (some ⟨g_x, 0, none⟩) z0.q.length z0.q.length : Value).ownBlock = some k → k ≠ R_AW) := Lib.hid (fun k h1 h2 => absurd AW_12.out.lt (Nat.not_lt.2 (by rw [← h2]; exact (o_x.lt k h1).1)))
  have BX_vwB0_x : Hid (∀ k, (.slice (some ⟨g_x, 0, none⟩) z0.q.length z0.q.length : Value).ownBlock = some k → k ≠ R_vwB0) := Lib.hid (fun k h1 h2 => absurd X11_vwB0.out.lt (Nat.not_lt.2 (by rw [← h2]; exact (o_x.lt k h1).1)))
  clear o_x
  clear c13_AW_0 c13_AW_1 c13_AW_2
  clear c14_vwB0_0 c14_vwB0_1 c14_vwB0_2
  have HB_16 := Lib.hid (HB_12.out.trans (l15.mono HB_12.out.size))
  have vw_16 := Lib.hid (own_below vw_12.out l15 (Nat.le_refl _))
  clear vw_12
  have AW_16 := Lib.hid (AW_12.out.below l15 AW_12.out.lt)
  clear AW_12
  have vwB0_16 := Lib.hid (X11_vwB0.out.below l15 X11_vwB0.out.lt)
  clear X11_vwB0
  clear l15
  have c17_AW_0 := AW_16.out.at 0 (v := .int .i64 z0.t) rfl
  have c17_AW_1 := AW_16.out.at 1 (v := .int .i64 z0.z) rfl
  have c17_AW_2 := AW_16.out.at 2 (v := .slice p0 z0.q.length cap0) rfl
  have c18_vwB0_0 := vwB0_16.out.at 0 (v := .int .i64 ps0.t) rfl
  have c18_vwB0_1 := vwB0_16.out.at 1 (v := .int .i64 ps0.z) rfl
  have c18_vwB0_2 := vwB0_16.out.at 2 (v := .slice a_vw ps0.q.length c_vw) rfl
  go_upto_region 7 with fail
  obtain ⟨W19, hW19⟩ : ∃ W19, W19 = W15.alloc (.cells #[.int .i64 z0.t, .int .i64 z0.z, .slice (some ⟨g_x, 0, none⟩) z0.q.length z0.q.length] 26) := ⟨_, rfl⟩
  have l19 : Below W15.heap.size W15 W19 := by rw [hW19]; exact (Below.refl _ _).alloc (Nat.le_refl _) _
  have X19_X : Hid (Bx W19 W15.heap.size #[.int .i64 z0.t, .int .i64 z0.z, .slice (some ⟨g_x, 0, none⟩) z0.q.length z0.q.length] 26) := Lib.hid (by rw [hW19]; exact Bx.new _ _ _)
  rw [← hW19]
  clear hW19
  have BX_X_vw : Hid (∀ k, (.slice a_vw ps0.q.length c_vw : Value).ownBlock = some k → k ≠ W15.heap.size) := Lib.hid (fun k h1 h2 => absurd (vw_16.out.lt k h1).2 (by omega))
  have BX_X_x : Hid (∀ k, (.slice (some ⟨g_x, 0, none⟩) z0.q.length z0.q.length : Value).ownBlock = some k → k ≠ W15.heap.size) := Lib.hid (fun k h1 h2 => absurd (O_x.out.lt k h1).2 (by omega))
  have HG_X : Hid (w.heap.size ≤ W15.heap.size) := Lib.hid HB_16.out.size
  have HN_X_AW : Hid (R_AW < W15.heap.size) := Lib.hid AW_16.out.lt
  have HN_X_vwB0 : Hid (R_vwB0 < W15.heap.size) := Lib.hid vwB0_16.out.lt
  obtain ⟨R_X, hR_X⟩ : ∃ X, X = W15.heap.size := ⟨_, rfl⟩
  rw [← hR_X] at X19_X HG_X BX_X_vw BX_X_x HN_X_AW HN_X_vwB0 ⊢
  clear hR_X
  clear c17_AW_0 c17_AW_1 c17_AW_2
  clear c18_vwB0_0 c18_vwB0_1 c18_vwB0_2
  have HB_20 := Lib.hid (HB_16.out.trans (l19.mono HB_16.out.size))
  have vw_20 := Lib.hid (own_below vw_16.out l19 (Nat.le_refl _))
  clear vw_16
  have x_20 := Lib.hid (own_below O_x.out l19 (Nat.le_refl _))
  clear O_x
  have AW_20 := Lib.hid (AW_16.out.below l19 AW_16.out.lt)
  clear AW_16
  have vwB0_20 := Lib.hid (vwB0_16.out.below l19 vwB0_16.out.lt)
  clear vwB0_16
  clear l19
  have c21_AW_0 := AW_20.out.at 0 (v := .int .i64 z0.t) rfl
  have c21_AW_1 := AW_20.out.at 1 (v := .int .i64 z0.z) rfl
  have c21_AW_2 := AW_20.out.at 2 (v := .slice p0 z0.q.length cap0) rfl
  have c22_vwB0_0 := vwB0_20.out.at 0 (v := .int .i64 ps0.t) rfl
  have c22_vwB0_1 := vwB0_20.out.at 1 (v := .int .i64 ps0.z) rfl
  have c22_vwB0_2 := vwB0_20.out.at 2 (v := .slice a_vw ps0.q.length c_vw) rfl
  have c23_X_0 := X19_X.out.at 0 (v := .int .i64 z0.t) rfl
  have c23_X_1 := X19_X.out.at 1 (v := .int .i64 z0.z) rfl
  have c23_X_2 := X19_X.out.at 2 (v := .slice (some ⟨g_x, 0, none⟩) z0.q.length z0.q.length) rfl
  go_wp2_with fail
  refine (HIm.out _ _ (row_own x_20.out) (fitA_some _ _)).mono ?_
  rintro e W24 ⟨v_vg, rfl, o_vg, l24⟩
  obtain ⟨a_vg, c_vg, rfl, _, _⟩ := own_someS0 o_vg
  have AP_vw_vg : Hid (∀ k, (.slice a_vw ps0.q.length c_vw : Value).ownBlock = some k → (.slice a_vg ps0.q.length c_vg : Value).ownBlock ≠ some k) := Lib.hid (fun k h1 h2 => absurd (vw_20.out.lt k h1).2 (Nat.not_lt.2 (o_vg.lt k h2).1))
  have AP_x_vg : Hid (∀ k, (.slice (some ⟨g_x, 0, none⟩) z0.q.length z0.q.length : Value).ownBlock = some k → (.slice a_vg ps0.q.length c_vg : Value).ownBlock ≠ some k) := Lib.hid (fun k h1 h2 => absurd (x_20.out.lt k h1).2 (Nat.not_lt.2 (o_vg.lt k h2).1))
  have O_vg := Lib.hid (own_base o_vg HB_20.out.size)
  have BX_AW_vg : Hid (∀ k, (.slice a_vg ps0.q.length c_vg : Value).ownBlock = some k → k ≠ R_AW) := Lib.hid (fun k h1 h2 => absurd AW_20.out.lt (Nat.not_lt.2 (by rw [← h2]; exact (o_vg.lt k h1).1)))
  have BX_vwB0_vg : Hid (∀ k, (.slice a_vg ps0.q.length c_vg : Value).ownBlock = some k → k ≠ R_vwB0) := Lib.hid (fun k h1 h2 => absurd vwB0_20.out.lt (Nat.not_lt.2 (by rw [← h2]; exact (o_vg.lt k h1).1)))
  have BX_X_vg : Hid (∀ k, (.slice a_vg ps0.q.length c_vg : Value).ownBlock = some k → k ≠ R_X) := Lib.hid (fun k h1 h2 => absurd X19_X.out.lt (Nat.not_lt.2 (by rw [← h2]; exact (o_vg.lt k h1).1)))
  clear o_vg
  clear c21_AW_0 c21_AW_1 c21_AW_2
  clear c22_vwB0_0 c22_vwB0_1 c22_vwB0_2
  clear c23_X_0 c23_X_1 c23_X_2
  have HB_25 := Lib.hid (HB_20.out.trans (l24.mono HB_20.out.size))
  have vw_25 := Lib.hid (own_below vw_20.out l24 (Nat.le_refl _))
  clear vw_20
  have x_25 := Lib.hid (own_below x_20.out l24 (Nat.le_refl _))
  clear x_20
  have AW_25 := Lib.hid (AW_20.out.below l24 AW_20.out.lt)
  clear AW_20
  have vwB0_25 := Lib.hid (vwB0_20.out.below l24 vwB0_20.out.lt)
  clear vwB0_20
  have X_25 := Lib.hid (X19_X.out.below l24 X19_X.out.lt)
  clear X19_X
  clear l24
  have c26_AW_0 := AW_25.out.at 0 (v := .int .i64 z0.t) rfl
  have c26_AW_1 := AW_25.out.at 1 (v := .int .i64 z0.z) rfl
  have c26_AW_2 := AW_25.out.at 2 (v := .slice p0 z0.q.length cap0) rfl
  have c27_vwB0_0 := vwB0_25.out.at 0 (v := .int .i64 ps0.t) rfl
  have c27_vwB0_1 := vwB0_25.out.at 1 (v := .int .i64 ps0.z) rfl
  have c27_vwB0_2 := vwB0_25.out.at 2 (v := .slice a_vw ps0.q.length c_vw) rfl
  have c28_X_0 := X_25.out.at 0 (v := .int .i64 z0.t) rfl
  have c28_X_1 := X_25.out.at 1 (v := .int .i64 z0.z) rfl
  have c28_X_2 := X_25.out.at 2 (v := .slice (some ⟨g_x, 0, none⟩) z0.q.length z0.q.length) rfl
  go_upto_region 8 with fail
  obtain ⟨W29, hW29⟩ : ∃ W29, W29 = W24.alloc (.cells #[.int .i64 ps0.t, .int .i64 ps0.z, .slice a_vg ps0.q.length c_vg] 26) := ⟨_, rfl⟩
  have l29 : Below W24.heap.size W24 W29 := by rw [hW29]; exact (Below.refl _ _).alloc (Nat.le_refl _) _
  have X29_vgB0 : Hid (Bx W29 W24.heap.size #[.int .i64 ps0.t, .int .i64 ps0.z, .slice a_vg ps0.q.length c_vg] 26) := Lib.hid (by rw [hW29]; exact Bx.new _ _ _)
  rw [← hW29]
  clear hW29
  have BX_vgB0_vw : Hid (∀ k, (.slice a_vw ps0.q.length c_vw : Value).ownBlock = some k → k ≠ W24.heap.size) := Lib.hid (fun k h1 h2 => absurd (vw_25.out.lt k h1).2 (by omega))
  have BX_vgB0_x : Hid (∀ k, (.slice (some ⟨g_x, 0, none⟩) z0.q.length z0.q.length : Value).ownBlock = some k → k ≠ W24.heap.size) := Lib.hid (fun k h1 h2 => absurd (x_25.out.lt k h1).2 (by omega))
  have BX_vgB0_vg : Hid (∀ k, (.slice a_vg ps0.q.length c_vg : Value).ownBlock = some k → k ≠ W24.heap.size) := Lib.hid (fun k h1 h2 => absurd (O_vg.out.lt k h1).2 (by omega))
  have HG_vgB0 : Hid (w.heap.size ≤ W24.heap.size) := Lib.hid HB_25.out.size
  have HN_vgB0_AW : Hid (R_AW < W24.heap.size) := Lib.hid AW_25.out.lt
  have HN_vgB0_vwB0 : Hid (R_vwB0 < W24.heap.size) := Lib.hid vwB0_25.out.lt
  have HN_vgB0_X : Hid (R_X < W24.heap.size) := Lib.hid X_25.out.lt
  obtain ⟨R_vgB0, hR_vgB0⟩ : ∃ X, X = W24.heap.size := ⟨_, rfl⟩
  rw [← hR_vgB0] at X29_vgB0 HG_vgB0 BX_vgB0_vw BX_vgB0_x BX_vgB0_vg HN_vgB0_AW HN_vgB0_vwB0 HN_vgB0_X ⊢
  clear hR_vgB0
  clear c26_AW_0 c26_AW_1 c26_AW_2
  clear c27_vwB0_0 c27_vwB0_1 c27_vwB0_2
  clear c28_X_0 c28_X_1 c28_X_2
  have HB_30 := Lib.hid (HB_25.out.trans (l29.mono HB_25.out.size))
  have vw_30 := Lib.hid (own_below vw_25.out l29 (Nat.le_refl _))
  clear vw_25
  have x_30 := Lib.hid (own_below x_25.out l29 (Nat.le_refl _))
  clear x_25
  have vg_30 := Lib.hid (own_below O_vg.out l29 (Nat.le_refl _))
  clear O_vg
  have AW_30 := Lib.hid (AW_25.out.below l29 AW_25.out.lt)
  clear AW_25
  have vwB0_30 := Lib.hid (vwB0_25.out.below l29 vwB0_25.out.lt)
  clear vwB0_25
  have X_30 := Lib.hid (X_25.out.below l29 X_25.out.lt)
  clear X_25
  clear l29
  have c31_AW_0 := AW_30.out.at 0 (v := .int .i64 z0.t) rfl
  have c31_AW_1 := AW_30.out.at 1 (v := .int .i64 z0.z) rfl
  have c31_AW_2 := AW_30.out.at 2 (v := .slice p0 z0.q.length cap0) rfl
  have c32_vwB0_0 := vwB0_30.out.at 0 (v := .int .i64 ps0.t) rfl
  have c32_vwB0_1 := vwB0_30.out.at 1 (v := .int .i64 ps0.z) rfl
  have c32_vwB0_2 := vwB0_30.out.at 2 (v := .slice a_vw ps0.q.length c_vw) rfl
  have c33_X_0 := X_30.out.at 0 (v := .int .i64 z0.t) rfl
  have c33_X_1 := X_30.out.at 1 (v := .int .i64 z0.z) rfl
  have c33_X_2 := X_30.out.at 2 (v := .slice (some ⟨g_x, 0, none⟩) z0.q.length z0.q.length) rfl
  have c34_vgB0_0 := X29_vgB0.out.at 0 (v := .int .i64 ps0.t) rfl
  have c34_vgB0_1 := X29_vgB0.out.at 1 (v := .int .i64 ps0.z) rfl
  have c34_vgB0_2 := X29_vgB0.out.at 2 (v := .slice a_vg ps0.q.length c_vg) rfl
  go_wp2_with fail
  refine (eqSw_same _ _ ps0 _ (row_own vg_30.out) (row_own vw_30.out)).mono ?_
  rintro e W35 ⟨rfl, l35⟩
  clear c31_AW_0 c31_AW_1 c31_AW_2
  clear c32_vwB0_0 c32_vwB0_1 c32_vwB0_2
  clear c33_X_0 c33_X_1 c33_X_2
  clear c34_vgB0_0 c34_vgB0_1 c34_vgB0_2
  have HB_36 := Lib.hid (HB_30.out.trans (l35.mono HB_30.out.size))
  have vw_36 := Lib.hid (own_below vw_30.out l35 (Nat.le_refl _))
  clear vw_30
  have x_36 := Lib.hid (own_below x_30.out l35 (Nat.le_refl _))
  clear x_30
  have vg_36 := Lib.hid (own_below vg_30.out l35 (Nat.le_refl _))
  clear vg_30
  have AW_36 := Lib.hid (AW_30.out.below l35 AW_30.out.lt)
  clear AW_30
  have vwB0_36 := Lib.hid (vwB0_30.out.below l35 vwB0_30.out.lt)
  clear vwB0_30
  have X_36 := Lib.hid (X_30.out.below l35 X_30.out.lt)
  clear X_30
  have vgB0_36 := Lib.hid (X29_vgB0.out.below l35 X29_vgB0.out.lt)
  clear X29_vgB0
  clear l35
  have c37_AW_0 := AW_36.out.at 0 (v := .int .i64 z0.t) rfl
  have c37_AW_1 := AW_36.out.at 1 (v := .int .i64 z0.z) rfl
  have c37_AW_2 := AW_36.out.at 2 (v := .slice p0 z0.q.length cap0) rfl
  have c38_vwB0_0 := vwB0_36.out.at 0 (v := .int .i64 ps0.t) rfl
  have c38_vwB0_1 := vwB0_36.out.at 1 (v := .int .i64 ps0.z) rfl
  have c38_vwB0_2 := vwB0_36.out.at 2 (v := .slice a_vw ps0.q.length c_vw) rfl
  have c39_X_0 := X_36.out.at 0 (v := .int .i64 z0.t) rfl
  have c39_X_1 := X_36.out.at 1 (v := .int .i64 z0.z) rfl
  have c39_X_2 := X_36.out.at 2 (v := .slice (some ⟨g_x, 0, none⟩) z0.q.length z0.q.length) rfl
  have c40_vgB0_0 := vgB0_36.out.at 0 (v := .int .i64 ps0.t) rfl
  have c40_vgB0_1 := vgB0_36.out.at 1 (v := .int .i64 ps0.z) rfl
  have c40_vgB0_2 := vgB0_36.out.at 2 (v := .slice a_vg ps0.q.length c_vg) rfl
  go_upto_region 10 with fail
  go_cut [49] from 45 to 49 (fun b wx => b = .bool false ∧ Hid (Below W35.heap.size W35 wx))
  case first => as_aux_lemma =>
    have HK1 := Lib.hid (fun (w' : World) (hb : Below W35.heap.size W35 w') => (show w'.cell? ⟨R_X, 0, none⟩ = some (.int .i64 z0.t) ∧ w'.cell? ⟨R_X, 1, none⟩ = some (.int .i64 z0.z) ∧ w'.cell? ⟨R_X, 2, none⟩ = some (.slice (some ⟨g_x, 0, none⟩) z0.q.length z0.q.length) ∧ w'.cell? ⟨R_AW, 0, none⟩ = some (.int .i64 z0.t) ∧ w'.cell? ⟨R_AW, 1, none⟩ = some (.int .i64 z0.z) ∧ w'.cell? ⟨R_AW, 2, none⟩ = some (.slice p0 z0.q.length cap0) ∧ Below w.heap.size w w' from ⟨(hb.cell (p := ⟨R_X, 0, none⟩) X_36.out.lt).trans (X_36.out.at 0 (v := .int .i64 z0.t) rfl), (hb.cell (p := ⟨R_X, 1, none⟩) X_36.out.lt).trans (X_36.out.at 1 (v := .int .i64 z0.z) rfl), (hb.cell (p := ⟨R_X, 2, none⟩) X_36.out.lt).trans (X_36.out.at 2 (v := .slice (some ⟨g_x, 0, none⟩) z0.q.length z0.q.length) rfl), (hb.cell (p := ⟨R_AW, 0, none⟩) AW_36.out.lt).trans (AW_36.out.at 0 (v := .int .i64 z0.t) rfl), (hb.cell (p := ⟨R_AW, 1, none⟩) AW_36.out.lt).trans (AW_36.out.at 1 (v := .int .i64 z0.z) rfl), (hb.cell (p := ⟨R_AW, 2, none⟩) AW_36.out.lt).trans (AW_36.out.at 2 (v := .slice p0 z0.q.length cap0) rfl), HB_36.out.trans (hb.mono HB_36.out.size)⟩))
    go_region_held3 (fun w' => w'.cell? ⟨R_X, 0, none⟩ = some (.int .i64 z0.t) ∧ w'.cell? ⟨R_X, 1, none⟩ = some (.int .i64 z0.z) ∧ w'.cell? ⟨R_X, 2, none⟩ = some (.slice (some ⟨g_x, 0, none⟩) z0.q.length z0.q.length) ∧ w'.cell? ⟨R_AW, 0, none⟩ = some (.int .i64 z0.t) ∧ w'.cell? ⟨R_AW, 1, none⟩ = some (.int .i64 z0.z) ∧ w'.cell? ⟨R_AW, 2, none⟩ = some (.slice p0 z0.q.length cap0) ∧ Below w.heap.size w w')
      ((first | (with_reducible refine HK1.out _ ?_; (repeat (first | with_reducible assumption | with_reducible exact Below.refl _ _ | with_reducible refine Below.drew ?_ | with_reducible refine below_alloc' ?_)); done)))
      (first
        | (go_at_call 45; refine (toSw_lit _ z0 _ (HR0.out.below (HB_36.out.trans ((by repeat (first | with_reducible assumption | with_reducible exact Below.refl _ _ | with_reducible refine Below.drew ?_ | with_reducible refine below_alloc' ?_) : Below W35.heap.size W35 _).mono HB_36.out.size)) (Nat.le_refl _)) HN0.out).mono ?_; rintro e w5 ⟨g5, rfl, o5, l5⟩; have hb5 := below_call7 (by repeat (first | with_reducible assumption | with_reducible exact Below.refl _ _ | with_reducible refine Below.drew ?_ | with_reducible refine below_alloc' ?_) : Below W35.heap.size W35 _) l5; have ho5 := row_own o5; clear o5 l5)
        | (go_at_call 46; refine (eqSw_same _ _ z0 _ ((row_own x_36.out).below hb5 (Nat.le_refl _)) ho5).mono ?_; rintro e w6 ⟨rfl, l6⟩; have hb6 := below_call7 hb5 l6; clear l6))
    all_goals go_wp2_with fail
    all_goals go_meet
    all_goals
      case rel => exact ⟨by simp, Lib.hid (by repeat (first | with_reducible assumption | with_reducible exact Below.refl _ _ | with_reducible refine Below.drew ?_ | with_reducible refine below_alloc' ?_))⟩
  case rest =>
    obtain ⟨rfl, HCut⟩ := hcut
    rename World => W41
    have l41 := HCut.out
    clear HCut
    clear c37_AW_0 c37_AW_1 c37_AW_2
    clear c38_vwB0_0 c38_vwB0_1 c38_vwB0_2
    clear c39_X_0 c39_X_1 c39_X_2
    clear c40_vgB0_0 c40_vgB0_1 c40_vgB0_2
    have HB_42 := Lib.hid (HB_36.out.trans (l41.mono HB_36.out.size))
    have vw_42 := Lib.hid (own_below vw_36.out l41 (Nat.le_refl _))
    clear vw_36
    have x_42 := Lib.hid (own_below x_36.out l41 (Nat.le_refl _))
    clear x_36
    have vg_42 := Lib.hid (own_below vg_36.out l41 (Nat.le_refl _))
    clear vg_36
    have AW_42 := Lib.hid (AW_36.out.below l41 AW_36.out.lt)
    clear AW_36
    have vwB0_42 := Lib.hid (vwB0_36.out.below l41 vwB0_36.out.lt)
    clear vwB0_36
    have X_42 := Lib.hid (X_36.out.below l41 X_36.out.lt)
    clear X_36
    have vgB0_42 := Lib.hid (vgB0_36.out.below l41 vgB0_36.out.lt)
    clear vgB0_36
    clear l41
    have c43_AW_0 := AW_42.out.at 0 (v := .int .i64 z0.t) rfl
    have c43_AW_1 := AW_42.out.at 1 (v := .int .i64 z0.z) rfl
    have c43_AW_2 := AW_42.out.at 2 (v := .slice p0 z0.q.length cap0) rfl
    have c44_vwB0_0 := vwB0_42.out.at 0 (v := .int .i64 ps0.t) rfl
    have c44_vwB0_1 := vwB0_42.out.at 1 (v := .int .i64 ps0.z) rfl
    have c44_vwB0_2 := vwB0_42.out.at 2 (v := .slice a_vw ps0.q.length c_vw) rfl
    have c45_X_0 := X_42.out.at 0 (v := .int .i64 z0.t) rfl
    have c45_X_1 := X_42.out.at 1 (v := .int .i64 z0.z) rfl
    have c45_X_2 := X_42.out.at 2 (v := .slice (some ⟨g_x, 0, none⟩) z0.q.length z0.q.length) rfl
    have c46_vgB0_0 := vgB0_42.out.at 0 (v := .int .i64 ps0.t) rfl
    have c46_vgB0_1 := vgB0_42.out.at 1 (v := .int .i64 ps0.z) rfl
    have c46_vgB0_2 := vgB0_42.out.at 2 (v := .slice a_vg ps0.q.length c_vg) rfl
    go_wp2_with fail
    refine (markSw_own _ _ _ z0.q.length 1 _ _ _ x_42.out (by omega) (by have := HL0.out; have := HN0.out; omega)).mono ?_
    rintro e W47 ⟨rfl, m47, gr47⟩
    clear c43_AW_0 c43_AW_1 c43_AW_2
    clear c44_vwB0_0 c44_vwB0_1 c44_vwB0_2
    clear c45_X_0 c45_X_1 c45_X_2
    clear c46_vgB0_0 c46_vgB0_1 c46_vgB0_2
    have HB_47 := Lib.hid (HB_42.out.grown gr47 HB_42.out.size (fun q hq => (x_42.out.lt q hq).1))
    have vw_47 := Lib.hid (own_apart vw_42.out gr47 (fun k h1 h2 => AP_vw_x.out k h1 h2))
    clear vw_42
    have vg_47 := Lib.hid (own_apart vg_42.out gr47 (fun k h1 h2 => AP_x_vg.out k h2 h1))
    clear vg_42
    have AW_47 := Lib.hid (AW_42.out.grown gr47 (fun e => BX_AW_x.out _ e.symm rfl))
    clear AW_42
    have vwB0_47 := Lib.hid (vwB0_42.out.grown gr47 (fun e => BX_vwB0_x.out _ e.symm rfl))
    clear vwB0_42
    have X_47 := Lib.hid (X_42.out.grown gr47 (fun e => BX_X_x.out _ e.symm rfl))
    clear X_42
    have vgB0_47 := Lib.hid (vgB0_42.out.grown gr47 (fun e => BX_vgB0_x.out _ e.symm rfl))
    clear vgB0_42
    have x_47 := Lib.hid m47
    clear m47 gr47 x_42
    have c48_AW_0 := AW_47.out.at 0 (v := .int .i64 z0.t) rfl
    have c48_AW_1 := AW_47.out.at 1 (v := .int .i64 z0.z) rfl
    have c48_AW_2 := AW_47.out.at 2 (v := .slice p0 z0.q.length cap0) rfl
    have c49_vwB0_0 := vwB0_47.out.at 0 (v := .int .i64 ps0.t) rfl
    have c49_vwB0_1 := vwB0_47.out.at 1 (v := .int .i64 ps0.z) rfl
    have c49_vwB0_2 := vwB0_47.out.at 2 (v := .slice a_vw ps0.q.length c_vw) rfl
    have c50_X_0 := X_47.out.at 0 (v := .int .i64 z0.t) rfl
    have c50_X_1 := X_47.out.at 1 (v := .int .i64 z0.z) rfl
    have c50_X_2 := X_47.out.at 2 (v := .slice (some ⟨g_x, 0, none⟩) z0.q.length z0.q.length) rfl
    have c51_vgB0_0 := vgB0_47.out.at 0 (v := .int .i64 ps0.t) rfl
    have c51_vgB0_1 := vgB0_47.out.at 1 (v := .int .i64 ps0.z) rfl
    have c51_vgB0_2 := vgB0_47.out.at 2 (v := .slice a_vg ps0.q.length c_vg) rfl
    go_wp2_with fail
    refine (eqSw_same _ _ ps0 _ (row_own vg_47.out) (row_own vw_47.out)).mono ?_
    rintro e W52 ⟨rfl, l52⟩
    clear c48_AW_0 c48_AW_1 c48_AW_2
    clear c49_vwB0_0 c49_vwB0_1 c49_vwB0_2
    clear c50_X_0 c50_X_1 c50_X_2
    clear c51_vgB0_0 c51_vgB0_1 c51_vgB0_2
    have HB_53 := Lib.hid (HB_47.out.trans (l52.mono HB_47.out.size))
    have vw_53 := Lib.hid (own_below vw_47.out l52 (Nat.le_refl _))
    clear vw_47
    have x_53 := Lib.hid (own_below x_47.out l52 (Nat.le_refl _))
    clear x_47
    have vg_53 := Lib.hid (own_below vg_47.out l52 (Nat.le_refl _))
    clear vg_47
    have AW_53 := Lib.hid (AW_47.out.below l52 AW_47.out.lt)
    clear AW_47
    have vwB0_53 := Lib.hid (vwB0_47.out.below l52 vwB0_47.out.lt)
    clear vwB0_47
    have X_53 := Lib.hid (X_47.out.below l52 X_47.out.lt)
    clear X_47
    have vgB0_53 := Lib.hid (vgB0_47.out.below l52 vgB0_47.out.lt)
    clear vgB0_47
    clear l52
    have c54_AW_0 := AW_53.out.at 0 (v := .int .i64 z0.t) rfl
    have c54_AW_1 := AW_53.out.at 1 (v := .int .i64 z0.z) rfl
    have c54_AW_2 := AW_53.out.at 2 (v := .slice p0 z0.q.length cap0) rfl
    have c55_vwB0_0 := vwB0_53.out.at 0 (v := .int .i64 ps0.t) rfl
    have c55_vwB0_1 := vwB0_53.out.at 1 (v := .int .i64 ps0.z) rfl
    have c55_vwB0_2 := vwB0_53.out.at 2 (v := .slice a_vw ps0.q.length c_vw) rfl
    have c56_X_0 := X_53.out.at 0 (v := .int .i64 z0.t) rfl
    have c56_X_1 := X_53.out.at 1 (v := .int .i64 z0.z) rfl
    have c56_X_2 := X_53.out.at 2 (v := .slice (some ⟨g_x, 0, none⟩) z0.q.length z0.q.length) rfl
    have c57_vgB0_0 := vgB0_53.out.at 0 (v := .int .i64 ps0.t) rfl
    have c57_vgB0_1 := vgB0_53.out.at 1 (v := .int .i64 ps0.z) rfl
    have c57_vgB0_2 := vgB0_53.out.at 2 (v := .slice a_vg ps0.q.length c_vg) rfl
    clear x_53
    clear c56_X_0 c56_X_1 c56_X_2
    clear X_53
    go_wp2_with fail
    refine (markSw_own _ _ _ ps0.q.length 1 _ _ _ vg_53.out (by omega) (by have := HL0.out; have := HN0.out; omega)).mono ?_
    rintro e W58 ⟨rfl, m58, gr58⟩
    clear c54_AW_0 c54_AW_1 c54_AW_2
    clear c55_vwB0_0 c55_vwB0_1 c55_vwB0_2
    clear c57_vgB0_0 c57_vgB0_1 c57_vgB0_2
    have HB_58 := Lib.hid (HB_53.out.grown gr58 HB_53.out.size (fun q hq => (vg_53.out.lt q hq).1))
    have vw_58 := Lib.hid (own_apart vw_53.out gr58 (fun k h1 h2 => AP_vw_vg.out k h1 h2))
    clear vw_53
    have AW_58 := Lib.hid (AW_53.out.grown gr58 (fun e => BX_AW_vg.out _ e.symm rfl))
    clear AW_53
    have vwB0_58 := Lib.hid (vwB0_53.out.grown gr58 (fun e => BX_vwB0_vg.out _ e.symm rfl))
    clear vwB0_53
    have vgB0_58 := Lib.hid (vgB0_53.out.grown gr58 (fun e => BX_vgB0_vg.out _ e.symm rfl))
    clear vgB0_53
    have vg_58 := Lib.hid m58
    clear m58 gr58 vg_53
    have c59_AW_0 := AW_58.out.at 0 (v := .int .i64 z0.t) rfl
    have c59_AW_1 := AW_58.out.at 1 (v := .int .i64 z0.z) rfl
    have c59_AW_2 := AW_58.out.at 2 (v := .slice p0 z0.q.length cap0) rfl
    have c60_vwB0_0 := vwB0_58.out.at 0 (v := .int .i64 ps0.t) rfl
    have c60_vwB0_1 := vwB0_58.out.at 1 (v := .int .i64 ps0.z) rfl
    have c60_vwB0_2 := vwB0_58.out.at 2 (v := .slice a_vw ps0.q.length c_vw) rfl
    have c61_vgB0_0 := vgB0_58.out.at 0 (v := .int .i64 ps0.t) rfl
    have c61_vgB0_1 := vgB0_58.out.at 1 (v := .int .i64 ps0.z) rfl
    have c61_vgB0_2 := vgB0_58.out.at 2 (v := .slice a_vg ps0.q.length c_vg) rfl
    go_wp2_with fail
    refine (heldSw_own _ _ _ ps0.q.length 1 _ _ vg_58.out (by omega) (by have := HL0.out; have := HN0.out; omega)).mono ?_
    rintro e W62 ⟨rfl, l62⟩
    clear c59_AW_0 c59_AW_1 c59_AW_2
    clear c60_vwB0_0 c60_vwB0_1 c60_vwB0_2
    clear c61_vgB0_0 c61_vgB0_1 c61_vgB0_2
    have HB_63 := Lib.hid (HB_58.out.trans (l62.mono HB_58.out.size))
    have vw_63 := Lib.hid (own_below vw_58.out l62 (Nat.le_refl _))
    clear vw_58
    have vg_63 := Lib.hid (own_below vg_58.out l62 (Nat.le_refl _))
    clear vg_58
    have AW_63 := Lib.hid (AW_58.out.below l62 AW_58.out.lt)
    clear AW_58
    have vwB0_63 := Lib.hid (vwB0_58.out.below l62 vwB0_58.out.lt)
    clear vwB0_58
    have vgB0_63 := Lib.hid (vgB0_58.out.below l62 vgB0_58.out.lt)
    clear vgB0_58
    clear l62
    have c64_AW_0 := AW_63.out.at 0 (v := .int .i64 z0.t) rfl
    have c64_AW_1 := AW_63.out.at 1 (v := .int .i64 z0.z) rfl
    have c64_AW_2 := AW_63.out.at 2 (v := .slice p0 z0.q.length cap0) rfl
    have c65_vwB0_0 := vwB0_63.out.at 0 (v := .int .i64 ps0.t) rfl
    have c65_vwB0_1 := vwB0_63.out.at 1 (v := .int .i64 ps0.z) rfl
    have c65_vwB0_2 := vwB0_63.out.at 2 (v := .slice a_vw ps0.q.length c_vw) rfl
    have c66_vgB0_0 := vgB0_63.out.at 0 (v := .int .i64 ps0.t) rfl
    have c66_vgB0_1 := vgB0_63.out.at 1 (v := .int .i64 ps0.z) rfl
    have c66_vgB0_2 := vgB0_63.out.at 2 (v := .slice a_vg ps0.q.length c_vg) rfl
    go_wp2_with fail
    refine (toSw_lit _ z0 _ (HR0.out.below HB_63.out (Nat.le_refl _)) HN0.out).mono ?_
    rintro e W67 ⟨g_t, rfl, o_t, l67⟩
    have AP_vw_t : Hid (∀ k, (.slice a_vw ps0.q.length c_vw : Value).ownBlock = some k → (.slice (some ⟨g_t, 0, none⟩) z0.q.length z0.q.length : Value).ownBlock ≠ some k) := Lib.hid (fun k h1 h2 => absurd (vw_63.out.lt k h1).2 (Nat.not_lt.2 (o_t.lt k h2).1))
    have AP_vg_t : Hid (∀ k, (.slice a_vg ps0.q.length c_vg : Value).ownBlock = some k → (.slice (some ⟨g_t, 0, none⟩) z0.q.length z0.q.length : Value).ownBlock ≠ some k) := Lib.hid (fun k h1 h2 => absurd (vg_63.out.lt k h1).2 (Nat.not_lt.2 (o_t.lt k h2).1))
    have O_t := Lib.hid (own_base o_t HB_63.out.size)
    have BX_AW_t : Hid (∀ k, (.slice (some ⟨g_t, 0, none⟩) z0.q.length z0.q.length : Value).ownBlock = some k → k ≠ R_AW) := Lib.hid (fun k h1 h2 => absurd AW_63.out.lt (Nat.not_lt.2 (by rw [← h2]; exact (o_t.lt k h1).1)))
    have BX_vwB0_t : Hid (∀ k, (.slice (some ⟨g_t, 0, none⟩) z0.q.length z0.q.length : Value).ownBlock = some k → k ≠ R_vwB0) := Lib.hid (fun k h1 h2 => absurd vwB0_63.out.lt (Nat.not_lt.2 (by rw [← h2]; exact (o_t.lt k h1).1)))
    have BX_vgB0_t : Hid (∀ k, (.slice (some ⟨g_t, 0, none⟩) z0.q.length z0.q.length : Value).ownBlock = some k → k ≠ R_vgB0) := Lib.hid (fun k h1 h2 => absurd vgB0_63.out.lt (Nat.not_lt.2 (by rw [← h2]; exact (o_t.lt k h1).1)))
    clear o_t
    clear c64_AW_0 c64_AW_1 c64_AW_2
    clear c65_vwB0_0 c65_vwB0_1 c65_vwB0_2
    clear c66_vgB0_0 c66_vgB0_1 c66_vgB0_2
    have HB_68 := Lib.hid (HB_63.out.trans (l67.mono HB_63.out.size))
    have vw_68 := Lib.hid (own_below vw_63.out l67 (Nat.le_refl _))
    clear vw_63
    have vg_68 := Lib.hid (own_below vg_63.out l67 (Nat.le_refl _))
    clear vg_63
    have AW_68 := Lib.hid (AW_63.out.below l67 AW_63.out.lt)
    clear AW_63
    have vwB0_68 := Lib.hid (vwB0_63.out.below l67 vwB0_63.out.lt)
    clear vwB0_63
    have vgB0_68 := Lib.hid (vgB0_63.out.below l67 vgB0_63.out.lt)
    clear vgB0_63
    clear l67
    have c69_AW_0 := AW_68.out.at 0 (v := .int .i64 z0.t) rfl
    have c69_AW_1 := AW_68.out.at 1 (v := .int .i64 z0.z) rfl
    have c69_AW_2 := AW_68.out.at 2 (v := .slice p0 z0.q.length cap0) rfl
    have c70_vwB0_0 := vwB0_68.out.at 0 (v := .int .i64 ps0.t) rfl
    have c70_vwB0_1 := vwB0_68.out.at 1 (v := .int .i64 ps0.z) rfl
    have c70_vwB0_2 := vwB0_68.out.at 2 (v := .slice a_vw ps0.q.length c_vw) rfl
    have c71_vgB0_0 := vgB0_68.out.at 0 (v := .int .i64 ps0.t) rfl
    have c71_vgB0_1 := vgB0_68.out.at 1 (v := .int .i64 ps0.z) rfl
    have c71_vgB0_2 := vgB0_68.out.at 2 (v := .slice a_vg ps0.q.length c_vg) rfl
    go_wp2_with fail
    refine (HIm.out _ _ (row_own O_t.out) (fitA_some _ _)).mono ?_
    rintro e W72 ⟨v_vh, rfl, o_vh, l72⟩
    obtain ⟨a_vh, c_vh, rfl, _, _⟩ := own_someS0 o_vh
    have AP_vw_vh : Hid (∀ k, (.slice a_vw ps0.q.length c_vw : Value).ownBlock = some k → (.slice a_vh ps0.q.length c_vh : Value).ownBlock ≠ some k) := Lib.hid (fun k h1 h2 => absurd (vw_68.out.lt k h1).2 (Nat.not_lt.2 (o_vh.lt k h2).1))
    have AP_vg_vh : Hid (∀ k, (.slice a_vg ps0.q.length c_vg : Value).ownBlock = some k → (.slice a_vh ps0.q.length c_vh : Value).ownBlock ≠ some k) := Lib.hid (fun k h1 h2 => absurd (vg_68.out.lt k h1).2 (Nat.not_lt.2 (o_vh.lt k h2).1))
    have AP_t_vh : Hid (∀ k, (.slice (some ⟨g_t, 0, none⟩) z0.q.length z0.q.length : Value).ownBlock = some k → (.slice a_vh ps0.q.length c_vh : Value).ownBlock ≠ some k) := Lib.hid (fun k h1 h2 => absurd (O_t.out.lt k h1).2 (Nat.not_lt.2 (o_vh.lt k h2).1))
    have O_vh := Lib.hid (own_base o_vh HB_68.out.size)
    have BX_AW_vh : Hid (∀ k, (.slice a_vh ps0.q.length c_vh : Value).ownBlock = some k → k ≠ R_AW) := Lib.hid (fun k h1 h2 => absurd AW_68.out.lt (Nat.not_lt.2 (by rw [← h2]; exact (o_vh.lt k h1).1)))
    have BX_vwB0_vh : Hid (∀ k, (.slice a_vh ps0.q.length c_vh : Value).ownBlock = some k → k ≠ R_vwB0) := Lib.hid (fun k h1 h2 => absurd vwB0_68.out.lt (Nat.not_lt.2 (by rw [← h2]; exact (o_vh.lt k h1).1)))
    have BX_vgB0_vh : Hid (∀ k, (.slice a_vh ps0.q.length c_vh : Value).ownBlock = some k → k ≠ R_vgB0) := Lib.hid (fun k h1 h2 => absurd vgB0_68.out.lt (Nat.not_lt.2 (by rw [← h2]; exact (o_vh.lt k h1).1)))
    clear o_vh
    clear c69_AW_0 c69_AW_1 c69_AW_2
    clear c70_vwB0_0 c70_vwB0_1 c70_vwB0_2
    clear c71_vgB0_0 c71_vgB0_1 c71_vgB0_2
    have HB_73 := Lib.hid (HB_68.out.trans (l72.mono HB_68.out.size))
    have vw_73 := Lib.hid (own_below vw_68.out l72 (Nat.le_refl _))
    clear vw_68
    have vg_73 := Lib.hid (own_below vg_68.out l72 (Nat.le_refl _))
    clear vg_68
    have t_73 := Lib.hid (own_below O_t.out l72 (Nat.le_refl _))
    clear O_t
    have AW_73 := Lib.hid (AW_68.out.below l72 AW_68.out.lt)
    clear AW_68
    have vwB0_73 := Lib.hid (vwB0_68.out.below l72 vwB0_68.out.lt)
    clear vwB0_68
    have vgB0_73 := Lib.hid (vgB0_68.out.below l72 vgB0_68.out.lt)
    clear vgB0_68
    clear l72
    have c74_AW_0 := AW_73.out.at 0 (v := .int .i64 z0.t) rfl
    have c74_AW_1 := AW_73.out.at 1 (v := .int .i64 z0.z) rfl
    have c74_AW_2 := AW_73.out.at 2 (v := .slice p0 z0.q.length cap0) rfl
    have c75_vwB0_0 := vwB0_73.out.at 0 (v := .int .i64 ps0.t) rfl
    have c75_vwB0_1 := vwB0_73.out.at 1 (v := .int .i64 ps0.z) rfl
    have c75_vwB0_2 := vwB0_73.out.at 2 (v := .slice a_vw ps0.q.length c_vw) rfl
    have c76_vgB0_0 := vgB0_73.out.at 0 (v := .int .i64 ps0.t) rfl
    have c76_vgB0_1 := vgB0_73.out.at 1 (v := .int .i64 ps0.z) rfl
    have c76_vgB0_2 := vgB0_73.out.at 2 (v := .slice a_vg ps0.q.length c_vg) rfl
    go_upto_region 25 with fail
    obtain ⟨W77, hW77⟩ : ∃ W77, W77 = W72.alloc (.cells #[.int .i64 ps0.t, .int .i64 ps0.z, .slice a_vh ps0.q.length c_vh] 26) := ⟨_, rfl⟩
    have l77 : Below W72.heap.size W72 W77 := by rw [hW77]; exact (Below.refl _ _).alloc (Nat.le_refl _) _
    have X77_vhB0 : Hid (Bx W77 W72.heap.size #[.int .i64 ps0.t, .int .i64 ps0.z, .slice a_vh ps0.q.length c_vh] 26) := Lib.hid (by rw [hW77]; exact Bx.new _ _ _)
    rw [← hW77]
    clear hW77
    have BX_vhB0_vw : Hid (∀ k, (.slice a_vw ps0.q.length c_vw : Value).ownBlock = some k → k ≠ W72.heap.size) := Lib.hid (fun k h1 h2 => absurd (vw_73.out.lt k h1).2 (by omega))
    have BX_vhB0_vg : Hid (∀ k, (.slice a_vg ps0.q.length c_vg : Value).ownBlock = some k → k ≠ W72.heap.size) := Lib.hid (fun k h1 h2 => absurd (vg_73.out.lt k h1).2 (by omega))
    have BX_vhB0_t : Hid (∀ k, (.slice (some ⟨g_t, 0, none⟩) z0.q.length z0.q.length : Value).ownBlock = some k → k ≠ W72.heap.size) := Lib.hid (fun k h1 h2 => absurd (t_73.out.lt k h1).2 (by omega))
    have BX_vhB0_vh : Hid (∀ k, (.slice a_vh ps0.q.length c_vh : Value).ownBlock = some k → k ≠ W72.heap.size) := Lib.hid (fun k h1 h2 => absurd (O_vh.out.lt k h1).2 (by omega))
    have HG_vhB0 : Hid (w.heap.size ≤ W72.heap.size) := Lib.hid HB_73.out.size
    have HN_vhB0_AW : Hid (R_AW < W72.heap.size) := Lib.hid AW_73.out.lt
    have HN_vhB0_vwB0 : Hid (R_vwB0 < W72.heap.size) := Lib.hid vwB0_73.out.lt
    have HN_vhB0_vgB0 : Hid (R_vgB0 < W72.heap.size) := Lib.hid vgB0_73.out.lt
    obtain ⟨R_vhB0, hR_vhB0⟩ : ∃ X, X = W72.heap.size := ⟨_, rfl⟩
    rw [← hR_vhB0] at X77_vhB0 HG_vhB0 BX_vhB0_vw BX_vhB0_vg BX_vhB0_t BX_vhB0_vh HN_vhB0_AW HN_vhB0_vwB0 HN_vhB0_vgB0 ⊢
    clear hR_vhB0
    clear c74_AW_0 c74_AW_1 c74_AW_2
    clear c75_vwB0_0 c75_vwB0_1 c75_vwB0_2
    clear c76_vgB0_0 c76_vgB0_1 c76_vgB0_2
    have HB_78 := Lib.hid (HB_73.out.trans (l77.mono HB_73.out.size))
    have vw_78 := Lib.hid (own_below vw_73.out l77 (Nat.le_refl _))
    clear vw_73
    have vg_78 := Lib.hid (own_below vg_73.out l77 (Nat.le_refl _))
    clear vg_73
    have t_78 := Lib.hid (own_below t_73.out l77 (Nat.le_refl _))
    clear t_73
    have vh_78 := Lib.hid (own_below O_vh.out l77 (Nat.le_refl _))
    clear O_vh
    have AW_78 := Lib.hid (AW_73.out.below l77 AW_73.out.lt)
    clear AW_73
    have vwB0_78 := Lib.hid (vwB0_73.out.below l77 vwB0_73.out.lt)
    clear vwB0_73
    have vgB0_78 := Lib.hid (vgB0_73.out.below l77 vgB0_73.out.lt)
    clear vgB0_73
    clear l77
    have c79_AW_0 := AW_78.out.at 0 (v := .int .i64 z0.t) rfl
    have c79_AW_1 := AW_78.out.at 1 (v := .int .i64 z0.z) rfl
    have c79_AW_2 := AW_78.out.at 2 (v := .slice p0 z0.q.length cap0) rfl
    have c80_vwB0_0 := vwB0_78.out.at 0 (v := .int .i64 ps0.t) rfl
    have c80_vwB0_1 := vwB0_78.out.at 1 (v := .int .i64 ps0.z) rfl
    have c80_vwB0_2 := vwB0_78.out.at 2 (v := .slice a_vw ps0.q.length c_vw) rfl
    have c81_vgB0_0 := vgB0_78.out.at 0 (v := .int .i64 ps0.t) rfl
    have c81_vgB0_1 := vgB0_78.out.at 1 (v := .int .i64 ps0.z) rfl
    have c81_vgB0_2 := vgB0_78.out.at 2 (v := .slice a_vg ps0.q.length c_vg) rfl
    have c82_vhB0_0 := X77_vhB0.out.at 0 (v := .int .i64 ps0.t) rfl
    have c82_vhB0_1 := X77_vhB0.out.at 1 (v := .int .i64 ps0.z) rfl
    have c82_vhB0_2 := X77_vhB0.out.at 2 (v := .slice a_vh ps0.q.length c_vh) rfl
    go_wp2_with fail
    refine (eqSw_same _ _ ps0 _ (row_own vh_78.out) (row_own vw_78.out)).mono ?_
    rintro e W83 ⟨rfl, l83⟩
    clear c79_AW_0 c79_AW_1 c79_AW_2
    clear c80_vwB0_0 c80_vwB0_1 c80_vwB0_2
    clear c81_vgB0_0 c81_vgB0_1 c81_vgB0_2
    clear c82_vhB0_0 c82_vhB0_1 c82_vhB0_2
    have HB_84 := Lib.hid (HB_78.out.trans (l83.mono HB_78.out.size))
    have vw_84 := Lib.hid (own_below vw_78.out l83 (Nat.le_refl _))
    clear vw_78
    have vg_84 := Lib.hid (own_below vg_78.out l83 (Nat.le_refl _))
    clear vg_78
    have t_84 := Lib.hid (own_below t_78.out l83 (Nat.le_refl _))
    clear t_78
    have vh_84 := Lib.hid (own_below vh_78.out l83 (Nat.le_refl _))
    clear vh_78
    have AW_84 := Lib.hid (AW_78.out.below l83 AW_78.out.lt)
    clear AW_78
    have vwB0_84 := Lib.hid (vwB0_78.out.below l83 vwB0_78.out.lt)
    clear vwB0_78
    have vgB0_84 := Lib.hid (vgB0_78.out.below l83 vgB0_78.out.lt)
    clear vgB0_78
    have vhB0_84 := Lib.hid (X77_vhB0.out.below l83 X77_vhB0.out.lt)
    clear X77_vhB0
    clear l83
    have c85_AW_0 := AW_84.out.at 0 (v := .int .i64 z0.t) rfl
    have c85_AW_1 := AW_84.out.at 1 (v := .int .i64 z0.z) rfl
    have c85_AW_2 := AW_84.out.at 2 (v := .slice p0 z0.q.length cap0) rfl
    have c86_vwB0_0 := vwB0_84.out.at 0 (v := .int .i64 ps0.t) rfl
    have c86_vwB0_1 := vwB0_84.out.at 1 (v := .int .i64 ps0.z) rfl
    have c86_vwB0_2 := vwB0_84.out.at 2 (v := .slice a_vw ps0.q.length c_vw) rfl
    have c87_vgB0_0 := vgB0_84.out.at 0 (v := .int .i64 ps0.t) rfl
    have c87_vgB0_1 := vgB0_84.out.at 1 (v := .int .i64 ps0.z) rfl
    have c87_vgB0_2 := vgB0_84.out.at 2 (v := .slice a_vg ps0.q.length c_vg) rfl
    have c88_vhB0_0 := vhB0_84.out.at 0 (v := .int .i64 ps0.t) rfl
    have c88_vhB0_1 := vhB0_84.out.at 1 (v := .int .i64 ps0.z) rfl
    have c88_vhB0_2 := vhB0_84.out.at 2 (v := .slice a_vh ps0.q.length c_vh) rfl
    go_wp2_with fail
    refine (heldSw_own _ _ _ ps0.q.length 1 _ _ vg_84.out (by omega) (by have := HL0.out; have := HN0.out; omega)).mono ?_
    rintro e W89 ⟨rfl, l89⟩
    clear c85_AW_0 c85_AW_1 c85_AW_2
    clear c86_vwB0_0 c86_vwB0_1 c86_vwB0_2
    clear c87_vgB0_0 c87_vgB0_1 c87_vgB0_2
    clear c88_vhB0_0 c88_vhB0_1 c88_vhB0_2
    have HB_90 := Lib.hid (HB_84.out.trans (l89.mono HB_84.out.size))
    have vw_90 := Lib.hid (own_below vw_84.out l89 (Nat.le_refl _))
    clear vw_84
    have vg_90 := Lib.hid (own_below vg_84.out l89 (Nat.le_refl _))
    clear vg_84
    have t_90 := Lib.hid (own_below t_84.out l89 (Nat.le_refl _))
    clear t_84
    have vh_90 := Lib.hid (own_below vh_84.out l89 (Nat.le_refl _))
    clear vh_84
    have AW_90 := Lib.hid (AW_84.out.below l89 AW_84.out.lt)
    clear AW_84
    have vwB0_90 := Lib.hid (vwB0_84.out.below l89 vwB0_84.out.lt)
    clear vwB0_84
    have vgB0_90 := Lib.hid (vgB0_84.out.below l89 vgB0_84.out.lt)
    clear vgB0_84
    have vhB0_90 := Lib.hid (vhB0_84.out.below l89 vhB0_84.out.lt)
    clear vhB0_84
    clear l89
    have c91_AW_0 := AW_90.out.at 0 (v := .int .i64 z0.t) rfl
    have c91_AW_1 := AW_90.out.at 1 (v := .int .i64 z0.z) rfl
    have c91_AW_2 := AW_90.out.at 2 (v := .slice p0 z0.q.length cap0) rfl
    have c92_vwB0_0 := vwB0_90.out.at 0 (v := .int .i64 ps0.t) rfl
    have c92_vwB0_1 := vwB0_90.out.at 1 (v := .int .i64 ps0.z) rfl
    have c92_vwB0_2 := vwB0_90.out.at 2 (v := .slice a_vw ps0.q.length c_vw) rfl
    have c93_vgB0_0 := vgB0_90.out.at 0 (v := .int .i64 ps0.t) rfl
    have c93_vgB0_1 := vgB0_90.out.at 1 (v := .int .i64 ps0.z) rfl
    have c93_vgB0_2 := vgB0_90.out.at 2 (v := .slice a_vg ps0.q.length c_vg) rfl
    have c94_vhB0_0 := vhB0_90.out.at 0 (v := .int .i64 ps0.t) rfl
    have c94_vhB0_1 := vhB0_90.out.at 1 (v := .int .i64 ps0.z) rfl
    have c94_vhB0_2 := vhB0_90.out.at 2 (v := .slice a_vh ps0.q.length c_vh) rfl
    go_wp2_with fail
    go_ret
    exact ⟨rfl, HB_90.out⟩
theorem fnExactResizeWindow_walk (w : World) (a0_0 : Int) (w0_0 : (Lit.int .i64 a0_0).wf = true) (a0_1 : Int) (w0_1 : (Lit.int .i64 a0_1).wf = true) (v0_2 : Value) (s0_2 : List ByteArray) (w0_2 : Row w v0_2 s0_2.length (s0_2.map Value.string)) (b0_2 : ∀ s ∈ s0_2, s.size ≤ maxLen) (a1 : Int) (w1 : (Lit.int .i64 a1).wf = true) (_hsh : w.ShapedOpen Try.prog) :
    Calls Try.prog 10 #[.agg #[.int .i64 a0_0, .int .i64 a0_1, v0_2], .int .i64 a1] w fun e w' => e = .returned (.bool true) ∧ Below w.heap.size w w' :=
  fnExactResizeWindow_wk v0_2 ⟨a0_0, a0_1, s0_2⟩ w w0_2 b0_2 a1 w1
set_option maxRecDepth 100000 in
set_option maxHeartbeats 8000000 in
theorem fnExactHeldSerials_wk (v0 : Value) (z0 : Sw) (w : World) (w0 : Row w v0 z0.q.length (z0.q.map Value.string)) (b0 : ∀ s ∈ z0.q, s.size ≤ maxLen) :
    Calls Try.prog 13 #[.agg #[.int .i64 z0.t, .int .i64 z0.z, v0]] w fun e w' => e = .returned (.bool true) ∧ Below w.heap.size w w' := by
  obtain ⟨p0, cap0, rfl, hc10, hc20, _⟩ := row_open w0
  unfold maxLen at hc20
  have HR0 := Lib.hid w0
  have HSz := Lib.hid (fun (W : World) (hr : Row W (.slice p0 z0.q.length cap0) z0.q.length (z0.q.map Value.string)) => szSw_any (.slice p0 z0.q.length cap0) z0 W hr b0 1048576 (by omega))
  have HSm := Lib.hid b0
  clear w0 b0
  obtain ⟨W0, R_AW, hW0, hR_AW, hX_AW, hB0⟩ := entry1 w #[.int .i64 z0.t, .int .i64 z0.z, .slice p0 z0.q.length cap0] 58
  have HW0 := Lib.hid hW0
  have HB0 := Lib.hid hB0
  have HR_AW := Lib.hid hR_AW
  have HX_AW := Lib.hid hX_AW
  clear hW0 hB0 hR_AW hX_AW
  have c1_AW_0 := HX_AW.out.at 0 (v := .int .i64 z0.t) rfl
  have c1_AW_1 := HX_AW.out.at 1 (v := .int .i64 z0.z) rfl
  have c1_AW_2 := HX_AW.out.at 2 (v := .slice p0 z0.q.length cap0) rfl
  go_enter Try.func13, Try.ntmps13
  go_upto_region 1 with fail
  rw [← HW0.out, ← HR_AW.out]
  go_wp2_with fail
  refine (HSz.out _ (HR0.out.below HB0.out (Nat.le_refl _))).mono ?_
  rintro e W2 ⟨l2, r0, rfl, hr1, hr0⟩
  clear c1_AW_0 c1_AW_1 c1_AW_2
  have HB_3 := Lib.hid (HB0.out.trans (l2.mono HB0.out.size))
  have AW_3 := Lib.hid (HX_AW.out.below l2 HX_AW.out.lt)
  clear l2
  have c4_AW_0 := AW_3.out.at 0 (v := .int .i64 z0.t) rfl
  have c4_AW_1 := AW_3.out.at 1 (v := .int .i64 z0.z) rfl
  have c4_AW_2 := AW_3.out.at 2 (v := .slice p0 z0.q.length cap0) rfl
  by_cases hneg : r0 < 0
  · clear hr0
    go_wp2_with fail
    go_ret
    exact ⟨rfl, HB_3.out⟩
  obtain ⟨hm0, hs0, hr00⟩ := hr0.resolve_left hneg
  have HN0 := Lib.hid hm0
  clear hr0 hs0 HSz
  have HSp := Lib.hid (fun (v : Value) (W : World) (hr : Row W v z0.q.length (z0.q.map Value.string)) (hf : FitA v z0.q.length) => specHs_any v z0 W hr HSm.out)
  have HIm := Lib.hid (fun (v : Value) (W : World) (hr : Row W v z0.q.length (z0.q.map Value.string)) (hf : FitA v z0.q.length) => implHs_any v z0 W hr HSm.out)
  have hlen0 := hsV_len z0 hm0
  generalize hsV z0 = ps0 at HSp HIm hlen0
  have HL0 := Lib.hid hlen0
  clear hlen0
  generalize swOk z0 = r0_ at HSp HIm
  clear hm0
  go_wp2_with fail
  refine (toSw_lit _ z0 _ (HR0.out.below HB_3.out (Nat.le_refl _)) HN0.out).mono ?_
  rintro e W5 ⟨g_s, rfl, o_s, l5⟩
  have O_s := Lib.hid (own_base o_s HB_3.out.size)
  have BX_AW_s : Hid (∀ k, (.slice (some ⟨g_s, 0, none⟩) z0.q.length z0.q.length : Value).ownBlock = some k → k ≠ R_AW) := Lib.hid (fun k h1 h2 => absurd AW_3.out.lt (Nat.not_lt.2 (by rw [← h2]; exact (o_s.lt k h1).1)))
  clear o_s
  clear c4_AW_0 c4_AW_1 c4_AW_2
  have HB_6 := Lib.hid (HB_3.out.trans (l5.mono HB_3.out.size))
  have AW_6 := Lib.hid (AW_3.out.below l5 AW_3.out.lt)
  clear AW_3
  clear l5
  have c7_AW_0 := AW_6.out.at 0 (v := .int .i64 z0.t) rfl
  have c7_AW_1 := AW_6.out.at 1 (v := .int .i64 z0.z) rfl
  have c7_AW_2 := AW_6.out.at 2 (v := .slice p0 z0.q.length cap0) rfl
  go_wp2_with fail
  refine (HSp.out _ _ (row_own O_s.out) (fitA_some _ _)).mono ?_
  rintro e W8 ⟨v_vw, rfl, o_vw, l8⟩
  obtain ⟨a_vw, c_vw, rfl, _, _⟩ := own_someS0 o_vw
  have AP_s_vw : Hid (∀ k, (.slice (some ⟨g_s, 0, none⟩) z0.q.length z0.q.length : Value).ownBlock = some k → (.slice a_vw ps0.length c_vw : Value).ownBlock ≠ some k) := Lib.hid (fun k h1 h2 => absurd (O_s.out.lt k h1).2 (Nat.not_lt.2 (o_vw.lt k h2).1))
  have O_vw := Lib.hid (own_base o_vw HB_6.out.size)
  have BX_AW_vw : Hid (∀ k, (.slice a_vw ps0.length c_vw : Value).ownBlock = some k → k ≠ R_AW) := Lib.hid (fun k h1 h2 => absurd AW_6.out.lt (Nat.not_lt.2 (by rw [← h2]; exact (o_vw.lt k h1).1)))
  clear o_vw
  clear c7_AW_0 c7_AW_1 c7_AW_2
  have HB_9 := Lib.hid (HB_6.out.trans (l8.mono HB_6.out.size))
  have s_9 := Lib.hid (own_below O_s.out l8 (Nat.le_refl _))
  clear O_s
  have AW_9 := Lib.hid (AW_6.out.below l8 AW_6.out.lt)
  clear AW_6
  clear l8
  have c10_AW_0 := AW_9.out.at 0 (v := .int .i64 z0.t) rfl
  have c10_AW_1 := AW_9.out.at 1 (v := .int .i64 z0.z) rfl
  have c10_AW_2 := AW_9.out.at 2 (v := .slice p0 z0.q.length cap0) rfl
  clear s_9
  go_wp2_with fail
  refine (toSw_lit _ z0 _ (HR0.out.below HB_9.out (Nat.le_refl _)) HN0.out).mono ?_
  rintro e W11 ⟨g_x, rfl, o_x, l11⟩
  have AP_vw_x : Hid (∀ k, (.slice a_vw ps0.length c_vw : Value).ownBlock = some k → (.slice (some ⟨g_x, 0, none⟩) z0.q.length z0.q.length : Value).ownBlock ≠ some k) := Lib.hid (fun k h1 h2 => absurd (O_vw.out.lt k h1).2 (Nat.not_lt.2 (o_x.lt k h2).1))
  have O_x := Lib.hid (own_base o_x HB_9.out.size)
  have BX_AW_x : Hid (∀ k, (.slice (some ⟨g_x, 0, none⟩) z0.q.length z0.q.length : Value).ownBlock = some k → k ≠ R_AW) := Lib.hid (fun k h1 h2 => absurd AW_9.out.lt (Nat.not_lt.2 (by rw [← h2]; exact (o_x.lt k h1).1)))
  clear o_x
  clear c10_AW_0 c10_AW_1 c10_AW_2
  have HB_12 := Lib.hid (HB_9.out.trans (l11.mono HB_9.out.size))
  have vw_12 := Lib.hid (own_below O_vw.out l11 (Nat.le_refl _))
  clear O_vw
  have AW_12 := Lib.hid (AW_9.out.below l11 AW_9.out.lt)
  clear AW_9
  clear l11
  have c13_AW_0 := AW_12.out.at 0 (v := .int .i64 z0.t) rfl
  have c13_AW_1 := AW_12.out.at 1 (v := .int .i64 z0.z) rfl
  have c13_AW_2 := AW_12.out.at 2 (v := .slice p0 z0.q.length cap0) rfl
  go_upto_region 7 with fail
  obtain ⟨W14, hW14⟩ : ∃ W14, W14 = W11.alloc (.cells #[.int .i64 z0.t, .int .i64 z0.z, .slice (some ⟨g_x, 0, none⟩) z0.q.length z0.q.length] 26) := ⟨_, rfl⟩
  have l14 : Below W11.heap.size W11 W14 := by rw [hW14]; exact (Below.refl _ _).alloc (Nat.le_refl _) _
  have X14_X : Hid (Bx W14 W11.heap.size #[.int .i64 z0.t, .int .i64 z0.z, .slice (some ⟨g_x, 0, none⟩) z0.q.length z0.q.length] 26) := Lib.hid (by rw [hW14]; exact Bx.new _ _ _)
  rw [← hW14]
  clear hW14
  have BX_X_vw : Hid (∀ k, (.slice a_vw ps0.length c_vw : Value).ownBlock = some k → k ≠ W11.heap.size) := Lib.hid (fun k h1 h2 => absurd (vw_12.out.lt k h1).2 (by omega))
  have BX_X_x : Hid (∀ k, (.slice (some ⟨g_x, 0, none⟩) z0.q.length z0.q.length : Value).ownBlock = some k → k ≠ W11.heap.size) := Lib.hid (fun k h1 h2 => absurd (O_x.out.lt k h1).2 (by omega))
  have HG_X : Hid (w.heap.size ≤ W11.heap.size) := Lib.hid HB_12.out.size
  have HN_X_AW : Hid (R_AW < W11.heap.size) := Lib.hid AW_12.out.lt
  obtain ⟨R_X, hR_X⟩ : ∃ X, X = W11.heap.size := ⟨_, rfl⟩
  rw [← hR_X] at X14_X HG_X BX_X_vw BX_X_x HN_X_AW ⊢
  clear hR_X
  clear c13_AW_0 c13_AW_1 c13_AW_2
  have HB_15 := Lib.hid (HB_12.out.trans (l14.mono HB_12.out.size))
  have vw_15 := Lib.hid (own_below vw_12.out l14 (Nat.le_refl _))
  clear vw_12
  have x_15 := Lib.hid (own_below O_x.out l14 (Nat.le_refl _))
  clear O_x
  have AW_15 := Lib.hid (AW_12.out.below l14 AW_12.out.lt)
  clear AW_12
  clear l14
  have c16_AW_0 := AW_15.out.at 0 (v := .int .i64 z0.t) rfl
  have c16_AW_1 := AW_15.out.at 1 (v := .int .i64 z0.z) rfl
  have c16_AW_2 := AW_15.out.at 2 (v := .slice p0 z0.q.length cap0) rfl
  have c17_X_0 := X14_X.out.at 0 (v := .int .i64 z0.t) rfl
  have c17_X_1 := X14_X.out.at 1 (v := .int .i64 z0.z) rfl
  have c17_X_2 := X14_X.out.at 2 (v := .slice (some ⟨g_x, 0, none⟩) z0.q.length z0.q.length) rfl
  go_wp2_with fail
  refine (HIm.out _ _ (row_own x_15.out) (fitA_some _ _)).mono ?_
  rintro e W18 ⟨v_vg, rfl, o_vg, l18⟩
  obtain ⟨a_vg, c_vg, rfl, _, _⟩ := own_someS0 o_vg
  have AP_vw_vg : Hid (∀ k, (.slice a_vw ps0.length c_vw : Value).ownBlock = some k → (.slice a_vg ps0.length c_vg : Value).ownBlock ≠ some k) := Lib.hid (fun k h1 h2 => absurd (vw_15.out.lt k h1).2 (Nat.not_lt.2 (o_vg.lt k h2).1))
  have AP_x_vg : Hid (∀ k, (.slice (some ⟨g_x, 0, none⟩) z0.q.length z0.q.length : Value).ownBlock = some k → (.slice a_vg ps0.length c_vg : Value).ownBlock ≠ some k) := Lib.hid (fun k h1 h2 => absurd (x_15.out.lt k h1).2 (Nat.not_lt.2 (o_vg.lt k h2).1))
  have O_vg := Lib.hid (own_base o_vg HB_15.out.size)
  have BX_AW_vg : Hid (∀ k, (.slice a_vg ps0.length c_vg : Value).ownBlock = some k → k ≠ R_AW) := Lib.hid (fun k h1 h2 => absurd AW_15.out.lt (Nat.not_lt.2 (by rw [← h2]; exact (o_vg.lt k h1).1)))
  have BX_X_vg : Hid (∀ k, (.slice a_vg ps0.length c_vg : Value).ownBlock = some k → k ≠ R_X) := Lib.hid (fun k h1 h2 => absurd X14_X.out.lt (Nat.not_lt.2 (by rw [← h2]; exact (o_vg.lt k h1).1)))
  clear o_vg
  clear c16_AW_0 c16_AW_1 c16_AW_2
  clear c17_X_0 c17_X_1 c17_X_2
  have HB_19 := Lib.hid (HB_15.out.trans (l18.mono HB_15.out.size))
  have vw_19 := Lib.hid (own_below vw_15.out l18 (Nat.le_refl _))
  clear vw_15
  have x_19 := Lib.hid (own_below x_15.out l18 (Nat.le_refl _))
  clear x_15
  have AW_19 := Lib.hid (AW_15.out.below l18 AW_15.out.lt)
  clear AW_15
  have X_19 := Lib.hid (X14_X.out.below l18 X14_X.out.lt)
  clear X14_X
  clear l18
  have c20_AW_0 := AW_19.out.at 0 (v := .int .i64 z0.t) rfl
  have c20_AW_1 := AW_19.out.at 1 (v := .int .i64 z0.z) rfl
  have c20_AW_2 := AW_19.out.at 2 (v := .slice p0 z0.q.length cap0) rfl
  have c21_X_0 := X_19.out.at 0 (v := .int .i64 z0.t) rfl
  have c21_X_1 := X_19.out.at 1 (v := .int .i64 z0.z) rfl
  have c21_X_2 := X_19.out.at 2 (v := .slice (some ⟨g_x, 0, none⟩) z0.q.length z0.q.length) rfl
  go_wp2_with fail
  refine (eqIntS_any _ _ ps0 ps0 _ (row_own O_vg.out) (row_own vw_19.out)).mono ?_
  rintro e W22 ⟨rfl, kq, hkq⟩
  have l22 : Below W18.heap.size W18 W22 := by rw [hkq]; exact bdrew _ _
  clear hkq
  clear c20_AW_0 c20_AW_1 c20_AW_2
  clear c21_X_0 c21_X_1 c21_X_2
  have HB_23 := Lib.hid (HB_19.out.trans (l22.mono HB_19.out.size))
  have vw_23 := Lib.hid (own_below vw_19.out l22 (Nat.le_refl _))
  clear vw_19
  have x_23 := Lib.hid (own_below x_19.out l22 (Nat.le_refl _))
  clear x_19
  have vg_23 := Lib.hid (own_below O_vg.out l22 (Nat.le_refl _))
  clear O_vg
  have AW_23 := Lib.hid (AW_19.out.below l22 AW_19.out.lt)
  clear AW_19
  have X_23 := Lib.hid (X_19.out.below l22 X_19.out.lt)
  clear X_19
  clear l22
  have c24_AW_0 := AW_23.out.at 0 (v := .int .i64 z0.t) rfl
  have c24_AW_1 := AW_23.out.at 1 (v := .int .i64 z0.z) rfl
  have c24_AW_2 := AW_23.out.at 2 (v := .slice p0 z0.q.length cap0) rfl
  have c25_X_0 := X_23.out.at 0 (v := .int .i64 z0.t) rfl
  have c25_X_1 := X_23.out.at 1 (v := .int .i64 z0.z) rfl
  have c25_X_2 := X_23.out.at 2 (v := .slice (some ⟨g_x, 0, none⟩) z0.q.length z0.q.length) rfl
  go_upto_region 10 with fail
  go_cut [45] from 41 to 45 (fun b wx => b = .bool false ∧ Hid (Below W22.heap.size W22 wx))
  case first => as_aux_lemma =>
    have HK1 := Lib.hid (fun (w' : World) (hb : Below W22.heap.size W22 w') => (show w'.cell? ⟨R_X, 0, none⟩ = some (.int .i64 z0.t) ∧ w'.cell? ⟨R_X, 1, none⟩ = some (.int .i64 z0.z) ∧ w'.cell? ⟨R_X, 2, none⟩ = some (.slice (some ⟨g_x, 0, none⟩) z0.q.length z0.q.length) ∧ w'.cell? ⟨R_AW, 0, none⟩ = some (.int .i64 z0.t) ∧ w'.cell? ⟨R_AW, 1, none⟩ = some (.int .i64 z0.z) ∧ w'.cell? ⟨R_AW, 2, none⟩ = some (.slice p0 z0.q.length cap0) ∧ Below w.heap.size w w' from ⟨(hb.cell (p := ⟨R_X, 0, none⟩) X_23.out.lt).trans (X_23.out.at 0 (v := .int .i64 z0.t) rfl), (hb.cell (p := ⟨R_X, 1, none⟩) X_23.out.lt).trans (X_23.out.at 1 (v := .int .i64 z0.z) rfl), (hb.cell (p := ⟨R_X, 2, none⟩) X_23.out.lt).trans (X_23.out.at 2 (v := .slice (some ⟨g_x, 0, none⟩) z0.q.length z0.q.length) rfl), (hb.cell (p := ⟨R_AW, 0, none⟩) AW_23.out.lt).trans (AW_23.out.at 0 (v := .int .i64 z0.t) rfl), (hb.cell (p := ⟨R_AW, 1, none⟩) AW_23.out.lt).trans (AW_23.out.at 1 (v := .int .i64 z0.z) rfl), (hb.cell (p := ⟨R_AW, 2, none⟩) AW_23.out.lt).trans (AW_23.out.at 2 (v := .slice p0 z0.q.length cap0) rfl), HB_23.out.trans (hb.mono HB_23.out.size)⟩))
    go_region_held3 (fun w' => w'.cell? ⟨R_X, 0, none⟩ = some (.int .i64 z0.t) ∧ w'.cell? ⟨R_X, 1, none⟩ = some (.int .i64 z0.z) ∧ w'.cell? ⟨R_X, 2, none⟩ = some (.slice (some ⟨g_x, 0, none⟩) z0.q.length z0.q.length) ∧ w'.cell? ⟨R_AW, 0, none⟩ = some (.int .i64 z0.t) ∧ w'.cell? ⟨R_AW, 1, none⟩ = some (.int .i64 z0.z) ∧ w'.cell? ⟨R_AW, 2, none⟩ = some (.slice p0 z0.q.length cap0) ∧ Below w.heap.size w w')
      ((first | (with_reducible refine HK1.out _ ?_; (repeat (first | with_reducible assumption | with_reducible exact Below.refl _ _ | with_reducible refine Below.drew ?_ | with_reducible refine below_alloc' ?_)); done)))
      (first
        | (go_at_call 45; refine (toSw_lit _ z0 _ (HR0.out.below (HB_23.out.trans ((by repeat (first | with_reducible assumption | with_reducible exact Below.refl _ _ | with_reducible refine Below.drew ?_ | with_reducible refine below_alloc' ?_) : Below W22.heap.size W22 _).mono HB_23.out.size)) (Nat.le_refl _)) HN0.out).mono ?_; rintro e w5 ⟨g5, rfl, o5, l5⟩; have hb5 := below_call7 (by repeat (first | with_reducible assumption | with_reducible exact Below.refl _ _ | with_reducible refine Below.drew ?_ | with_reducible refine below_alloc' ?_) : Below W22.heap.size W22 _) l5; have ho5 := row_own o5; clear o5 l5)
        | (go_at_call 46; refine (eqSw_same _ _ z0 _ ((row_own x_23.out).below hb5 (Nat.le_refl _)) ho5).mono ?_; rintro e w6 ⟨rfl, l6⟩; have hb6 := below_call7 hb5 l6; clear l6))
    all_goals go_wp2_with fail
    all_goals go_meet
    all_goals
      case rel => exact ⟨by simp, Lib.hid (by repeat (first | with_reducible assumption | with_reducible exact Below.refl _ _ | with_reducible refine Below.drew ?_ | with_reducible refine below_alloc' ?_))⟩
  case rest =>
    obtain ⟨rfl, HCut⟩ := hcut
    rename World => W26
    have l26 := HCut.out
    clear HCut
    clear c24_AW_0 c24_AW_1 c24_AW_2
    clear c25_X_0 c25_X_1 c25_X_2
    have HB_27 := Lib.hid (HB_23.out.trans (l26.mono HB_23.out.size))
    have vw_27 := Lib.hid (own_below vw_23.out l26 (Nat.le_refl _))
    clear vw_23
    have x_27 := Lib.hid (own_below x_23.out l26 (Nat.le_refl _))
    clear x_23
    have vg_27 := Lib.hid (own_below vg_23.out l26 (Nat.le_refl _))
    clear vg_23
    have AW_27 := Lib.hid (AW_23.out.below l26 AW_23.out.lt)
    clear AW_23
    have X_27 := Lib.hid (X_23.out.below l26 X_23.out.lt)
    clear X_23
    clear l26
    have c28_AW_0 := AW_27.out.at 0 (v := .int .i64 z0.t) rfl
    have c28_AW_1 := AW_27.out.at 1 (v := .int .i64 z0.z) rfl
    have c28_AW_2 := AW_27.out.at 2 (v := .slice p0 z0.q.length cap0) rfl
    have c29_X_0 := X_27.out.at 0 (v := .int .i64 z0.t) rfl
    have c29_X_1 := X_27.out.at 1 (v := .int .i64 z0.z) rfl
    have c29_X_2 := X_27.out.at 2 (v := .slice (some ⟨g_x, 0, none⟩) z0.q.length z0.q.length) rfl
    go_wp2_with fail
    refine (markSw_own _ _ _ z0.q.length 1 _ _ _ x_27.out (by omega) (by have := HL0.out; have := HN0.out; omega)).mono ?_
    rintro e W30 ⟨rfl, m30, gr30⟩
    clear c28_AW_0 c28_AW_1 c28_AW_2
    clear c29_X_0 c29_X_1 c29_X_2
    have HB_30 := Lib.hid (HB_27.out.grown gr30 HB_27.out.size (fun q hq => (x_27.out.lt q hq).1))
    have vw_30 := Lib.hid (own_apart vw_27.out gr30 (fun k h1 h2 => AP_vw_x.out k h1 h2))
    clear vw_27
    have vg_30 := Lib.hid (own_apart vg_27.out gr30 (fun k h1 h2 => AP_x_vg.out k h2 h1))
    clear vg_27
    have AW_30 := Lib.hid (AW_27.out.grown gr30 (fun e => BX_AW_x.out _ e.symm rfl))
    clear AW_27
    have X_30 := Lib.hid (X_27.out.grown gr30 (fun e => BX_X_x.out _ e.symm rfl))
    clear X_27
    have x_30 := Lib.hid m30
    clear m30 gr30 x_27
    have c31_AW_0 := AW_30.out.at 0 (v := .int .i64 z0.t) rfl
    have c31_AW_1 := AW_30.out.at 1 (v := .int .i64 z0.z) rfl
    have c31_AW_2 := AW_30.out.at 2 (v := .slice p0 z0.q.length cap0) rfl
    have c32_X_0 := X_30.out.at 0 (v := .int .i64 z0.t) rfl
    have c32_X_1 := X_30.out.at 1 (v := .int .i64 z0.z) rfl
    have c32_X_2 := X_30.out.at 2 (v := .slice (some ⟨g_x, 0, none⟩) z0.q.length z0.q.length) rfl
    go_wp2_with fail
    refine (eqIntS_any _ _ ps0 ps0 _ (row_own vg_30.out) (row_own vw_30.out)).mono ?_
    rintro e W33 ⟨rfl, kq, hkq⟩
    have l33 : Below W30.heap.size W30 W33 := by rw [hkq]; exact bdrew _ _
    clear hkq
    clear c31_AW_0 c31_AW_1 c31_AW_2
    clear c32_X_0 c32_X_1 c32_X_2
    have HB_34 := Lib.hid (HB_30.out.trans (l33.mono HB_30.out.size))
    have vw_34 := Lib.hid (own_below vw_30.out l33 (Nat.le_refl _))
    clear vw_30
    have x_34 := Lib.hid (own_below x_30.out l33 (Nat.le_refl _))
    clear x_30
    have vg_34 := Lib.hid (own_below vg_30.out l33 (Nat.le_refl _))
    clear vg_30
    have AW_34 := Lib.hid (AW_30.out.below l33 AW_30.out.lt)
    clear AW_30
    have X_34 := Lib.hid (X_30.out.below l33 X_30.out.lt)
    clear X_30
    clear l33
    have c35_AW_0 := AW_34.out.at 0 (v := .int .i64 z0.t) rfl
    have c35_AW_1 := AW_34.out.at 1 (v := .int .i64 z0.z) rfl
    have c35_AW_2 := AW_34.out.at 2 (v := .slice p0 z0.q.length cap0) rfl
    have c36_X_0 := X_34.out.at 0 (v := .int .i64 z0.t) rfl
    have c36_X_1 := X_34.out.at 1 (v := .int .i64 z0.z) rfl
    have c36_X_2 := X_34.out.at 2 (v := .slice (some ⟨g_x, 0, none⟩) z0.q.length z0.q.length) rfl
    clear x_34
    clear c36_X_0 c36_X_1 c36_X_2
    clear X_34
    go_wp2_with fail
    refine (markI_own _ ps0.length 1 _ _ _ vg_34.out (by have := HL0.out; have := HN0.out; omega)).mono ?_
    rintro e W37 ⟨rfl, m37, gr37⟩
    clear c35_AW_0 c35_AW_1 c35_AW_2
    have HB_37 := Lib.hid (HB_34.out.grown gr37 HB_34.out.size (fun q hq => (vg_34.out.lt q hq).1))
    have vw_37 := Lib.hid (own_apart vw_34.out gr37 (fun k h1 h2 => AP_vw_vg.out k h1 h2))
    clear vw_34
    have AW_37 := Lib.hid (AW_34.out.grown gr37 (fun e => BX_AW_vg.out _ e.symm rfl))
    clear AW_34
    have vg_37 := Lib.hid m37
    clear m37 gr37 vg_34
    have c38_AW_0 := AW_37.out.at 0 (v := .int .i64 z0.t) rfl
    have c38_AW_1 := AW_37.out.at 1 (v := .int .i64 z0.z) rfl
    have c38_AW_2 := AW_37.out.at 2 (v := .slice p0 z0.q.length cap0) rfl
    go_wp2_with fail
    refine (heldI_own _ ps0.length 1 _ _ vg_37.out (by have := HL0.out; have := HN0.out; omega)).mono ?_
    rintro e _ ⟨rfl, rfl⟩
    go_wp2_with fail
    refine (toSw_lit _ z0 _ (HR0.out.below HB_37.out (Nat.le_refl _)) HN0.out).mono ?_
    rintro e W39 ⟨g_t, rfl, o_t, l39⟩
    have AP_vw_t : Hid (∀ k, (.slice a_vw ps0.length c_vw : Value).ownBlock = some k → (.slice (some ⟨g_t, 0, none⟩) z0.q.length z0.q.length : Value).ownBlock ≠ some k) := Lib.hid (fun k h1 h2 => absurd (vw_37.out.lt k h1).2 (Nat.not_lt.2 (o_t.lt k h2).1))
    have AP_vg_t : Hid (∀ k, (.slice a_vg ps0.length c_vg : Value).ownBlock = some k → (.slice (some ⟨g_t, 0, none⟩) z0.q.length z0.q.length : Value).ownBlock ≠ some k) := Lib.hid (fun k h1 h2 => absurd (vg_37.out.lt k h1).2 (Nat.not_lt.2 (o_t.lt k h2).1))
    have O_t := Lib.hid (own_base o_t HB_37.out.size)
    have BX_AW_t : Hid (∀ k, (.slice (some ⟨g_t, 0, none⟩) z0.q.length z0.q.length : Value).ownBlock = some k → k ≠ R_AW) := Lib.hid (fun k h1 h2 => absurd AW_37.out.lt (Nat.not_lt.2 (by rw [← h2]; exact (o_t.lt k h1).1)))
    clear o_t
    clear c38_AW_0 c38_AW_1 c38_AW_2
    have HB_40 := Lib.hid (HB_37.out.trans (l39.mono HB_37.out.size))
    have vw_40 := Lib.hid (own_below vw_37.out l39 (Nat.le_refl _))
    clear vw_37
    have vg_40 := Lib.hid (own_below vg_37.out l39 (Nat.le_refl _))
    clear vg_37
    have AW_40 := Lib.hid (AW_37.out.below l39 AW_37.out.lt)
    clear AW_37
    clear l39
    have c41_AW_0 := AW_40.out.at 0 (v := .int .i64 z0.t) rfl
    have c41_AW_1 := AW_40.out.at 1 (v := .int .i64 z0.z) rfl
    have c41_AW_2 := AW_40.out.at 2 (v := .slice p0 z0.q.length cap0) rfl
    go_wp2_with fail
    refine (HIm.out _ _ (row_own O_t.out) (fitA_some _ _)).mono ?_
    rintro e W42 ⟨v_vh, rfl, o_vh, l42⟩
    obtain ⟨a_vh, c_vh, rfl, _, _⟩ := own_someS0 o_vh
    have AP_vw_vh : Hid (∀ k, (.slice a_vw ps0.length c_vw : Value).ownBlock = some k → (.slice a_vh ps0.length c_vh : Value).ownBlock ≠ some k) := Lib.hid (fun k h1 h2 => absurd (vw_40.out.lt k h1).2 (Nat.not_lt.2 (o_vh.lt k h2).1))
    have AP_vg_vh : Hid (∀ k, (.slice a_vg ps0.length c_vg : Value).ownBlock = some k → (.slice a_vh ps0.length c_vh : Value).ownBlock ≠ some k) := Lib.hid (fun k h1 h2 => absurd (vg_40.out.lt k h1).2 (Nat.not_lt.2 (o_vh.lt k h2).1))
    have AP_t_vh : Hid (∀ k, (.slice (some ⟨g_t, 0, none⟩) z0.q.length z0.q.length : Value).ownBlock = some k → (.slice a_vh ps0.length c_vh : Value).ownBlock ≠ some k) := Lib.hid (fun k h1 h2 => absurd (O_t.out.lt k h1).2 (Nat.not_lt.2 (o_vh.lt k h2).1))
    have O_vh := Lib.hid (own_base o_vh HB_40.out.size)
    have BX_AW_vh : Hid (∀ k, (.slice a_vh ps0.length c_vh : Value).ownBlock = some k → k ≠ R_AW) := Lib.hid (fun k h1 h2 => absurd AW_40.out.lt (Nat.not_lt.2 (by rw [← h2]; exact (o_vh.lt k h1).1)))
    clear o_vh
    clear c41_AW_0 c41_AW_1 c41_AW_2
    have HB_43 := Lib.hid (HB_40.out.trans (l42.mono HB_40.out.size))
    have vw_43 := Lib.hid (own_below vw_40.out l42 (Nat.le_refl _))
    clear vw_40
    have vg_43 := Lib.hid (own_below vg_40.out l42 (Nat.le_refl _))
    clear vg_40
    have t_43 := Lib.hid (own_below O_t.out l42 (Nat.le_refl _))
    clear O_t
    have AW_43 := Lib.hid (AW_40.out.below l42 AW_40.out.lt)
    clear AW_40
    clear l42
    have c44_AW_0 := AW_43.out.at 0 (v := .int .i64 z0.t) rfl
    have c44_AW_1 := AW_43.out.at 1 (v := .int .i64 z0.z) rfl
    have c44_AW_2 := AW_43.out.at 2 (v := .slice p0 z0.q.length cap0) rfl
    go_wp2_with fail
    refine (eqIntS_any _ _ ps0 ps0 _ (row_own O_vh.out) (row_own vw_43.out)).mono ?_
    rintro e W45 ⟨rfl, kq, hkq⟩
    have l45 : Below W42.heap.size W42 W45 := by rw [hkq]; exact bdrew _ _
    clear hkq
    clear c44_AW_0 c44_AW_1 c44_AW_2
    have HB_46 := Lib.hid (HB_43.out.trans (l45.mono HB_43.out.size))
    have vw_46 := Lib.hid (own_below vw_43.out l45 (Nat.le_refl _))
    clear vw_43
    have vg_46 := Lib.hid (own_below vg_43.out l45 (Nat.le_refl _))
    clear vg_43
    have t_46 := Lib.hid (own_below t_43.out l45 (Nat.le_refl _))
    clear t_43
    have vh_46 := Lib.hid (own_below O_vh.out l45 (Nat.le_refl _))
    clear O_vh
    have AW_46 := Lib.hid (AW_43.out.below l45 AW_43.out.lt)
    clear AW_43
    clear l45
    have c47_AW_0 := AW_46.out.at 0 (v := .int .i64 z0.t) rfl
    have c47_AW_1 := AW_46.out.at 1 (v := .int .i64 z0.z) rfl
    have c47_AW_2 := AW_46.out.at 2 (v := .slice p0 z0.q.length cap0) rfl
    go_wp2_with fail
    refine (heldI_own _ ps0.length 1 _ _ vg_46.out (by have := HL0.out; have := HN0.out; omega)).mono ?_
    rintro e _ ⟨rfl, rfl⟩
    go_wp2_with fail
    go_ret
    exact ⟨rfl, HB_46.out⟩
theorem fnExactHeldSerials_walk (w : World) (a0_0 : Int) (w0_0 : (Lit.int .i64 a0_0).wf = true) (a0_1 : Int) (w0_1 : (Lit.int .i64 a0_1).wf = true) (v0_2 : Value) (s0_2 : List ByteArray) (w0_2 : Row w v0_2 s0_2.length (s0_2.map Value.string)) (b0_2 : ∀ s ∈ s0_2, s.size ≤ maxLen) (_hsh : w.ShapedOpen Try.prog) :
    Calls Try.prog 13 #[.agg #[.int .i64 a0_0, .int .i64 a0_1, v0_2]] w fun e w' => e = .returned (.bool true) ∧ Below w.heap.size w w' :=
  fnExactHeldSerials_wk v0_2 ⟨a0_0, a0_1, s0_2⟩ w w0_2 b0_2 
end Go.Proofs.Ytkijfneaglogmaa
