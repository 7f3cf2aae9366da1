/-
  The exact law of items that are pushed.
-/
import Derived.Test.YtkijfneaglogmaaSndI3
import Derived.Test.YtkijfneaglogmaaSndS
import Derived.Test.YtkijfneaglogmaaSnd6
import Derived.Test.YtkijfneaglogmaaPkt5
import Derived.WalkLawsBesides
import Derived.Deep.RegionHeld3
import Derived.Deep.CutRange
namespace Go.Proofs.Ytkijfneaglogmaa
open Go.RowKit Go.Lib Go.Joins
set_option linter.unusedVariables false

set_option maxRecDepth 100000 in
set_option maxHeartbeats 8000000 in
theorem fnExactPushItem_wk (v0 : Value) (z0 : Sw) (w : World) (w0 : Row w v0 z0.q.length (z0.q.map Value.string)) (b0 : ∀ s ∈ z0.q, s.size ≤ maxLen) (a1 : ByteArray) (w1 : a1.size ≤ maxLen) :
    Calls Try.prog 7 #[.agg #[.int .i64 z0.t, .int .i64 z0.z, v0], .string a1] w fun e w' => e = .returned (.bool true) ∧ Below w.heap.size w w' := by
  obtain ⟨p0, cap0, rfl, hc10, hc20, _⟩ := row_open w0
  unfold maxLen at hc20
  have HR0 := Lib.hid w0
  have HSz := Lib.hid (fun (W : World) (hr : Row W (.slice p0 z0.q.length cap0) z0.q.length (z0.q.map Value.string)) => szSw_any (.slice p0 z0.q.length cap0) z0 W hr b0 1048576 (by omega))
  have HSm := Lib.hid b0
  clear w0 b0
  have hm1 := w1
  unfold maxLen at hm1
  obtain ⟨W0, R_AW, hW0, hR_AW, hX_AW, hB0⟩ := entry1 w #[.int .i64 z0.t, .int .i64 z0.z, .slice p0 z0.q.length cap0] 58
  have HW0 := Lib.hid hW0
  have HB0 := Lib.hid hB0
  have HR_AW := Lib.hid hR_AW
  have HX_AW := Lib.hid hX_AW
  clear hW0 hB0 hR_AW hX_AW
  by_cases hn1 : a1.size ≤ 1048576
  rotate_left
  · have hn1' : (1048576 : Int) < (a1.size : Int) := by omega
    go_enter Try.func7, Try.ntmps7
    go_upto_region 1 with fail
    rw [← HW0.out, ← HR_AW.out]
    go_wp2_with fail
    go_ret
    exact ⟨rfl, HB0.out⟩
  have hn1' : ¬ (1048576 : Int) < (a1.size : Int) := by omega
  have c1_AW_0 := HX_AW.out.at 0 (v := .int .i64 z0.t) rfl
  have c1_AW_1 := HX_AW.out.at 1 (v := .int .i64 z0.z) rfl
  have c1_AW_2 := HX_AW.out.at 2 (v := .slice p0 z0.q.length cap0) rfl
  go_enter Try.func7, Try.ntmps7
  go_upto_region 1 with fail
  rw [← HW0.out, ← HR_AW.out]
  go_wp2_with fail
  refine (HSz.out _ (HR0.out.below HB0.out (Nat.le_refl _))).mono ?_
  rintro e W2 ⟨l2, r0, rfl, hr1, hr0⟩
  clear c1_AW_0 c1_AW_1 c1_AW_2
  have HB_3 := Lib.hid (HB0.out.trans (l2.mono HB0.out.size))
  have AW_3 := Lib.hid (HX_AW.out.below l2 HX_AW.out.lt)
  clear l2
  have c4_AW_0 := AW_3.out.at 0 (v := .int .i64 z0.t) rfl
  have c4_AW_1 := AW_3.out.at 1 (v := .int .i64 z0.z) rfl
  have c4_AW_2 := AW_3.out.at 2 (v := .slice p0 z0.q.length cap0) rfl
  by_cases hneg : r0 < 0
  · clear hr0
    go_wp2_with fail
    go_ret
    exact ⟨rfl, HB_3.out⟩
  obtain ⟨hm0, hs0, hr00⟩ := hr0.resolve_left hneg
  have HN0 := Lib.hid hm0
  clear hr0 hs0 HSz
  have HSp := Lib.hid (fun (v : Value) (W : World) (hr : Row W v z0.q.length (z0.q.map Value.string)) (hf : FitA v z0.q.length) => specPush_any v z0 a1 W hr HSm.out w1 hf)
  have HIm := Lib.hid (fun (v : Value) (W : World) (hr : Row W v z0.q.length (z0.q.map Value.string)) (hf : FitA v z0.q.length) => implPush_any v z0 a1 W hr HSm.out w1 hf)
  have hlen0 := pushV_len z0 a1 hm0
  generalize pushV z0 a1 = ps0 at HSp HIm hlen0
  have HL0 := Lib.hid hlen0
  clear hlen0
  generalize pushP z0 a1 = ps1 at HSp HIm
  generalize pushOk z0 a1 = r0_ at HSp HIm
  clear hm0
  go_wp2_with fail
  refine (toSw_lit _ z0 _ (HR0.out.below HB_3.out (Nat.le_refl _)) HN0.out).mono ?_
  rintro e W5 ⟨g_s, rfl, o_s, l5⟩
  have O_s := Lib.hid (own_base o_s HB_3.out.size)
  have BX_AW_s : Hid (∀ k, (.slice (some ⟨g_s, 0, none⟩) z0.q.length z0.q.length : Value).ownBlock = some k → k ≠ R_AW) := Lib.hid (fun k h1 h2 => absurd AW_3.out.lt (Nat.not_lt.2 (by rw [← h2]; exact (o_s.lt k h1).1)))
  clear o_s
  clear c4_AW_0 c4_AW_1 c4_AW_2
  have HB_6 := Lib.hid (HB_3.out.trans (l5.mono HB_3.out.size))
  have AW_6 := Lib.hid (AW_3.out.below l5 AW_3.out.lt)
  clear AW_3
  clear l5
  have c7_AW_0 := AW_6.out.at 0 (v := .int .i64 z0.t) rfl
  have c7_AW_1 := AW_6.out.at 1 (v := .int .i64 z0.z) rfl
  have c7_AW_2 := AW_6.out.at 2 (v := .slice p0 z0.q.length cap0) rfl
  go_wp2_with fail
  refine (HSp.out _ _ (row_own O_s.out) (fitA_some _ _)).mono ?_
  rintro e W8 ⟨v_vw, rfl, o_vw, l8⟩
  obtain ⟨a_vw, c_vw, rfl, _, _⟩ := own_someS0 o_vw
  have AP_s_vw : Hid (∀ k, (.slice (some ⟨g_s, 0, none⟩) z0.q.length z0.q.length : Value).ownBlock = some k → (.slice a_vw ps0.q.length c_vw : Value).ownBlock ≠ some k) := Lib.hid (fun k h1 h2 => absurd (O_s.out.lt k h1).2 (Nat.not_lt.2 (o_vw.lt k h2).1))
  have O_vw := Lib.hid (own_base o_vw HB_6.out.size)
  have BX_AW_vw : Hid (∀ k, (.slice a_vw ps0.q.length c_vw : Value).ownBlock = some k → k ≠ R_AW) := Lib.hid (fun k h1 h2 => absurd AW_6.out.lt (Nat.not_lt.2 (by rw [← h2]; exact (o_vw.lt k h1).1)))
  clear o_vw
  clear c7_AW_0 c7_AW_1 c7_AW_2
  have HB_9 := Lib.hid (HB_6.out.trans (l8.mono HB_6.out.size))
  have s_9 := Lib.hid (own_below O_s.out l8 (Nat.le_refl _))
  clear O_s
  have AW_9 := Lib.hid (AW_6.out.below l8 AW_6.out.lt)
  clear AW_6
  clear l8
  have c10_AW_0 := AW_9.out.at 0 (v := .int .i64 z0.t) rfl
  have c10_AW_1 := AW_9.out.at 1 (v := .int .i64 z0.z) rfl
  have c10_AW_2 := AW_9.out.at 2 (v := .slice p0 z0.q.length cap0) rfl
  go_upto_region 8 with fail
  obtain ⟨W11, hW11⟩ : ∃ W11, W11 = (W8.alloc (.cells #[.int .i64 ps0.t, .int .i64 ps0.z, .slice a_vw ps0.q.length c_vw] 26)).alloc (.cells #[.int .i64 ps1.k, .int .i64 ps1.n, .int .i64 ps1.t, .int .i64 ps1.l, .string ps1.d] 30) := ⟨_, rfl⟩
  have l11 : Below W8.heap.size W8 W11 := by rw [hW11]; exact ((Below.refl _ _).alloc (Nat.le_refl _) _).alloc (by simp) _
  have X11_vwB0 : Hid (Bx W11 W8.heap.size #[.int .i64 ps0.t, .int .i64 ps0.z, .slice a_vw ps0.q.length c_vw] 26) := Lib.hid (by rw [hW11]; exact (Bx.new2 _ _ _ _ _).1)
  have X11_vwB1 : Hid (Bx W11 (W8.heap.size + 1) #[.int .i64 ps1.k, .int .i64 ps1.n, .int .i64 ps1.t, .int .i64 ps1.l, .string ps1.d] 30) := Lib.hid (by rw [hW11]; exact (Bx.new2 _ _ _ _ _).2)
  rw [← hW11]
  clear hW11
  have BX_vwB0_s : Hid (∀ k, (.slice (some ⟨g_s, 0, none⟩) z0.q.length z0.q.length : Value).ownBlock = some k → k ≠ W8.heap.size) := Lib.hid (fun k h1 h2 => absurd (s_9.out.lt k h1).2 (by omega))
  have BX_vwB0_vw : Hid (∀ k, (.slice a_vw ps0.q.length c_vw : Value).ownBlock = some k → k ≠ W8.heap.size) := Lib.hid (fun k h1 h2 => absurd (O_vw.out.lt k h1).2 (by omega))
  have HG_vwB0 : Hid (w.heap.size ≤ W8.heap.size) := Lib.hid (HB_9.out.size)
  have HN_vwB0_AW : Hid (R_AW < W8.heap.size) := Lib.hid (AW_9.out.lt)
  have BX_vwB1_s : Hid (∀ k, (.slice (some ⟨g_s, 0, none⟩) z0.q.length z0.q.length : Value).ownBlock = some k → k ≠ (W8.heap.size + 1)) := Lib.hid (fun k h1 h2 => absurd (s_9.out.lt k h1).2 (by omega))
  have BX_vwB1_vw : Hid (∀ k, (.slice a_vw ps0.q.length c_vw : Value).ownBlock = some k → k ≠ (W8.heap.size + 1)) := Lib.hid (fun k h1 h2 => absurd (O_vw.out.lt k h1).2 (by omega))
  have HG_vwB1 : Hid (w.heap.size ≤ (W8.heap.size + 1)) := Lib.hid (Nat.le_succ_of_le HB_9.out.size)
  have HN_vwB1_AW : Hid (R_AW < (W8.heap.size + 1)) := Lib.hid (Nat.lt_succ_of_lt AW_9.out.lt)
  have HN_vwB1_vwB0 : Hid (W8.heap.size < W8.heap.size + 1) := Lib.hid (Nat.lt_succ_self _)
  obtain ⟨R_vwB1, hR_vwB1⟩ : ∃ X, X = W8.heap.size + 1 := ⟨_, rfl⟩
  rw [← hR_vwB1] at X11_vwB1 HG_vwB1 HN_vwB1_vwB0 BX_vwB1_s BX_vwB1_vw HN_vwB1_AW ⊢
  clear hR_vwB1
  obtain ⟨R_vwB0, hR_vwB0⟩ : ∃ X, X = W8.heap.size := ⟨_, rfl⟩
  rw [← hR_vwB0] at X11_vwB0 HG_vwB0 HN_vwB1_vwB0 BX_vwB0_s BX_vwB0_vw HN_vwB0_AW ⊢
  clear hR_vwB0
  clear c10_AW_0 c10_AW_1 c10_AW_2
  have HB_12 := Lib.hid (HB_9.out.trans (l11.mono HB_9.out.size))
  have s_12 := Lib.hid (own_below s_9.out l11 (Nat.le_refl _))
  clear s_9
  have vw_12 := Lib.hid (own_below O_vw.out l11 (Nat.le_refl _))
  clear O_vw
  have AW_12 := Lib.hid (AW_9.out.below l11 AW_9.out.lt)
  clear AW_9
  clear l11
  have c13_AW_0 := AW_12.out.at 0 (v := .int .i64 z0.t) rfl
  have c13_AW_1 := AW_12.out.at 1 (v := .int .i64 z0.z) rfl
  have c13_AW_2 := AW_12.out.at 2 (v := .slice p0 z0.q.length cap0) rfl
  have c14_vwB0_0 := X11_vwB0.out.at 0 (v := .int .i64 ps0.t) rfl
  have c14_vwB0_1 := X11_vwB0.out.at 1 (v := .int .i64 ps0.z) rfl
  have c14_vwB0_2 := X11_vwB0.out.at 2 (v := .slice a_vw ps0.q.length c_vw) rfl
  have c15_vwB1_0 := X11_vwB1.out.at 0 (v := .int .i64 ps1.k) rfl
  have c15_vwB1_1 := X11_vwB1.out.at 1 (v := .int .i64 ps1.n) rfl
  have c15_vwB1_2 := X11_vwB1.out.at 2 (v := .int .i64 ps1.t) rfl
  have c15_vwB1_3 := X11_vwB1.out.at 3 (v := .int .i64 ps1.l) rfl
  have c15_vwB1_4 := X11_vwB1.out.at 4 (v := .string ps1.d) rfl
  clear s_12
  go_wp2_with fail
  refine (toSw_lit _ z0 _ (HR0.out.below HB_12.out (Nat.le_refl _)) HN0.out).mono ?_
  rintro e W16 ⟨g_x, rfl, o_x, l16⟩
  have AP_vw_x : Hid (∀ k, (.slice a_vw ps0.q.length c_vw : Value).ownBlock = some k → (.slice (some ⟨g_x, 0, none⟩) z0.q.length z0.q.length : Value).ownBlock ≠ some k) := Lib.hid (fun k h1 h2 => absurd (vw_12.out.lt k h1).2 (Nat.not_lt.2 (o_x.lt k h2).1))
  have O_x := Lib.hid (own_base o_x HB_12.out.size)
  have BX_AW_x : Hid (∀ k, (.slice (some ⟨g_x, 0, none⟩) z0.q.length z0.q.length : Value).ownBlock = some k → k ≠ R_AW) := Lib.hid (fun k h1 h2 => absurd AW_12.out.lt (Nat.not_lt.2 (by rw [← h2]; exact (o_x.lt k h1).1)))
  have BX_vwB0_x : Hid (∀ k, (.slice (some ⟨g_x, 0, none⟩) z0.q.length z0.q.length : Value).ownBlock = some k → k ≠ R_vwB0) := Lib.hid (fun k h1 h2 => absurd X11_vwB0.out.lt (Nat.not_lt.2 (by rw [← h2]; exact (o_x.lt k h1).1)))
  have BX_vwB1_x : Hid (∀ k, (.slice (some ⟨g_x, 0, none⟩) z0.q.length z0.q.length : Value).ownBlock = some k → k ≠ R_vwB1) := Lib.hid (fun k h1 h2 => absurd X11_vwB1.out.lt (Nat.not_lt.2 (by rw [← h2]; exact (o_x.lt k h1).1)))
  clear o_x
  clear c13_AW_0 c13_AW_1 c13_AW_2
  clear c14_vwB0_0 c14_vwB0_1 c14_vwB0_2
  clear c15_vwB1_0 c15_vwB1_1 c15_vwB1_2 c15_vwB1_3 c15_vwB1_4
  have HB_17 := Lib.hid (HB_12.out.trans (l16.mono HB_12.out.size))
  have vw_17 := Lib.hid (own_below vw_12.out l16 (Nat.le_refl _))
  clear vw_12
  have AW_17 := Lib.hid (AW_12.out.below l16 AW_12.out.lt)
  clear AW_12
  have vwB0_17 := Lib.hid (X11_vwB0.out.below l16 X11_vwB0.out.lt)
  clear X11_vwB0
  have vwB1_17 := Lib.hid (X11_vwB1.out.below l16 X11_vwB1.out.lt)
  clear X11_vwB1
  clear l16
  have c18_AW_0 := AW_17.out.at 0 (v := .int .i64 z0.t) rfl
  have c18_AW_1 := AW_17.out.at 1 (v := .int .i64 z0.z) rfl
  have c18_AW_2 := AW_17.out.at 2 (v := .slice p0 z0.q.length cap0) rfl
  have c19_vwB0_0 := vwB0_17.out.at 0 (v := .int .i64 ps0.t) rfl
  have c19_vwB0_1 := vwB0_17.out.at 1 (v := .int .i64 ps0.z) rfl
  have c19_vwB0_2 := vwB0_17.out.at 2 (v := .slice a_vw ps0.q.length c_vw) rfl
  have c20_vwB1_0 := vwB1_17.out.at 0 (v := .int .i64 ps1.k) rfl
  have c20_vwB1_1 := vwB1_17.out.at 1 (v := .int .i64 ps1.n) rfl
  have c20_vwB1_2 := vwB1_17.out.at 2 (v := .int .i64 ps1.t) rfl
  have c20_vwB1_3 := vwB1_17.out.at 3 (v := .int .i64 ps1.l) rfl
  have c20_vwB1_4 := vwB1_17.out.at 4 (v := .string ps1.d) rfl
  go_upto_region 9 with fail
  obtain ⟨W21, hW21⟩ : ∃ W21, W21 = W16.alloc (.cells #[.int .i64 z0.t, .int .i64 z0.z, .slice (some ⟨g_x, 0, none⟩) z0.q.length z0.q.length] 26) := ⟨_, rfl⟩
  have l21 : Below W16.heap.size W16 W21 := by rw [hW21]; exact (Below.refl _ _).alloc (Nat.le_refl _) _
  have X21_X : Hid (Bx W21 W16.heap.size #[.int .i64 z0.t, .int .i64 z0.z, .slice (some ⟨g_x, 0, none⟩) z0.q.length z0.q.length] 26) := Lib.hid (by rw [hW21]; exact Bx.new _ _ _)
  rw [← hW21]
  clear hW21
  have BX_X_vw : Hid (∀ k, (.slice a_vw ps0.q.length c_vw : Value).ownBlock = some k → k ≠ W16.heap.size) := Lib.hid (fun k h1 h2 => absurd (vw_17.out.lt k h1).2 (by omega))
  have BX_X_x : Hid (∀ k, (.slice (some ⟨g_x, 0, none⟩) z0.q.length z0.q.length : Value).ownBlock = some k → k ≠ W16.heap.size) := Lib.hid (fun k h1 h2 => absurd (O_x.out.lt k h1).2 (by omega))
  have HG_X : Hid (w.heap.size ≤ W16.heap.size) := Lib.hid HB_17.out.size
  have HN_X_AW : Hid (R_AW < W16.heap.size) := Lib.hid AW_17.out.lt
  have HN_X_vwB0 : Hid (R_vwB0 < W16.heap.size) := Lib.hid vwB0_17.out.lt
  have HN_X_vwB1 : Hid (R_vwB1 < W16.heap.size) := Lib.hid vwB1_17.out.lt
  obtain ⟨R_X, hR_X⟩ : ∃ X, X = W16.heap.size := ⟨_, rfl⟩
  rw [← hR_X] at X21_X HG_X BX_X_vw BX_X_x HN_X_AW HN_X_vwB0 HN_X_vwB1 ⊢
  clear hR_X
  clear c18_AW_0 c18_AW_1 c18_AW_2
  clear c19_vwB0_0 c19_vwB0_1 c19_vwB0_2
  clear c20_vwB1_0 c20_vwB1_1 c20_vwB1_2 c20_vwB1_3 c20_vwB1_4
  have HB_22 := Lib.hid (HB_17.out.trans (l21.mono HB_17.out.size))
  have vw_22 := Lib.hid (own_below vw_17.out l21 (Nat.le_refl _))
  clear vw_17
  have x_22 := Lib.hid (own_below O_x.out l21 (Nat.le_refl _))
  clear O_x
  have AW_22 := Lib.hid (AW_17.out.below l21 AW_17.out.lt)
  clear AW_17
  have vwB0_22 := Lib.hid (vwB0_17.out.below l21 vwB0_17.out.lt)
  clear vwB0_17
  have vwB1_22 := Lib.hid (vwB1_17.out.below l21 vwB1_17.out.lt)
  clear vwB1_17
  clear l21
  have c23_AW_0 := AW_22.out.at 0 (v := .int .i64 z0.t) rfl
  have c23_AW_1 := AW_22.out.at 1 (v := .int .i64 z0.z) rfl
  have c23_AW_2 := AW_22.out.at 2 (v := .slice p0 z0.q.length cap0) rfl
  have c24_vwB0_0 := vwB0_22.out.at 0 (v := .int .i64 ps0.t) rfl
  have c24_vwB0_1 := vwB0_22.out.at 1 (v := .int .i64 ps0.z) rfl
  have c24_vwB0_2 := vwB0_22.out.at 2 (v := .slice a_vw ps0.q.length c_vw) rfl
  have c25_vwB1_0 := vwB1_22.out.at 0 (v := .int .i64 ps1.k) rfl
  have c25_vwB1_1 := vwB1_22.out.at 1 (v := .int .i64 ps1.n) rfl
  have c25_vwB1_2 := vwB1_22.out.at 2 (v := .int .i64 ps1.t) rfl
  have c25_vwB1_3 := vwB1_22.out.at 3 (v := .int .i64 ps1.l) rfl
  have c25_vwB1_4 := vwB1_22.out.at 4 (v := .string ps1.d) rfl
  have c26_X_0 := X21_X.out.at 0 (v := .int .i64 z0.t) rfl
  have c26_X_1 := X21_X.out.at 1 (v := .int .i64 z0.z) rfl
  have c26_X_2 := X21_X.out.at 2 (v := .slice (some ⟨g_x, 0, none⟩) z0.q.length z0.q.length) rfl
  go_wp2_with fail
  refine (HIm.out _ _ (row_own x_22.out) (fitA_some _ _)).mono ?_
  rintro e W27 ⟨v_vg, rfl, o_vg, l27⟩
  obtain ⟨a_vg, c_vg, rfl, _, _⟩ := own_someS0 o_vg
  have AP_vw_vg : Hid (∀ k, (.slice a_vw ps0.q.length c_vw : Value).ownBlock = some k → (.slice a_vg ps0.q.length c_vg : Value).ownBlock ≠ some k) := Lib.hid (fun k h1 h2 => absurd (vw_22.out.lt k h1).2 (Nat.not_lt.2 (o_vg.lt k h2).1))
  have AP_x_vg : Hid (∀ k, (.slice (some ⟨g_x, 0, none⟩) z0.q.length z0.q.length : Value).ownBlock = some k → (.slice a_vg ps0.q.length c_vg : Value).ownBlock ≠ some k) := Lib.hid (fun k h1 h2 => absurd (x_22.out.lt k h1).2 (Nat.not_lt.2 (o_vg.lt k h2).1))
  have O_vg := Lib.hid (own_base o_vg HB_22.out.size)
  have BX_AW_vg : Hid (∀ k, (.slice a_vg ps0.q.length c_vg : Value).ownBlock = some k → k ≠ R_AW) := Lib.hid (fun k h1 h2 => absurd AW_22.out.lt (Nat.not_lt.2 (by rw [← h2]; exact (o_vg.lt k h1).1)))
  have BX_vwB0_vg : Hid (∀ k, (.slice a_vg ps0.q.length c_vg : Value).ownBlock = some k → k ≠ R_vwB0) := Lib.hid (fun k h1 h2 => absurd vwB0_22.out.lt (Nat.not_lt.2 (by rw [← h2]; exact (o_vg.lt k h1).1)))
  have BX_vwB1_vg : Hid (∀ k, (.slice a_vg ps0.q.length c_vg : Value).ownBlock = some k → k ≠ R_vwB1) := Lib.hid (fun k h1 h2 => absurd vwB1_22.out.lt (Nat.not_lt.2 (by rw [← h2]; exact (o_vg.lt k h1).1)))
  have BX_X_vg : Hid (∀ k, (.slice a_vg ps0.q.length c_vg : Value).ownBlock = some k → k ≠ R_X) := Lib.hid (fun k h1 h2 => absurd X21_X.out.lt (Nat.not_lt.2 (by rw [← h2]; exact (o_vg.lt k h1).1)))
  clear o_vg
  clear c23_AW_0 c23_AW_1 c23_AW_2
  clear c24_vwB0_0 c24_vwB0_1 c24_vwB0_2
  clear c25_vwB1_0 c25_vwB1_1 c25_vwB1_2 c25_vwB1_3 c25_vwB1_4
  clear c26_X_0 c26_X_1 c26_X_2
  have HB_28 := Lib.hid (HB_22.out.trans (l27.mono HB_22.out.size))
  have vw_28 := Lib.hid (own_below vw_22.out l27 (Nat.le_refl _))
  clear vw_22
  have x_28 := Lib.hid (own_below x_22.out l27 (Nat.le_refl _))
  clear x_22
  have AW_28 := Lib.hid (AW_22.out.below l27 AW_22.out.lt)
  clear AW_22
  have vwB0_28 := Lib.hid (vwB0_22.out.below l27 vwB0_22.out.lt)
  clear vwB0_22
  have vwB1_28 := Lib.hid (vwB1_22.out.below l27 vwB1_22.out.lt)
  clear vwB1_22
  have X_28 := Lib.hid (X21_X.out.below l27 X21_X.out.lt)
  clear X21_X
  clear l27
  have c29_AW_0 := AW_28.out.at 0 (v := .int .i64 z0.t) rfl
  have c29_AW_1 := AW_28.out.at 1 (v := .int .i64 z0.z) rfl
  have c29_AW_2 := AW_28.out.at 2 (v := .slice p0 z0.q.length cap0) rfl
  have c30_vwB0_0 := vwB0_28.out.at 0 (v := .int .i64 ps0.t) rfl
  have c30_vwB0_1 := vwB0_28.out.at 1 (v := .int .i64 ps0.z) rfl
  have c30_vwB0_2 := vwB0_28.out.at 2 (v := .slice a_vw ps0.q.length c_vw) rfl
  have c31_vwB1_0 := vwB1_28.out.at 0 (v := .int .i64 ps1.k) rfl
  have c31_vwB1_1 := vwB1_28.out.at 1 (v := .int .i64 ps1.n) rfl
  have c31_vwB1_2 := vwB1_28.out.at 2 (v := .int .i64 ps1.t) rfl
  have c31_vwB1_3 := vwB1_28.out.at 3 (v := .int .i64 ps1.l) rfl
  have c31_vwB1_4 := vwB1_28.out.at 4 (v := .string ps1.d) rfl
  have c32_X_0 := X_28.out.at 0 (v := .int .i64 z0.t) rfl
  have c32_X_1 := X_28.out.at 1 (v := .int .i64 z0.z) rfl
  have c32_X_2 := X_28.out.at 2 (v := .slice (some ⟨g_x, 0, none⟩) z0.q.length z0.q.length) rfl
  go_upto_region 10 with fail
  obtain ⟨W33, hW33⟩ : ∃ W33, W33 = (W27.alloc (.cells #[.int .i64 ps0.t, .int .i64 ps0.z, .slice a_vg ps0.q.length c_vg] 26)).alloc (.cells #[.int .i64 ps1.k, .int .i64 ps1.n, .int .i64 ps1.t, .int .i64 ps1.l, .string ps1.d] 30) := ⟨_, rfl⟩
  have l33 : Below W27.heap.size W27 W33 := by rw [hW33]; exact ((Below.refl _ _).alloc (Nat.le_refl _) _).alloc (by simp) _
  have X33_vgB0 : Hid (Bx W33 W27.heap.size #[.int .i64 ps0.t, .int .i64 ps0.z, .slice a_vg ps0.q.length c_vg] 26) := Lib.hid (by rw [hW33]; exact (Bx.new2 _ _ _ _ _).1)
  have X33_vgB1 : Hid (Bx W33 (W27.heap.size + 1) #[.int .i64 ps1.k, .int .i64 ps1.n, .int .i64 ps1.t, .int .i64 ps1.l, .string ps1.d] 30) := Lib.hid (by rw [hW33]; exact (Bx.new2 _ _ _ _ _).2)
  rw [← hW33]
  clear hW33
  have BX_vgB0_vw : Hid (∀ k, (.slice a_vw ps0.q.length c_vw : Value).ownBlock = some k → k ≠ W27.heap.size) := Lib.hid (fun k h1 h2 => absurd (vw_28.out.lt k h1).2 (by omega))
  have BX_vgB0_x : Hid (∀ k, (.slice (some ⟨g_x, 0, none⟩) z0.q.length z0.q.length : Value).ownBlock = some k → k ≠ W27.heap.size) := Lib.hid (fun k h1 h2 => absurd (x_28.out.lt k h1).2 (by omega))
  have BX_vgB0_vg : Hid (∀ k, (.slice a_vg ps0.q.length c_vg : Value).ownBlock = some k → k ≠ W27.heap.size) := Lib.hid (fun k h1 h2 => absurd (O_vg.out.lt k h1).2 (by omega))
  have HG_vgB0 : Hid (w.heap.size ≤ W27.heap.size) := Lib.hid (HB_28.out.size)
  have HN_vgB0_AW : Hid (R_AW < W27.heap.size) := Lib.hid (AW_28.out.lt)
  have HN_vgB0_vwB0 : Hid (R_vwB0 < W27.heap.size) := Lib.hid (vwB0_28.out.lt)
  have HN_vgB0_vwB1 : Hid (R_vwB1 < W27.heap.size) := Lib.hid (vwB1_28.out.lt)
  have HN_vgB0_X : Hid (R_X < W27.heap.size) := Lib.hid (X_28.out.lt)
  have BX_vgB1_vw : Hid (∀ k, (.slice a_vw ps0.q.length c_vw : Value).ownBlock = some k → k ≠ (W27.heap.size + 1)) := Lib.hid (fun k h1 h2 => absurd (vw_28.out.lt k h1).2 (by omega))
  have BX_vgB1_x : Hid (∀ k, (.slice (some ⟨g_x, 0, none⟩) z0.q.length z0.q.length : Value).ownBlock = some k → k ≠ (W27.heap.size + 1)) := Lib.hid (fun k h1 h2 => absurd (x_28.out.lt k h1).2 (by omega))
  have BX_vgB1_vg : Hid (∀ k, (.slice a_vg ps0.q.length c_vg : Value).ownBlock = some k → k ≠ (W27.heap.size + 1)) := Lib.hid (fun k h1 h2 => absurd (O_vg.out.lt k h1).2 (by omega))
  have HG_vgB1 : Hid (w.heap.size ≤ (W27.heap.size + 1)) := Lib.hid (Nat.le_succ_of_le HB_28.out.size)
  have HN_vgB1_AW : Hid (R_AW < (W27.heap.size + 1)) := Lib.hid (Nat.lt_succ_of_lt AW_28.out.lt)
  have HN_vgB1_vwB0 : Hid (R_vwB0 < (W27.heap.size + 1)) := Lib.hid (Nat.lt_succ_of_lt vwB0_28.out.lt)
  have HN_vgB1_vwB1 : Hid (R_vwB1 < (W27.heap.size + 1)) := Lib.hid (Nat.lt_succ_of_lt vwB1_28.out.lt)
  have HN_vgB1_X : Hid (R_X < (W27.heap.size + 1)) := Lib.hid (Nat.lt_succ_of_lt X_28.out.lt)
  have HN_vgB1_vgB0 : Hid (W27.heap.size < W27.heap.size + 1) := Lib.hid (Nat.lt_succ_self _)
  obtain ⟨R_vgB1, hR_vgB1⟩ : ∃ X, X = W27.heap.size + 1 := ⟨_, rfl⟩
  rw [← hR_vgB1] at X33_vgB1 HG_vgB1 HN_vgB1_vgB0 BX_vgB1_vw BX_vgB1_x BX_vgB1_vg HN_vgB1_AW HN_vgB1_vwB0 HN_vgB1_vwB1 HN_vgB1_X ⊢
  clear hR_vgB1
  obtain ⟨R_vgB0, hR_vgB0⟩ : ∃ X, X = W27.heap.size := ⟨_, rfl⟩
  rw [← hR_vgB0] at X33_vgB0 HG_vgB0 HN_vgB1_vgB0 BX_vgB0_vw BX_vgB0_x BX_vgB0_vg HN_vgB0_AW HN_vgB0_vwB0 HN_vgB0_vwB1 HN_vgB0_X ⊢
  clear hR_vgB0
  clear c29_AW_0 c29_AW_1 c29_AW_2
  clear c30_vwB0_0 c30_vwB0_1 c30_vwB0_2
  clear c31_vwB1_0 c31_vwB1_1 c31_vwB1_2 c31_vwB1_3 c31_vwB1_4
  clear c32_X_0 c32_X_1 c32_X_2
  have HB_34 := Lib.hid (HB_28.out.trans (l33.mono HB_28.out.size))
  have vw_34 := Lib.hid (own_below vw_28.out l33 (Nat.le_refl _))
  clear vw_28
  have x_34 := Lib.hid (own_below x_28.out l33 (Nat.le_refl _))
  clear x_28
  have vg_34 := Lib.hid (own_below O_vg.out l33 (Nat.le_refl _))
  clear O_vg
  have AW_34 := Lib.hid (AW_28.out.below l33 AW_28.out.lt)
  clear AW_28
  have vwB0_34 := Lib.hid (vwB0_28.out.below l33 vwB0_28.out.lt)
  clear vwB0_28
  have vwB1_34 := Lib.hid (vwB1_28.out.below l33 vwB1_28.out.lt)
  clear vwB1_28
  have X_34 := Lib.hid (X_28.out.below l33 X_28.out.lt)
  clear X_28
  clear l33
  have c35_AW_0 := AW_34.out.at 0 (v := .int .i64 z0.t) rfl
  have c35_AW_1 := AW_34.out.at 1 (v := .int .i64 z0.z) rfl
  have c35_AW_2 := AW_34.out.at 2 (v := .slice p0 z0.q.length cap0) rfl
  have c36_vwB0_0 := vwB0_34.out.at 0 (v := .int .i64 ps0.t) rfl
  have c36_vwB0_1 := vwB0_34.out.at 1 (v := .int .i64 ps0.z) rfl
  have c36_vwB0_2 := vwB0_34.out.at 2 (v := .slice a_vw ps0.q.length c_vw) rfl
  have c37_vwB1_0 := vwB1_34.out.at 0 (v := .int .i64 ps1.k) rfl
  have c37_vwB1_1 := vwB1_34.out.at 1 (v := .int .i64 ps1.n) rfl
  have c37_vwB1_2 := vwB1_34.out.at 2 (v := .int .i64 ps1.t) rfl
  have c37_vwB1_3 := vwB1_34.out.at 3 (v := .int .i64 ps1.l) rfl
  have c37_vwB1_4 := vwB1_34.out.at 4 (v := .string ps1.d) rfl
  have c38_X_0 := X_34.out.at 0 (v := .int .i64 z0.t) rfl
  have c38_X_1 := X_34.out.at 1 (v := .int .i64 z0.z) rfl
  have c38_X_2 := X_34.out.at 2 (v := .slice (some ⟨g_x, 0, none⟩) z0.q.length z0.q.length) rfl
  have c39_vgB0_0 := X33_vgB0.out.at 0 (v := .int .i64 ps0.t) rfl
  have c39_vgB0_1 := X33_vgB0.out.at 1 (v := .int .i64 ps0.z) rfl
  have c39_vgB0_2 := X33_vgB0.out.at 2 (v := .slice a_vg ps0.q.length c_vg) rfl
  have c40_vgB1_0 := X33_vgB1.out.at 0 (v := .int .i64 ps1.k) rfl
  have c40_vgB1_1 := X33_vgB1.out.at 1 (v := .int .i64 ps1.n) rfl
  have c40_vgB1_2 := X33_vgB1.out.at 2 (v := .int .i64 ps1.t) rfl
  have c40_vgB1_3 := X33_vgB1.out.at 3 (v := .int .i64 ps1.l) rfl
  have c40_vgB1_4 := X33_vgB1.out.at 4 (v := .string ps1.d) rfl
  go_wp2_with fail
  refine (eqSw_same _ _ ps0 _ (row_own vg_34.out) (row_own vw_34.out)).mono ?_
  rintro e W41 ⟨rfl, l41⟩
  clear c35_AW_0 c35_AW_1 c35_AW_2
  clear c36_vwB0_0 c36_vwB0_1 c36_vwB0_2
  clear c37_vwB1_0 c37_vwB1_1 c37_vwB1_2 c37_vwB1_3 c37_vwB1_4
  clear c38_X_0 c38_X_1 c38_X_2
  clear c39_vgB0_0 c39_vgB0_1 c39_vgB0_2
  clear c40_vgB1_0 c40_vgB1_1 c40_vgB1_2 c40_vgB1_3 c40_vgB1_4
  have HB_42 := Lib.hid (HB_34.out.trans (l41.mono HB_34.out.size))
  have vw_42 := Lib.hid (own_below vw_34.out l41 (Nat.le_refl _))
  clear vw_34
  have x_42 := Lib.hid (own_below x_34.out l41 (Nat.le_refl _))
  clear x_34
  have vg_42 := Lib.hid (own_below vg_34.out l41 (Nat.le_refl _))
  clear vg_34
  have AW_42 := Lib.hid (AW_34.out.below l41 AW_34.out.lt)
  clear AW_34
  have vwB0_42 := Lib.hid (vwB0_34.out.below l41 vwB0_34.out.lt)
  clear vwB0_34
  have vwB1_42 := Lib.hid (vwB1_34.out.below l41 vwB1_34.out.lt)
  clear vwB1_34
  have X_42 := Lib.hid (X_34.out.below l41 X_34.out.lt)
  clear X_34
  have vgB0_42 := Lib.hid (X33_vgB0.out.below l41 X33_vgB0.out.lt)
  clear X33_vgB0
  have vgB1_42 := Lib.hid (X33_vgB1.out.below l41 X33_vgB1.out.lt)
  clear X33_vgB1
  clear l41
  have c43_AW_0 := AW_42.out.at 0 (v := .int .i64 z0.t) rfl
  have c43_AW_1 := AW_42.out.at 1 (v := .int .i64 z0.z) rfl
  have c43_AW_2 := AW_42.out.at 2 (v := .slice p0 z0.q.length cap0) rfl
  have c44_vwB0_0 := vwB0_42.out.at 0 (v := .int .i64 ps0.t) rfl
  have c44_vwB0_1 := vwB0_42.out.at 1 (v := .int .i64 ps0.z) rfl
  have c44_vwB0_2 := vwB0_42.out.at 2 (v := .slice a_vw ps0.q.length c_vw) rfl
  have c45_vwB1_0 := vwB1_42.out.at 0 (v := .int .i64 ps1.k) rfl
  have c45_vwB1_1 := vwB1_42.out.at 1 (v := .int .i64 ps1.n) rfl
  have c45_vwB1_2 := vwB1_42.out.at 2 (v := .int .i64 ps1.t) rfl
  have c45_vwB1_3 := vwB1_42.out.at 3 (v := .int .i64 ps1.l) rfl
  have c45_vwB1_4 := vwB1_42.out.at 4 (v := .string ps1.d) rfl
  have c46_X_0 := X_42.out.at 0 (v := .int .i64 z0.t) rfl
  have c46_X_1 := X_42.out.at 1 (v := .int .i64 z0.z) rfl
  have c46_X_2 := X_42.out.at 2 (v := .slice (some ⟨g_x, 0, none⟩) z0.q.length z0.q.length) rfl
  have c47_vgB0_0 := vgB0_42.out.at 0 (v := .int .i64 ps0.t) rfl
  have c47_vgB0_1 := vgB0_42.out.at 1 (v := .int .i64 ps0.z) rfl
  have c47_vgB0_2 := vgB0_42.out.at 2 (v := .slice a_vg ps0.q.length c_vg) rfl
  have c48_vgB1_0 := vgB1_42.out.at 0 (v := .int .i64 ps1.k) rfl
  have c48_vgB1_1 := vgB1_42.out.at 1 (v := .int .i64 ps1.n) rfl
  have c48_vgB1_2 := vgB1_42.out.at 2 (v := .int .i64 ps1.t) rfl
  have c48_vgB1_3 := vgB1_42.out.at 3 (v := .int .i64 ps1.l) rfl
  have c48_vgB1_4 := vgB1_42.out.at 4 (v := .string ps1.d) rfl
  go_wp2_with fail
  refine (eqPacket_same ps1.k ps1.n ps1.t ps1.l ps1.d _).mono ?_
  rintro e W49 ⟨rfl, l49⟩
  clear c43_AW_0 c43_AW_1 c43_AW_2
  clear c44_vwB0_0 c44_vwB0_1 c44_vwB0_2
  clear c45_vwB1_0 c45_vwB1_1 c45_vwB1_2 c45_vwB1_3 c45_vwB1_4
  clear c46_X_0 c46_X_1 c46_X_2
  clear c47_vgB0_0 c47_vgB0_1 c47_vgB0_2
  clear c48_vgB1_0 c48_vgB1_1 c48_vgB1_2 c48_vgB1_3 c48_vgB1_4
  have HB_50 := Lib.hid (HB_42.out.trans (l49.mono HB_42.out.size))
  have vw_50 := Lib.hid (own_below vw_42.out l49 (Nat.le_refl _))
  clear vw_42
  have x_50 := Lib.hid (own_below x_42.out l49 (Nat.le_refl _))
  clear x_42
  have vg_50 := Lib.hid (own_below vg_42.out l49 (Nat.le_refl _))
  clear vg_42
  have AW_50 := Lib.hid (AW_42.out.below l49 AW_42.out.lt)
  clear AW_42
  have vwB0_50 := Lib.hid (vwB0_42.out.below l49 vwB0_42.out.lt)
  clear vwB0_42
  have vwB1_50 := Lib.hid (vwB1_42.out.below l49 vwB1_42.out.lt)
  clear vwB1_42
  have X_50 := Lib.hid (X_42.out.below l49 X_42.out.lt)
  clear X_42
  have vgB0_50 := Lib.hid (vgB0_42.out.below l49 vgB0_42.out.lt)
  clear vgB0_42
  have vgB1_50 := Lib.hid (vgB1_42.out.below l49 vgB1_42.out.lt)
  clear vgB1_42
  clear l49
  have c51_AW_0 := AW_50.out.at 0 (v := .int .i64 z0.t) rfl
  have c51_AW_1 := AW_50.out.at 1 (v := .int .i64 z0.z) rfl
  have c51_AW_2 := AW_50.out.at 2 (v := .slice p0 z0.q.length cap0) rfl
  have c52_vwB0_0 := vwB0_50.out.at 0 (v := .int .i64 ps0.t) rfl
  have c52_vwB0_1 := vwB0_50.out.at 1 (v := .int .i64 ps0.z) rfl
  have c52_vwB0_2 := vwB0_50.out.at 2 (v := .slice a_vw ps0.q.length c_vw) rfl
  have c53_vwB1_0 := vwB1_50.out.at 0 (v := .int .i64 ps1.k) rfl
  have c53_vwB1_1 := vwB1_50.out.at 1 (v := .int .i64 ps1.n) rfl
  have c53_vwB1_2 := vwB1_50.out.at 2 (v := .int .i64 ps1.t) rfl
  have c53_vwB1_3 := vwB1_50.out.at 3 (v := .int .i64 ps1.l) rfl
  have c53_vwB1_4 := vwB1_50.out.at 4 (v := .string ps1.d) rfl
  have c54_X_0 := X_50.out.at 0 (v := .int .i64 z0.t) rfl
  have c54_X_1 := X_50.out.at 1 (v := .int .i64 z0.z) rfl
  have c54_X_2 := X_50.out.at 2 (v := .slice (some ⟨g_x, 0, none⟩) z0.q.length z0.q.length) rfl
  have c55_vgB0_0 := vgB0_50.out.at 0 (v := .int .i64 ps0.t) rfl
  have c55_vgB0_1 := vgB0_50.out.at 1 (v := .int .i64 ps0.z) rfl
  have c55_vgB0_2 := vgB0_50.out.at 2 (v := .slice a_vg ps0.q.length c_vg) rfl
  have c56_vgB1_0 := vgB1_50.out.at 0 (v := .int .i64 ps1.k) rfl
  have c56_vgB1_1 := vgB1_50.out.at 1 (v := .int .i64 ps1.n) rfl
  have c56_vgB1_2 := vgB1_50.out.at 2 (v := .int .i64 ps1.t) rfl
  have c56_vgB1_3 := vgB1_50.out.at 3 (v := .int .i64 ps1.l) rfl
  have c56_vgB1_4 := vgB1_50.out.at 4 (v := .string ps1.d) rfl
  go_upto_region 12 with fail
  go_cut [63] from 59 to 63 (fun b wx => b = .bool false ∧ Hid (Below W49.heap.size W49 wx))
  case first => as_aux_lemma =>
    have HK1 := Lib.hid (fun (w' : World) (hb : Below W49.heap.size W49 w') => (show w'.cell? ⟨R_X, 0, none⟩ = some (.int .i64 z0.t) ∧ w'.cell? ⟨R_X, 1, none⟩ = some (.int .i64 z0.z) ∧ w'.cell? ⟨R_X, 2, none⟩ = some (.slice (some ⟨g_x, 0, none⟩) z0.q.length z0.q.length) ∧ w'.cell? ⟨R_AW, 0, none⟩ = some (.int .i64 z0.t) ∧ w'.cell? ⟨R_AW, 1, none⟩ = some (.int .i64 z0.z) ∧ w'.cell? ⟨R_AW, 2, none⟩ = some (.slice p0 z0.q.length cap0) ∧ Below w.heap.size w w' from ⟨(hb.cell (p := ⟨R_X, 0, none⟩) X_50.out.lt).trans (X_50.out.at 0 (v := .int .i64 z0.t) rfl), (hb.cell (p := ⟨R_X, 1, none⟩) X_50.out.lt).trans (X_50.out.at 1 (v := .int .i64 z0.z) rfl), (hb.cell (p := ⟨R_X, 2, none⟩) X_50.out.lt).trans (X_50.out.at 2 (v := .slice (some ⟨g_x, 0, none⟩) z0.q.length z0.q.length) rfl), (hb.cell (p := ⟨R_AW, 0, none⟩) AW_50.out.lt).trans (AW_50.out.at 0 (v := .int .i64 z0.t) rfl), (hb.cell (p := ⟨R_AW, 1, none⟩) AW_50.out.lt).trans (AW_50.out.at 1 (v := .int .i64 z0.z) rfl), (hb.cell (p := ⟨R_AW, 2, none⟩) AW_50.out.lt).trans (AW_50.out.at 2 (v := .slice p0 z0.q.length cap0) rfl), HB_50.out.trans (hb.mono HB_50.out.size)⟩))
    go_region_held3 (fun w' => w'.cell? ⟨R_X, 0, none⟩ = some (.int .i64 z0.t) ∧ w'.cell? ⟨R_X, 1, none⟩ = some (.int .i64 z0.z) ∧ w'.cell? ⟨R_X, 2, none⟩ = some (.slice (some ⟨g_x, 0, none⟩) z0.q.length z0.q.length) ∧ w'.cell? ⟨R_AW, 0, none⟩ = some (.int .i64 z0.t) ∧ w'.cell? ⟨R_AW, 1, none⟩ = some (.int .i64 z0.z) ∧ w'.cell? ⟨R_AW, 2, none⟩ = some (.slice p0 z0.q.length cap0) ∧ Below w.heap.size w w')
      ((first | (with_reducible refine HK1.out _ ?_; (repeat (first | with_reducible assumption | with_reducible exact Below.refl _ _ | with_reducible refine Below.drew ?_ | with_reducible refine below_alloc' ?_)); done)))
      (first
        | (go_at_call 45; refine (toSw_lit _ z0 _ (HR0.out.below (HB_50.out.trans ((by repeat (first | with_reducible assumption | with_reducible exact Below.refl _ _ | with_reducible refine Below.drew ?_ | with_reducible refine below_alloc' ?_) : Below W49.heap.size W49 _).mono HB_50.out.size)) (Nat.le_refl _)) HN0.out).mono ?_; rintro e w5 ⟨g5, rfl, o5, l5⟩; have hb5 := below_call7 (by repeat (first | with_reducible assumption | with_reducible exact Below.refl _ _ | with_reducible refine Below.drew ?_ | with_reducible refine below_alloc' ?_) : Below W49.heap.size W49 _) l5; have ho5 := row_own o5; clear o5 l5)
        | (go_at_call 46; refine (eqSw_same _ _ z0 _ ((row_own x_50.out).below hb5 (Nat.le_refl _)) ho5).mono ?_; rintro e w6 ⟨rfl, l6⟩; have hb6 := below_call7 hb5 l6; clear l6))
    all_goals go_wp2_with fail
    all_goals go_meet
    all_goals
      case rel => exact ⟨by simp, Lib.hid (by repeat (first | with_reducible assumption | with_reducible exact Below.refl _ _ | with_reducible refine Below.drew ?_ | with_reducible refine below_alloc' ?_))⟩
  case rest =>
    obtain ⟨rfl, HCut⟩ := hcut
    rename World => W57
    have l57 := HCut.out
    clear HCut
    clear c51_AW_0 c51_AW_1 c51_AW_2
    clear c52_vwB0_0 c52_vwB0_1 c52_vwB0_2
    clear c53_vwB1_0 c53_vwB1_1 c53_vwB1_2 c53_vwB1_3 c53_vwB1_4
    clear c54_X_0 c54_X_1 c54_X_2
    clear c55_vgB0_0 c55_vgB0_1 c55_vgB0_2
    clear c56_vgB1_0 c56_vgB1_1 c56_vgB1_2 c56_vgB1_3 c56_vgB1_4
    have HB_58 := Lib.hid (HB_50.out.trans (l57.mono HB_50.out.size))
    have vw_58 := Lib.hid (own_below vw_50.out l57 (Nat.le_refl _))
    clear vw_50
    have x_58 := Lib.hid (own_below x_50.out l57 (Nat.le_refl _))
    clear x_50
    have vg_58 := Lib.hid (own_below vg_50.out l57 (Nat.le_refl _))
    clear vg_50
    have AW_58 := Lib.hid (AW_50.out.below l57 AW_50.out.lt)
    clear AW_50
    have vwB0_58 := Lib.hid (vwB0_50.out.below l57 vwB0_50.out.lt)
    clear vwB0_50
    have vwB1_58 := Lib.hid (vwB1_50.out.below l57 vwB1_50.out.lt)
    clear vwB1_50
    have X_58 := Lib.hid (X_50.out.below l57 X_50.out.lt)
    clear X_50
    have vgB0_58 := Lib.hid (vgB0_50.out.below l57 vgB0_50.out.lt)
    clear vgB0_50
    have vgB1_58 := Lib.hid (vgB1_50.out.below l57 vgB1_50.out.lt)
    clear vgB1_50
    clear l57
    have c59_AW_0 := AW_58.out.at 0 (v := .int .i64 z0.t) rfl
    have c59_AW_1 := AW_58.out.at 1 (v := .int .i64 z0.z) rfl
    have c59_AW_2 := AW_58.out.at 2 (v := .slice p0 z0.q.length cap0) rfl
    have c60_vwB0_0 := vwB0_58.out.at 0 (v := .int .i64 ps0.t) rfl
    have c60_vwB0_1 := vwB0_58.out.at 1 (v := .int .i64 ps0.z) rfl
    have c60_vwB0_2 := vwB0_58.out.at 2 (v := .slice a_vw ps0.q.length c_vw) rfl
    have c61_vwB1_0 := vwB1_58.out.at 0 (v := .int .i64 ps1.k) rfl
    have c61_vwB1_1 := vwB1_58.out.at 1 (v := .int .i64 ps1.n) rfl
    have c61_vwB1_2 := vwB1_58.out.at 2 (v := .int .i64 ps1.t) rfl
    have c61_vwB1_3 := vwB1_58.out.at 3 (v := .int .i64 ps1.l) rfl
    have c61_vwB1_4 := vwB1_58.out.at 4 (v := .string ps1.d) rfl
    have c62_X_0 := X_58.out.at 0 (v := .int .i64 z0.t) rfl
    have c62_X_1 := X_58.out.at 1 (v := .int .i64 z0.z) rfl
    have c62_X_2 := X_58.out.at 2 (v := .slice (some ⟨g_x, 0, none⟩) z0.q.length z0.q.length) rfl
    have c63_vgB0_0 := vgB0_58.out.at 0 (v := .int .i64 ps0.t) rfl
    have c63_vgB0_1 := vgB0_58.out.at 1 (v := .int .i64 ps0.z) rfl
    have c63_vgB0_2 := vgB0_58.out.at 2 (v := .slice a_vg ps0.q.length c_vg) rfl
    have c64_vgB1_0 := vgB1_58.out.at 0 (v := .int .i64 ps1.k) rfl
    have c64_vgB1_1 := vgB1_58.out.at 1 (v := .int .i64 ps1.n) rfl
    have c64_vgB1_2 := vgB1_58.out.at 2 (v := .int .i64 ps1.t) rfl
    have c64_vgB1_3 := vgB1_58.out.at 3 (v := .int .i64 ps1.l) rfl
    have c64_vgB1_4 := vgB1_58.out.at 4 (v := .string ps1.d) rfl
    go_wp2_with fail
    refine (markSw_own _ _ _ z0.q.length 1 _ _ _ x_58.out (by omega) (by have := HL0.out; have := HN0.out; omega)).mono ?_
    rintro e W65 ⟨rfl, m65, gr65⟩
    clear c59_AW_0 c59_AW_1 c59_AW_2
    clear c60_vwB0_0 c60_vwB0_1 c60_vwB0_2
    clear c61_vwB1_0 c61_vwB1_1 c61_vwB1_2 c61_vwB1_3 c61_vwB1_4
    clear c62_X_0 c62_X_1 c62_X_2
    clear c63_vgB0_0 c63_vgB0_1 c63_vgB0_2
    clear c64_vgB1_0 c64_vgB1_1 c64_vgB1_2 c64_vgB1_3 c64_vgB1_4
    have HB_65 := Lib.hid (HB_58.out.grown gr65 HB_58.out.size (fun q hq => (x_58.out.lt q hq).1))
    have vw_65 := Lib.hid (own_apart vw_58.out gr65 (fun k h1 h2 => AP_vw_x.out k h1 h2))
    clear vw_58
    have vg_65 := Lib.hid (own_apart vg_58.out gr65 (fun k h1 h2 => AP_x_vg.out k h2 h1))
    clear vg_58
    have AW_65 := Lib.hid (AW_58.out.grown gr65 (fun e => BX_AW_x.out _ e.symm rfl))
    clear AW_58
    have vwB0_65 := Lib.hid (vwB0_58.out.grown gr65 (fun e => BX_vwB0_x.out _ e.symm rfl))
    clear vwB0_58
    have vwB1_65 := Lib.hid (vwB1_58.out.grown gr65 (fun e => BX_vwB1_x.out _ e.symm rfl))
    clear vwB1_58
    have X_65 := Lib.hid (X_58.out.grown gr65 (fun e => BX_X_x.out _ e.symm rfl))
    clear X_58
    have vgB0_65 := Lib.hid (vgB0_58.out.grown gr65 (fun e => BX_vgB0_x.out _ e.symm rfl))
    clear vgB0_58
    have vgB1_65 := Lib.hid (vgB1_58.out.grown gr65 (fun e => BX_vgB1_x.out _ e.symm rfl))
    clear vgB1_58
    have x_65 := Lib.hid m65
    clear m65 gr65 x_58
    have c66_AW_0 := AW_65.out.at 0 (v := .int .i64 z0.t) rfl
    have c66_AW_1 := AW_65.out.at 1 (v := .int .i64 z0.z) rfl
    have c66_AW_2 := AW_65.out.at 2 (v := .slice p0 z0.q.length cap0) rfl
    have c67_vwB0_0 := vwB0_65.out.at 0 (v := .int .i64 ps0.t) rfl
    have c67_vwB0_1 := vwB0_65.out.at 1 (v := .int .i64 ps0.z) rfl
    have c67_vwB0_2 := vwB0_65.out.at 2 (v := .slice a_vw ps0.q.length c_vw) rfl
    have c68_vwB1_0 := vwB1_65.out.at 0 (v := .int .i64 ps1.k) rfl
    have c68_vwB1_1 := vwB1_65.out.at 1 (v := .int .i64 ps1.n) rfl
    have c68_vwB1_2 := vwB1_65.out.at 2 (v := .int .i64 ps1.t) rfl
    have c68_vwB1_3 := vwB1_65.out.at 3 (v := .int .i64 ps1.l) rfl
    have c68_vwB1_4 := vwB1_65.out.at 4 (v := .string ps1.d) rfl
    have c69_X_0 := X_65.out.at 0 (v := .int .i64 z0.t) rfl
    have c69_X_1 := X_65.out.at 1 (v := .int .i64 z0.z) rfl
    have c69_X_2 := X_65.out.at 2 (v := .slice (some ⟨g_x, 0, none⟩) z0.q.length z0.q.length) rfl
    have c70_vgB0_0 := vgB0_65.out.at 0 (v := .int .i64 ps0.t) rfl
    have c70_vgB0_1 := vgB0_65.out.at 1 (v := .int .i64 ps0.z) rfl
    have c70_vgB0_2 := vgB0_65.out.at 2 (v := .slice a_vg ps0.q.length c_vg) rfl
    have c71_vgB1_0 := vgB1_65.out.at 0 (v := .int .i64 ps1.k) rfl
    have c71_vgB1_1 := vgB1_65.out.at 1 (v := .int .i64 ps1.n) rfl
    have c71_vgB1_2 := vgB1_65.out.at 2 (v := .int .i64 ps1.t) rfl
    have c71_vgB1_3 := vgB1_65.out.at 3 (v := .int .i64 ps1.l) rfl
    have c71_vgB1_4 := vgB1_65.out.at 4 (v := .string ps1.d) rfl
    go_wp2_with fail
    refine (eqSw_same _ _ ps0 _ (row_own vg_65.out) (row_own vw_65.out)).mono ?_
    rintro e W72 ⟨rfl, l72⟩
    clear c66_AW_0 c66_AW_1 c66_AW_2
    clear c67_vwB0_0 c67_vwB0_1 c67_vwB0_2
    clear c68_vwB1_0 c68_vwB1_1 c68_vwB1_2 c68_vwB1_3 c68_vwB1_4
    clear c69_X_0 c69_X_1 c69_X_2
    clear c70_vgB0_0 c70_vgB0_1 c70_vgB0_2
    clear c71_vgB1_0 c71_vgB1_1 c71_vgB1_2 c71_vgB1_3 c71_vgB1_4
    have HB_73 := Lib.hid (HB_65.out.trans (l72.mono HB_65.out.size))
    have vw_73 := Lib.hid (own_below vw_65.out l72 (Nat.le_refl _))
    clear vw_65
    have x_73 := Lib.hid (own_below x_65.out l72 (Nat.le_refl _))
    clear x_65
    have vg_73 := Lib.hid (own_below vg_65.out l72 (Nat.le_refl _))
    clear vg_65
    have AW_73 := Lib.hid (AW_65.out.below l72 AW_65.out.lt)
    clear AW_65
    have vwB0_73 := Lib.hid (vwB0_65.out.below l72 vwB0_65.out.lt)
    clear vwB0_65
    have vwB1_73 := Lib.hid (vwB1_65.out.below l72 vwB1_65.out.lt)
    clear vwB1_65
    have X_73 := Lib.hid (X_65.out.below l72 X_65.out.lt)
    clear X_65
    have vgB0_73 := Lib.hid (vgB0_65.out.below l72 vgB0_65.out.lt)
    clear vgB0_65
    have vgB1_73 := Lib.hid (vgB1_65.out.below l72 vgB1_65.out.lt)
    clear vgB1_65
    clear l72
    have c74_AW_0 := AW_73.out.at 0 (v := .int .i64 z0.t) rfl
    have c74_AW_1 := AW_73.out.at 1 (v := .int .i64 z0.z) rfl
    have c74_AW_2 := AW_73.out.at 2 (v := .slice p0 z0.q.length cap0) rfl
    have c75_vwB0_0 := vwB0_73.out.at 0 (v := .int .i64 ps0.t) rfl
    have c75_vwB0_1 := vwB0_73.out.at 1 (v := .int .i64 ps0.z) rfl
    have c75_vwB0_2 := vwB0_73.out.at 2 (v := .slice a_vw ps0.q.length c_vw) rfl
    have c76_vwB1_0 := vwB1_73.out.at 0 (v := .int .i64 ps1.k) rfl
    have c76_vwB1_1 := vwB1_73.out.at 1 (v := .int .i64 ps1.n) rfl
    have c76_vwB1_2 := vwB1_73.out.at 2 (v := .int .i64 ps1.t) rfl
    have c76_vwB1_3 := vwB1_73.out.at 3 (v := .int .i64 ps1.l) rfl
    have c76_vwB1_4 := vwB1_73.out.at 4 (v := .string ps1.d) rfl
    have c77_X_0 := X_73.out.at 0 (v := .int .i64 z0.t) rfl
    have c77_X_1 := X_73.out.at 1 (v := .int .i64 z0.z) rfl
    have c77_X_2 := X_73.out.at 2 (v := .slice (some ⟨g_x, 0, none⟩) z0.q.length z0.q.length) rfl
    have c78_vgB0_0 := vgB0_73.out.at 0 (v := .int .i64 ps0.t) rfl
    have c78_vgB0_1 := vgB0_73.out.at 1 (v := .int .i64 ps0.z) rfl
    have c78_vgB0_2 := vgB0_73.out.at 2 (v := .slice a_vg ps0.q.length c_vg) rfl
    have c79_vgB1_0 := vgB1_73.out.at 0 (v := .int .i64 ps1.k) rfl
    have c79_vgB1_1 := vgB1_73.out.at 1 (v := .int .i64 ps1.n) rfl
    have c79_vgB1_2 := vgB1_73.out.at 2 (v := .int .i64 ps1.t) rfl
    have c79_vgB1_3 := vgB1_73.out.at 3 (v := .int .i64 ps1.l) rfl
    have c79_vgB1_4 := vgB1_73.out.at 4 (v := .string ps1.d) rfl
    go_wp2_with fail
    refine (eqPacket_same ps1.k ps1.n ps1.t ps1.l ps1.d _).mono ?_
    rintro e W80 ⟨rfl, l80⟩
    clear c74_AW_0 c74_AW_1 c74_AW_2
    clear c75_vwB0_0 c75_vwB0_1 c75_vwB0_2
    clear c76_vwB1_0 c76_vwB1_1 c76_vwB1_2 c76_vwB1_3 c76_vwB1_4
    clear c77_X_0 c77_X_1 c77_X_2
    clear c78_vgB0_0 c78_vgB0_1 c78_vgB0_2
    clear c79_vgB1_0 c79_vgB1_1 c79_vgB1_2 c79_vgB1_3 c79_vgB1_4
    have HB_81 := Lib.hid (HB_73.out.trans (l80.mono HB_73.out.size))
    have vw_81 := Lib.hid (own_below vw_73.out l80 (Nat.le_refl _))
    clear vw_73
    have x_81 := Lib.hid (own_below x_73.out l80 (Nat.le_refl _))
    clear x_73
    have vg_81 := Lib.hid (own_below vg_73.out l80 (Nat.le_refl _))
    clear vg_73
    have AW_81 := Lib.hid (AW_73.out.below l80 AW_73.out.lt)
    clear AW_73
    have vwB0_81 := Lib.hid (vwB0_73.out.below l80 vwB0_73.out.lt)
    clear vwB0_73
    have vwB1_81 := Lib.hid (vwB1_73.out.below l80 vwB1_73.out.lt)
    clear vwB1_73
    have X_81 := Lib.hid (X_73.out.below l80 X_73.out.lt)
    clear X_73
    have vgB0_81 := Lib.hid (vgB0_73.out.below l80 vgB0_73.out.lt)
    clear vgB0_73
    have vgB1_81 := Lib.hid (vgB1_73.out.below l80 vgB1_73.out.lt)
    clear vgB1_73
    clear l80
    have c82_AW_0 := AW_81.out.at 0 (v := .int .i64 z0.t) rfl
    have c82_AW_1 := AW_81.out.at 1 (v := .int .i64 z0.z) rfl
    have c82_AW_2 := AW_81.out.at 2 (v := .slice p0 z0.q.length cap0) rfl
    have c83_vwB0_0 := vwB0_81.out.at 0 (v := .int .i64 ps0.t) rfl
    have c83_vwB0_1 := vwB0_81.out.at 1 (v := .int .i64 ps0.z) rfl
    have c83_vwB0_2 := vwB0_81.out.at 2 (v := .slice a_vw ps0.q.length c_vw) rfl
    have c84_vwB1_0 := vwB1_81.out.at 0 (v := .int .i64 ps1.k) rfl
    have c84_vwB1_1 := vwB1_81.out.at 1 (v := .int .i64 ps1.n) rfl
    have c84_vwB1_2 := vwB1_81.out.at 2 (v := .int .i64 ps1.t) rfl
    have c84_vwB1_3 := vwB1_81.out.at 3 (v := .int .i64 ps1.l) rfl
    have c84_vwB1_4 := vwB1_81.out.at 4 (v := .string ps1.d) rfl
    have c85_X_0 := X_81.out.at 0 (v := .int .i64 z0.t) rfl
    have c85_X_1 := X_81.out.at 1 (v := .int .i64 z0.z) rfl
    have c85_X_2 := X_81.out.at 2 (v := .slice (some ⟨g_x, 0, none⟩) z0.q.length z0.q.length) rfl
    have c86_vgB0_0 := vgB0_81.out.at 0 (v := .int .i64 ps0.t) rfl
    have c86_vgB0_1 := vgB0_81.out.at 1 (v := .int .i64 ps0.z) rfl
    have c86_vgB0_2 := vgB0_81.out.at 2 (v := .slice a_vg ps0.q.length c_vg) rfl
    have c87_vgB1_0 := vgB1_81.out.at 0 (v := .int .i64 ps1.k) rfl
    have c87_vgB1_1 := vgB1_81.out.at 1 (v := .int .i64 ps1.n) rfl
    have c87_vgB1_2 := vgB1_81.out.at 2 (v := .int .i64 ps1.t) rfl
    have c87_vgB1_3 := vgB1_81.out.at 3 (v := .int .i64 ps1.l) rfl
    have c87_vgB1_4 := vgB1_81.out.at 4 (v := .string ps1.d) rfl
    clear x_81
    clear c85_X_0 c85_X_1 c85_X_2
    clear X_81
    go_wp2_with fail
    refine (markSw_own _ _ _ ps0.q.length 1 _ _ _ vg_81.out (by omega) (by have := HL0.out; have := HN0.out; omega)).mono ?_
    rintro e W88 ⟨rfl, m88, gr88⟩
    clear c82_AW_0 c82_AW_1 c82_AW_2
    clear c83_vwB0_0 c83_vwB0_1 c83_vwB0_2
    clear c84_vwB1_0 c84_vwB1_1 c84_vwB1_2 c84_vwB1_3 c84_vwB1_4
    clear c86_vgB0_0 c86_vgB0_1 c86_vgB0_2
    clear c87_vgB1_0 c87_vgB1_1 c87_vgB1_2 c87_vgB1_3 c87_vgB1_4
    have HB_88 := Lib.hid (HB_81.out.grown gr88 HB_81.out.size (fun q hq => (vg_81.out.lt q hq).1))
    have vw_88 := Lib.hid (own_apart vw_81.out gr88 (fun k h1 h2 => AP_vw_vg.out k h1 h2))
    clear vw_81
    have AW_88 := Lib.hid (AW_81.out.grown gr88 (fun e => BX_AW_vg.out _ e.symm rfl))
    clear AW_81
    have vwB0_88 := Lib.hid (vwB0_81.out.grown gr88 (fun e => BX_vwB0_vg.out _ e.symm rfl))
    clear vwB0_81
    have vwB1_88 := Lib.hid (vwB1_81.out.grown gr88 (fun e => BX_vwB1_vg.out _ e.symm rfl))
    clear vwB1_81
    have vgB0_88 := Lib.hid (vgB0_81.out.grown gr88 (fun e => BX_vgB0_vg.out _ e.symm rfl))
    clear vgB0_81
    have vgB1_88 := Lib.hid (vgB1_81.out.grown gr88 (fun e => BX_vgB1_vg.out _ e.symm rfl))
    clear vgB1_81
    have vg_88 := Lib.hid m88
    clear m88 gr88 vg_81
    have c89_AW_0 := AW_88.out.at 0 (v := .int .i64 z0.t) rfl
    have c89_AW_1 := AW_88.out.at 1 (v := .int .i64 z0.z) rfl
    have c89_AW_2 := AW_88.out.at 2 (v := .slice p0 z0.q.length cap0) rfl
    have c90_vwB0_0 := vwB0_88.out.at 0 (v := .int .i64 ps0.t) rfl
    have c90_vwB0_1 := vwB0_88.out.at 1 (v := .int .i64 ps0.z) rfl
    have c90_vwB0_2 := vwB0_88.out.at 2 (v := .slice a_vw ps0.q.length c_vw) rfl
    have c91_vwB1_0 := vwB1_88.out.at 0 (v := .int .i64 ps1.k) rfl
    have c91_vwB1_1 := vwB1_88.out.at 1 (v := .int .i64 ps1.n) rfl
    have c91_vwB1_2 := vwB1_88.out.at 2 (v := .int .i64 ps1.t) rfl
    have c91_vwB1_3 := vwB1_88.out.at 3 (v := .int .i64 ps1.l) rfl
    have c91_vwB1_4 := vwB1_88.out.at 4 (v := .string ps1.d) rfl
    have c92_vgB0_0 := vgB0_88.out.at 0 (v := .int .i64 ps0.t) rfl
    have c92_vgB0_1 := vgB0_88.out.at 1 (v := .int .i64 ps0.z) rfl
    have c92_vgB0_2 := vgB0_88.out.at 2 (v := .slice a_vg ps0.q.length c_vg) rfl
    have c93_vgB1_0 := vgB1_88.out.at 0 (v := .int .i64 ps1.k) rfl
    have c93_vgB1_1 := vgB1_88.out.at 1 (v := .int .i64 ps1.n) rfl
    have c93_vgB1_2 := vgB1_88.out.at 2 (v := .int .i64 ps1.t) rfl
    have c93_vgB1_3 := vgB1_88.out.at 3 (v := .int .i64 ps1.l) rfl
    have c93_vgB1_4 := vgB1_88.out.at 4 (v := .string ps1.d) rfl
    go_wp2_with fail
    refine (heldSw_own _ _ _ ps0.q.length 1 _ _ vg_88.out (by omega) (by have := HL0.out; have := HN0.out; omega)).mono ?_
    rintro e W94 ⟨rfl, l94⟩
    clear c89_AW_0 c89_AW_1 c89_AW_2
    clear c90_vwB0_0 c90_vwB0_1 c90_vwB0_2
    clear c91_vwB1_0 c91_vwB1_1 c91_vwB1_2 c91_vwB1_3 c91_vwB1_4
    clear c92_vgB0_0 c92_vgB0_1 c92_vgB0_2
    clear c93_vgB1_0 c93_vgB1_1 c93_vgB1_2 c93_vgB1_3 c93_vgB1_4
    have HB_95 := Lib.hid (HB_88.out.trans (l94.mono HB_88.out.size))
    have vw_95 := Lib.hid (own_below vw_88.out l94 (Nat.le_refl _))
    clear vw_88
    have vg_95 := Lib.hid (own_below vg_88.out l94 (Nat.le_refl _))
    clear vg_88
    have AW_95 := Lib.hid (AW_88.out.below l94 AW_88.out.lt)
    clear AW_88
    have vwB0_95 := Lib.hid (vwB0_88.out.below l94 vwB0_88.out.lt)
    clear vwB0_88
    have vwB1_95 := Lib.hid (vwB1_88.out.below l94 vwB1_88.out.lt)
    clear vwB1_88
    have vgB0_95 := Lib.hid (vgB0_88.out.below l94 vgB0_88.out.lt)
    clear vgB0_88
    have vgB1_95 := Lib.hid (vgB1_88.out.below l94 vgB1_88.out.lt)
    clear vgB1_88
    clear l94
    have c96_AW_0 := AW_95.out.at 0 (v := .int .i64 z0.t) rfl
    have c96_AW_1 := AW_95.out.at 1 (v := .int .i64 z0.z) rfl
    have c96_AW_2 := AW_95.out.at 2 (v := .slice p0 z0.q.length cap0) rfl
    have c97_vwB0_0 := vwB0_95.out.at 0 (v := .int .i64 ps0.t) rfl
    have c97_vwB0_1 := vwB0_95.out.at 1 (v := .int .i64 ps0.z) rfl
    have c97_vwB0_2 := vwB0_95.out.at 2 (v := .slice a_vw ps0.q.length c_vw) rfl
    have c98_vwB1_0 := vwB1_95.out.at 0 (v := .int .i64 ps1.k) rfl
    have c98_vwB1_1 := vwB1_95.out.at 1 (v := .int .i64 ps1.n) rfl
    have c98_vwB1_2 := vwB1_95.out.at 2 (v := .int .i64 ps1.t) rfl
    have c98_vwB1_3 := vwB1_95.out.at 3 (v := .int .i64 ps1.l) rfl
    have c98_vwB1_4 := vwB1_95.out.at 4 (v := .string ps1.d) rfl
    have c99_vgB0_0 := vgB0_95.out.at 0 (v := .int .i64 ps0.t) rfl
    have c99_vgB0_1 := vgB0_95.out.at 1 (v := .int .i64 ps0.z) rfl
    have c99_vgB0_2 := vgB0_95.out.at 2 (v := .slice a_vg ps0.q.length c_vg) rfl
    have c100_vgB1_0 := vgB1_95.out.at 0 (v := .int .i64 ps1.k) rfl
    have c100_vgB1_1 := vgB1_95.out.at 1 (v := .int .i64 ps1.n) rfl
    have c100_vgB1_2 := vgB1_95.out.at 2 (v := .int .i64 ps1.t) rfl
    have c100_vgB1_3 := vgB1_95.out.at 3 (v := .int .i64 ps1.l) rfl
    have c100_vgB1_4 := vgB1_95.out.at 4 (v := .string ps1.d) rfl
    go_wp2_with fail
    refine (toSw_lit _ z0 _ (HR0.out.below HB_95.out (Nat.le_refl _)) HN0.out).mono ?_
    rintro e W101 ⟨g_t, rfl, o_t, l101⟩
    have AP_vw_t : Hid (∀ k, (.slice a_vw ps0.q.length c_vw : Value).ownBlock = some k → (.slice (some ⟨g_t, 0, none⟩) z0.q.length z0.q.length : Value).ownBlock ≠ some k) := Lib.hid (fun k h1 h2 => absurd (vw_95.out.lt k h1).2 (Nat.not_lt.2 (o_t.lt k h2).1))
    have AP_vg_t : Hid (∀ k, (.slice a_vg ps0.q.length c_vg : Value).ownBlock = some k → (.slice (some ⟨g_t, 0, none⟩) z0.q.length z0.q.length : Value).ownBlock ≠ some k) := Lib.hid (fun k h1 h2 => absurd (vg_95.out.lt k h1).2 (Nat.not_lt.2 (o_t.lt k h2).1))
    have O_t := Lib.hid (own_base o_t HB_95.out.size)
    have BX_AW_t : Hid (∀ k, (.slice (some ⟨g_t, 0, none⟩) z0.q.length z0.q.length : Value).ownBlock = some k → k ≠ R_AW) := Lib.hid (fun k h1 h2 => absurd AW_95.out.lt (Nat.not_lt.2 (by rw [← h2]; exact (o_t.lt k h1).1)))
    have BX_vwB0_t : Hid (∀ k, (.slice (some ⟨g_t, 0, none⟩) z0.q.length z0.q.length : Value).ownBlock = some k → k ≠ R_vwB0) := Lib.hid (fun k h1 h2 => absurd vwB0_95.out.lt (Nat.not_lt.2 (by rw [← h2]; exact (o_t.lt k h1).1)))
    have BX_vwB1_t : Hid (∀ k, (.slice (some ⟨g_t, 0, none⟩) z0.q.length z0.q.length : Value).ownBlock = some k → k ≠ R_vwB1) := Lib.hid (fun k h1 h2 => absurd vwB1_95.out.lt (Nat.not_lt.2 (by rw [← h2]; exact (o_t.lt k h1).1)))
    have BX_vgB0_t : Hid (∀ k, (.slice (some ⟨g_t, 0, none⟩) z0.q.length z0.q.length : Value).ownBlock = some k → k ≠ R_vgB0) := Lib.hid (fun k h1 h2 => absurd vgB0_95.out.lt (Nat.not_lt.2 (by rw [← h2]; exact (o_t.lt k h1).1)))
    have BX_vgB1_t : Hid (∀ k, (.slice (some ⟨g_t, 0, none⟩) z0.q.length z0.q.length : Value).ownBlock = some k → k ≠ R_vgB1) := Lib.hid (fun k h1 h2 => absurd vgB1_95.out.lt (Nat.not_lt.2 (by rw [← h2]; exact (o_t.lt k h1).1)))
    clear o_t
    clear c96_AW_0 c96_AW_1 c96_AW_2
    clear c97_vwB0_0 c97_vwB0_1 c97_vwB0_2
    clear c98_vwB1_0 c98_vwB1_1 c98_vwB1_2 c98_vwB1_3 c98_vwB1_4
    clear c99_vgB0_0 c99_vgB0_1 c99_vgB0_2
    clear c100_vgB1_0 c100_vgB1_1 c100_vgB1_2 c100_vgB1_3 c100_vgB1_4
    have HB_102 := Lib.hid (HB_95.out.trans (l101.mono HB_95.out.size))
    have vw_102 := Lib.hid (own_below vw_95.out l101 (Nat.le_refl _))
    clear vw_95
    have vg_102 := Lib.hid (own_below vg_95.out l101 (Nat.le_refl _))
    clear vg_95
    have AW_102 := Lib.hid (AW_95.out.below l101 AW_95.out.lt)
    clear AW_95
    have vwB0_102 := Lib.hid (vwB0_95.out.below l101 vwB0_95.out.lt)
    clear vwB0_95
    have vwB1_102 := Lib.hid (vwB1_95.out.below l101 vwB1_95.out.lt)
    clear vwB1_95
    have vgB0_102 := Lib.hid (vgB0_95.out.below l101 vgB0_95.out.lt)
    clear vgB0_95
    have vgB1_102 := Lib.hid (vgB1_95.out.below l101 vgB1_95.out.lt)
    clear vgB1_95
    clear l101
    have c103_AW_0 := AW_102.out.at 0 (v := .int .i64 z0.t) rfl
    have c103_AW_1 := AW_102.out.at 1 (v := .int .i64 z0.z) rfl
    have c103_AW_2 := AW_102.out.at 2 (v := .slice p0 z0.q.length cap0) rfl
    have c104_vwB0_0 := vwB0_102.out.at 0 (v := .int .i64 ps0.t) rfl
    have c104_vwB0_1 := vwB0_102.out.at 1 (v := .int .i64 ps0.z) rfl
    have c104_vwB0_2 := vwB0_102.out.at 2 (v := .slice a_vw ps0.q.length c_vw) rfl
    have c105_vwB1_0 := vwB1_102.out.at 0 (v := .int .i64 ps1.k) rfl
    have c105_vwB1_1 := vwB1_102.out.at 1 (v := .int .i64 ps1.n) rfl
    have c105_vwB1_2 := vwB1_102.out.at 2 (v := .int .i64 ps1.t) rfl
    have c105_vwB1_3 := vwB1_102.out.at 3 (v := .int .i64 ps1.l) rfl
    have c105_vwB1_4 := vwB1_102.out.at 4 (v := .string ps1.d) rfl
    have c106_vgB0_0 := vgB0_102.out.at 0 (v := .int .i64 ps0.t) rfl
    have c106_vgB0_1 := vgB0_102.out.at 1 (v := .int .i64 ps0.z) rfl
    have c106_vgB0_2 := vgB0_102.out.at 2 (v := .slice a_vg ps0.q.length c_vg) rfl
    have c107_vgB1_0 := vgB1_102.out.at 0 (v := .int .i64 ps1.k) rfl
    have c107_vgB1_1 := vgB1_102.out.at 1 (v := .int .i64 ps1.n) rfl
    have c107_vgB1_2 := vgB1_102.out.at 2 (v := .int .i64 ps1.t) rfl
    have c107_vgB1_3 := vgB1_102.out.at 3 (v := .int .i64 ps1.l) rfl
    have c107_vgB1_4 := vgB1_102.out.at 4 (v := .string ps1.d) rfl
    go_wp2_with fail
    refine (HIm.out _ _ (row_own O_t.out) (fitA_some _ _)).mono ?_
    rintro e W108 ⟨v_vh, rfl, o_vh, l108⟩
    obtain ⟨a_vh, c_vh, rfl, _, _⟩ := own_someS0 o_vh
    have AP_vw_vh : Hid (∀ k, (.slice a_vw ps0.q.length c_vw : Value).ownBlock = some k → (.slice a_vh ps0.q.length c_vh : Value).ownBlock ≠ some k) := Lib.hid (fun k h1 h2 => absurd (vw_102.out.lt k h1).2 (Nat.not_lt.2 (o_vh.lt k h2).1))
    have AP_vg_vh : Hid (∀ k, (.slice a_vg ps0.q.length c_vg : Value).ownBlock = some k → (.slice a_vh ps0.q.length c_vh : Value).ownBlock ≠ some k) := Lib.hid (fun k h1 h2 => absurd (vg_102.out.lt k h1).2 (Nat.not_lt.2 (o_vh.lt k h2).1))
    have AP_t_vh : Hid (∀ k, (.slice (some ⟨g_t, 0, none⟩) z0.q.length z0.q.length : Value).ownBlock = some k → (.slice a_vh ps0.q.length c_vh : Value).ownBlock ≠ some k) := Lib.hid (fun k h1 h2 => absurd (O_t.out.lt k h1).2 (Nat.not_lt.2 (o_vh.lt k h2).1))
    have O_vh := Lib.hid (own_base o_vh HB_102.out.size)
    have BX_AW_vh : Hid (∀ k, (.slice a_vh ps0.q.length c_vh : Value).ownBlock = some k → k ≠ R_AW) := Lib.hid (fun k h1 h2 => absurd AW_102.out.lt (Nat.not_lt.2 (by rw [← h2]; exact (o_vh.lt k h1).1)))
    have BX_vwB0_vh : Hid (∀ k, (.slice a_vh ps0.q.length c_vh : Value).ownBlock = some k → k ≠ R_vwB0) := Lib.hid (fun k h1 h2 => absurd vwB0_102.out.lt (Nat.not_lt.2 (by rw [← h2]; exact (o_vh.lt k h1).1)))
    have BX_vwB1_vh : Hid (∀ k, (.slice a_vh ps0.q.length c_vh : Value).ownBlock = some k → k ≠ R_vwB1) := Lib.hid (fun k h1 h2 => absurd vwB1_102.out.lt (Nat.not_lt.2 (by rw [← h2]; exact (o_vh.lt k h1).1)))
    have BX_vgB0_vh : Hid (∀ k, (.slice a_vh ps0.q.length c_vh : Value).ownBlock = some k → k ≠ R_vgB0) := Lib.hid (fun k h1 h2 => absurd vgB0_102.out.lt (Nat.not_lt.2 (by rw [← h2]; exact (o_vh.lt k h1).1)))
    have BX_vgB1_vh : Hid (∀ k, (.slice a_vh ps0.q.length c_vh : Value).ownBlock = some k → k ≠ R_vgB1) := Lib.hid (fun k h1 h2 => absurd vgB1_102.out.lt (Nat.not_lt.2 (by rw [← h2]; exact (o_vh.lt k h1).1)))
    clear o_vh
    clear c103_AW_0 c103_AW_1 c103_AW_2
    clear c104_vwB0_0 c104_vwB0_1 c104_vwB0_2
    clear c105_vwB1_0 c105_vwB1_1 c105_vwB1_2 c105_vwB1_3 c105_vwB1_4
    clear c106_vgB0_0 c106_vgB0_1 c106_vgB0_2
    clear c107_vgB1_0 c107_vgB1_1 c107_vgB1_2 c107_vgB1_3 c107_vgB1_4
    have HB_109 := Lib.hid (HB_102.out.trans (l108.mono HB_102.out.size))
    have vw_109 := Lib.hid (own_below vw_102.out l108 (Nat.le_refl _))
    clear vw_102
    have vg_109 := Lib.hid (own_below vg_102.out l108 (Nat.le_refl _))
    clear vg_102
    have t_109 := Lib.hid (own_below O_t.out l108 (Nat.le_refl _))
    clear O_t
    have AW_109 := Lib.hid (AW_102.out.below l108 AW_102.out.lt)
    clear AW_102
    have vwB0_109 := Lib.hid (vwB0_102.out.below l108 vwB0_102.out.lt)
    clear vwB0_102
    have vwB1_109 := Lib.hid (vwB1_102.out.below l108 vwB1_102.out.lt)
    clear vwB1_102
    have vgB0_109 := Lib.hid (vgB0_102.out.below l108 vgB0_102.out.lt)
    clear vgB0_102
    have vgB1_109 := Lib.hid (vgB1_102.out.below l108 vgB1_102.out.lt)
    clear vgB1_102
    clear l108
    have c110_AW_0 := AW_109.out.at 0 (v := .int .i64 z0.t) rfl
    have c110_AW_1 := AW_109.out.at 1 (v := .int .i64 z0.z) rfl
    have c110_AW_2 := AW_109.out.at 2 (v := .slice p0 z0.q.length cap0) rfl
    have c111_vwB0_0 := vwB0_109.out.at 0 (v := .int .i64 ps0.t) rfl
    have c111_vwB0_1 := vwB0_109.out.at 1 (v := .int .i64 ps0.z) rfl
    have c111_vwB0_2 := vwB0_109.out.at 2 (v := .slice a_vw ps0.q.length c_vw) rfl
    have c112_vwB1_0 := vwB1_109.out.at 0 (v := .int .i64 ps1.k) rfl
    have c112_vwB1_1 := vwB1_109.out.at 1 (v := .int .i64 ps1.n) rfl
    have c112_vwB1_2 := vwB1_109.out.at 2 (v := .int .i64 ps1.t) rfl
    have c112_vwB1_3 := vwB1_109.out.at 3 (v := .int .i64 ps1.l) rfl
    have c112_vwB1_4 := vwB1_109.out.at 4 (v := .string ps1.d) rfl
    have c113_vgB0_0 := vgB0_109.out.at 0 (v := .int .i64 ps0.t) rfl
    have c113_vgB0_1 := vgB0_109.out.at 1 (v := .int .i64 ps0.z) rfl
    have c113_vgB0_2 := vgB0_109.out.at 2 (v := .slice a_vg ps0.q.length c_vg) rfl
    have c114_vgB1_0 := vgB1_109.out.at 0 (v := .int .i64 ps1.k) rfl
    have c114_vgB1_1 := vgB1_109.out.at 1 (v := .int .i64 ps1.n) rfl
    have c114_vgB1_2 := vgB1_109.out.at 2 (v := .int .i64 ps1.t) rfl
    have c114_vgB1_3 := vgB1_109.out.at 3 (v := .int .i64 ps1.l) rfl
    have c114_vgB1_4 := vgB1_109.out.at 4 (v := .string ps1.d) rfl
    go_upto_region 27 with fail
    obtain ⟨W115, hW115⟩ : ∃ W115, W115 = (W108.alloc (.cells #[.int .i64 ps0.t, .int .i64 ps0.z, .slice a_vh ps0.q.length c_vh] 26)).alloc (.cells #[.int .i64 ps1.k, .int .i64 ps1.n, .int .i64 ps1.t, .int .i64 ps1.l, .string ps1.d] 30) := ⟨_, rfl⟩
    have l115 : Below W108.heap.size W108 W115 := by rw [hW115]; exact ((Below.refl _ _).alloc (Nat.le_refl _) _).alloc (by simp) _
    have X115_vhB0 : Hid (Bx W115 W108.heap.size #[.int .i64 ps0.t, .int .i64 ps0.z, .slice a_vh ps0.q.length c_vh] 26) := Lib.hid (by rw [hW115]; exact (Bx.new2 _ _ _ _ _).1)
    have X115_vhB1 : Hid (Bx W115 (W108.heap.size + 1) #[.int .i64 ps1.k, .int .i64 ps1.n, .int .i64 ps1.t, .int .i64 ps1.l, .string ps1.d] 30) := Lib.hid (by rw [hW115]; exact (Bx.new2 _ _ _ _ _).2)
    rw [← hW115]
    clear hW115
    have BX_vhB0_vw : Hid (∀ k, (.slice a_vw ps0.q.length c_vw : Value).ownBlock = some k → k ≠ W108.heap.size) := Lib.hid (fun k h1 h2 => absurd (vw_109.out.lt k h1).2 (by omega))
    have BX_vhB0_vg : Hid (∀ k, (.slice a_vg ps0.q.length c_vg : Value).ownBlock = some k → k ≠ W108.heap.size) := Lib.hid (fun k h1 h2 => absurd (vg_109.out.lt k h1).2 (by omega))
    have BX_vhB0_t : Hid (∀ k, (.slice (some ⟨g_t, 0, none⟩) z0.q.length z0.q.length : Value).ownBlock = some k → k ≠ W108.heap.size) := Lib.hid (fun k h1 h2 => absurd (t_109.out.lt k h1).2 (by omega))
    have BX_vhB0_vh : Hid (∀ k, (.slice a_vh ps0.q.length c_vh : Value).ownBlock = some k → k ≠ W108.heap.size) := Lib.hid (fun k h1 h2 => absurd (O_vh.out.lt k h1).2 (by omega))
    have HG_vhB0 : Hid (w.heap.size ≤ W108.heap.size) := Lib.hid (HB_109.out.size)
    have HN_vhB0_AW : Hid (R_AW < W108.heap.size) := Lib.hid (AW_109.out.lt)
    have HN_vhB0_vwB0 : Hid (R_vwB0 < W108.heap.size) := Lib.hid (vwB0_109.out.lt)
    have HN_vhB0_vwB1 : Hid (R_vwB1 < W108.heap.size) := Lib.hid (vwB1_109.out.lt)
    have HN_vhB0_vgB0 : Hid (R_vgB0 < W108.heap.size) := Lib.hid (vgB0_109.out.lt)
    have HN_vhB0_vgB1 : Hid (R_vgB1 < W108.heap.size) := Lib.hid (vgB1_109.out.lt)
    have BX_vhB1_vw : Hid (∀ k, (.slice a_vw ps0.q.length c_vw : Value).ownBlock = some k → k ≠ (W108.heap.size + 1)) := Lib.hid (fun k h1 h2 => absurd (vw_109.out.lt k h1).2 (by omega))
    have BX_vhB1_vg : Hid (∀ k, (.slice a_vg ps0.q.length c_vg : Value).ownBlock = some k → k ≠ (W108.heap.size + 1)) := Lib.hid (fun k h1 h2 => absurd (vg_109.out.lt k h1).2 (by omega))
    have BX_vhB1_t : Hid (∀ k, (.slice (some ⟨g_t, 0, none⟩) z0.q.length z0.q.length : Value).ownBlock = some k → k ≠ (W108.heap.size + 1)) := Lib.hid (fun k h1 h2 => absurd (t_109.out.lt k h1).2 (by omega))
    have BX_vhB1_vh : Hid (∀ k, (.slice a_vh ps0.q.length c_vh : Value).ownBlock = some k → k ≠ (W108.heap.size + 1)) := Lib.hid (fun k h1 h2 => absurd (O_vh.out.lt k h1).2 (by omega))
    have HG_vhB1 : Hid (w.heap.size ≤ (W108.heap.size + 1)) := Lib.hid (Nat.le_succ_of_le HB_109.out.size)
    have HN_vhB1_AW : Hid (R_AW < (W108.heap.size + 1)) := Lib.hid (Nat.lt_succ_of_lt AW_109.out.lt)
    have HN_vhB1_vwB0 : Hid (R_vwB0 < (W108.heap.size + 1)) := Lib.hid (Nat.lt_succ_of_lt vwB0_109.out.lt)
    have HN_vhB1_vwB1 : Hid (R_vwB1 < (W108.heap.size + 1)) := Lib.hid (Nat.lt_succ_of_lt vwB1_109.out.lt)
    have HN_vhB1_vgB0 : Hid (R_vgB0 < (W108.heap.size + 1)) := Lib.hid (Nat.lt_succ_of_lt vgB0_109.out.lt)
    have HN_vhB1_vgB1 : Hid (R_vgB1 < (W108.heap.size + 1)) := Lib.hid (Nat.lt_succ_of_lt vgB1_109.out.lt)
    have HN_vhB1_vhB0 : Hid (W108.heap.size < W108.heap.size + 1) := Lib.hid (Nat.lt_succ_self _)
    obtain ⟨R_vhB1, hR_vhB1⟩ : ∃ X, X = W108.heap.size + 1 := ⟨_, rfl⟩
    rw [← hR_vhB1] at X115_vhB1 HG_vhB1 HN_vhB1_vhB0 BX_vhB1_vw BX_vhB1_vg BX_vhB1_t BX_vhB1_vh HN_vhB1_AW HN_vhB1_vwB0 HN_vhB1_vwB1 HN_vhB1_vgB0 HN_vhB1_vgB1 ⊢
    clear hR_vhB1
    obtain ⟨R_vhB0, hR_vhB0⟩ : ∃ X, X = W108.heap.size := ⟨_, rfl⟩
    rw [← hR_vhB0] at X115_vhB0 HG_vhB0 HN_vhB1_vhB0 BX_vhB0_vw BX_vhB0_vg BX_vhB0_t BX_vhB0_vh HN_vhB0_AW HN_vhB0_vwB0 HN_vhB0_vwB1 HN_vhB0_vgB0 HN_vhB0_vgB1 ⊢
    clear hR_vhB0
    clear c110_AW_0 c110_AW_1 c110_AW_2
    clear c111_vwB0_0 c111_vwB0_1 c111_vwB0_2
    clear c112_vwB1_0 c112_vwB1_1 c112_vwB1_2 c112_vwB1_3 c112_vwB1_4
    clear c113_vgB0_0 c113_vgB0_1 c113_vgB0_2
    clear c114_vgB1_0 c114_vgB1_1 c114_vgB1_2 c114_vgB1_3 c114_vgB1_4
    have HB_116 := Lib.hid (HB_109.out.trans (l115.mono HB_109.out.size))
    have vw_116 := Lib.hid (own_below vw_109.out l115 (Nat.le_refl _))
    clear vw_109
    have vg_116 := Lib.hid (own_below vg_109.out l115 (Nat.le_refl _))
    clear vg_109
    have t_116 := Lib.hid (own_below t_109.out l115 (Nat.le_refl _))
    clear t_109
    have vh_116 := Lib.hid (own_below O_vh.out l115 (Nat.le_refl _))
    clear O_vh
    have AW_116 := Lib.hid (AW_109.out.below l115 AW_109.out.lt)
    clear AW_109
    have vwB0_116 := Lib.hid (vwB0_109.out.below l115 vwB0_109.out.lt)
    clear vwB0_109
    have vwB1_116 := Lib.hid (vwB1_109.out.below l115 vwB1_109.out.lt)
    clear vwB1_109
    have vgB0_116 := Lib.hid (vgB0_109.out.below l115 vgB0_109.out.lt)
    clear vgB0_109
    have vgB1_116 := Lib.hid (vgB1_109.out.below l115 vgB1_109.out.lt)
    clear vgB1_109
    clear l115
    have c117_AW_0 := AW_116.out.at 0 (v := .int .i64 z0.t) rfl
    have c117_AW_1 := AW_116.out.at 1 (v := .int .i64 z0.z) rfl
    have c117_AW_2 := AW_116.out.at 2 (v := .slice p0 z0.q.length cap0) rfl
    have c118_vwB0_0 := vwB0_116.out.at 0 (v := .int .i64 ps0.t) rfl
    have c118_vwB0_1 := vwB0_116.out.at 1 (v := .int .i64 ps0.z) rfl
    have c118_vwB0_2 := vwB0_116.out.at 2 (v := .slice a_vw ps0.q.length c_vw) rfl
    have c119_vwB1_0 := vwB1_116.out.at 0 (v := .int .i64 ps1.k) rfl
    have c119_vwB1_1 := vwB1_116.out.at 1 (v := .int .i64 ps1.n) rfl
    have c119_vwB1_2 := vwB1_116.out.at 2 (v := .int .i64 ps1.t) rfl
    have c119_vwB1_3 := vwB1_116.out.at 3 (v := .int .i64 ps1.l) rfl
    have c119_vwB1_4 := vwB1_116.out.at 4 (v := .string ps1.d) rfl
    have c120_vgB0_0 := vgB0_116.out.at 0 (v := .int .i64 ps0.t) rfl
    have c120_vgB0_1 := vgB0_116.out.at 1 (v := .int .i64 ps0.z) rfl
    have c120_vgB0_2 := vgB0_116.out.at 2 (v := .slice a_vg ps0.q.length c_vg) rfl
    have c121_vgB1_0 := vgB1_116.out.at 0 (v := .int .i64 ps1.k) rfl
    have c121_vgB1_1 := vgB1_116.out.at 1 (v := .int .i64 ps1.n) rfl
    have c121_vgB1_2 := vgB1_116.out.at 2 (v := .int .i64 ps1.t) rfl
    have c121_vgB1_3 := vgB1_116.out.at 3 (v := .int .i64 ps1.l) rfl
    have c121_vgB1_4 := vgB1_116.out.at 4 (v := .string ps1.d) rfl
    have c122_vhB0_0 := X115_vhB0.out.at 0 (v := .int .i64 ps0.t) rfl
    have c122_vhB0_1 := X115_vhB0.out.at 1 (v := .int .i64 ps0.z) rfl
    have c122_vhB0_2 := X115_vhB0.out.at 2 (v := .slice a_vh ps0.q.length c_vh) rfl
    have c123_vhB1_0 := X115_vhB1.out.at 0 (v := .int .i64 ps1.k) rfl
    have c123_vhB1_1 := X115_vhB1.out.at 1 (v := .int .i64 ps1.n) rfl
    have c123_vhB1_2 := X115_vhB1.out.at 2 (v := .int .i64 ps1.t) rfl
    have c123_vhB1_3 := X115_vhB1.out.at 3 (v := .int .i64 ps1.l) rfl
    have c123_vhB1_4 := X115_vhB1.out.at 4 (v := .string ps1.d) rfl
    go_wp2_with fail
    refine (eqSw_same _ _ ps0 _ (row_own vh_116.out) (row_own vw_116.out)).mono ?_
    rintro e W124 ⟨rfl, l124⟩
    clear c117_AW_0 c117_AW_1 c117_AW_2
    clear c118_vwB0_0 c118_vwB0_1 c118_vwB0_2
    clear c119_vwB1_0 c119_vwB1_1 c119_vwB1_2 c119_vwB1_3 c119_vwB1_4
    clear c120_vgB0_0 c120_vgB0_1 c120_vgB0_2
    clear c121_vgB1_0 c121_vgB1_1 c121_vgB1_2 c121_vgB1_3 c121_vgB1_4
    clear c122_vhB0_0 c122_vhB0_1 c122_vhB0_2
    clear c123_vhB1_0 c123_vhB1_1 c123_vhB1_2 c123_vhB1_3 c123_vhB1_4
    have HB_125 := Lib.hid (HB_116.out.trans (l124.mono HB_116.out.size))
    have vw_125 := Lib.hid (own_below vw_116.out l124 (Nat.le_refl _))
    clear vw_116
    have vg_125 := Lib.hid (own_below vg_116.out l124 (Nat.le_refl _))
    clear vg_116
    have t_125 := Lib.hid (own_below t_116.out l124 (Nat.le_refl _))
    clear t_116
    have vh_125 := Lib.hid (own_below vh_116.out l124 (Nat.le_refl _))
    clear vh_116
    have AW_125 := Lib.hid (AW_116.out.below l124 AW_116.out.lt)
    clear AW_116
    have vwB0_125 := Lib.hid (vwB0_116.out.below l124 vwB0_116.out.lt)
    clear vwB0_116
    have vwB1_125 := Lib.hid (vwB1_116.out.below l124 vwB1_116.out.lt)
    clear vwB1_116
    have vgB0_125 := Lib.hid (vgB0_116.out.below l124 vgB0_116.out.lt)
    clear vgB0_116
    have vgB1_125 := Lib.hid (vgB1_116.out.below l124 vgB1_116.out.lt)
    clear vgB1_116
    have vhB0_125 := Lib.hid (X115_vhB0.out.below l124 X115_vhB0.out.lt)
    clear X115_vhB0
    have vhB1_125 := Lib.hid (X115_vhB1.out.below l124 X115_vhB1.out.lt)
    clear X115_vhB1
    clear l124
    have c126_AW_0 := AW_125.out.at 0 (v := .int .i64 z0.t) rfl
    have c126_AW_1 := AW_125.out.at 1 (v := .int .i64 z0.z) rfl
    have c126_AW_2 := AW_125.out.at 2 (v := .slice p0 z0.q.length cap0) rfl
    have c127_vwB0_0 := vwB0_125.out.at 0 (v := .int .i64 ps0.t) rfl
    have c127_vwB0_1 := vwB0_125.out.at 1 (v := .int .i64 ps0.z) rfl
    have c127_vwB0_2 := vwB0_125.out.at 2 (v := .slice a_vw ps0.q.length c_vw) rfl
    have c128_vwB1_0 := vwB1_125.out.at 0 (v := .int .i64 ps1.k) rfl
    have c128_vwB1_1 := vwB1_125.out.at 1 (v := .int .i64 ps1.n) rfl
    have c128_vwB1_2 := vwB1_125.out.at 2 (v := .int .i64 ps1.t) rfl
    have c128_vwB1_3 := vwB1_125.out.at 3 (v := .int .i64 ps1.l) rfl
    have c128_vwB1_4 := vwB1_125.out.at 4 (v := .string ps1.d) rfl
    have c129_vgB0_0 := vgB0_125.out.at 0 (v := .int .i64 ps0.t) rfl
    have c129_vgB0_1 := vgB0_125.out.at 1 (v := .int .i64 ps0.z) rfl
    have c129_vgB0_2 := vgB0_125.out.at 2 (v := .slice a_vg ps0.q.length c_vg) rfl
    have c130_vgB1_0 := vgB1_125.out.at 0 (v := .int .i64 ps1.k) rfl
    have c130_vgB1_1 := vgB1_125.out.at 1 (v := .int .i64 ps1.n) rfl
    have c130_vgB1_2 := vgB1_125.out.at 2 (v := .int .i64 ps1.t) rfl
    have c130_vgB1_3 := vgB1_125.out.at 3 (v := .int .i64 ps1.l) rfl
    have c130_vgB1_4 := vgB1_125.out.at 4 (v := .string ps1.d) rfl
    have c131_vhB0_0 := vhB0_125.out.at 0 (v := .int .i64 ps0.t) rfl
    have c131_vhB0_1 := vhB0_125.out.at 1 (v := .int .i64 ps0.z) rfl
    have c131_vhB0_2 := vhB0_125.out.at 2 (v := .slice a_vh ps0.q.length c_vh) rfl
    have c132_vhB1_0 := vhB1_125.out.at 0 (v := .int .i64 ps1.k) rfl
    have c132_vhB1_1 := vhB1_125.out.at 1 (v := .int .i64 ps1.n) rfl
    have c132_vhB1_2 := vhB1_125.out.at 2 (v := .int .i64 ps1.t) rfl
    have c132_vhB1_3 := vhB1_125.out.at 3 (v := .int .i64 ps1.l) rfl
    have c132_vhB1_4 := vhB1_125.out.at 4 (v := .string ps1.d) rfl
    go_wp2_with fail
    refine (eqPacket_same ps1.k ps1.n ps1.t ps1.l ps1.d _).mono ?_
    rintro e W133 ⟨rfl, l133⟩
    clear c126_AW_0 c126_AW_1 c126_AW_2
    clear c127_vwB0_0 c127_vwB0_1 c127_vwB0_2
    clear c128_vwB1_0 c128_vwB1_1 c128_vwB1_2 c128_vwB1_3 c128_vwB1_4
    clear c129_vgB0_0 c129_vgB0_1 c129_vgB0_2
    clear c130_vgB1_0 c130_vgB1_1 c130_vgB1_2 c130_vgB1_3 c130_vgB1_4
    clear c131_vhB0_0 c131_vhB0_1 c131_vhB0_2
    clear c132_vhB1_0 c132_vhB1_1 c132_vhB1_2 c132_vhB1_3 c132_vhB1_4
    have HB_134 := Lib.hid (HB_125.out.trans (l133.mono HB_125.out.size))
    have vw_134 := Lib.hid (own_below vw_125.out l133 (Nat.le_refl _))
    clear vw_125
    have vg_134 := Lib.hid (own_below vg_125.out l133 (Nat.le_refl _))
    clear vg_125
    have t_134 := Lib.hid (own_below t_125.out l133 (Nat.le_refl _))
    clear t_125
    have vh_134 := Lib.hid (own_below vh_125.out l133 (Nat.le_refl _))
    clear vh_125
    have AW_134 := Lib.hid (AW_125.out.below l133 AW_125.out.lt)
    clear AW_125
    have vwB0_134 := Lib.hid (vwB0_125.out.below l133 vwB0_125.out.lt)
    clear vwB0_125
    have vwB1_134 := Lib.hid (vwB1_125.out.below l133 vwB1_125.out.lt)
    clear vwB1_125
    have vgB0_134 := Lib.hid (vgB0_125.out.below l133 vgB0_125.out.lt)
    clear vgB0_125
    have vgB1_134 := Lib.hid (vgB1_125.out.below l133 vgB1_125.out.lt)
    clear vgB1_125
    have vhB0_134 := Lib.hid (vhB0_125.out.below l133 vhB0_125.out.lt)
    clear vhB0_125
    have vhB1_134 := Lib.hid (vhB1_125.out.below l133 vhB1_125.out.lt)
    clear vhB1_125
    clear l133
    have c135_AW_0 := AW_134.out.at 0 (v := .int .i64 z0.t) rfl
    have c135_AW_1 := AW_134.out.at 1 (v := .int .i64 z0.z) rfl
    have c135_AW_2 := AW_134.out.at 2 (v := .slice p0 z0.q.length cap0) rfl
    have c136_vwB0_0 := vwB0_134.out.at 0 (v := .int .i64 ps0.t) rfl
    have c136_vwB0_1 := vwB0_134.out.at 1 (v := .int .i64 ps0.z) rfl
    have c136_vwB0_2 := vwB0_134.out.at 2 (v := .slice a_vw ps0.q.length c_vw) rfl
    have c137_vwB1_0 := vwB1_134.out.at 0 (v := .int .i64 ps1.k) rfl
    have c137_vwB1_1 := vwB1_134.out.at 1 (v := .int .i64 ps1.n) rfl
    have c137_vwB1_2 := vwB1_134.out.at 2 (v := .int .i64 ps1.t) rfl
    have c137_vwB1_3 := vwB1_134.out.at 3 (v := .int .i64 ps1.l) rfl
    have c137_vwB1_4 := vwB1_134.out.at 4 (v := .string ps1.d) rfl
    have c138_vgB0_0 := vgB0_134.out.at 0 (v := .int .i64 ps0.t) rfl
    have c138_vgB0_1 := vgB0_134.out.at 1 (v := .int .i64 ps0.z) rfl
    have c138_vgB0_2 := vgB0_134.out.at 2 (v := .slice a_vg ps0.q.length c_vg) rfl
    have c139_vgB1_0 := vgB1_134.out.at 0 (v := .int .i64 ps1.k) rfl
    have c139_vgB1_1 := vgB1_134.out.at 1 (v := .int .i64 ps1.n) rfl
    have c139_vgB1_2 := vgB1_134.out.at 2 (v := .int .i64 ps1.t) rfl
    have c139_vgB1_3 := vgB1_134.out.at 3 (v := .int .i64 ps1.l) rfl
    have c139_vgB1_4 := vgB1_134.out.at 4 (v := .string ps1.d) rfl
    have c140_vhB0_0 := vhB0_134.out.at 0 (v := .int .i64 ps0.t) rfl
    have c140_vhB0_1 := vhB0_134.out.at 1 (v := .int .i64 ps0.z) rfl
    have c140_vhB0_2 := vhB0_134.out.at 2 (v := .slice a_vh ps0.q.length c_vh) rfl
    have c141_vhB1_0 := vhB1_134.out.at 0 (v := .int .i64 ps1.k) rfl
    have c141_vhB1_1 := vhB1_134.out.at 1 (v := .int .i64 ps1.n) rfl
    have c141_vhB1_2 := vhB1_134.out.at 2 (v := .int .i64 ps1.t) rfl
    have c141_vhB1_3 := vhB1_134.out.at 3 (v := .int .i64 ps1.l) rfl
    have c141_vhB1_4 := vhB1_134.out.at 4 (v := .string ps1.d) rfl
    go_wp2_with fail
    refine (heldSw_own _ _ _ ps0.q.length 1 _ _ vg_134.out (by omega) (by have := HL0.out; have := HN0.out; omega)).mono ?_
    rintro e W142 ⟨rfl, l142⟩
    clear c135_AW_0 c135_AW_1 c135_AW_2
    clear c136_vwB0_0 c136_vwB0_1 c136_vwB0_2
    clear c137_vwB1_0 c137_vwB1_1 c137_vwB1_2 c137_vwB1_3 c137_vwB1_4
    clear c138_vgB0_0 c138_vgB0_1 c138_vgB0_2
    clear c139_vgB1_0 c139_vgB1_1 c139_vgB1_2 c139_vgB1_3 c139_vgB1_4
    clear c140_vhB0_0 c140_vhB0_1 c140_vhB0_2
    clear c141_vhB1_0 c141_vhB1_1 c141_vhB1_2 c141_vhB1_3 c141_vhB1_4
    have HB_143 := Lib.hid (HB_134.out.trans (l142.mono HB_134.out.size))
    have vw_143 := Lib.hid (own_below vw_134.out l142 (Nat.le_refl _))
    clear vw_134
    have vg_143 := Lib.hid (own_below vg_134.out l142 (Nat.le_refl _))
    clear vg_134
    have t_143 := Lib.hid (own_below t_134.out l142 (Nat.le_refl _))
    clear t_134
    have vh_143 := Lib.hid (own_below vh_134.out l142 (Nat.le_refl _))
    clear vh_134
    have AW_143 := Lib.hid (AW_134.out.below l142 AW_134.out.lt)
    clear AW_134
    have vwB0_143 := Lib.hid (vwB0_134.out.below l142 vwB0_134.out.lt)
    clear vwB0_134
    have vwB1_143 := Lib.hid (vwB1_134.out.below l142 vwB1_134.out.lt)
    clear vwB1_134
    have vgB0_143 := Lib.hid (vgB0_134.out.below l142 vgB0_134.out.lt)
    clear vgB0_134
    have vgB1_143 := Lib.hid (vgB1_134.out.below l142 vgB1_134.out.lt)
    clear vgB1_134
    have vhB0_143 := Lib.hid (vhB0_134.out.below l142 vhB0_134.out.lt)
    clear vhB0_134
    have vhB1_143 := Lib.hid (vhB1_134.out.below l142 vhB1_134.out.lt)
    clear vhB1_134
    clear l142
    have c144_AW_0 := AW_143.out.at 0 (v := .int .i64 z0.t) rfl
    have c144_AW_1 := AW_143.out.at 1 (v := .int .i64 z0.z) rfl
    have c144_AW_2 := AW_143.out.at 2 (v := .slice p0 z0.q.length cap0) rfl
    have c145_vwB0_0 := vwB0_143.out.at 0 (v := .int .i64 ps0.t) rfl
    have c145_vwB0_1 := vwB0_143.out.at 1 (v := .int .i64 ps0.z) rfl
    have c145_vwB0_2 := vwB0_143.out.at 2 (v := .slice a_vw ps0.q.length c_vw) rfl
    have c146_vwB1_0 := vwB1_143.out.at 0 (v := .int .i64 ps1.k) rfl
    have c146_vwB1_1 := vwB1_143.out.at 1 (v := .int .i64 ps1.n) rfl
    have c146_vwB1_2 := vwB1_143.out.at 2 (v := .int .i64 ps1.t) rfl
    have c146_vwB1_3 := vwB1_143.out.at 3 (v := .int .i64 ps1.l) rfl
    have c146_vwB1_4 := vwB1_143.out.at 4 (v := .string ps1.d) rfl
    have c147_vgB0_0 := vgB0_143.out.at 0 (v := .int .i64 ps0.t) rfl
    have c147_vgB0_1 := vgB0_143.out.at 1 (v := .int .i64 ps0.z) rfl
    have c147_vgB0_2 := vgB0_143.out.at 2 (v := .slice a_vg ps0.q.length c_vg) rfl
    have c148_vgB1_0 := vgB1_143.out.at 0 (v := .int .i64 ps1.k) rfl
    have c148_vgB1_1 := vgB1_143.out.at 1 (v := .int .i64 ps1.n) rfl
    have c148_vgB1_2 := vgB1_143.out.at 2 (v := .int .i64 ps1.t) rfl
    have c148_vgB1_3 := vgB1_143.out.at 3 (v := .int .i64 ps1.l) rfl
    have c148_vgB1_4 := vgB1_143.out.at 4 (v := .string ps1.d) rfl
    have c149_vhB0_0 := vhB0_143.out.at 0 (v := .int .i64 ps0.t) rfl
    have c149_vhB0_1 := vhB0_143.out.at 1 (v := .int .i64 ps0.z) rfl
    have c149_vhB0_2 := vhB0_143.out.at 2 (v := .slice a_vh ps0.q.length c_vh) rfl
    have c150_vhB1_0 := vhB1_143.out.at 0 (v := .int .i64 ps1.k) rfl
    have c150_vhB1_1 := vhB1_143.out.at 1 (v := .int .i64 ps1.n) rfl
    have c150_vhB1_2 := vhB1_143.out.at 2 (v := .int .i64 ps1.t) rfl
    have c150_vhB1_3 := vhB1_143.out.at 3 (v := .int .i64 ps1.l) rfl
    have c150_vhB1_4 := vhB1_143.out.at 4 (v := .string ps1.d) rfl
    go_wp2_with fail
    go_ret
    exact ⟨rfl, HB_143.out⟩
theorem fnExactPushItem_walk (w : World) (a0_0 : Int) (w0_0 : (Lit.int .i64 a0_0).wf = true) (a0_1 : Int) (w0_1 : (Lit.int .i64 a0_1).wf = true) (v0_2 : Value) (s0_2 : List ByteArray) (w0_2 : Row w v0_2 s0_2.length (s0_2.map Value.string)) (b0_2 : ∀ s ∈ s0_2, s.size ≤ maxLen) (a1 : ByteArray) (w1 : a1.size ≤ maxLen) (_hsh : w.ShapedOpen Try.prog) :
    Calls Try.prog 7 #[.agg #[.int .i64 a0_0, .int .i64 a0_1, v0_2], .string a1] w fun e w' => e = .returned (.bool true) ∧ Below w.heap.size w w' :=
  fnExactPushItem_wk v0_2 ⟨a0_0, a0_1, s0_2⟩ w w0_2 b0_2 a1 w1
end Go.Proofs.Ytkijfneaglogmaa
