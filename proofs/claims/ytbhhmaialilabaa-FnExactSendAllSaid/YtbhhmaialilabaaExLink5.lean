/-
  The exact law of many texts that are sent.
-/
import Derived.Test.YtbhhmaialilabaaSendAI
import Derived.Test.YtbhhmaialilabaaLink8
import Derived.Test.YtbhhmaialilabaaExLinkB
import Derived.WalkLawsBesides
import Derived.Deep.RegionHeld3
import Derived.Deep.CutRange
namespace Go.Proofs.Ytbhhmaialilabaa
open Go.RowKit Go.Lib Go.Joins
set_option linter.unusedVariables false

set_option maxRecDepth 100000 in
set_option maxHeartbeats 8000000 in
theorem fnExactSendAll_wk (w : World) (v0 : Value) (z0 : Lk) (w0 : Row w v0 z0.q.length (z0.q.map Value.string)) (b0 : ∀ s ∈ z0.q, s.size ≤ maxLen) (c0 : z0.f.size ≤ maxLen) (v1 : Value) (s1 : List ByteArray) (w1 : Row w v1 s1.length (s1.map Value.string)) (b1 : ∀ s ∈ s1, s.size ≤ maxLen) :
    Calls Try.prog 11 #[.agg #[v0, .string z0.f, .int .i64 z0.u], v1] w fun e w' => e = .returned (.bool true) ∧ Below w.heap.size w w' := by
  obtain ⟨p0, cap0, rfl, hc10, hc20, _⟩ := row_open w0
  unfold maxLen at hc20
  obtain ⟨W0, hW0⟩ : ∃ W0, W0 = w.alloc (.cells #[.slice p0 z0.q.length cap0, .string z0.f, .int .i64 z0.u] 55) := ⟨_, rfl⟩
  have HA0 : Hid (Bk W0 w.heap.size (.slice p0 z0.q.length cap0) z0.f z0.u 55) := Lib.hid (by rw [hW0]; exact Bk.new w _ _ _ _)
  have HB0 : Hid (Below w.heap.size w W0) := Lib.hid (by rw [hW0]; exact (Below.refl w.heap.size w).alloc (Nat.le_refl _) _)
  have HW0 := Lib.hid hW0
  clear hW0
  obtain ⟨R0, hR0⟩ : ∃ R0, R0 = w.heap.size := ⟨_, rfl⟩
  rw [← hR0] at HA0
  have HQ0 := Lib.hid hR0
  clear hR0
  have HR0 := Lib.hid w0
  have HSz := Lib.hid (fun (W : World) (hr : Row W (.slice p0 z0.q.length cap0) z0.q.length (z0.q.map Value.string)) => szLink_any (.slice p0 z0.q.length cap0) z0 W hr b0 c0 1048576 (by omega))
  clear w0 b0 c0
  obtain ⟨p1, cap1, rfl, hc11, hc21, _⟩ := row_open w1
  unfold maxLen at hc21
  have HR1 := Lib.hid w1
  have HSz1 := Lib.hid (fun (W : World) (hr : Row W (.slice p1 s1.length cap1) s1.length (s1.map Value.string)) (left : Nat) (hl : left ≤ 1048576) => szStringS_le (.slice p1 s1.length cap1) s1 W hr b1 left hl)
  clear w1 b1
  go_enter Try.func11, Try.ntmps11
  go_upto_region 1 with fail
  rw [← HW0.out, ← HQ0.out]
  obtain ⟨hc0_A_1, hc1_A_1, hc2_A_1⟩ := HA0.out.cells
  go_wp2_with fail
  refine (HSz.out _ (HR0.out.below HB0.out (Nat.le_refl _))).mono ?_
  rintro e W2 ⟨l2, r0, rfl, hr1, hr0⟩
  have HB_3 := Lib.hid (HB0.out.trans (l2.mono HB0.out.size))
  have A_3 := Lib.hid (HA0.out.below l2 HA0.out.lt)
  clear HA0
  clear HB0
  clear hc0_A_1 hc1_A_1 hc2_A_1
  obtain ⟨hc0_A_4, hc1_A_4, hc2_A_4⟩ := A_3.out.cells
  clear l2
  by_cases hneg : r0 < 0
  · clear hr0
    go_wp2_with fail
    go_ret
    exact ⟨rfl, HB_3.out⟩
  obtain ⟨hm0, hs0, hf0, hr00⟩ := hr0.resolve_left hneg
  have HN0 := Lib.hid hm0
  have HF0 := Lib.hid hf0
  clear hr0 hs0 HSz
  obtain ⟨r0', rfl⟩ : ∃ r0' : Nat, r0 = (r0' : Int) := ⟨r0.toNat, by omega⟩
  go_wp2_with fail
  refine (HSz1.out _ (HR1.out.below HB_3.out (Nat.le_refl _)) r0' (by omega)).mono ?_
  rintro e W5 ⟨rfl, r1, rfl, hr1'⟩
  by_cases hneg1 : r1 < 0
  · clear hr1'
    go_wp2_with fail
    go_ret
    exact ⟨rfl, HB_3.out⟩
  obtain ⟨hm1, hs1, hr10, hr11⟩ := hr1'.resolve_left hneg1
  have HN1 : Hid (s1.length ≤ 1048576) := Lib.hid (by omega)
  clear hr1' hs1 HSz1 hm1 hr10 hr11
  have hm0' := hm0
  have hf0' := hf0
  have HSp := Lib.hid (fun (g0 : Nat) (g1 : Nat) (W : World) (h0 : Row W (.slice (some ⟨g0, 0, none⟩) z0.q.length z0.q.length) z0.q.length (z0.q.map Value.string)) (h1 : Row W (.slice (some ⟨g1, 0, none⟩) s1.length s1.length) s1.length (s1.map Value.string)) => specSendAll_any (.slice (some ⟨g0, 0, none⟩) z0.q.length z0.q.length) (.slice (some ⟨g1, 0, none⟩) s1.length s1.length) z0 s1 W h0 (fitA_some g0 _) (by omega) h1)
  have HIm := Lib.hid (fun (g0 : Nat) (g1 : Nat) (W : World) (h0 : Row W (.slice (some ⟨g0, 0, none⟩) z0.q.length z0.q.length) z0.q.length (z0.q.map Value.string)) (h1 : Row W (.slice (some ⟨g1, 0, none⟩) s1.length s1.length) s1.length (s1.map Value.string)) => implSendAll_any (.slice (some ⟨g0, 0, none⟩) z0.q.length z0.q.length) (.slice (some ⟨g1, 0, none⟩) s1.length s1.length) z0 s1 W h0 (fitA_some g0 _) h1)
  have hlen0 := allL_len z0 s1
  generalize allL z0 s1 = ps0 at HSp HIm hlen0
  have HL0 := Lib.hid hlen0
  clear hlen0
  generalize allN z0 s1 = r0 at HSp HIm
  generalize allOk z0 s1 = r1 at HSp HIm
  clear hm0 hf0 hm0' hf0'
  go_wp2_with fail
  refine (toLink_lit _ z0 _ (HR0.out.below HB_3.out (Nat.le_refl _)) HN0.out).mono ?_
  rintro e W6 ⟨g_s0, rfl, o_s0, l6⟩
  have bx_A_s0 : ∀ k, (.slice (some ⟨g_s0, 0, none⟩) z0.q.length z0.q.length : Value).ownBlock = some k → k ≠ R0 := fun k h1 h2 => absurd A_3.out.lt (Nat.not_lt.2 (by rw [← h2]; exact (o_s0.lt k h1).1))
  have BX_A_s0 := Lib.hid bx_A_s0
  clear bx_A_s0
  have O_s0 := Lib.hid (own_base o_s0 (HB_3.out.size))
  have HB_7 := Lib.hid (HB_3.out.trans (l6.mono HB_3.out.size))
  have A_7 := Lib.hid (A_3.out.below l6 A_3.out.lt)
  clear A_3
  clear HB_3
  clear hc0_A_4 hc1_A_4 hc2_A_4
  obtain ⟨hc0_A_8, hc1_A_8, hc2_A_8⟩ := A_7.out.cells
  clear o_s0 l6
  go_wp2_with fail
  refine (toStringS_lit _ s1 _ (HR1.out.below HB_7.out (Nat.le_refl _)) HN1.out).mono ?_
  rintro e W9 ⟨g_s1, rfl, o_s1, l9⟩
  have ap_s0_s1 : ∀ k, (.slice (some ⟨g_s0, 0, none⟩) z0.q.length z0.q.length : Value).ownBlock = some k → (.slice (some ⟨g_s1, 0, none⟩) s1.length s1.length : Value).ownBlock ≠ some k := fun k h1 h2 => absurd (O_s0.out.lt k h1).2 (Nat.not_lt.2 (o_s1.lt k h2).1)
  have AP_s0_s1 := Lib.hid ap_s0_s1
  clear ap_s0_s1
  have bx_A_s1 : ∀ k, (.slice (some ⟨g_s1, 0, none⟩) s1.length s1.length : Value).ownBlock = some k → k ≠ R0 := fun k h1 h2 => absurd A_7.out.lt (Nat.not_lt.2 (by rw [← h2]; exact (o_s1.lt k h1).1))
  have BX_A_s1 := Lib.hid bx_A_s1
  clear bx_A_s1
  have O_s1 := Lib.hid (own_base o_s1 (HB_7.out.size))
  have HB_10 := Lib.hid (HB_7.out.trans (l9.mono HB_7.out.size))
  have s0_10 := Lib.hid (own_below O_s0.out l9 (Nat.le_refl _))
  clear O_s0
  have A_10 := Lib.hid (A_7.out.below l9 A_7.out.lt)
  clear A_7
  clear HB_7
  clear hc0_A_8 hc1_A_8 hc2_A_8
  obtain ⟨hc0_A_11, hc1_A_11, hc2_A_11⟩ := A_10.out.cells
  clear o_s1 l9
  go_wp2_with fail
  refine (HSp.out g_s0 g_s1 _ (row_own s0_10.out) (row_own O_s1.out)).mono ?_
  rintro e W12 ⟨vw0, rfl, o_vw0, l12⟩
  obtain ⟨a_vw0, c_vw0, rfl, _, _⟩ := own_someS0 o_vw0
  have ap_s0_vw0 : ∀ k, (.slice (some ⟨g_s0, 0, none⟩) z0.q.length z0.q.length : Value).ownBlock = some k → (.slice a_vw0 ps0.q.length c_vw0 : Value).ownBlock ≠ some k := fun k h1 h2 => absurd (s0_10.out.lt k h1).2 (Nat.not_lt.2 (o_vw0.lt k h2).1)
  have AP_s0_vw0 := Lib.hid ap_s0_vw0
  clear ap_s0_vw0
  have ap_s1_vw0 : ∀ k, (.slice (some ⟨g_s1, 0, none⟩) s1.length s1.length : Value).ownBlock = some k → (.slice a_vw0 ps0.q.length c_vw0 : Value).ownBlock ≠ some k := fun k h1 h2 => absurd (O_s1.out.lt k h1).2 (Nat.not_lt.2 (o_vw0.lt k h2).1)
  have AP_s1_vw0 := Lib.hid ap_s1_vw0
  clear ap_s1_vw0
  have bx_A_vw0 : ∀ k, (.slice a_vw0 ps0.q.length c_vw0 : Value).ownBlock = some k → k ≠ R0 := fun k h1 h2 => absurd A_10.out.lt (Nat.not_lt.2 (by rw [← h2]; exact (o_vw0.lt k h1).1))
  have BX_A_vw0 := Lib.hid bx_A_vw0
  clear bx_A_vw0
  have O_vw0 := Lib.hid (own_base o_vw0 (HB_10.out.size))
  have HB_13 := Lib.hid (HB_10.out.trans (l12.mono HB_10.out.size))
  have s0_13 := Lib.hid (own_below s0_10.out l12 (Nat.le_refl _))
  clear s0_10
  have s1_13 := Lib.hid (own_below O_s1.out l12 (Nat.le_refl _))
  clear O_s1
  have A_13 := Lib.hid (A_10.out.below l12 A_10.out.lt)
  clear A_10
  clear HB_10
  clear hc0_A_11 hc1_A_11 hc2_A_11
  obtain ⟨hc0_A_14, hc1_A_14, hc2_A_14⟩ := A_13.out.cells
  clear l12 o_vw0
  clear s0_13
  clear s1_13
  go_upto_region 9 with fail
  obtain ⟨W15, hW15⟩ : ∃ W15, W15 = W12.alloc (.cells #[.slice a_vw0 ps0.q.length c_vw0, .string ps0.f, .int .i64 ps0.u] 26) := ⟨_, rfl⟩
  have l15 : Below W12.heap.size W12 W15 := by rw [hW15]; exact (Below.refl _ _).alloc (Nat.le_refl _) _
  have bw_b15 : Hid (Bk W15 W12.heap.size (.slice a_vw0 ps0.q.length c_vw0) ps0.f ps0.u 26) := Lib.hid (by rw [hW15]; exact Bk.new _ _ _ _ _)
  rw [← hW15]
  clear hW15
  have BX_bw_vw0 : Hid (∀ k, (.slice a_vw0 ps0.q.length c_vw0 : Value).ownBlock = some k → k ≠ W12.heap.size) := Lib.hid (fun k h1 h2 => absurd (O_vw0.out.lt k h1).2 (by omega))
  obtain ⟨X_bw, hX_bw⟩ : ∃ X, X = W12.heap.size := ⟨_, rfl⟩
  rw [← hX_bw] at bw_b15 BX_bw_vw0 ⊢
  clear hX_bw
  have HB_16 := Lib.hid (HB_13.out.trans (l15.mono HB_13.out.size))
  have vw0_16 := Lib.hid (own_below O_vw0.out l15 (Nat.le_refl _))
  clear O_vw0
  have A_16 := Lib.hid (A_13.out.below l15 A_13.out.lt)
  clear A_13
  clear HB_13
  clear hc0_A_14 hc1_A_14 hc2_A_14
  obtain ⟨hc0_A_17, hc1_A_17, hc2_A_17⟩ := A_16.out.cells
  clear l15
  clear hc0_A_17 hc1_A_17 hc2_A_17
  obtain ⟨hc0_A_18, hc1_A_18, hc2_A_18⟩ := A_16.out.cells
  obtain ⟨hc0_bw_19, hc1_bw_19, hc2_bw_19⟩ := bw_b15.out.cells
  go_wp2_with fail
  refine (toLink_lit _ z0 _ (HR0.out.below HB_16.out (Nat.le_refl _)) HN0.out).mono ?_
  rintro e W20 ⟨g_x0, rfl, o_x0, l20⟩
  have ap_vw0_x0 : ∀ k, (.slice a_vw0 ps0.q.length c_vw0 : Value).ownBlock = some k → (.slice (some ⟨g_x0, 0, none⟩) z0.q.length z0.q.length : Value).ownBlock ≠ some k := fun k h1 h2 => absurd (vw0_16.out.lt k h1).2 (Nat.not_lt.2 (o_x0.lt k h2).1)
  have AP_vw0_x0 := Lib.hid ap_vw0_x0
  clear ap_vw0_x0
  have bx_A_x0 : ∀ k, (.slice (some ⟨g_x0, 0, none⟩) z0.q.length z0.q.length : Value).ownBlock = some k → k ≠ R0 := fun k h1 h2 => absurd A_16.out.lt (Nat.not_lt.2 (by rw [← h2]; exact (o_x0.lt k h1).1))
  have BX_A_x0 := Lib.hid bx_A_x0
  clear bx_A_x0
  have bx_bw_x0 : ∀ k, (.slice (some ⟨g_x0, 0, none⟩) z0.q.length z0.q.length : Value).ownBlock = some k → k ≠ X_bw := fun k h1 h2 => absurd bw_b15.out.lt (Nat.not_lt.2 (by rw [← h2]; exact (o_x0.lt k h1).1))
  have BX_bw_x0 := Lib.hid bx_bw_x0
  clear bx_bw_x0
  have O_x0 := Lib.hid (own_base o_x0 (HB_16.out.size))
  have HB_21 := Lib.hid (HB_16.out.trans (l20.mono HB_16.out.size))
  have vw0_21 := Lib.hid (own_below vw0_16.out l20 (Nat.le_refl _))
  clear vw0_16
  have A_21 := Lib.hid (A_16.out.below l20 A_16.out.lt)
  clear A_16
  have bw_21 := Lib.hid (bw_b15.out.below l20 bw_b15.out.lt)
  clear bw_b15
  clear HB_16
  clear hc0_A_18 hc1_A_18 hc2_A_18
  obtain ⟨hc0_A_22, hc1_A_22, hc2_A_22⟩ := A_21.out.cells
  clear hc0_bw_19 hc1_bw_19 hc2_bw_19
  obtain ⟨hc0_bw_23, hc1_bw_23, hc2_bw_23⟩ := bw_21.out.cells
  clear o_x0 l20
  go_upto_region 10 with fail
  obtain ⟨W24, hW24⟩ : ∃ W24, W24 = W20.alloc (.cells #[.slice (some ⟨g_x0, 0, none⟩) z0.q.length z0.q.length, .string z0.f, .int .i64 z0.u] 26) := ⟨_, rfl⟩
  have l24 : Below W20.heap.size W20 W24 := by rw [hW24]; exact (Below.refl _ _).alloc (Nat.le_refl _) _
  have bx_b24 : Hid (Bk W24 W20.heap.size (.slice (some ⟨g_x0, 0, none⟩) z0.q.length z0.q.length) z0.f z0.u 26) := Lib.hid (by rw [hW24]; exact Bk.new _ _ _ _ _)
  rw [← hW24]
  clear hW24
  have BX_bx_vw0 : Hid (∀ k, (.slice a_vw0 ps0.q.length c_vw0 : Value).ownBlock = some k → k ≠ W20.heap.size) := Lib.hid (fun k h1 h2 => absurd (vw0_21.out.lt k h1).2 (by omega))
  have BX_bx_x0 : Hid (∀ k, (.slice (some ⟨g_x0, 0, none⟩) z0.q.length z0.q.length : Value).ownBlock = some k → k ≠ W20.heap.size) := Lib.hid (fun k h1 h2 => absurd (O_x0.out.lt k h1).2 (by omega))
  obtain ⟨X_bx, hX_bx⟩ : ∃ X, X = W20.heap.size := ⟨_, rfl⟩
  rw [← hX_bx] at bx_b24 BX_bx_vw0 BX_bx_x0 ⊢
  clear hX_bx
  have HB_25 := Lib.hid (HB_21.out.trans (l24.mono HB_21.out.size))
  have vw0_25 := Lib.hid (own_below vw0_21.out l24 (Nat.le_refl _))
  clear vw0_21
  have x0_25 := Lib.hid (own_below O_x0.out l24 (Nat.le_refl _))
  clear O_x0
  have A_25 := Lib.hid (A_21.out.below l24 A_21.out.lt)
  clear A_21
  have bw_25 := Lib.hid (bw_21.out.below l24 bw_21.out.lt)
  clear bw_21
  clear HB_21
  clear hc0_A_22 hc1_A_22 hc2_A_22
  obtain ⟨hc0_A_26, hc1_A_26, hc2_A_26⟩ := A_25.out.cells
  clear hc0_bw_23 hc1_bw_23 hc2_bw_23
  obtain ⟨hc0_bw_27, hc1_bw_27, hc2_bw_27⟩ := bw_25.out.cells
  clear l24
  clear hc0_A_26 hc1_A_26 hc2_A_26
  obtain ⟨hc0_A_28, hc1_A_28, hc2_A_28⟩ := A_25.out.cells
  clear hc0_bw_27 hc1_bw_27 hc2_bw_27
  obtain ⟨hc0_bw_29, hc1_bw_29, hc2_bw_29⟩ := bw_25.out.cells
  obtain ⟨hc0_bx_30, hc1_bx_30, hc2_bx_30⟩ := bx_b24.out.cells
  go_wp2_with fail
  refine (toStringS_lit _ s1 _ (HR1.out.below HB_25.out (Nat.le_refl _)) HN1.out).mono ?_
  rintro e W31 ⟨g_x1, rfl, o_x1, l31⟩
  have ap_vw0_x1 : ∀ k, (.slice a_vw0 ps0.q.length c_vw0 : Value).ownBlock = some k → (.slice (some ⟨g_x1, 0, none⟩) s1.length s1.length : Value).ownBlock ≠ some k := fun k h1 h2 => absurd (vw0_25.out.lt k h1).2 (Nat.not_lt.2 (o_x1.lt k h2).1)
  have AP_vw0_x1 := Lib.hid ap_vw0_x1
  clear ap_vw0_x1
  have ap_x0_x1 : ∀ k, (.slice (some ⟨g_x0, 0, none⟩) z0.q.length z0.q.length : Value).ownBlock = some k → (.slice (some ⟨g_x1, 0, none⟩) s1.length s1.length : Value).ownBlock ≠ some k := fun k h1 h2 => absurd (x0_25.out.lt k h1).2 (Nat.not_lt.2 (o_x1.lt k h2).1)
  have AP_x0_x1 := Lib.hid ap_x0_x1
  clear ap_x0_x1
  have bx_A_x1 : ∀ k, (.slice (some ⟨g_x1, 0, none⟩) s1.length s1.length : Value).ownBlock = some k → k ≠ R0 := fun k h1 h2 => absurd A_25.out.lt (Nat.not_lt.2 (by rw [← h2]; exact (o_x1.lt k h1).1))
  have BX_A_x1 := Lib.hid bx_A_x1
  clear bx_A_x1
  have bx_bw_x1 : ∀ k, (.slice (some ⟨g_x1, 0, none⟩) s1.length s1.length : Value).ownBlock = some k → k ≠ X_bw := fun k h1 h2 => absurd bw_25.out.lt (Nat.not_lt.2 (by rw [← h2]; exact (o_x1.lt k h1).1))
  have BX_bw_x1 := Lib.hid bx_bw_x1
  clear bx_bw_x1
  have bx_bx_x1 : ∀ k, (.slice (some ⟨g_x1, 0, none⟩) s1.length s1.length : Value).ownBlock = some k → k ≠ X_bx := fun k h1 h2 => absurd bx_b24.out.lt (Nat.not_lt.2 (by rw [← h2]; exact (o_x1.lt k h1).1))
  have BX_bx_x1 := Lib.hid bx_bx_x1
  clear bx_bx_x1
  have O_x1 := Lib.hid (own_base o_x1 (HB_25.out.size))
  have HB_32 := Lib.hid (HB_25.out.trans (l31.mono HB_25.out.size))
  have vw0_32 := Lib.hid (own_below vw0_25.out l31 (Nat.le_refl _))
  clear vw0_25
  have x0_32 := Lib.hid (own_below x0_25.out l31 (Nat.le_refl _))
  clear x0_25
  have A_32 := Lib.hid (A_25.out.below l31 A_25.out.lt)
  clear A_25
  have bw_32 := Lib.hid (bw_25.out.below l31 bw_25.out.lt)
  clear bw_25
  have bx_32 := Lib.hid (bx_b24.out.below l31 bx_b24.out.lt)
  clear bx_b24
  clear HB_25
  clear hc0_A_28 hc1_A_28 hc2_A_28
  obtain ⟨hc0_A_33, hc1_A_33, hc2_A_33⟩ := A_32.out.cells
  clear hc0_bw_29 hc1_bw_29 hc2_bw_29
  obtain ⟨hc0_bw_34, hc1_bw_34, hc2_bw_34⟩ := bw_32.out.cells
  clear hc0_bx_30 hc1_bx_30 hc2_bx_30
  obtain ⟨hc0_bx_35, hc1_bx_35, hc2_bx_35⟩ := bx_32.out.cells
  clear o_x1 l31
  go_wp2_with fail
  refine (HIm.out g_x0 g_x1 _ (row_own x0_32.out) (row_own O_x1.out)).mono ?_
  rintro e W36 ⟨vg0, rfl, o_vg0, l36⟩
  obtain ⟨a_vg0, c_vg0, rfl, _, _⟩ := own_someS0 o_vg0
  have ap_vw0_vg0 : ∀ k, (.slice a_vw0 ps0.q.length c_vw0 : Value).ownBlock = some k → (.slice a_vg0 ps0.q.length c_vg0 : Value).ownBlock ≠ some k := fun k h1 h2 => absurd (vw0_32.out.lt k h1).2 (Nat.not_lt.2 (o_vg0.lt k h2).1)
  have AP_vw0_vg0 := Lib.hid ap_vw0_vg0
  clear ap_vw0_vg0
  have ap_x0_vg0 : ∀ k, (.slice (some ⟨g_x0, 0, none⟩) z0.q.length z0.q.length : Value).ownBlock = some k → (.slice a_vg0 ps0.q.length c_vg0 : Value).ownBlock ≠ some k := fun k h1 h2 => absurd (x0_32.out.lt k h1).2 (Nat.not_lt.2 (o_vg0.lt k h2).1)
  have AP_x0_vg0 := Lib.hid ap_x0_vg0
  clear ap_x0_vg0
  have ap_x1_vg0 : ∀ k, (.slice (some ⟨g_x1, 0, none⟩) s1.length s1.length : Value).ownBlock = some k → (.slice a_vg0 ps0.q.length c_vg0 : Value).ownBlock ≠ some k := fun k h1 h2 => absurd (O_x1.out.lt k h1).2 (Nat.not_lt.2 (o_vg0.lt k h2).1)
  have AP_x1_vg0 := Lib.hid ap_x1_vg0
  clear ap_x1_vg0
  have bx_A_vg0 : ∀ k, (.slice a_vg0 ps0.q.length c_vg0 : Value).ownBlock = some k → k ≠ R0 := fun k h1 h2 => absurd A_32.out.lt (Nat.not_lt.2 (by rw [← h2]; exact (o_vg0.lt k h1).1))
  have BX_A_vg0 := Lib.hid bx_A_vg0
  clear bx_A_vg0
  have bx_bw_vg0 : ∀ k, (.slice a_vg0 ps0.q.length c_vg0 : Value).ownBlock = some k → k ≠ X_bw := fun k h1 h2 => absurd bw_32.out.lt (Nat.not_lt.2 (by rw [← h2]; exact (o_vg0.lt k h1).1))
  have BX_bw_vg0 := Lib.hid bx_bw_vg0
  clear bx_bw_vg0
  have bx_bx_vg0 : ∀ k, (.slice a_vg0 ps0.q.length c_vg0 : Value).ownBlock = some k → k ≠ X_bx := fun k h1 h2 => absurd bx_32.out.lt (Nat.not_lt.2 (by rw [← h2]; exact (o_vg0.lt k h1).1))
  have BX_bx_vg0 := Lib.hid bx_bx_vg0
  clear bx_bx_vg0
  have O_vg0 := Lib.hid (own_base o_vg0 (HB_32.out.size))
  have HB_37 := Lib.hid (HB_32.out.trans (l36.mono HB_32.out.size))
  have vw0_37 := Lib.hid (own_below vw0_32.out l36 (Nat.le_refl _))
  clear vw0_32
  have x0_37 := Lib.hid (own_below x0_32.out l36 (Nat.le_refl _))
  clear x0_32
  have x1_37 := Lib.hid (own_below O_x1.out l36 (Nat.le_refl _))
  clear O_x1
  have A_37 := Lib.hid (A_32.out.below l36 A_32.out.lt)
  clear A_32
  have bw_37 := Lib.hid (bw_32.out.below l36 bw_32.out.lt)
  clear bw_32
  have bx_37 := Lib.hid (bx_32.out.below l36 bx_32.out.lt)
  clear bx_32
  clear HB_32
  clear hc0_A_33 hc1_A_33 hc2_A_33
  obtain ⟨hc0_A_38, hc1_A_38, hc2_A_38⟩ := A_37.out.cells
  clear hc0_bw_34 hc1_bw_34 hc2_bw_34
  obtain ⟨hc0_bw_39, hc1_bw_39, hc2_bw_39⟩ := bw_37.out.cells
  clear hc0_bx_35 hc1_bx_35 hc2_bx_35
  obtain ⟨hc0_bx_40, hc1_bx_40, hc2_bx_40⟩ := bx_37.out.cells
  clear l36 o_vg0
  go_upto_region 12 with fail
  obtain ⟨W41, hW41⟩ : ∃ W41, W41 = W36.alloc (.cells #[.slice a_vg0 ps0.q.length c_vg0, .string ps0.f, .int .i64 ps0.u] 26) := ⟨_, rfl⟩
  have l41 : Below W36.heap.size W36 W41 := by rw [hW41]; exact (Below.refl _ _).alloc (Nat.le_refl _) _
  have bg_b41 : Hid (Bk W41 W36.heap.size (.slice a_vg0 ps0.q.length c_vg0) ps0.f ps0.u 26) := Lib.hid (by rw [hW41]; exact Bk.new _ _ _ _ _)
  rw [← hW41]
  clear hW41
  have BX_bg_vw0 : Hid (∀ k, (.slice a_vw0 ps0.q.length c_vw0 : Value).ownBlock = some k → k ≠ W36.heap.size) := Lib.hid (fun k h1 h2 => absurd (vw0_37.out.lt k h1).2 (by omega))
  have BX_bg_x0 : Hid (∀ k, (.slice (some ⟨g_x0, 0, none⟩) z0.q.length z0.q.length : Value).ownBlock = some k → k ≠ W36.heap.size) := Lib.hid (fun k h1 h2 => absurd (x0_37.out.lt k h1).2 (by omega))
  have BX_bg_x1 : Hid (∀ k, (.slice (some ⟨g_x1, 0, none⟩) s1.length s1.length : Value).ownBlock = some k → k ≠ W36.heap.size) := Lib.hid (fun k h1 h2 => absurd (x1_37.out.lt k h1).2 (by omega))
  have BX_bg_vg0 : Hid (∀ k, (.slice a_vg0 ps0.q.length c_vg0 : Value).ownBlock = some k → k ≠ W36.heap.size) := Lib.hid (fun k h1 h2 => absurd (O_vg0.out.lt k h1).2 (by omega))
  obtain ⟨X_bg, hX_bg⟩ : ∃ X, X = W36.heap.size := ⟨_, rfl⟩
  rw [← hX_bg] at bg_b41 BX_bg_vw0 BX_bg_x0 BX_bg_x1 BX_bg_vg0 ⊢
  clear hX_bg
  have HB_42 := Lib.hid (HB_37.out.trans (l41.mono HB_37.out.size))
  have vw0_42 := Lib.hid (own_below vw0_37.out l41 (Nat.le_refl _))
  clear vw0_37
  have x0_42 := Lib.hid (own_below x0_37.out l41 (Nat.le_refl _))
  clear x0_37
  have x1_42 := Lib.hid (own_below x1_37.out l41 (Nat.le_refl _))
  clear x1_37
  have vg0_42 := Lib.hid (own_below O_vg0.out l41 (Nat.le_refl _))
  clear O_vg0
  have A_42 := Lib.hid (A_37.out.below l41 A_37.out.lt)
  clear A_37
  have bw_42 := Lib.hid (bw_37.out.below l41 bw_37.out.lt)
  clear bw_37
  have bx_42 := Lib.hid (bx_37.out.below l41 bx_37.out.lt)
  clear bx_37
  clear HB_37
  clear hc0_A_38 hc1_A_38 hc2_A_38
  obtain ⟨hc0_A_43, hc1_A_43, hc2_A_43⟩ := A_42.out.cells
  clear hc0_bw_39 hc1_bw_39 hc2_bw_39
  obtain ⟨hc0_bw_44, hc1_bw_44, hc2_bw_44⟩ := bw_42.out.cells
  clear hc0_bx_40 hc1_bx_40 hc2_bx_40
  obtain ⟨hc0_bx_45, hc1_bx_45, hc2_bx_45⟩ := bx_42.out.cells
  clear l41
  clear hc0_A_43 hc1_A_43 hc2_A_43
  obtain ⟨hc0_A_46, hc1_A_46, hc2_A_46⟩ := A_42.out.cells
  clear hc0_bw_44 hc1_bw_44 hc2_bw_44
  obtain ⟨hc0_bw_47, hc1_bw_47, hc2_bw_47⟩ := bw_42.out.cells
  clear hc0_bx_45 hc1_bx_45 hc2_bx_45
  obtain ⟨hc0_bx_48, hc1_bx_48, hc2_bx_48⟩ := bx_42.out.cells
  obtain ⟨hc0_bg_49, hc1_bg_49, hc2_bg_49⟩ := bg_b41.out.cells
  go_wp2_with fail
  refine (eqLink_same _ _ ps0 _ (row_own vg0_42.out) (row_own vw0_42.out)).mono ?_
  rintro e W50 ⟨rfl, l50⟩
  have HB_51 := Lib.hid (HB_42.out.trans (l50.mono HB_42.out.size))
  have vw0_51 := Lib.hid (own_below vw0_42.out l50 (Nat.le_refl _))
  clear vw0_42
  have x0_51 := Lib.hid (own_below x0_42.out l50 (Nat.le_refl _))
  clear x0_42
  have x1_51 := Lib.hid (own_below x1_42.out l50 (Nat.le_refl _))
  clear x1_42
  have vg0_51 := Lib.hid (own_below vg0_42.out l50 (Nat.le_refl _))
  clear vg0_42
  have A_51 := Lib.hid (A_42.out.below l50 A_42.out.lt)
  clear A_42
  have bw_51 := Lib.hid (bw_42.out.below l50 bw_42.out.lt)
  clear bw_42
  have bx_51 := Lib.hid (bx_42.out.below l50 bx_42.out.lt)
  clear bx_42
  have bg_51 := Lib.hid (bg_b41.out.below l50 bg_b41.out.lt)
  clear bg_b41
  clear HB_42
  clear hc0_A_46 hc1_A_46 hc2_A_46
  obtain ⟨hc0_A_52, hc1_A_52, hc2_A_52⟩ := A_51.out.cells
  clear hc0_bw_47 hc1_bw_47 hc2_bw_47
  obtain ⟨hc0_bw_53, hc1_bw_53, hc2_bw_53⟩ := bw_51.out.cells
  clear hc0_bx_48 hc1_bx_48 hc2_bx_48
  obtain ⟨hc0_bx_54, hc1_bx_54, hc2_bx_54⟩ := bx_51.out.cells
  clear hc0_bg_49 hc1_bg_49 hc2_bg_49
  obtain ⟨hc0_bg_55, hc1_bg_55, hc2_bg_55⟩ := bg_51.out.cells
  clear l50
  go_upto_region 14 with fail
  go_cut [68] from 64 to 68 (fun b wx => b = .bool false ∧ Hid (Below W50.heap.size W50 wx))
  case first => as_aux_lemma =>
    go_region_held3 (fun w' => w'.cell? ⟨X_bx, 0, none⟩ = some (.slice (some ⟨g_x0, 0, none⟩) z0.q.length z0.q.length) ∧ w'.cell? ⟨X_bx, 1, none⟩ = some (.string z0.f) ∧ w'.cell? ⟨X_bx, 2, none⟩ = some (.int .i64 z0.u) ∧ w'.cell? ⟨R0, 0, none⟩ = some (.slice p0 z0.q.length cap0) ∧ w'.cell? ⟨R0, 1, none⟩ = some (.string z0.f) ∧ w'.cell? ⟨R0, 2, none⟩ = some (.int .i64 z0.u) ∧ Below W50.heap.size W50 w')
      ((refine keep_links bx_51.out A_51.out ?_; repeat (first | assumption | exact Below.refl _ _ | refine Below.drew ?_)))
      (first
        | (go_at_call 45; refine (toLink_lit _ z0 _ (HR0.out.below (HB_51.out.trans ((by repeat (first | assumption | exact Below.refl _ _ | refine Below.drew ?_) : Below W50.heap.size W50 _).mono HB_51.out.size)) (Nat.le_refl _)) HN0.out).mono ?_; rintro e w5 ⟨g5, rfl, o5, l5⟩; have hb5 := below_call7 (by repeat (first | assumption | exact Below.refl _ _ | refine Below.drew ?_) : Below W50.heap.size W50 _) l5; have ho5 := row_own o5; clear o5 l5)
        | (go_at_call 46; refine (eqLink_same _ _ z0 _ ((row_own x0_51.out).below hb5 (Nat.le_refl _)) ho5).mono ?_; rintro e w6 ⟨rfl, l6⟩; have hb6 := below_call7 hb5 l6; clear l6))
    all_goals go_wp2_with fail
    all_goals go_meet
    all_goals
      case rel => exact ⟨by simp, Lib.hid (by repeat (first | assumption | exact Below.refl _ _ | refine Below.drew ?_))⟩
  case rest =>
    obtain ⟨rfl, HCut⟩ := hcut
    rename World => W56
    have l56 := HCut.out
    clear HCut
    have HB_57 := Lib.hid (HB_51.out.trans (l56.mono HB_51.out.size))
    have vw0_57 := Lib.hid (own_below vw0_51.out l56 (Nat.le_refl _))
    clear vw0_51
    have x0_57 := Lib.hid (own_below x0_51.out l56 (Nat.le_refl _))
    clear x0_51
    have x1_57 := Lib.hid (own_below x1_51.out l56 (Nat.le_refl _))
    clear x1_51
    have vg0_57 := Lib.hid (own_below vg0_51.out l56 (Nat.le_refl _))
    clear vg0_51
    have A_57 := Lib.hid (A_51.out.below l56 A_51.out.lt)
    clear A_51
    have bw_57 := Lib.hid (bw_51.out.below l56 bw_51.out.lt)
    clear bw_51
    have bx_57 := Lib.hid (bx_51.out.below l56 bx_51.out.lt)
    clear bx_51
    have bg_57 := Lib.hid (bg_51.out.below l56 bg_51.out.lt)
    clear bg_51
    clear HB_51
    clear hc0_A_52 hc1_A_52 hc2_A_52
    obtain ⟨hc0_A_58, hc1_A_58, hc2_A_58⟩ := A_57.out.cells
    clear hc0_bw_53 hc1_bw_53 hc2_bw_53
    obtain ⟨hc0_bw_59, hc1_bw_59, hc2_bw_59⟩ := bw_57.out.cells
    clear hc0_bx_54 hc1_bx_54 hc2_bx_54
    obtain ⟨hc0_bx_60, hc1_bx_60, hc2_bx_60⟩ := bx_57.out.cells
    clear hc0_bg_55 hc1_bg_55 hc2_bg_55
    obtain ⟨hc0_bg_61, hc1_bg_61, hc2_bg_61⟩ := bg_57.out.cells
    clear l56
    go_wp2_with fail
    refine (toStringS_lit _ s1 _ (HR1.out.below HB_57.out (Nat.le_refl _)) HN1.out).mono ?_
    rintro e W62 ⟨g_y1, rfl, o_y1, l62⟩
    have ap_vw0_y1 : ∀ k, (.slice a_vw0 ps0.q.length c_vw0 : Value).ownBlock = some k → (.slice (some ⟨g_y1, 0, none⟩) s1.length s1.length : Value).ownBlock ≠ some k := fun k h1 h2 => absurd (vw0_57.out.lt k h1).2 (Nat.not_lt.2 (o_y1.lt k h2).1)
    have AP_vw0_y1 := Lib.hid ap_vw0_y1
    clear ap_vw0_y1
    have ap_x0_y1 : ∀ k, (.slice (some ⟨g_x0, 0, none⟩) z0.q.length z0.q.length : Value).ownBlock = some k → (.slice (some ⟨g_y1, 0, none⟩) s1.length s1.length : Value).ownBlock ≠ some k := fun k h1 h2 => absurd (x0_57.out.lt k h1).2 (Nat.not_lt.2 (o_y1.lt k h2).1)
    have AP_x0_y1 := Lib.hid ap_x0_y1
    clear ap_x0_y1
    have ap_x1_y1 : ∀ k, (.slice (some ⟨g_x1, 0, none⟩) s1.length s1.length : Value).ownBlock = some k → (.slice (some ⟨g_y1, 0, none⟩) s1.length s1.length : Value).ownBlock ≠ some k := fun k h1 h2 => absurd (x1_57.out.lt k h1).2 (Nat.not_lt.2 (o_y1.lt k h2).1)
    have AP_x1_y1 := Lib.hid ap_x1_y1
    clear ap_x1_y1
    have ap_vg0_y1 : ∀ k, (.slice a_vg0 ps0.q.length c_vg0 : Value).ownBlock = some k → (.slice (some ⟨g_y1, 0, none⟩) s1.length s1.length : Value).ownBlock ≠ some k := fun k h1 h2 => absurd (vg0_57.out.lt k h1).2 (Nat.not_lt.2 (o_y1.lt k h2).1)
    have AP_vg0_y1 := Lib.hid ap_vg0_y1
    clear ap_vg0_y1
    have bx_A_y1 : ∀ k, (.slice (some ⟨g_y1, 0, none⟩) s1.length s1.length : Value).ownBlock = some k → k ≠ R0 := fun k h1 h2 => absurd A_57.out.lt (Nat.not_lt.2 (by rw [← h2]; exact (o_y1.lt k h1).1))
    have BX_A_y1 := Lib.hid bx_A_y1
    clear bx_A_y1
    have bx_bw_y1 : ∀ k, (.slice (some ⟨g_y1, 0, none⟩) s1.length s1.length : Value).ownBlock = some k → k ≠ X_bw := fun k h1 h2 => absurd bw_57.out.lt (Nat.not_lt.2 (by rw [← h2]; exact (o_y1.lt k h1).1))
    have BX_bw_y1 := Lib.hid bx_bw_y1
    clear bx_bw_y1
    have bx_bx_y1 : ∀ k, (.slice (some ⟨g_y1, 0, none⟩) s1.length s1.length : Value).ownBlock = some k → k ≠ X_bx := fun k h1 h2 => absurd bx_57.out.lt (Nat.not_lt.2 (by rw [← h2]; exact (o_y1.lt k h1).1))
    have BX_bx_y1 := Lib.hid bx_bx_y1
    clear bx_bx_y1
    have bx_bg_y1 : ∀ k, (.slice (some ⟨g_y1, 0, none⟩) s1.length s1.length : Value).ownBlock = some k → k ≠ X_bg := fun k h1 h2 => absurd bg_57.out.lt (Nat.not_lt.2 (by rw [← h2]; exact (o_y1.lt k h1).1))
    have BX_bg_y1 := Lib.hid bx_bg_y1
    clear bx_bg_y1
    have O_y1 := Lib.hid (own_base o_y1 (HB_57.out.size))
    have HB_63 := Lib.hid (HB_57.out.trans (l62.mono HB_57.out.size))
    have vw0_63 := Lib.hid (own_below vw0_57.out l62 (Nat.le_refl _))
    clear vw0_57
    have x0_63 := Lib.hid (own_below x0_57.out l62 (Nat.le_refl _))
    clear x0_57
    have x1_63 := Lib.hid (own_below x1_57.out l62 (Nat.le_refl _))
    clear x1_57
    have vg0_63 := Lib.hid (own_below vg0_57.out l62 (Nat.le_refl _))
    clear vg0_57
    have A_63 := Lib.hid (A_57.out.below l62 A_57.out.lt)
    clear A_57
    have bw_63 := Lib.hid (bw_57.out.below l62 bw_57.out.lt)
    clear bw_57
    have bx_63 := Lib.hid (bx_57.out.below l62 bx_57.out.lt)
    clear bx_57
    have bg_63 := Lib.hid (bg_57.out.below l62 bg_57.out.lt)
    clear bg_57
    clear HB_57
    clear hc0_A_58 hc1_A_58 hc2_A_58
    obtain ⟨hc0_A_64, hc1_A_64, hc2_A_64⟩ := A_63.out.cells
    clear hc0_bw_59 hc1_bw_59 hc2_bw_59
    obtain ⟨hc0_bw_65, hc1_bw_65, hc2_bw_65⟩ := bw_63.out.cells
    clear hc0_bx_60 hc1_bx_60 hc2_bx_60
    obtain ⟨hc0_bx_66, hc1_bx_66, hc2_bx_66⟩ := bx_63.out.cells
    clear hc0_bg_61 hc1_bg_61 hc2_bg_61
    obtain ⟨hc0_bg_67, hc1_bg_67, hc2_bg_67⟩ := bg_63.out.cells
    clear o_y1 l62
    go_wp2_with fail
    refine (eqStringS_any _ _ s1 s1 _ (row_own x1_63.out) (row_own O_y1.out)).mono ?_
    rintro e W68 ⟨rfl, k68, hw68⟩
    have l68 : Below W62.heap.size W62 W68 := by rw [hw68]; exact bdrew _ _
    clear hw68
    have HB_69 := Lib.hid (HB_63.out.trans (l68.mono HB_63.out.size))
    have vw0_69 := Lib.hid (own_below vw0_63.out l68 (Nat.le_refl _))
    clear vw0_63
    have x0_69 := Lib.hid (own_below x0_63.out l68 (Nat.le_refl _))
    clear x0_63
    have x1_69 := Lib.hid (own_below x1_63.out l68 (Nat.le_refl _))
    clear x1_63
    have vg0_69 := Lib.hid (own_below vg0_63.out l68 (Nat.le_refl _))
    clear vg0_63
    have y1_69 := Lib.hid (own_below O_y1.out l68 (Nat.le_refl _))
    clear O_y1
    have A_69 := Lib.hid (A_63.out.below l68 A_63.out.lt)
    clear A_63
    have bw_69 := Lib.hid (bw_63.out.below l68 bw_63.out.lt)
    clear bw_63
    have bx_69 := Lib.hid (bx_63.out.below l68 bx_63.out.lt)
    clear bx_63
    have bg_69 := Lib.hid (bg_63.out.below l68 bg_63.out.lt)
    clear bg_63
    clear HB_63
    clear hc0_A_64 hc1_A_64 hc2_A_64
    obtain ⟨hc0_A_70, hc1_A_70, hc2_A_70⟩ := A_69.out.cells
    clear hc0_bw_65 hc1_bw_65 hc2_bw_65
    obtain ⟨hc0_bw_71, hc1_bw_71, hc2_bw_71⟩ := bw_69.out.cells
    clear hc0_bx_66 hc1_bx_66 hc2_bx_66
    obtain ⟨hc0_bx_72, hc1_bx_72, hc2_bx_72⟩ := bx_69.out.cells
    clear hc0_bg_67 hc1_bg_67 hc2_bg_67
    obtain ⟨hc0_bg_73, hc1_bg_73, hc2_bg_73⟩ := bg_69.out.cells
    clear l68
    clear y1_69
    go_wp2_with fail
    refine (markL_own _ _ _ z0.q.length 1 _ _ _ x0_69.out (by omega) (by have := HL0.out; have := HN0.out; have := HN1.out; omega)).mono ?_
    rintro e W74 ⟨rfl, m74, gr74⟩
    have HB_74 := Lib.hid (HB_69.out.grown gr74 HB_69.out.size (fun q hq => (x0_69.out.lt q hq).1))
    have vw0_74 := Lib.hid (own_apart vw0_69.out gr74 (fun k h1 h2 => AP_vw0_x0.out k h1 h2))
    clear vw0_69
    have x1_74 := Lib.hid (own_apart x1_69.out gr74 (fun k h1 h2 => AP_x0_x1.out k h2 h1))
    clear x1_69
    have vg0_74 := Lib.hid (own_apart vg0_69.out gr74 (fun k h1 h2 => AP_x0_vg0.out k h2 h1))
    clear vg0_69
    have A_74 := Lib.hid (A_69.out.grown gr74 (fun e => BX_A_x0.out _ e.symm rfl))
    clear A_69
    have bw_74 := Lib.hid (bw_69.out.grown gr74 (fun e => BX_bw_x0.out _ e.symm rfl))
    clear bw_69
    have bx_74 := Lib.hid (bx_69.out.grown gr74 (fun e => BX_bx_x0.out _ e.symm rfl))
    clear bx_69
    have bg_74 := Lib.hid (bg_69.out.grown gr74 (fun e => BX_bg_x0.out _ e.symm rfl))
    clear bg_69
    have x0_74 := Lib.hid m74
    clear m74 gr74 x0_69 HB_69
    clear hc0_A_70 hc1_A_70 hc2_A_70
    obtain ⟨hc0_A_75, hc1_A_75, hc2_A_75⟩ := A_74.out.cells
    clear hc0_bw_71 hc1_bw_71 hc2_bw_71
    obtain ⟨hc0_bw_76, hc1_bw_76, hc2_bw_76⟩ := bw_74.out.cells
    clear hc0_bx_72 hc1_bx_72 hc2_bx_72
    obtain ⟨hc0_bx_77, hc1_bx_77, hc2_bx_77⟩ := bx_74.out.cells
    clear hc0_bg_73 hc1_bg_73 hc2_bg_73
    obtain ⟨hc0_bg_78, hc1_bg_78, hc2_bg_78⟩ := bg_74.out.cells
    go_wp2_with fail
    refine (markS_own _ s1.length (1 + z0.q.length) _ _ _ x1_74.out (by omega) (by have := HL0.out; have := HN0.out; have := HN1.out; omega)).mono ?_
    rintro e W79 ⟨rfl, m79, gr79⟩
    have HB_79 := Lib.hid (HB_74.out.grown gr79 HB_74.out.size (fun q hq => (x1_74.out.lt q hq).1))
    have vw0_79 := Lib.hid (own_apart vw0_74.out gr79 (fun k h1 h2 => AP_vw0_x1.out k h1 h2))
    clear vw0_74
    have x0_79 := Lib.hid (own_apart x0_74.out gr79 (fun k h1 h2 => AP_x0_x1.out k h1 h2))
    clear x0_74
    have vg0_79 := Lib.hid (own_apart vg0_74.out gr79 (fun k h1 h2 => AP_x1_vg0.out k h2 h1))
    clear vg0_74
    have A_79 := Lib.hid (A_74.out.grown gr79 (fun e => BX_A_x1.out _ e.symm rfl))
    clear A_74
    have bw_79 := Lib.hid (bw_74.out.grown gr79 (fun e => BX_bw_x1.out _ e.symm rfl))
    clear bw_74
    have bx_79 := Lib.hid (bx_74.out.grown gr79 (fun e => BX_bx_x1.out _ e.symm rfl))
    clear bx_74
    have bg_79 := Lib.hid (bg_74.out.grown gr79 (fun e => BX_bg_x1.out _ e.symm rfl))
    clear bg_74
    have x1_79 := Lib.hid m79
    clear m79 gr79 x1_74 HB_74
    clear hc0_A_75 hc1_A_75 hc2_A_75
    obtain ⟨hc0_A_80, hc1_A_80, hc2_A_80⟩ := A_79.out.cells
    clear hc0_bw_76 hc1_bw_76 hc2_bw_76
    obtain ⟨hc0_bw_81, hc1_bw_81, hc2_bw_81⟩ := bw_79.out.cells
    clear hc0_bx_77 hc1_bx_77 hc2_bx_77
    obtain ⟨hc0_bx_82, hc1_bx_82, hc2_bx_82⟩ := bx_79.out.cells
    clear hc0_bg_78 hc1_bg_78 hc2_bg_78
    obtain ⟨hc0_bg_83, hc1_bg_83, hc2_bg_83⟩ := bg_79.out.cells
    go_wp2_with fail
    refine (eqLink_same _ _ ps0 _ (row_own vg0_79.out) (row_own vw0_79.out)).mono ?_
    rintro e W84 ⟨rfl, l84⟩
    have HB_85 := Lib.hid (HB_79.out.trans (l84.mono HB_79.out.size))
    have vw0_85 := Lib.hid (own_below vw0_79.out l84 (Nat.le_refl _))
    clear vw0_79
    have x0_85 := Lib.hid (own_below x0_79.out l84 (Nat.le_refl _))
    clear x0_79
    have x1_85 := Lib.hid (own_below x1_79.out l84 (Nat.le_refl _))
    clear x1_79
    have vg0_85 := Lib.hid (own_below vg0_79.out l84 (Nat.le_refl _))
    clear vg0_79
    have A_85 := Lib.hid (A_79.out.below l84 A_79.out.lt)
    clear A_79
    have bw_85 := Lib.hid (bw_79.out.below l84 bw_79.out.lt)
    clear bw_79
    have bx_85 := Lib.hid (bx_79.out.below l84 bx_79.out.lt)
    clear bx_79
    have bg_85 := Lib.hid (bg_79.out.below l84 bg_79.out.lt)
    clear bg_79
    clear HB_79
    clear hc0_A_80 hc1_A_80 hc2_A_80
    obtain ⟨hc0_A_86, hc1_A_86, hc2_A_86⟩ := A_85.out.cells
    clear hc0_bw_81 hc1_bw_81 hc2_bw_81
    obtain ⟨hc0_bw_87, hc1_bw_87, hc2_bw_87⟩ := bw_85.out.cells
    clear hc0_bx_82 hc1_bx_82 hc2_bx_82
    obtain ⟨hc0_bx_88, hc1_bx_88, hc2_bx_88⟩ := bx_85.out.cells
    clear hc0_bg_83 hc1_bg_83 hc2_bg_83
    obtain ⟨hc0_bg_89, hc1_bg_89, hc2_bg_89⟩ := bg_85.out.cells
    clear l84
    clear x0_85
    clear bx_85 hc0_bx_88 hc1_bx_88 hc2_bx_88
    clear x1_85
    go_wp2_with fail
    refine (markL_own _ _ _ ps0.q.length 1 _ _ _ vg0_85.out (by omega) (by have := HL0.out; have := HN0.out; have := HN1.out; omega)).mono ?_
    rintro e W90 ⟨rfl, m90, gr90⟩
    have HB_90 := Lib.hid (HB_85.out.grown gr90 HB_85.out.size (fun q hq => (vg0_85.out.lt q hq).1))
    have vw0_90 := Lib.hid (own_apart vw0_85.out gr90 (fun k h1 h2 => AP_vw0_vg0.out k h1 h2))
    clear vw0_85
    have A_90 := Lib.hid (A_85.out.grown gr90 (fun e => BX_A_vg0.out _ e.symm rfl))
    clear A_85
    have bw_90 := Lib.hid (bw_85.out.grown gr90 (fun e => BX_bw_vg0.out _ e.symm rfl))
    clear bw_85
    have bg_90 := Lib.hid (bg_85.out.grown gr90 (fun e => BX_bg_vg0.out _ e.symm rfl))
    clear bg_85
    have vg0_90 := Lib.hid m90
    clear m90 gr90 vg0_85 HB_85
    clear hc0_A_86 hc1_A_86 hc2_A_86
    obtain ⟨hc0_A_91, hc1_A_91, hc2_A_91⟩ := A_90.out.cells
    clear hc0_bw_87 hc1_bw_87 hc2_bw_87
    obtain ⟨hc0_bw_92, hc1_bw_92, hc2_bw_92⟩ := bw_90.out.cells
    clear hc0_bg_89 hc1_bg_89 hc2_bg_89
    obtain ⟨hc0_bg_93, hc1_bg_93, hc2_bg_93⟩ := bg_90.out.cells
    go_wp2_with fail
    refine (heldL_own _ _ _ ps0.q.length 1 _ _ vg0_90.out (by omega) (by have := HL0.out; have := HN0.out; have := HN1.out; omega)).mono ?_
    rintro e W94 ⟨rfl, l94⟩
    have HB_95 := Lib.hid (HB_90.out.trans (l94.mono HB_90.out.size))
    have vw0_95 := Lib.hid (own_below vw0_90.out l94 (Nat.le_refl _))
    clear vw0_90
    have vg0_95 := Lib.hid (own_below vg0_90.out l94 (Nat.le_refl _))
    clear vg0_90
    have A_95 := Lib.hid (A_90.out.below l94 A_90.out.lt)
    clear A_90
    have bw_95 := Lib.hid (bw_90.out.below l94 bw_90.out.lt)
    clear bw_90
    have bg_95 := Lib.hid (bg_90.out.below l94 bg_90.out.lt)
    clear bg_90
    clear HB_90
    clear hc0_A_91 hc1_A_91 hc2_A_91
    obtain ⟨hc0_A_96, hc1_A_96, hc2_A_96⟩ := A_95.out.cells
    clear hc0_bw_92 hc1_bw_92 hc2_bw_92
    obtain ⟨hc0_bw_97, hc1_bw_97, hc2_bw_97⟩ := bw_95.out.cells
    clear hc0_bg_93 hc1_bg_93 hc2_bg_93
    obtain ⟨hc0_bg_98, hc1_bg_98, hc2_bg_98⟩ := bg_95.out.cells
    clear l94
    go_wp2_with fail
    refine (toLink_lit _ z0 _ (HR0.out.below HB_95.out (Nat.le_refl _)) HN0.out).mono ?_
    rintro e W99 ⟨g_t0, rfl, o_t0, l99⟩
    have ap_vw0_t0 : ∀ k, (.slice a_vw0 ps0.q.length c_vw0 : Value).ownBlock = some k → (.slice (some ⟨g_t0, 0, none⟩) z0.q.length z0.q.length : Value).ownBlock ≠ some k := fun k h1 h2 => absurd (vw0_95.out.lt k h1).2 (Nat.not_lt.2 (o_t0.lt k h2).1)
    have AP_vw0_t0 := Lib.hid ap_vw0_t0
    clear ap_vw0_t0
    have ap_vg0_t0 : ∀ k, (.slice a_vg0 ps0.q.length c_vg0 : Value).ownBlock = some k → (.slice (some ⟨g_t0, 0, none⟩) z0.q.length z0.q.length : Value).ownBlock ≠ some k := fun k h1 h2 => absurd (vg0_95.out.lt k h1).2 (Nat.not_lt.2 (o_t0.lt k h2).1)
    have AP_vg0_t0 := Lib.hid ap_vg0_t0
    clear ap_vg0_t0
    have bx_A_t0 : ∀ k, (.slice (some ⟨g_t0, 0, none⟩) z0.q.length z0.q.length : Value).ownBlock = some k → k ≠ R0 := fun k h1 h2 => absurd A_95.out.lt (Nat.not_lt.2 (by rw [← h2]; exact (o_t0.lt k h1).1))
    have BX_A_t0 := Lib.hid bx_A_t0
    clear bx_A_t0
    have bx_bw_t0 : ∀ k, (.slice (some ⟨g_t0, 0, none⟩) z0.q.length z0.q.length : Value).ownBlock = some k → k ≠ X_bw := fun k h1 h2 => absurd bw_95.out.lt (Nat.not_lt.2 (by rw [← h2]; exact (o_t0.lt k h1).1))
    have BX_bw_t0 := Lib.hid bx_bw_t0
    clear bx_bw_t0
    have bx_bg_t0 : ∀ k, (.slice (some ⟨g_t0, 0, none⟩) z0.q.length z0.q.length : Value).ownBlock = some k → k ≠ X_bg := fun k h1 h2 => absurd bg_95.out.lt (Nat.not_lt.2 (by rw [← h2]; exact (o_t0.lt k h1).1))
    have BX_bg_t0 := Lib.hid bx_bg_t0
    clear bx_bg_t0
    have O_t0 := Lib.hid (own_base o_t0 (HB_95.out.size))
    have HB_100 := Lib.hid (HB_95.out.trans (l99.mono HB_95.out.size))
    have vw0_100 := Lib.hid (own_below vw0_95.out l99 (Nat.le_refl _))
    clear vw0_95
    have vg0_100 := Lib.hid (own_below vg0_95.out l99 (Nat.le_refl _))
    clear vg0_95
    have A_100 := Lib.hid (A_95.out.below l99 A_95.out.lt)
    clear A_95
    have bw_100 := Lib.hid (bw_95.out.below l99 bw_95.out.lt)
    clear bw_95
    have bg_100 := Lib.hid (bg_95.out.below l99 bg_95.out.lt)
    clear bg_95
    clear HB_95
    clear hc0_A_96 hc1_A_96 hc2_A_96
    obtain ⟨hc0_A_101, hc1_A_101, hc2_A_101⟩ := A_100.out.cells
    clear hc0_bw_97 hc1_bw_97 hc2_bw_97
    obtain ⟨hc0_bw_102, hc1_bw_102, hc2_bw_102⟩ := bw_100.out.cells
    clear hc0_bg_98 hc1_bg_98 hc2_bg_98
    obtain ⟨hc0_bg_103, hc1_bg_103, hc2_bg_103⟩ := bg_100.out.cells
    clear o_t0 l99
    go_wp2_with fail
    refine (toStringS_lit _ s1 _ (HR1.out.below HB_100.out (Nat.le_refl _)) HN1.out).mono ?_
    rintro e W104 ⟨g_t1, rfl, o_t1, l104⟩
    have ap_vw0_t1 : ∀ k, (.slice a_vw0 ps0.q.length c_vw0 : Value).ownBlock = some k → (.slice (some ⟨g_t1, 0, none⟩) s1.length s1.length : Value).ownBlock ≠ some k := fun k h1 h2 => absurd (vw0_100.out.lt k h1).2 (Nat.not_lt.2 (o_t1.lt k h2).1)
    have AP_vw0_t1 := Lib.hid ap_vw0_t1
    clear ap_vw0_t1
    have ap_vg0_t1 : ∀ k, (.slice a_vg0 ps0.q.length c_vg0 : Value).ownBlock = some k → (.slice (some ⟨g_t1, 0, none⟩) s1.length s1.length : Value).ownBlock ≠ some k := fun k h1 h2 => absurd (vg0_100.out.lt k h1).2 (Nat.not_lt.2 (o_t1.lt k h2).1)
    have AP_vg0_t1 := Lib.hid ap_vg0_t1
    clear ap_vg0_t1
    have ap_t0_t1 : ∀ k, (.slice (some ⟨g_t0, 0, none⟩) z0.q.length z0.q.length : Value).ownBlock = some k → (.slice (some ⟨g_t1, 0, none⟩) s1.length s1.length : Value).ownBlock ≠ some k := fun k h1 h2 => absurd (O_t0.out.lt k h1).2 (Nat.not_lt.2 (o_t1.lt k h2).1)
    have AP_t0_t1 := Lib.hid ap_t0_t1
    clear ap_t0_t1
    have bx_A_t1 : ∀ k, (.slice (some ⟨g_t1, 0, none⟩) s1.length s1.length : Value).ownBlock = some k → k ≠ R0 := fun k h1 h2 => absurd A_100.out.lt (Nat.not_lt.2 (by rw [← h2]; exact (o_t1.lt k h1).1))
    have BX_A_t1 := Lib.hid bx_A_t1
    clear bx_A_t1
    have bx_bw_t1 : ∀ k, (.slice (some ⟨g_t1, 0, none⟩) s1.length s1.length : Value).ownBlock = some k → k ≠ X_bw := fun k h1 h2 => absurd bw_100.out.lt (Nat.not_lt.2 (by rw [← h2]; exact (o_t1.lt k h1).1))
    have BX_bw_t1 := Lib.hid bx_bw_t1
    clear bx_bw_t1
    have bx_bg_t1 : ∀ k, (.slice (some ⟨g_t1, 0, none⟩) s1.length s1.length : Value).ownBlock = some k → k ≠ X_bg := fun k h1 h2 => absurd bg_100.out.lt (Nat.not_lt.2 (by rw [← h2]; exact (o_t1.lt k h1).1))
    have BX_bg_t1 := Lib.hid bx_bg_t1
    clear bx_bg_t1
    have O_t1 := Lib.hid (own_base o_t1 (HB_100.out.size))
    have HB_105 := Lib.hid (HB_100.out.trans (l104.mono HB_100.out.size))
    have vw0_105 := Lib.hid (own_below vw0_100.out l104 (Nat.le_refl _))
    clear vw0_100
    have vg0_105 := Lib.hid (own_below vg0_100.out l104 (Nat.le_refl _))
    clear vg0_100
    have t0_105 := Lib.hid (own_below O_t0.out l104 (Nat.le_refl _))
    clear O_t0
    have A_105 := Lib.hid (A_100.out.below l104 A_100.out.lt)
    clear A_100
    have bw_105 := Lib.hid (bw_100.out.below l104 bw_100.out.lt)
    clear bw_100
    have bg_105 := Lib.hid (bg_100.out.below l104 bg_100.out.lt)
    clear bg_100
    clear HB_100
    clear hc0_A_101 hc1_A_101 hc2_A_101
    obtain ⟨hc0_A_106, hc1_A_106, hc2_A_106⟩ := A_105.out.cells
    clear hc0_bw_102 hc1_bw_102 hc2_bw_102
    obtain ⟨hc0_bw_107, hc1_bw_107, hc2_bw_107⟩ := bw_105.out.cells
    clear hc0_bg_103 hc1_bg_103 hc2_bg_103
    obtain ⟨hc0_bg_108, hc1_bg_108, hc2_bg_108⟩ := bg_105.out.cells
    clear o_t1 l104
    go_wp2_with fail
    refine (HIm.out g_t0 g_t1 _ (row_own t0_105.out) (row_own O_t1.out)).mono ?_
    rintro e W109 ⟨vh0, rfl, o_vh0, l109⟩
    obtain ⟨a_vh0, c_vh0, rfl, _, _⟩ := own_someS0 o_vh0
    have ap_vw0_vh0 : ∀ k, (.slice a_vw0 ps0.q.length c_vw0 : Value).ownBlock = some k → (.slice a_vh0 ps0.q.length c_vh0 : Value).ownBlock ≠ some k := fun k h1 h2 => absurd (vw0_105.out.lt k h1).2 (Nat.not_lt.2 (o_vh0.lt k h2).1)
    have AP_vw0_vh0 := Lib.hid ap_vw0_vh0
    clear ap_vw0_vh0
    have ap_vg0_vh0 : ∀ k, (.slice a_vg0 ps0.q.length c_vg0 : Value).ownBlock = some k → (.slice a_vh0 ps0.q.length c_vh0 : Value).ownBlock ≠ some k := fun k h1 h2 => absurd (vg0_105.out.lt k h1).2 (Nat.not_lt.2 (o_vh0.lt k h2).1)
    have AP_vg0_vh0 := Lib.hid ap_vg0_vh0
    clear ap_vg0_vh0
    have ap_t0_vh0 : ∀ k, (.slice (some ⟨g_t0, 0, none⟩) z0.q.length z0.q.length : Value).ownBlock = some k → (.slice a_vh0 ps0.q.length c_vh0 : Value).ownBlock ≠ some k := fun k h1 h2 => absurd (t0_105.out.lt k h1).2 (Nat.not_lt.2 (o_vh0.lt k h2).1)
    have AP_t0_vh0 := Lib.hid ap_t0_vh0
    clear ap_t0_vh0
    have ap_t1_vh0 : ∀ k, (.slice (some ⟨g_t1, 0, none⟩) s1.length s1.length : Value).ownBlock = some k → (.slice a_vh0 ps0.q.length c_vh0 : Value).ownBlock ≠ some k := fun k h1 h2 => absurd (O_t1.out.lt k h1).2 (Nat.not_lt.2 (o_vh0.lt k h2).1)
    have AP_t1_vh0 := Lib.hid ap_t1_vh0
    clear ap_t1_vh0
    have bx_A_vh0 : ∀ k, (.slice a_vh0 ps0.q.length c_vh0 : Value).ownBlock = some k → k ≠ R0 := fun k h1 h2 => absurd A_105.out.lt (Nat.not_lt.2 (by rw [← h2]; exact (o_vh0.lt k h1).1))
    have BX_A_vh0 := Lib.hid bx_A_vh0
    clear bx_A_vh0
    have bx_bw_vh0 : ∀ k, (.slice a_vh0 ps0.q.length c_vh0 : Value).ownBlock = some k → k ≠ X_bw := fun k h1 h2 => absurd bw_105.out.lt (Nat.not_lt.2 (by rw [← h2]; exact (o_vh0.lt k h1).1))
    have BX_bw_vh0 := Lib.hid bx_bw_vh0
    clear bx_bw_vh0
    have bx_bg_vh0 : ∀ k, (.slice a_vh0 ps0.q.length c_vh0 : Value).ownBlock = some k → k ≠ X_bg := fun k h1 h2 => absurd bg_105.out.lt (Nat.not_lt.2 (by rw [← h2]; exact (o_vh0.lt k h1).1))
    have BX_bg_vh0 := Lib.hid bx_bg_vh0
    clear bx_bg_vh0
    have O_vh0 := Lib.hid (own_base o_vh0 (HB_105.out.size))
    have HB_110 := Lib.hid (HB_105.out.trans (l109.mono HB_105.out.size))
    have vw0_110 := Lib.hid (own_below vw0_105.out l109 (Nat.le_refl _))
    clear vw0_105
    have vg0_110 := Lib.hid (own_below vg0_105.out l109 (Nat.le_refl _))
    clear vg0_105
    have t0_110 := Lib.hid (own_below t0_105.out l109 (Nat.le_refl _))
    clear t0_105
    have t1_110 := Lib.hid (own_below O_t1.out l109 (Nat.le_refl _))
    clear O_t1
    have A_110 := Lib.hid (A_105.out.below l109 A_105.out.lt)
    clear A_105
    have bw_110 := Lib.hid (bw_105.out.below l109 bw_105.out.lt)
    clear bw_105
    have bg_110 := Lib.hid (bg_105.out.below l109 bg_105.out.lt)
    clear bg_105
    clear HB_105
    clear hc0_A_106 hc1_A_106 hc2_A_106
    obtain ⟨hc0_A_111, hc1_A_111, hc2_A_111⟩ := A_110.out.cells
    clear hc0_bw_107 hc1_bw_107 hc2_bw_107
    obtain ⟨hc0_bw_112, hc1_bw_112, hc2_bw_112⟩ := bw_110.out.cells
    clear hc0_bg_108 hc1_bg_108 hc2_bg_108
    obtain ⟨hc0_bg_113, hc1_bg_113, hc2_bg_113⟩ := bg_110.out.cells
    clear l109 o_vh0
    go_upto_region 32 with fail
    obtain ⟨W114, hW114⟩ : ∃ W114, W114 = W109.alloc (.cells #[.slice a_vh0 ps0.q.length c_vh0, .string ps0.f, .int .i64 ps0.u] 26) := ⟨_, rfl⟩
    have l114 : Below W109.heap.size W109 W114 := by rw [hW114]; exact (Below.refl _ _).alloc (Nat.le_refl _) _
    have bh_b114 : Hid (Bk W114 W109.heap.size (.slice a_vh0 ps0.q.length c_vh0) ps0.f ps0.u 26) := Lib.hid (by rw [hW114]; exact Bk.new _ _ _ _ _)
    rw [← hW114]
    clear hW114
    have BX_bh_vw0 : Hid (∀ k, (.slice a_vw0 ps0.q.length c_vw0 : Value).ownBlock = some k → k ≠ W109.heap.size) := Lib.hid (fun k h1 h2 => absurd (vw0_110.out.lt k h1).2 (by omega))
    have BX_bh_vg0 : Hid (∀ k, (.slice a_vg0 ps0.q.length c_vg0 : Value).ownBlock = some k → k ≠ W109.heap.size) := Lib.hid (fun k h1 h2 => absurd (vg0_110.out.lt k h1).2 (by omega))
    have BX_bh_t0 : Hid (∀ k, (.slice (some ⟨g_t0, 0, none⟩) z0.q.length z0.q.length : Value).ownBlock = some k → k ≠ W109.heap.size) := Lib.hid (fun k h1 h2 => absurd (t0_110.out.lt k h1).2 (by omega))
    have BX_bh_t1 : Hid (∀ k, (.slice (some ⟨g_t1, 0, none⟩) s1.length s1.length : Value).ownBlock = some k → k ≠ W109.heap.size) := Lib.hid (fun k h1 h2 => absurd (t1_110.out.lt k h1).2 (by omega))
    have BX_bh_vh0 : Hid (∀ k, (.slice a_vh0 ps0.q.length c_vh0 : Value).ownBlock = some k → k ≠ W109.heap.size) := Lib.hid (fun k h1 h2 => absurd (O_vh0.out.lt k h1).2 (by omega))
    obtain ⟨X_bh, hX_bh⟩ : ∃ X, X = W109.heap.size := ⟨_, rfl⟩
    rw [← hX_bh] at bh_b114 BX_bh_vw0 BX_bh_vg0 BX_bh_t0 BX_bh_t1 BX_bh_vh0 ⊢
    clear hX_bh
    have HB_115 := Lib.hid (HB_110.out.trans (l114.mono HB_110.out.size))
    have vw0_115 := Lib.hid (own_below vw0_110.out l114 (Nat.le_refl _))
    clear vw0_110
    have vg0_115 := Lib.hid (own_below vg0_110.out l114 (Nat.le_refl _))
    clear vg0_110
    have t0_115 := Lib.hid (own_below t0_110.out l114 (Nat.le_refl _))
    clear t0_110
    have t1_115 := Lib.hid (own_below t1_110.out l114 (Nat.le_refl _))
    clear t1_110
    have vh0_115 := Lib.hid (own_below O_vh0.out l114 (Nat.le_refl _))
    clear O_vh0
    have A_115 := Lib.hid (A_110.out.below l114 A_110.out.lt)
    clear A_110
    have bw_115 := Lib.hid (bw_110.out.below l114 bw_110.out.lt)
    clear bw_110
    have bg_115 := Lib.hid (bg_110.out.below l114 bg_110.out.lt)
    clear bg_110
    clear HB_110
    clear hc0_A_111 hc1_A_111 hc2_A_111
    obtain ⟨hc0_A_116, hc1_A_116, hc2_A_116⟩ := A_115.out.cells
    clear hc0_bw_112 hc1_bw_112 hc2_bw_112
    obtain ⟨hc0_bw_117, hc1_bw_117, hc2_bw_117⟩ := bw_115.out.cells
    clear hc0_bg_113 hc1_bg_113 hc2_bg_113
    obtain ⟨hc0_bg_118, hc1_bg_118, hc2_bg_118⟩ := bg_115.out.cells
    clear l114
    clear hc0_A_116 hc1_A_116 hc2_A_116
    obtain ⟨hc0_A_119, hc1_A_119, hc2_A_119⟩ := A_115.out.cells
    clear hc0_bw_117 hc1_bw_117 hc2_bw_117
    obtain ⟨hc0_bw_120, hc1_bw_120, hc2_bw_120⟩ := bw_115.out.cells
    clear hc0_bg_118 hc1_bg_118 hc2_bg_118
    obtain ⟨hc0_bg_121, hc1_bg_121, hc2_bg_121⟩ := bg_115.out.cells
    obtain ⟨hc0_bh_122, hc1_bh_122, hc2_bh_122⟩ := bh_b114.out.cells
    go_wp2_with fail
    refine (eqLink_same _ _ ps0 _ (row_own vh0_115.out) (row_own vw0_115.out)).mono ?_
    rintro e W123 ⟨rfl, l123⟩
    have HB_124 := Lib.hid (HB_115.out.trans (l123.mono HB_115.out.size))
    have vw0_124 := Lib.hid (own_below vw0_115.out l123 (Nat.le_refl _))
    clear vw0_115
    have vg0_124 := Lib.hid (own_below vg0_115.out l123 (Nat.le_refl _))
    clear vg0_115
    have t0_124 := Lib.hid (own_below t0_115.out l123 (Nat.le_refl _))
    clear t0_115
    have t1_124 := Lib.hid (own_below t1_115.out l123 (Nat.le_refl _))
    clear t1_115
    have vh0_124 := Lib.hid (own_below vh0_115.out l123 (Nat.le_refl _))
    clear vh0_115
    have A_124 := Lib.hid (A_115.out.below l123 A_115.out.lt)
    clear A_115
    have bw_124 := Lib.hid (bw_115.out.below l123 bw_115.out.lt)
    clear bw_115
    have bg_124 := Lib.hid (bg_115.out.below l123 bg_115.out.lt)
    clear bg_115
    have bh_124 := Lib.hid (bh_b114.out.below l123 bh_b114.out.lt)
    clear bh_b114
    clear HB_115
    clear hc0_A_119 hc1_A_119 hc2_A_119
    obtain ⟨hc0_A_125, hc1_A_125, hc2_A_125⟩ := A_124.out.cells
    clear hc0_bw_120 hc1_bw_120 hc2_bw_120
    obtain ⟨hc0_bw_126, hc1_bw_126, hc2_bw_126⟩ := bw_124.out.cells
    clear hc0_bg_121 hc1_bg_121 hc2_bg_121
    obtain ⟨hc0_bg_127, hc1_bg_127, hc2_bg_127⟩ := bg_124.out.cells
    clear hc0_bh_122 hc1_bh_122 hc2_bh_122
    obtain ⟨hc0_bh_128, hc1_bh_128, hc2_bh_128⟩ := bh_124.out.cells
    clear l123
    go_wp2_with fail
    refine (heldL_own _ _ _ ps0.q.length 1 _ _ vg0_124.out (by omega) (by have := HL0.out; have := HN0.out; have := HN1.out; omega)).mono ?_
    rintro e W129 ⟨rfl, l129⟩
    have HB_130 := Lib.hid (HB_124.out.trans (l129.mono HB_124.out.size))
    have vw0_130 := Lib.hid (own_below vw0_124.out l129 (Nat.le_refl _))
    clear vw0_124
    have vg0_130 := Lib.hid (own_below vg0_124.out l129 (Nat.le_refl _))
    clear vg0_124
    have t0_130 := Lib.hid (own_below t0_124.out l129 (Nat.le_refl _))
    clear t0_124
    have t1_130 := Lib.hid (own_below t1_124.out l129 (Nat.le_refl _))
    clear t1_124
    have vh0_130 := Lib.hid (own_below vh0_124.out l129 (Nat.le_refl _))
    clear vh0_124
    have A_130 := Lib.hid (A_124.out.below l129 A_124.out.lt)
    clear A_124
    have bw_130 := Lib.hid (bw_124.out.below l129 bw_124.out.lt)
    clear bw_124
    have bg_130 := Lib.hid (bg_124.out.below l129 bg_124.out.lt)
    clear bg_124
    have bh_130 := Lib.hid (bh_124.out.below l129 bh_124.out.lt)
    clear bh_124
    clear HB_124
    clear hc0_A_125 hc1_A_125 hc2_A_125
    obtain ⟨hc0_A_131, hc1_A_131, hc2_A_131⟩ := A_130.out.cells
    clear hc0_bw_126 hc1_bw_126 hc2_bw_126
    obtain ⟨hc0_bw_132, hc1_bw_132, hc2_bw_132⟩ := bw_130.out.cells
    clear hc0_bg_127 hc1_bg_127 hc2_bg_127
    obtain ⟨hc0_bg_133, hc1_bg_133, hc2_bg_133⟩ := bg_130.out.cells
    clear hc0_bh_128 hc1_bh_128 hc2_bh_128
    obtain ⟨hc0_bh_134, hc1_bh_134, hc2_bh_134⟩ := bh_130.out.cells
    clear l129
    go_wp2_with fail
    go_ret
    exact ⟨rfl, HB_130.out⟩
theorem fnExactSendAll_walk (w : World) (v0_0 : Value) (s0_0 : List ByteArray) (w0_0 : Row w v0_0 s0_0.length (s0_0.map Value.string)) (b0_0 : ∀ s ∈ s0_0, s.size ≤ maxLen) (a0_1 : ByteArray) (w0_1 : a0_1.size ≤ maxLen) (a0_2 : Int) (w0_2 : (Lit.int .i64 a0_2).wf = true) (v1 : Value) (s1 : List ByteArray) (w1 : Row w v1 s1.length (s1.map Value.string)) (b1 : ∀ s ∈ s1, s.size ≤ maxLen) (_hsh : w.ShapedOpen Try.prog) :
    Calls Try.prog 11 #[.agg #[v0_0, .string a0_1, .int .i64 a0_2], v1] w fun e w' => e = .returned (.bool true) ∧ Below w.heap.size w w' :=
  fnExactSendAll_wk w v0_0 ⟨s0_0, a0_1, a0_2⟩ w0_0 b0_0 w0_1 v1 s1 w1 b1
end Go.Proofs.Ytbhhmaialilabaa
