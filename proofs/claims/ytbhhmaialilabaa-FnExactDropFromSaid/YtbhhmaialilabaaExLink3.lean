/-
  The exact laws of texts that are taken or dropped.
-/
import Derived.Test.YtbhhmaialilabaaDropI
import Derived.Test.YtbhhmaialilabaaLink4
import Derived.Test.YtbhhmaialilabaaExLinkB
import Derived.WalkLawsBesides
import Derived.Deep.RegionHeld3
import Derived.Deep.CutRange
namespace Go.Proofs.Ytbhhmaialilabaa
open Go.RowKit Go.Lib Go.Joins
set_option linter.unusedVariables false

set_option maxRecDepth 100000 in
set_option maxHeartbeats 8000000 in
theorem fnExactTakeFrom_wk (w : World) (v0 : Value) (z0 : Lk) (w0 : Row w v0 z0.q.length (z0.q.map Value.string)) (b0 : ∀ s ∈ z0.q, s.size ≤ maxLen) (c0 : z0.f.size ≤ maxLen) :
    Calls Try.prog 8 #[.agg #[v0, .string z0.f, .int .i64 z0.u]] w fun e w' => e = .returned (.bool true) ∧ Below w.heap.size w w' := by
  obtain ⟨p0, cap0, rfl, hc10, hc20, _⟩ := row_open w0
  unfold maxLen at hc20
  obtain ⟨W0, hW0⟩ : ∃ W0, W0 = w.alloc (.cells #[.slice p0 z0.q.length cap0, .string z0.f, .int .i64 z0.u] 55) := ⟨_, rfl⟩
  have HA0 : Hid (Bk W0 w.heap.size (.slice p0 z0.q.length cap0) z0.f z0.u 55) := Lib.hid (by rw [hW0]; exact Bk.new w _ _ _ _)
  have HB0 : Hid (Below w.heap.size w W0) := Lib.hid (by rw [hW0]; exact (Below.refl w.heap.size w).alloc (Nat.le_refl _) _)
  have HW0 := Lib.hid hW0
  clear hW0
  obtain ⟨R0, hR0⟩ : ∃ R0, R0 = w.heap.size := ⟨_, rfl⟩
  rw [← hR0] at HA0
  have HQ0 := Lib.hid hR0
  clear hR0
  have HR0 := Lib.hid w0
  have HSz := Lib.hid (fun (W : World) (hr : Row W (.slice p0 z0.q.length cap0) z0.q.length (z0.q.map Value.string)) => szLink_any (.slice p0 z0.q.length cap0) z0 W hr b0 c0 1048576 (by omega))
  clear w0 b0 c0
  go_enter Try.func8, Try.ntmps8
  go_upto_region 1 with fail
  rw [← HW0.out, ← HQ0.out]
  obtain ⟨hc0_A_1, hc1_A_1, hc2_A_1⟩ := HA0.out.cells
  go_wp2_with fail
  refine (HSz.out _ (HR0.out.below HB0.out (Nat.le_refl _))).mono ?_
  rintro e W2 ⟨l2, r0, rfl, hr1, hr0⟩
  have HB_3 := Lib.hid (HB0.out.trans (l2.mono HB0.out.size))
  have A_3 := Lib.hid (HA0.out.below l2 HA0.out.lt)
  clear HA0
  clear HB0
  clear hc0_A_1 hc1_A_1 hc2_A_1
  obtain ⟨hc0_A_4, hc1_A_4, hc2_A_4⟩ := A_3.out.cells
  clear l2
  by_cases hneg : r0 < 0
  · clear hr0
    go_wp2_with fail
    go_ret
    exact ⟨rfl, HB_3.out⟩
  obtain ⟨hm0, hs0, hf0, hr00⟩ := hr0.resolve_left hneg
  have HN0 := Lib.hid hm0
  have HF0 := Lib.hid hf0
  clear hr0 hs0 HSz
  have hm0' := hm0
  have hf0' := hf0
  have HSp := Lib.hid (fun (g0 : Nat) (W : World) (h0 : Row W (.slice (some ⟨g0, 0, none⟩) z0.q.length z0.q.length) z0.q.length (z0.q.map Value.string)) => specTake_any (.slice (some ⟨g0, 0, none⟩) z0.q.length z0.q.length) z0 W h0 (by omega))
  have HIm := Lib.hid (fun (g0 : Nat) (W : World) (h0 : Row W (.slice (some ⟨g0, 0, none⟩) z0.q.length z0.q.length) z0.q.length (z0.q.map Value.string)) => implTake_any (.slice (some ⟨g0, 0, none⟩) z0.q.length z0.q.length) z0 W h0 (fitA_some g0 _))
  have hlen0 := takeL_len z0 hm0'
  generalize takeL z0 = ps0 at HSp HIm hlen0
  have HL0 := Lib.hid hlen0
  clear hlen0
  generalize takeS z0 = r0 at HSp HIm
  generalize takeOk z0 = r1 at HSp HIm
  clear hm0 hf0 hm0' hf0'
  go_wp2_with fail
  refine (toLink_lit _ z0 _ (HR0.out.below HB_3.out (Nat.le_refl _)) HN0.out).mono ?_
  rintro e W5 ⟨g_s0, rfl, o_s0, l5⟩
  have bx_A_s0 : ∀ k, (.slice (some ⟨g_s0, 0, none⟩) z0.q.length z0.q.length : Value).ownBlock = some k → k ≠ R0 := fun k h1 h2 => absurd A_3.out.lt (Nat.not_lt.2 (by rw [← h2]; exact (o_s0.lt k h1).1))
  have BX_A_s0 := Lib.hid bx_A_s0
  clear bx_A_s0
  have O_s0 := Lib.hid (own_base o_s0 (HB_3.out.size))
  have HB_6 := Lib.hid (HB_3.out.trans (l5.mono HB_3.out.size))
  have A_6 := Lib.hid (A_3.out.below l5 A_3.out.lt)
  clear A_3
  clear HB_3
  clear hc0_A_4 hc1_A_4 hc2_A_4
  obtain ⟨hc0_A_7, hc1_A_7, hc2_A_7⟩ := A_6.out.cells
  clear o_s0 l5
  go_wp2_with fail
  refine (HSp.out g_s0 _ (row_own O_s0.out)).mono ?_
  rintro e W8 ⟨vw0, rfl, o_vw0, l8⟩
  obtain ⟨a_vw0, c_vw0, rfl, _, _⟩ := own_someS0 o_vw0
  have ap_s0_vw0 : ∀ k, (.slice (some ⟨g_s0, 0, none⟩) z0.q.length z0.q.length : Value).ownBlock = some k → (.slice a_vw0 ps0.q.length c_vw0 : Value).ownBlock ≠ some k := fun k h1 h2 => absurd (O_s0.out.lt k h1).2 (Nat.not_lt.2 (o_vw0.lt k h2).1)
  have AP_s0_vw0 := Lib.hid ap_s0_vw0
  clear ap_s0_vw0
  have bx_A_vw0 : ∀ k, (.slice a_vw0 ps0.q.length c_vw0 : Value).ownBlock = some k → k ≠ R0 := fun k h1 h2 => absurd A_6.out.lt (Nat.not_lt.2 (by rw [← h2]; exact (o_vw0.lt k h1).1))
  have BX_A_vw0 := Lib.hid bx_A_vw0
  clear bx_A_vw0
  have O_vw0 := Lib.hid (own_base o_vw0 (HB_6.out.size))
  have HB_9 := Lib.hid (HB_6.out.trans (l8.mono HB_6.out.size))
  have s0_9 := Lib.hid (own_below O_s0.out l8 (Nat.le_refl _))
  clear O_s0
  have A_9 := Lib.hid (A_6.out.below l8 A_6.out.lt)
  clear A_6
  clear HB_6
  clear hc0_A_7 hc1_A_7 hc2_A_7
  obtain ⟨hc0_A_10, hc1_A_10, hc2_A_10⟩ := A_9.out.cells
  clear l8 o_vw0
  clear s0_9
  go_upto_region 6 with fail
  obtain ⟨W11, hW11⟩ : ∃ W11, W11 = W8.alloc (.cells #[.slice a_vw0 ps0.q.length c_vw0, .string ps0.f, .int .i64 ps0.u] 26) := ⟨_, rfl⟩
  have l11 : Below W8.heap.size W8 W11 := by rw [hW11]; exact (Below.refl _ _).alloc (Nat.le_refl _) _
  have bw_b11 : Hid (Bk W11 W8.heap.size (.slice a_vw0 ps0.q.length c_vw0) ps0.f ps0.u 26) := Lib.hid (by rw [hW11]; exact Bk.new _ _ _ _ _)
  rw [← hW11]
  clear hW11
  have BX_bw_vw0 : Hid (∀ k, (.slice a_vw0 ps0.q.length c_vw0 : Value).ownBlock = some k → k ≠ W8.heap.size) := Lib.hid (fun k h1 h2 => absurd (O_vw0.out.lt k h1).2 (by omega))
  obtain ⟨X_bw, hX_bw⟩ : ∃ X, X = W8.heap.size := ⟨_, rfl⟩
  rw [← hX_bw] at bw_b11 BX_bw_vw0 ⊢
  clear hX_bw
  have HB_12 := Lib.hid (HB_9.out.trans (l11.mono HB_9.out.size))
  have vw0_12 := Lib.hid (own_below O_vw0.out l11 (Nat.le_refl _))
  clear O_vw0
  have A_12 := Lib.hid (A_9.out.below l11 A_9.out.lt)
  clear A_9
  clear HB_9
  clear hc0_A_10 hc1_A_10 hc2_A_10
  obtain ⟨hc0_A_13, hc1_A_13, hc2_A_13⟩ := A_12.out.cells
  clear l11
  clear hc0_A_13 hc1_A_13 hc2_A_13
  obtain ⟨hc0_A_14, hc1_A_14, hc2_A_14⟩ := A_12.out.cells
  obtain ⟨hc0_bw_15, hc1_bw_15, hc2_bw_15⟩ := bw_b11.out.cells
  go_wp2_with fail
  refine (toLink_lit _ z0 _ (HR0.out.below HB_12.out (Nat.le_refl _)) HN0.out).mono ?_
  rintro e W16 ⟨g_x0, rfl, o_x0, l16⟩
  have ap_vw0_x0 : ∀ k, (.slice a_vw0 ps0.q.length c_vw0 : Value).ownBlock = some k → (.slice (some ⟨g_x0, 0, none⟩) z0.q.length z0.q.length : Value).ownBlock ≠ some k := fun k h1 h2 => absurd (vw0_12.out.lt k h1).2 (Nat.not_lt.2 (o_x0.lt k h2).1)
  have AP_vw0_x0 := Lib.hid ap_vw0_x0
  clear ap_vw0_x0
  have bx_A_x0 : ∀ k, (.slice (some ⟨g_x0, 0, none⟩) z0.q.length z0.q.length : Value).ownBlock = some k → k ≠ R0 := fun k h1 h2 => absurd A_12.out.lt (Nat.not_lt.2 (by rw [← h2]; exact (o_x0.lt k h1).1))
  have BX_A_x0 := Lib.hid bx_A_x0
  clear bx_A_x0
  have bx_bw_x0 : ∀ k, (.slice (some ⟨g_x0, 0, none⟩) z0.q.length z0.q.length : Value).ownBlock = some k → k ≠ X_bw := fun k h1 h2 => absurd bw_b11.out.lt (Nat.not_lt.2 (by rw [← h2]; exact (o_x0.lt k h1).1))
  have BX_bw_x0 := Lib.hid bx_bw_x0
  clear bx_bw_x0
  have O_x0 := Lib.hid (own_base o_x0 (HB_12.out.size))
  have HB_17 := Lib.hid (HB_12.out.trans (l16.mono HB_12.out.size))
  have vw0_17 := Lib.hid (own_below vw0_12.out l16 (Nat.le_refl _))
  clear vw0_12
  have A_17 := Lib.hid (A_12.out.below l16 A_12.out.lt)
  clear A_12
  have bw_17 := Lib.hid (bw_b11.out.below l16 bw_b11.out.lt)
  clear bw_b11
  clear HB_12
  clear hc0_A_14 hc1_A_14 hc2_A_14
  obtain ⟨hc0_A_18, hc1_A_18, hc2_A_18⟩ := A_17.out.cells
  clear hc0_bw_15 hc1_bw_15 hc2_bw_15
  obtain ⟨hc0_bw_19, hc1_bw_19, hc2_bw_19⟩ := bw_17.out.cells
  clear o_x0 l16
  go_upto_region 7 with fail
  obtain ⟨W20, hW20⟩ : ∃ W20, W20 = W16.alloc (.cells #[.slice (some ⟨g_x0, 0, none⟩) z0.q.length z0.q.length, .string z0.f, .int .i64 z0.u] 26) := ⟨_, rfl⟩
  have l20 : Below W16.heap.size W16 W20 := by rw [hW20]; exact (Below.refl _ _).alloc (Nat.le_refl _) _
  have bx_b20 : Hid (Bk W20 W16.heap.size (.slice (some ⟨g_x0, 0, none⟩) z0.q.length z0.q.length) z0.f z0.u 26) := Lib.hid (by rw [hW20]; exact Bk.new _ _ _ _ _)
  rw [← hW20]
  clear hW20
  have BX_bx_vw0 : Hid (∀ k, (.slice a_vw0 ps0.q.length c_vw0 : Value).ownBlock = some k → k ≠ W16.heap.size) := Lib.hid (fun k h1 h2 => absurd (vw0_17.out.lt k h1).2 (by omega))
  have BX_bx_x0 : Hid (∀ k, (.slice (some ⟨g_x0, 0, none⟩) z0.q.length z0.q.length : Value).ownBlock = some k → k ≠ W16.heap.size) := Lib.hid (fun k h1 h2 => absurd (O_x0.out.lt k h1).2 (by omega))
  obtain ⟨X_bx, hX_bx⟩ : ∃ X, X = W16.heap.size := ⟨_, rfl⟩
  rw [← hX_bx] at bx_b20 BX_bx_vw0 BX_bx_x0 ⊢
  clear hX_bx
  have HB_21 := Lib.hid (HB_17.out.trans (l20.mono HB_17.out.size))
  have vw0_21 := Lib.hid (own_below vw0_17.out l20 (Nat.le_refl _))
  clear vw0_17
  have x0_21 := Lib.hid (own_below O_x0.out l20 (Nat.le_refl _))
  clear O_x0
  have A_21 := Lib.hid (A_17.out.below l20 A_17.out.lt)
  clear A_17
  have bw_21 := Lib.hid (bw_17.out.below l20 bw_17.out.lt)
  clear bw_17
  clear HB_17
  clear hc0_A_18 hc1_A_18 hc2_A_18
  obtain ⟨hc0_A_22, hc1_A_22, hc2_A_22⟩ := A_21.out.cells
  clear hc0_bw_19 hc1_bw_19 hc2_bw_19
  obtain ⟨hc0_bw_23, hc1_bw_23, hc2_bw_23⟩ := bw_21.out.cells
  clear l20
  clear hc0_A_22 hc1_A_22 hc2_A_22
  obtain ⟨hc0_A_24, hc1_A_24, hc2_A_24⟩ := A_21.out.cells
  clear hc0_bw_23 hc1_bw_23 hc2_bw_23
  obtain ⟨hc0_bw_25, hc1_bw_25, hc2_bw_25⟩ := bw_21.out.cells
  obtain ⟨hc0_bx_26, hc1_bx_26, hc2_bx_26⟩ := bx_b20.out.cells
  go_wp2_with fail
  refine (HIm.out g_x0 _ (row_own x0_21.out)).mono ?_
  rintro e W27 ⟨vg0, rfl, o_vg0, l27⟩
  obtain ⟨a_vg0, c_vg0, rfl, _, _⟩ := own_someS0 o_vg0
  have ap_vw0_vg0 : ∀ k, (.slice a_vw0 ps0.q.length c_vw0 : Value).ownBlock = some k → (.slice a_vg0 ps0.q.length c_vg0 : Value).ownBlock ≠ some k := fun k h1 h2 => absurd (vw0_21.out.lt k h1).2 (Nat.not_lt.2 (o_vg0.lt k h2).1)
  have AP_vw0_vg0 := Lib.hid ap_vw0_vg0
  clear ap_vw0_vg0
  have ap_x0_vg0 : ∀ k, (.slice (some ⟨g_x0, 0, none⟩) z0.q.length z0.q.length : Value).ownBlock = some k → (.slice a_vg0 ps0.q.length c_vg0 : Value).ownBlock ≠ some k := fun k h1 h2 => absurd (x0_21.out.lt k h1).2 (Nat.not_lt.2 (o_vg0.lt k h2).1)
  have AP_x0_vg0 := Lib.hid ap_x0_vg0
  clear ap_x0_vg0
  have bx_A_vg0 : ∀ k, (.slice a_vg0 ps0.q.length c_vg0 : Value).ownBlock = some k → k ≠ R0 := fun k h1 h2 => absurd A_21.out.lt (Nat.not_lt.2 (by rw [← h2]; exact (o_vg0.lt k h1).1))
  have BX_A_vg0 := Lib.hid bx_A_vg0
  clear bx_A_vg0
  have bx_bw_vg0 : ∀ k, (.slice a_vg0 ps0.q.length c_vg0 : Value).ownBlock = some k → k ≠ X_bw := fun k h1 h2 => absurd bw_21.out.lt (Nat.not_lt.2 (by rw [← h2]; exact (o_vg0.lt k h1).1))
  have BX_bw_vg0 := Lib.hid bx_bw_vg0
  clear bx_bw_vg0
  have bx_bx_vg0 : ∀ k, (.slice a_vg0 ps0.q.length c_vg0 : Value).ownBlock = some k → k ≠ X_bx := fun k h1 h2 => absurd bx_b20.out.lt (Nat.not_lt.2 (by rw [← h2]; exact (o_vg0.lt k h1).1))
  have BX_bx_vg0 := Lib.hid bx_bx_vg0
  clear bx_bx_vg0
  have O_vg0 := Lib.hid (own_base o_vg0 (HB_21.out.size))
  have HB_28 := Lib.hid (HB_21.out.trans (l27.mono HB_21.out.size))
  have vw0_28 := Lib.hid (own_below vw0_21.out l27 (Nat.le_refl _))
  clear vw0_21
  have x0_28 := Lib.hid (own_below x0_21.out l27 (Nat.le_refl _))
  clear x0_21
  have A_28 := Lib.hid (A_21.out.below l27 A_21.out.lt)
  clear A_21
  have bw_28 := Lib.hid (bw_21.out.below l27 bw_21.out.lt)
  clear bw_21
  have bx_28 := Lib.hid (bx_b20.out.below l27 bx_b20.out.lt)
  clear bx_b20
  clear HB_21
  clear hc0_A_24 hc1_A_24 hc2_A_24
  obtain ⟨hc0_A_29, hc1_A_29, hc2_A_29⟩ := A_28.out.cells
  clear hc0_bw_25 hc1_bw_25 hc2_bw_25
  obtain ⟨hc0_bw_30, hc1_bw_30, hc2_bw_30⟩ := bw_28.out.cells
  clear hc0_bx_26 hc1_bx_26 hc2_bx_26
  obtain ⟨hc0_bx_31, hc1_bx_31, hc2_bx_31⟩ := bx_28.out.cells
  clear l27 o_vg0
  go_upto_region 8 with fail
  obtain ⟨W32, hW32⟩ : ∃ W32, W32 = W27.alloc (.cells #[.slice a_vg0 ps0.q.length c_vg0, .string ps0.f, .int .i64 ps0.u] 26) := ⟨_, rfl⟩
  have l32 : Below W27.heap.size W27 W32 := by rw [hW32]; exact (Below.refl _ _).alloc (Nat.le_refl _) _
  have bg_b32 : Hid (Bk W32 W27.heap.size (.slice a_vg0 ps0.q.length c_vg0) ps0.f ps0.u 26) := Lib.hid (by rw [hW32]; exact Bk.new _ _ _ _ _)
  rw [← hW32]
  clear hW32
  have BX_bg_vw0 : Hid (∀ k, (.slice a_vw0 ps0.q.length c_vw0 : Value).ownBlock = some k → k ≠ W27.heap.size) := Lib.hid (fun k h1 h2 => absurd (vw0_28.out.lt k h1).2 (by omega))
  have BX_bg_x0 : Hid (∀ k, (.slice (some ⟨g_x0, 0, none⟩) z0.q.length z0.q.length : Value).ownBlock = some k → k ≠ W27.heap.size) := Lib.hid (fun k h1 h2 => absurd (x0_28.out.lt k h1).2 (by omega))
  have BX_bg_vg0 : Hid (∀ k, (.slice a_vg0 ps0.q.length c_vg0 : Value).ownBlock = some k → k ≠ W27.heap.size) := Lib.hid (fun k h1 h2 => absurd (O_vg0.out.lt k h1).2 (by omega))
  obtain ⟨X_bg, hX_bg⟩ : ∃ X, X = W27.heap.size := ⟨_, rfl⟩
  rw [← hX_bg] at bg_b32 BX_bg_vw0 BX_bg_x0 BX_bg_vg0 ⊢
  clear hX_bg
  have HB_33 := Lib.hid (HB_28.out.trans (l32.mono HB_28.out.size))
  have vw0_33 := Lib.hid (own_below vw0_28.out l32 (Nat.le_refl _))
  clear vw0_28
  have x0_33 := Lib.hid (own_below x0_28.out l32 (Nat.le_refl _))
  clear x0_28
  have vg0_33 := Lib.hid (own_below O_vg0.out l32 (Nat.le_refl _))
  clear O_vg0
  have A_33 := Lib.hid (A_28.out.below l32 A_28.out.lt)
  clear A_28
  have bw_33 := Lib.hid (bw_28.out.below l32 bw_28.out.lt)
  clear bw_28
  have bx_33 := Lib.hid (bx_28.out.below l32 bx_28.out.lt)
  clear bx_28
  clear HB_28
  clear hc0_A_29 hc1_A_29 hc2_A_29
  obtain ⟨hc0_A_34, hc1_A_34, hc2_A_34⟩ := A_33.out.cells
  clear hc0_bw_30 hc1_bw_30 hc2_bw_30
  obtain ⟨hc0_bw_35, hc1_bw_35, hc2_bw_35⟩ := bw_33.out.cells
  clear hc0_bx_31 hc1_bx_31 hc2_bx_31
  obtain ⟨hc0_bx_36, hc1_bx_36, hc2_bx_36⟩ := bx_33.out.cells
  clear l32
  clear hc0_A_34 hc1_A_34 hc2_A_34
  obtain ⟨hc0_A_37, hc1_A_37, hc2_A_37⟩ := A_33.out.cells
  clear hc0_bw_35 hc1_bw_35 hc2_bw_35
  obtain ⟨hc0_bw_38, hc1_bw_38, hc2_bw_38⟩ := bw_33.out.cells
  clear hc0_bx_36 hc1_bx_36 hc2_bx_36
  obtain ⟨hc0_bx_39, hc1_bx_39, hc2_bx_39⟩ := bx_33.out.cells
  obtain ⟨hc0_bg_40, hc1_bg_40, hc2_bg_40⟩ := bg_b32.out.cells
  go_wp2_with fail
  refine (eqLink_same _ _ ps0 _ (row_own vg0_33.out) (row_own vw0_33.out)).mono ?_
  rintro e W41 ⟨rfl, l41⟩
  have HB_42 := Lib.hid (HB_33.out.trans (l41.mono HB_33.out.size))
  have vw0_42 := Lib.hid (own_below vw0_33.out l41 (Nat.le_refl _))
  clear vw0_33
  have x0_42 := Lib.hid (own_below x0_33.out l41 (Nat.le_refl _))
  clear x0_33
  have vg0_42 := Lib.hid (own_below vg0_33.out l41 (Nat.le_refl _))
  clear vg0_33
  have A_42 := Lib.hid (A_33.out.below l41 A_33.out.lt)
  clear A_33
  have bw_42 := Lib.hid (bw_33.out.below l41 bw_33.out.lt)
  clear bw_33
  have bx_42 := Lib.hid (bx_33.out.below l41 bx_33.out.lt)
  clear bx_33
  have bg_42 := Lib.hid (bg_b32.out.below l41 bg_b32.out.lt)
  clear bg_b32
  clear HB_33
  clear hc0_A_37 hc1_A_37 hc2_A_37
  obtain ⟨hc0_A_43, hc1_A_43, hc2_A_43⟩ := A_42.out.cells
  clear hc0_bw_38 hc1_bw_38 hc2_bw_38
  obtain ⟨hc0_bw_44, hc1_bw_44, hc2_bw_44⟩ := bw_42.out.cells
  clear hc0_bx_39 hc1_bx_39 hc2_bx_39
  obtain ⟨hc0_bx_45, hc1_bx_45, hc2_bx_45⟩ := bx_42.out.cells
  clear hc0_bg_40 hc1_bg_40 hc2_bg_40
  obtain ⟨hc0_bg_46, hc1_bg_46, hc2_bg_46⟩ := bg_42.out.cells
  clear l41
  go_upto_region 10 with fail
  go_cut [55] from 51 to 55 (fun b wx => b = .bool false ∧ Hid (Below W41.heap.size W41 wx))
  case first => as_aux_lemma =>
    go_region_held3 (fun w' => w'.cell? ⟨X_bx, 0, none⟩ = some (.slice (some ⟨g_x0, 0, none⟩) z0.q.length z0.q.length) ∧ w'.cell? ⟨X_bx, 1, none⟩ = some (.string z0.f) ∧ w'.cell? ⟨X_bx, 2, none⟩ = some (.int .i64 z0.u) ∧ w'.cell? ⟨R0, 0, none⟩ = some (.slice p0 z0.q.length cap0) ∧ w'.cell? ⟨R0, 1, none⟩ = some (.string z0.f) ∧ w'.cell? ⟨R0, 2, none⟩ = some (.int .i64 z0.u) ∧ Below W41.heap.size W41 w')
      ((refine keep_links bx_42.out A_42.out ?_; repeat (first | assumption | exact Below.refl _ _ | refine Below.drew ?_)))
      (first
        | (go_at_call 45; refine (toLink_lit _ z0 _ (HR0.out.below (HB_42.out.trans ((by repeat (first | assumption | exact Below.refl _ _ | refine Below.drew ?_) : Below W41.heap.size W41 _).mono HB_42.out.size)) (Nat.le_refl _)) HN0.out).mono ?_; rintro e w5 ⟨g5, rfl, o5, l5⟩; have hb5 := below_call7 (by repeat (first | assumption | exact Below.refl _ _ | refine Below.drew ?_) : Below W41.heap.size W41 _) l5; have ho5 := row_own o5; clear o5 l5)
        | (go_at_call 46; refine (eqLink_same _ _ z0 _ ((row_own x0_42.out).below hb5 (Nat.le_refl _)) ho5).mono ?_; rintro e w6 ⟨rfl, l6⟩; have hb6 := below_call7 hb5 l6; clear l6))
    all_goals go_wp2_with fail
    all_goals go_meet
    all_goals
      case rel => exact ⟨by simp, Lib.hid (by repeat (first | assumption | exact Below.refl _ _ | refine Below.drew ?_))⟩
  case rest =>
    obtain ⟨rfl, HCut⟩ := hcut
    rename World => W47
    have l47 := HCut.out
    clear HCut
    have HB_48 := Lib.hid (HB_42.out.trans (l47.mono HB_42.out.size))
    have vw0_48 := Lib.hid (own_below vw0_42.out l47 (Nat.le_refl _))
    clear vw0_42
    have x0_48 := Lib.hid (own_below x0_42.out l47 (Nat.le_refl _))
    clear x0_42
    have vg0_48 := Lib.hid (own_below vg0_42.out l47 (Nat.le_refl _))
    clear vg0_42
    have A_48 := Lib.hid (A_42.out.below l47 A_42.out.lt)
    clear A_42
    have bw_48 := Lib.hid (bw_42.out.below l47 bw_42.out.lt)
    clear bw_42
    have bx_48 := Lib.hid (bx_42.out.below l47 bx_42.out.lt)
    clear bx_42
    have bg_48 := Lib.hid (bg_42.out.below l47 bg_42.out.lt)
    clear bg_42
    clear HB_42
    clear hc0_A_43 hc1_A_43 hc2_A_43
    obtain ⟨hc0_A_49, hc1_A_49, hc2_A_49⟩ := A_48.out.cells
    clear hc0_bw_44 hc1_bw_44 hc2_bw_44
    obtain ⟨hc0_bw_50, hc1_bw_50, hc2_bw_50⟩ := bw_48.out.cells
    clear hc0_bx_45 hc1_bx_45 hc2_bx_45
    obtain ⟨hc0_bx_51, hc1_bx_51, hc2_bx_51⟩ := bx_48.out.cells
    clear hc0_bg_46 hc1_bg_46 hc2_bg_46
    obtain ⟨hc0_bg_52, hc1_bg_52, hc2_bg_52⟩ := bg_48.out.cells
    clear l47
    go_wp2_with fail
    refine (markL_own _ _ _ z0.q.length 1 _ _ _ x0_48.out (by omega) (by have := HL0.out; have := HN0.out; omega)).mono ?_
    rintro e W53 ⟨rfl, m53, gr53⟩
    have HB_53 := Lib.hid (HB_48.out.grown gr53 HB_48.out.size (fun q hq => (x0_48.out.lt q hq).1))
    have vw0_53 := Lib.hid (own_apart vw0_48.out gr53 (fun k h1 h2 => AP_vw0_x0.out k h1 h2))
    clear vw0_48
    have vg0_53 := Lib.hid (own_apart vg0_48.out gr53 (fun k h1 h2 => AP_x0_vg0.out k h2 h1))
    clear vg0_48
    have A_53 := Lib.hid (A_48.out.grown gr53 (fun e => BX_A_x0.out _ e.symm rfl))
    clear A_48
    have bw_53 := Lib.hid (bw_48.out.grown gr53 (fun e => BX_bw_x0.out _ e.symm rfl))
    clear bw_48
    have bx_53 := Lib.hid (bx_48.out.grown gr53 (fun e => BX_bx_x0.out _ e.symm rfl))
    clear bx_48
    have bg_53 := Lib.hid (bg_48.out.grown gr53 (fun e => BX_bg_x0.out _ e.symm rfl))
    clear bg_48
    have x0_53 := Lib.hid m53
    clear m53 gr53 x0_48 HB_48
    clear hc0_A_49 hc1_A_49 hc2_A_49
    obtain ⟨hc0_A_54, hc1_A_54, hc2_A_54⟩ := A_53.out.cells
    clear hc0_bw_50 hc1_bw_50 hc2_bw_50
    obtain ⟨hc0_bw_55, hc1_bw_55, hc2_bw_55⟩ := bw_53.out.cells
    clear hc0_bx_51 hc1_bx_51 hc2_bx_51
    obtain ⟨hc0_bx_56, hc1_bx_56, hc2_bx_56⟩ := bx_53.out.cells
    clear hc0_bg_52 hc1_bg_52 hc2_bg_52
    obtain ⟨hc0_bg_57, hc1_bg_57, hc2_bg_57⟩ := bg_53.out.cells
    go_wp2_with fail
    refine (eqLink_same _ _ ps0 _ (row_own vg0_53.out) (row_own vw0_53.out)).mono ?_
    rintro e W58 ⟨rfl, l58⟩
    have HB_59 := Lib.hid (HB_53.out.trans (l58.mono HB_53.out.size))
    have vw0_59 := Lib.hid (own_below vw0_53.out l58 (Nat.le_refl _))
    clear vw0_53
    have x0_59 := Lib.hid (own_below x0_53.out l58 (Nat.le_refl _))
    clear x0_53
    have vg0_59 := Lib.hid (own_below vg0_53.out l58 (Nat.le_refl _))
    clear vg0_53
    have A_59 := Lib.hid (A_53.out.below l58 A_53.out.lt)
    clear A_53
    have bw_59 := Lib.hid (bw_53.out.below l58 bw_53.out.lt)
    clear bw_53
    have bx_59 := Lib.hid (bx_53.out.below l58 bx_53.out.lt)
    clear bx_53
    have bg_59 := Lib.hid (bg_53.out.below l58 bg_53.out.lt)
    clear bg_53
    clear HB_53
    clear hc0_A_54 hc1_A_54 hc2_A_54
    obtain ⟨hc0_A_60, hc1_A_60, hc2_A_60⟩ := A_59.out.cells
    clear hc0_bw_55 hc1_bw_55 hc2_bw_55
    obtain ⟨hc0_bw_61, hc1_bw_61, hc2_bw_61⟩ := bw_59.out.cells
    clear hc0_bx_56 hc1_bx_56 hc2_bx_56
    obtain ⟨hc0_bx_62, hc1_bx_62, hc2_bx_62⟩ := bx_59.out.cells
    clear hc0_bg_57 hc1_bg_57 hc2_bg_57
    obtain ⟨hc0_bg_63, hc1_bg_63, hc2_bg_63⟩ := bg_59.out.cells
    clear l58
    clear x0_59
    clear bx_59 hc0_bx_62 hc1_bx_62 hc2_bx_62
    go_wp2_with fail
    refine (markL_own _ _ _ ps0.q.length 1 _ _ _ vg0_59.out (by omega) (by have := HL0.out; have := HN0.out; omega)).mono ?_
    rintro e W64 ⟨rfl, m64, gr64⟩
    have HB_64 := Lib.hid (HB_59.out.grown gr64 HB_59.out.size (fun q hq => (vg0_59.out.lt q hq).1))
    have vw0_64 := Lib.hid (own_apart vw0_59.out gr64 (fun k h1 h2 => AP_vw0_vg0.out k h1 h2))
    clear vw0_59
    have A_64 := Lib.hid (A_59.out.grown gr64 (fun e => BX_A_vg0.out _ e.symm rfl))
    clear A_59
    have bw_64 := Lib.hid (bw_59.out.grown gr64 (fun e => BX_bw_vg0.out _ e.symm rfl))
    clear bw_59
    have bg_64 := Lib.hid (bg_59.out.grown gr64 (fun e => BX_bg_vg0.out _ e.symm rfl))
    clear bg_59
    have vg0_64 := Lib.hid m64
    clear m64 gr64 vg0_59 HB_59
    clear hc0_A_60 hc1_A_60 hc2_A_60
    obtain ⟨hc0_A_65, hc1_A_65, hc2_A_65⟩ := A_64.out.cells
    clear hc0_bw_61 hc1_bw_61 hc2_bw_61
    obtain ⟨hc0_bw_66, hc1_bw_66, hc2_bw_66⟩ := bw_64.out.cells
    clear hc0_bg_63 hc1_bg_63 hc2_bg_63
    obtain ⟨hc0_bg_67, hc1_bg_67, hc2_bg_67⟩ := bg_64.out.cells
    go_wp2_with fail
    refine (heldL_own _ _ _ ps0.q.length 1 _ _ vg0_64.out (by omega) (by have := HL0.out; have := HN0.out; omega)).mono ?_
    rintro e W68 ⟨rfl, l68⟩
    have HB_69 := Lib.hid (HB_64.out.trans (l68.mono HB_64.out.size))
    have vw0_69 := Lib.hid (own_below vw0_64.out l68 (Nat.le_refl _))
    clear vw0_64
    have vg0_69 := Lib.hid (own_below vg0_64.out l68 (Nat.le_refl _))
    clear vg0_64
    have A_69 := Lib.hid (A_64.out.below l68 A_64.out.lt)
    clear A_64
    have bw_69 := Lib.hid (bw_64.out.below l68 bw_64.out.lt)
    clear bw_64
    have bg_69 := Lib.hid (bg_64.out.below l68 bg_64.out.lt)
    clear bg_64
    clear HB_64
    clear hc0_A_65 hc1_A_65 hc2_A_65
    obtain ⟨hc0_A_70, hc1_A_70, hc2_A_70⟩ := A_69.out.cells
    clear hc0_bw_66 hc1_bw_66 hc2_bw_66
    obtain ⟨hc0_bw_71, hc1_bw_71, hc2_bw_71⟩ := bw_69.out.cells
    clear hc0_bg_67 hc1_bg_67 hc2_bg_67
    obtain ⟨hc0_bg_72, hc1_bg_72, hc2_bg_72⟩ := bg_69.out.cells
    clear l68
    go_wp2_with fail
    refine (toLink_lit _ z0 _ (HR0.out.below HB_69.out (Nat.le_refl _)) HN0.out).mono ?_
    rintro e W73 ⟨g_t0, rfl, o_t0, l73⟩
    have ap_vw0_t0 : ∀ k, (.slice a_vw0 ps0.q.length c_vw0 : Value).ownBlock = some k → (.slice (some ⟨g_t0, 0, none⟩) z0.q.length z0.q.length : Value).ownBlock ≠ some k := fun k h1 h2 => absurd (vw0_69.out.lt k h1).2 (Nat.not_lt.2 (o_t0.lt k h2).1)
    have AP_vw0_t0 := Lib.hid ap_vw0_t0
    clear ap_vw0_t0
    have ap_vg0_t0 : ∀ k, (.slice a_vg0 ps0.q.length c_vg0 : Value).ownBlock = some k → (.slice (some ⟨g_t0, 0, none⟩) z0.q.length z0.q.length : Value).ownBlock ≠ some k := fun k h1 h2 => absurd (vg0_69.out.lt k h1).2 (Nat.not_lt.2 (o_t0.lt k h2).1)
    have AP_vg0_t0 := Lib.hid ap_vg0_t0
    clear ap_vg0_t0
    have bx_A_t0 : ∀ k, (.slice (some ⟨g_t0, 0, none⟩) z0.q.length z0.q.length : Value).ownBlock = some k → k ≠ R0 := fun k h1 h2 => absurd A_69.out.lt (Nat.not_lt.2 (by rw [← h2]; exact (o_t0.lt k h1).1))
    have BX_A_t0 := Lib.hid bx_A_t0
    clear bx_A_t0
    have bx_bw_t0 : ∀ k, (.slice (some ⟨g_t0, 0, none⟩) z0.q.length z0.q.length : Value).ownBlock = some k → k ≠ X_bw := fun k h1 h2 => absurd bw_69.out.lt (Nat.not_lt.2 (by rw [← h2]; exact (o_t0.lt k h1).1))
    have BX_bw_t0 := Lib.hid bx_bw_t0
    clear bx_bw_t0
    have bx_bg_t0 : ∀ k, (.slice (some ⟨g_t0, 0, none⟩) z0.q.length z0.q.length : Value).ownBlock = some k → k ≠ X_bg := fun k h1 h2 => absurd bg_69.out.lt (Nat.not_lt.2 (by rw [← h2]; exact (o_t0.lt k h1).1))
    have BX_bg_t0 := Lib.hid bx_bg_t0
    clear bx_bg_t0
    have O_t0 := Lib.hid (own_base o_t0 (HB_69.out.size))
    have HB_74 := Lib.hid (HB_69.out.trans (l73.mono HB_69.out.size))
    have vw0_74 := Lib.hid (own_below vw0_69.out l73 (Nat.le_refl _))
    clear vw0_69
    have vg0_74 := Lib.hid (own_below vg0_69.out l73 (Nat.le_refl _))
    clear vg0_69
    have A_74 := Lib.hid (A_69.out.below l73 A_69.out.lt)
    clear A_69
    have bw_74 := Lib.hid (bw_69.out.below l73 bw_69.out.lt)
    clear bw_69
    have bg_74 := Lib.hid (bg_69.out.below l73 bg_69.out.lt)
    clear bg_69
    clear HB_69
    clear hc0_A_70 hc1_A_70 hc2_A_70
    obtain ⟨hc0_A_75, hc1_A_75, hc2_A_75⟩ := A_74.out.cells
    clear hc0_bw_71 hc1_bw_71 hc2_bw_71
    obtain ⟨hc0_bw_76, hc1_bw_76, hc2_bw_76⟩ := bw_74.out.cells
    clear hc0_bg_72 hc1_bg_72 hc2_bg_72
    obtain ⟨hc0_bg_77, hc1_bg_77, hc2_bg_77⟩ := bg_74.out.cells
    clear o_t0 l73
    go_wp2_with fail
    refine (HIm.out g_t0 _ (row_own O_t0.out)).mono ?_
    rintro e W78 ⟨vh0, rfl, o_vh0, l78⟩
    obtain ⟨a_vh0, c_vh0, rfl, _, _⟩ := own_someS0 o_vh0
    have ap_vw0_vh0 : ∀ k, (.slice a_vw0 ps0.q.length c_vw0 : Value).ownBlock = some k → (.slice a_vh0 ps0.q.length c_vh0 : Value).ownBlock ≠ some k := fun k h1 h2 => absurd (vw0_74.out.lt k h1).2 (Nat.not_lt.2 (o_vh0.lt k h2).1)
    have AP_vw0_vh0 := Lib.hid ap_vw0_vh0
    clear ap_vw0_vh0
    have ap_vg0_vh0 : ∀ k, (.slice a_vg0 ps0.q.length c_vg0 : Value).ownBlock = some k → (.slice a_vh0 ps0.q.length c_vh0 : Value).ownBlock ≠ some k := fun k h1 h2 => absurd (vg0_74.out.lt k h1).2 (Nat.not_lt.2 (o_vh0.lt k h2).1)
    have AP_vg0_vh0 := Lib.hid ap_vg0_vh0
    clear ap_vg0_vh0
    have ap_t0_vh0 : ∀ k, (.slice (some ⟨g_t0, 0, none⟩) z0.q.length z0.q.length : Value).ownBlock = some k → (.slice a_vh0 ps0.q.length c_vh0 : Value).ownBlock ≠ some k := fun k h1 h2 => absurd (O_t0.out.lt k h1).2 (Nat.not_lt.2 (o_vh0.lt k h2).1)
    have AP_t0_vh0 := Lib.hid ap_t0_vh0
    clear ap_t0_vh0
    have bx_A_vh0 : ∀ k, (.slice a_vh0 ps0.q.length c_vh0 : Value).ownBlock = some k → k ≠ R0 := fun k h1 h2 => absurd A_74.out.lt (Nat.not_lt.2 (by rw [← h2]; exact (o_vh0.lt k h1).1))
    have BX_A_vh0 := Lib.hid bx_A_vh0
    clear bx_A_vh0
    have bx_bw_vh0 : ∀ k, (.slice a_vh0 ps0.q.length c_vh0 : Value).ownBlock = some k → k ≠ X_bw := fun k h1 h2 => absurd bw_74.out.lt (Nat.not_lt.2 (by rw [← h2]; exact (o_vh0.lt k h1).1))
    have BX_bw_vh0 := Lib.hid bx_bw_vh0
    clear bx_bw_vh0
    have bx_bg_vh0 : ∀ k, (.slice a_vh0 ps0.q.length c_vh0 : Value).ownBlock = some k → k ≠ X_bg := fun k h1 h2 => absurd bg_74.out.lt (Nat.not_lt.2 (by rw [← h2]; exact (o_vh0.lt k h1).1))
    have BX_bg_vh0 := Lib.hid bx_bg_vh0
    clear bx_bg_vh0
    have O_vh0 := Lib.hid (own_base o_vh0 (HB_74.out.size))
    have HB_79 := Lib.hid (HB_74.out.trans (l78.mono HB_74.out.size))
    have vw0_79 := Lib.hid (own_below vw0_74.out l78 (Nat.le_refl _))
    clear vw0_74
    have vg0_79 := Lib.hid (own_below vg0_74.out l78 (Nat.le_refl _))
    clear vg0_74
    have t0_79 := Lib.hid (own_below O_t0.out l78 (Nat.le_refl _))
    clear O_t0
    have A_79 := Lib.hid (A_74.out.below l78 A_74.out.lt)
    clear A_74
    have bw_79 := Lib.hid (bw_74.out.below l78 bw_74.out.lt)
    clear bw_74
    have bg_79 := Lib.hid (bg_74.out.below l78 bg_74.out.lt)
    clear bg_74
    clear HB_74
    clear hc0_A_75 hc1_A_75 hc2_A_75
    obtain ⟨hc0_A_80, hc1_A_80, hc2_A_80⟩ := A_79.out.cells
    clear hc0_bw_76 hc1_bw_76 hc2_bw_76
    obtain ⟨hc0_bw_81, hc1_bw_81, hc2_bw_81⟩ := bw_79.out.cells
    clear hc0_bg_77 hc1_bg_77 hc2_bg_77
    obtain ⟨hc0_bg_82, hc1_bg_82, hc2_bg_82⟩ := bg_79.out.cells
    clear l78 o_vh0
    go_upto_region 25 with fail
    obtain ⟨W83, hW83⟩ : ∃ W83, W83 = W78.alloc (.cells #[.slice a_vh0 ps0.q.length c_vh0, .string ps0.f, .int .i64 ps0.u] 26) := ⟨_, rfl⟩
    have l83 : Below W78.heap.size W78 W83 := by rw [hW83]; exact (Below.refl _ _).alloc (Nat.le_refl _) _
    have bh_b83 : Hid (Bk W83 W78.heap.size (.slice a_vh0 ps0.q.length c_vh0) ps0.f ps0.u 26) := Lib.hid (by rw [hW83]; exact Bk.new _ _ _ _ _)
    rw [← hW83]
    clear hW83
    have BX_bh_vw0 : Hid (∀ k, (.slice a_vw0 ps0.q.length c_vw0 : Value).ownBlock = some k → k ≠ W78.heap.size) := Lib.hid (fun k h1 h2 => absurd (vw0_79.out.lt k h1).2 (by omega))
    have BX_bh_vg0 : Hid (∀ k, (.slice a_vg0 ps0.q.length c_vg0 : Value).ownBlock = some k → k ≠ W78.heap.size) := Lib.hid (fun k h1 h2 => absurd (vg0_79.out.lt k h1).2 (by omega))
    have BX_bh_t0 : Hid (∀ k, (.slice (some ⟨g_t0, 0, none⟩) z0.q.length z0.q.length : Value).ownBlock = some k → k ≠ W78.heap.size) := Lib.hid (fun k h1 h2 => absurd (t0_79.out.lt k h1).2 (by omega))
    have BX_bh_vh0 : Hid (∀ k, (.slice a_vh0 ps0.q.length c_vh0 : Value).ownBlock = some k → k ≠ W78.heap.size) := Lib.hid (fun k h1 h2 => absurd (O_vh0.out.lt k h1).2 (by omega))
    obtain ⟨X_bh, hX_bh⟩ : ∃ X, X = W78.heap.size := ⟨_, rfl⟩
    rw [← hX_bh] at bh_b83 BX_bh_vw0 BX_bh_vg0 BX_bh_t0 BX_bh_vh0 ⊢
    clear hX_bh
    have HB_84 := Lib.hid (HB_79.out.trans (l83.mono HB_79.out.size))
    have vw0_84 := Lib.hid (own_below vw0_79.out l83 (Nat.le_refl _))
    clear vw0_79
    have vg0_84 := Lib.hid (own_below vg0_79.out l83 (Nat.le_refl _))
    clear vg0_79
    have t0_84 := Lib.hid (own_below t0_79.out l83 (Nat.le_refl _))
    clear t0_79
    have vh0_84 := Lib.hid (own_below O_vh0.out l83 (Nat.le_refl _))
    clear O_vh0
    have A_84 := Lib.hid (A_79.out.below l83 A_79.out.lt)
    clear A_79
    have bw_84 := Lib.hid (bw_79.out.below l83 bw_79.out.lt)
    clear bw_79
    have bg_84 := Lib.hid (bg_79.out.below l83 bg_79.out.lt)
    clear bg_79
    clear HB_79
    clear hc0_A_80 hc1_A_80 hc2_A_80
    obtain ⟨hc0_A_85, hc1_A_85, hc2_A_85⟩ := A_84.out.cells
    clear hc0_bw_81 hc1_bw_81 hc2_bw_81
    obtain ⟨hc0_bw_86, hc1_bw_86, hc2_bw_86⟩ := bw_84.out.cells
    clear hc0_bg_82 hc1_bg_82 hc2_bg_82
    obtain ⟨hc0_bg_87, hc1_bg_87, hc2_bg_87⟩ := bg_84.out.cells
    clear l83
    clear hc0_A_85 hc1_A_85 hc2_A_85
    obtain ⟨hc0_A_88, hc1_A_88, hc2_A_88⟩ := A_84.out.cells
    clear hc0_bw_86 hc1_bw_86 hc2_bw_86
    obtain ⟨hc0_bw_89, hc1_bw_89, hc2_bw_89⟩ := bw_84.out.cells
    clear hc0_bg_87 hc1_bg_87 hc2_bg_87
    obtain ⟨hc0_bg_90, hc1_bg_90, hc2_bg_90⟩ := bg_84.out.cells
    obtain ⟨hc0_bh_91, hc1_bh_91, hc2_bh_91⟩ := bh_b83.out.cells
    go_wp2_with fail
    refine (eqLink_same _ _ ps0 _ (row_own vh0_84.out) (row_own vw0_84.out)).mono ?_
    rintro e W92 ⟨rfl, l92⟩
    have HB_93 := Lib.hid (HB_84.out.trans (l92.mono HB_84.out.size))
    have vw0_93 := Lib.hid (own_below vw0_84.out l92 (Nat.le_refl _))
    clear vw0_84
    have vg0_93 := Lib.hid (own_below vg0_84.out l92 (Nat.le_refl _))
    clear vg0_84
    have t0_93 := Lib.hid (own_below t0_84.out l92 (Nat.le_refl _))
    clear t0_84
    have vh0_93 := Lib.hid (own_below vh0_84.out l92 (Nat.le_refl _))
    clear vh0_84
    have A_93 := Lib.hid (A_84.out.below l92 A_84.out.lt)
    clear A_84
    have bw_93 := Lib.hid (bw_84.out.below l92 bw_84.out.lt)
    clear bw_84
    have bg_93 := Lib.hid (bg_84.out.below l92 bg_84.out.lt)
    clear bg_84
    have bh_93 := Lib.hid (bh_b83.out.below l92 bh_b83.out.lt)
    clear bh_b83
    clear HB_84
    clear hc0_A_88 hc1_A_88 hc2_A_88
    obtain ⟨hc0_A_94, hc1_A_94, hc2_A_94⟩ := A_93.out.cells
    clear hc0_bw_89 hc1_bw_89 hc2_bw_89
    obtain ⟨hc0_bw_95, hc1_bw_95, hc2_bw_95⟩ := bw_93.out.cells
    clear hc0_bg_90 hc1_bg_90 hc2_bg_90
    obtain ⟨hc0_bg_96, hc1_bg_96, hc2_bg_96⟩ := bg_93.out.cells
    clear hc0_bh_91 hc1_bh_91 hc2_bh_91
    obtain ⟨hc0_bh_97, hc1_bh_97, hc2_bh_97⟩ := bh_93.out.cells
    clear l92
    go_wp2_with fail
    refine (heldL_own _ _ _ ps0.q.length 1 _ _ vg0_93.out (by omega) (by have := HL0.out; have := HN0.out; omega)).mono ?_
    rintro e W98 ⟨rfl, l98⟩
    have HB_99 := Lib.hid (HB_93.out.trans (l98.mono HB_93.out.size))
    have vw0_99 := Lib.hid (own_below vw0_93.out l98 (Nat.le_refl _))
    clear vw0_93
    have vg0_99 := Lib.hid (own_below vg0_93.out l98 (Nat.le_refl _))
    clear vg0_93
    have t0_99 := Lib.hid (own_below t0_93.out l98 (Nat.le_refl _))
    clear t0_93
    have vh0_99 := Lib.hid (own_below vh0_93.out l98 (Nat.le_refl _))
    clear vh0_93
    have A_99 := Lib.hid (A_93.out.below l98 A_93.out.lt)
    clear A_93
    have bw_99 := Lib.hid (bw_93.out.below l98 bw_93.out.lt)
    clear bw_93
    have bg_99 := Lib.hid (bg_93.out.below l98 bg_93.out.lt)
    clear bg_93
    have bh_99 := Lib.hid (bh_93.out.below l98 bh_93.out.lt)
    clear bh_93
    clear HB_93
    clear hc0_A_94 hc1_A_94 hc2_A_94
    obtain ⟨hc0_A_100, hc1_A_100, hc2_A_100⟩ := A_99.out.cells
    clear hc0_bw_95 hc1_bw_95 hc2_bw_95
    obtain ⟨hc0_bw_101, hc1_bw_101, hc2_bw_101⟩ := bw_99.out.cells
    clear hc0_bg_96 hc1_bg_96 hc2_bg_96
    obtain ⟨hc0_bg_102, hc1_bg_102, hc2_bg_102⟩ := bg_99.out.cells
    clear hc0_bh_97 hc1_bh_97 hc2_bh_97
    obtain ⟨hc0_bh_103, hc1_bh_103, hc2_bh_103⟩ := bh_99.out.cells
    clear l98
    go_wp2_with fail
    go_ret
    exact ⟨rfl, HB_99.out⟩
theorem fnExactTakeFrom_walk (w : World) (v0_0 : Value) (s0_0 : List ByteArray) (w0_0 : Row w v0_0 s0_0.length (s0_0.map Value.string)) (b0_0 : ∀ s ∈ s0_0, s.size ≤ maxLen) (a0_1 : ByteArray) (w0_1 : a0_1.size ≤ maxLen) (a0_2 : Int) (w0_2 : (Lit.int .i64 a0_2).wf = true) (_hsh : w.ShapedOpen Try.prog) :
    Calls Try.prog 8 #[.agg #[v0_0, .string a0_1, .int .i64 a0_2]] w fun e w' => e = .returned (.bool true) ∧ Below w.heap.size w w' :=
  fnExactTakeFrom_wk w v0_0 ⟨s0_0, a0_1, a0_2⟩ w0_0 b0_0 w0_1
set_option maxRecDepth 100000 in
set_option maxHeartbeats 8000000 in
theorem fnExactDropFrom_wk (w : World) (v0 : Value) (z0 : Lk) (w0 : Row w v0 z0.q.length (z0.q.map Value.string)) (b0 : ∀ s ∈ z0.q, s.size ≤ maxLen) (c0 : z0.f.size ≤ maxLen) (a1 : Int) (w1 : (Lit.int .i64 a1).wf = true) :
    Calls Try.prog 9 #[.agg #[v0, .string z0.f, .int .i64 z0.u], .int .i64 a1] w fun e w' => e = .returned (.bool true) ∧ Below w.heap.size w w' := by
  obtain ⟨p0, cap0, rfl, hc10, hc20, _⟩ := row_open w0
  unfold maxLen at hc20
  obtain ⟨W0, hW0⟩ : ∃ W0, W0 = w.alloc (.cells #[.slice p0 z0.q.length cap0, .string z0.f, .int .i64 z0.u] 55) := ⟨_, rfl⟩
  have HA0 : Hid (Bk W0 w.heap.size (.slice p0 z0.q.length cap0) z0.f z0.u 55) := Lib.hid (by rw [hW0]; exact Bk.new w _ _ _ _)
  have HB0 : Hid (Below w.heap.size w W0) := Lib.hid (by rw [hW0]; exact (Below.refl w.heap.size w).alloc (Nat.le_refl _) _)
  have HW0 := Lib.hid hW0
  clear hW0
  obtain ⟨R0, hR0⟩ : ∃ R0, R0 = w.heap.size := ⟨_, rfl⟩
  rw [← hR0] at HA0
  have HQ0 := Lib.hid hR0
  clear hR0
  have HR0 := Lib.hid w0
  have HSz := Lib.hid (fun (W : World) (hr : Row W (.slice p0 z0.q.length cap0) z0.q.length (z0.q.map Value.string)) => szLink_any (.slice p0 z0.q.length cap0) z0 W hr b0 c0 1048576 (by omega))
  clear w0 b0 c0
  go_enter Try.func9, Try.ntmps9
  go_upto_region 1 with fail
  rw [← HW0.out, ← HQ0.out]
  obtain ⟨hc0_A_1, hc1_A_1, hc2_A_1⟩ := HA0.out.cells
  go_wp2_with fail
  refine (HSz.out _ (HR0.out.below HB0.out (Nat.le_refl _))).mono ?_
  rintro e W2 ⟨l2, r0, rfl, hr1, hr0⟩
  have HB_3 := Lib.hid (HB0.out.trans (l2.mono HB0.out.size))
  have A_3 := Lib.hid (HA0.out.below l2 HA0.out.lt)
  clear HA0
  clear HB0
  clear hc0_A_1 hc1_A_1 hc2_A_1
  obtain ⟨hc0_A_4, hc1_A_4, hc2_A_4⟩ := A_3.out.cells
  clear l2
  by_cases hneg : r0 < 0
  · clear hr0
    go_wp2_with fail
    go_ret
    exact ⟨rfl, HB_3.out⟩
  obtain ⟨hm0, hs0, hf0, hr00⟩ := hr0.resolve_left hneg
  have HN0 := Lib.hid hm0
  have HF0 := Lib.hid hf0
  clear hr0 hs0 HSz
  have hm0' := hm0
  have hf0' := hf0
  have HSp := Lib.hid (fun (g0 : Nat) (W : World) (h0 : Row W (.slice (some ⟨g0, 0, none⟩) z0.q.length z0.q.length) z0.q.length (z0.q.map Value.string)) => specDrop_any (.slice (some ⟨g0, 0, none⟩) z0.q.length z0.q.length) z0 a1 W h0 (by omega))
  have HIm := Lib.hid (fun (g0 : Nat) (W : World) (h0 : Row W (.slice (some ⟨g0, 0, none⟩) z0.q.length z0.q.length) z0.q.length (z0.q.map Value.string)) => implDrop_any (.slice (some ⟨g0, 0, none⟩) z0.q.length z0.q.length) z0 a1 W h0 (fitA_some g0 _))
  have hlen0 := dropL_len z0 a1 hm0'
  generalize dropL z0 a1 = ps0 at HSp HIm hlen0
  have HL0 := Lib.hid hlen0
  clear hlen0
  generalize dropOk z0 a1 = r0 at HSp HIm
  clear hm0 hf0 hm0' hf0'
  go_wp2_with fail
  refine (toLink_lit _ z0 _ (HR0.out.below HB_3.out (Nat.le_refl _)) HN0.out).mono ?_
  rintro e W5 ⟨g_s0, rfl, o_s0, l5⟩
  have bx_A_s0 : ∀ k, (.slice (some ⟨g_s0, 0, none⟩) z0.q.length z0.q.length : Value).ownBlock = some k → k ≠ R0 := fun k h1 h2 => absurd A_3.out.lt (Nat.not_lt.2 (by rw [← h2]; exact (o_s0.lt k h1).1))
  have BX_A_s0 := Lib.hid bx_A_s0
  clear bx_A_s0
  have O_s0 := Lib.hid (own_base o_s0 (HB_3.out.size))
  have HB_6 := Lib.hid (HB_3.out.trans (l5.mono HB_3.out.size))
  have A_6 := Lib.hid (A_3.out.below l5 A_3.out.lt)
  clear A_3
  clear HB_3
  clear hc0_A_4 hc1_A_4 hc2_A_4
  obtain ⟨hc0_A_7, hc1_A_7, hc2_A_7⟩ := A_6.out.cells
  clear o_s0 l5
  go_wp2_with fail
  refine (HSp.out g_s0 _ (row_own O_s0.out)).mono ?_
  rintro e W8 ⟨vw0, rfl, o_vw0, l8⟩
  obtain ⟨a_vw0, c_vw0, rfl, _, _⟩ := own_someS0 o_vw0
  have ap_s0_vw0 : ∀ k, (.slice (some ⟨g_s0, 0, none⟩) z0.q.length z0.q.length : Value).ownBlock = some k → (.slice a_vw0 ps0.q.length c_vw0 : Value).ownBlock ≠ some k := fun k h1 h2 => absurd (O_s0.out.lt k h1).2 (Nat.not_lt.2 (o_vw0.lt k h2).1)
  have AP_s0_vw0 := Lib.hid ap_s0_vw0
  clear ap_s0_vw0
  have bx_A_vw0 : ∀ k, (.slice a_vw0 ps0.q.length c_vw0 : Value).ownBlock = some k → k ≠ R0 := fun k h1 h2 => absurd A_6.out.lt (Nat.not_lt.2 (by rw [← h2]; exact (o_vw0.lt k h1).1))
  have BX_A_vw0 := Lib.hid bx_A_vw0
  clear bx_A_vw0
  have O_vw0 := Lib.hid (own_base o_vw0 (HB_6.out.size))
  have HB_9 := Lib.hid (HB_6.out.trans (l8.mono HB_6.out.size))
  have s0_9 := Lib.hid (own_below O_s0.out l8 (Nat.le_refl _))
  clear O_s0
  have A_9 := Lib.hid (A_6.out.below l8 A_6.out.lt)
  clear A_6
  clear HB_6
  clear hc0_A_7 hc1_A_7 hc2_A_7
  obtain ⟨hc0_A_10, hc1_A_10, hc2_A_10⟩ := A_9.out.cells
  clear l8 o_vw0
  clear s0_9
  go_upto_region 6 with fail
  obtain ⟨W11, hW11⟩ : ∃ W11, W11 = W8.alloc (.cells #[.slice a_vw0 ps0.q.length c_vw0, .string ps0.f, .int .i64 ps0.u] 26) := ⟨_, rfl⟩
  have l11 : Below W8.heap.size W8 W11 := by rw [hW11]; exact (Below.refl _ _).alloc (Nat.le_refl _) _
  have bw_b11 : Hid (Bk W11 W8.heap.size (.slice a_vw0 ps0.q.length c_vw0) ps0.f ps0.u 26) := Lib.hid (by rw [hW11]; exact Bk.new _ _ _ _ _)
  rw [← hW11]
  clear hW11
  have BX_bw_vw0 : Hid (∀ k, (.slice a_vw0 ps0.q.length c_vw0 : Value).ownBlock = some k → k ≠ W8.heap.size) := Lib.hid (fun k h1 h2 => absurd (O_vw0.out.lt k h1).2 (by omega))
  obtain ⟨X_bw, hX_bw⟩ : ∃ X, X = W8.heap.size := ⟨_, rfl⟩
  rw [← hX_bw] at bw_b11 BX_bw_vw0 ⊢
  clear hX_bw
  have HB_12 := Lib.hid (HB_9.out.trans (l11.mono HB_9.out.size))
  have vw0_12 := Lib.hid (own_below O_vw0.out l11 (Nat.le_refl _))
  clear O_vw0
  have A_12 := Lib.hid (A_9.out.below l11 A_9.out.lt)
  clear A_9
  clear HB_9
  clear hc0_A_10 hc1_A_10 hc2_A_10
  obtain ⟨hc0_A_13, hc1_A_13, hc2_A_13⟩ := A_12.out.cells
  clear l11
  clear hc0_A_13 hc1_A_13 hc2_A_13
  obtain ⟨hc0_A_14, hc1_A_14, hc2_A_14⟩ := A_12.out.cells
  obtain ⟨hc0_bw_15, hc1_bw_15, hc2_bw_15⟩ := bw_b11.out.cells
  go_wp2_with fail
  refine (toLink_lit _ z0 _ (HR0.out.below HB_12.out (Nat.le_refl _)) HN0.out).mono ?_
  rintro e W16 ⟨g_x0, rfl, o_x0, l16⟩
  have ap_vw0_x0 : ∀ k, (.slice a_vw0 ps0.q.length c_vw0 : Value).ownBlock = some k → (.slice (some ⟨g_x0, 0, none⟩) z0.q.length z0.q.length : Value).ownBlock ≠ some k := fun k h1 h2 => absurd (vw0_12.out.lt k h1).2 (Nat.not_lt.2 (o_x0.lt k h2).1)
  have AP_vw0_x0 := Lib.hid ap_vw0_x0
  clear ap_vw0_x0
  have bx_A_x0 : ∀ k, (.slice (some ⟨g_x0, 0, none⟩) z0.q.length z0.q.length : Value).ownBlock = some k → k ≠ R0 := fun k h1 h2 => absurd A_12.out.lt (Nat.not_lt.2 (by rw [← h2]; exact (o_x0.lt k h1).1))
  have BX_A_x0 := Lib.hid bx_A_x0
  clear bx_A_x0
  have bx_bw_x0 : ∀ k, (.slice (some ⟨g_x0, 0, none⟩) z0.q.length z0.q.length : Value).ownBlock = some k → k ≠ X_bw := fun k h1 h2 => absurd bw_b11.out.lt (Nat.not_lt.2 (by rw [← h2]; exact (o_x0.lt k h1).1))
  have BX_bw_x0 := Lib.hid bx_bw_x0
  clear bx_bw_x0
  have O_x0 := Lib.hid (own_base o_x0 (HB_12.out.size))
  have HB_17 := Lib.hid (HB_12.out.trans (l16.mono HB_12.out.size))
  have vw0_17 := Lib.hid (own_below vw0_12.out l16 (Nat.le_refl _))
  clear vw0_12
  have A_17 := Lib.hid (A_12.out.below l16 A_12.out.lt)
  clear A_12
  have bw_17 := Lib.hid (bw_b11.out.below l16 bw_b11.out.lt)
  clear bw_b11
  clear HB_12
  clear hc0_A_14 hc1_A_14 hc2_A_14
  obtain ⟨hc0_A_18, hc1_A_18, hc2_A_18⟩ := A_17.out.cells
  clear hc0_bw_15 hc1_bw_15 hc2_bw_15
  obtain ⟨hc0_bw_19, hc1_bw_19, hc2_bw_19⟩ := bw_17.out.cells
  clear o_x0 l16
  go_upto_region 7 with fail
  obtain ⟨W20, hW20⟩ : ∃ W20, W20 = W16.alloc (.cells #[.slice (some ⟨g_x0, 0, none⟩) z0.q.length z0.q.length, .string z0.f, .int .i64 z0.u] 26) := ⟨_, rfl⟩
  have l20 : Below W16.heap.size W16 W20 := by rw [hW20]; exact (Below.refl _ _).alloc (Nat.le_refl _) _
  have bx_b20 : Hid (Bk W20 W16.heap.size (.slice (some ⟨g_x0, 0, none⟩) z0.q.length z0.q.length) z0.f z0.u 26) := Lib.hid (by rw [hW20]; exact Bk.new _ _ _ _ _)
  rw [← hW20]
  clear hW20
  have BX_bx_vw0 : Hid (∀ k, (.slice a_vw0 ps0.q.length c_vw0 : Value).ownBlock = some k → k ≠ W16.heap.size) := Lib.hid (fun k h1 h2 => absurd (vw0_17.out.lt k h1).2 (by omega))
  have BX_bx_x0 : Hid (∀ k, (.slice (some ⟨g_x0, 0, none⟩) z0.q.length z0.q.length : Value).ownBlock = some k → k ≠ W16.heap.size) := Lib.hid (fun k h1 h2 => absurd (O_x0.out.lt k h1).2 (by omega))
  obtain ⟨X_bx, hX_bx⟩ : ∃ X, X = W16.heap.size := ⟨_, rfl⟩
  rw [← hX_bx] at bx_b20 BX_bx_vw0 BX_bx_x0 ⊢
  clear hX_bx
  have HB_21 := Lib.hid (HB_17.out.trans (l20.mono HB_17.out.size))
  have vw0_21 := Lib.hid (own_below vw0_17.out l20 (Nat.le_refl _))
  clear vw0_17
  have x0_21 := Lib.hid (own_below O_x0.out l20 (Nat.le_refl _))
  clear O_x0
  have A_21 := Lib.hid (A_17.out.below l20 A_17.out.lt)
  clear A_17
  have bw_21 := Lib.hid (bw_17.out.below l20 bw_17.out.lt)
  clear bw_17
  clear HB_17
  clear hc0_A_18 hc1_A_18 hc2_A_18
  obtain ⟨hc0_A_22, hc1_A_22, hc2_A_22⟩ := A_21.out.cells
  clear hc0_bw_19 hc1_bw_19 hc2_bw_19
  obtain ⟨hc0_bw_23, hc1_bw_23, hc2_bw_23⟩ := bw_21.out.cells
  clear l20
  clear hc0_A_22 hc1_A_22 hc2_A_22
  obtain ⟨hc0_A_24, hc1_A_24, hc2_A_24⟩ := A_21.out.cells
  clear hc0_bw_23 hc1_bw_23 hc2_bw_23
  obtain ⟨hc0_bw_25, hc1_bw_25, hc2_bw_25⟩ := bw_21.out.cells
  obtain ⟨hc0_bx_26, hc1_bx_26, hc2_bx_26⟩ := bx_b20.out.cells
  go_wp2_with fail
  refine (HIm.out g_x0 _ (row_own x0_21.out)).mono ?_
  rintro e W27 ⟨vg0, rfl, o_vg0, l27⟩
  obtain ⟨a_vg0, c_vg0, rfl, _, _⟩ := own_someS0 o_vg0
  have ap_vw0_vg0 : ∀ k, (.slice a_vw0 ps0.q.length c_vw0 : Value).ownBlock = some k → (.slice a_vg0 ps0.q.length c_vg0 : Value).ownBlock ≠ some k := fun k h1 h2 => absurd (vw0_21.out.lt k h1).2 (Nat.not_lt.2 (o_vg0.lt k h2).1)
  have AP_vw0_vg0 := Lib.hid ap_vw0_vg0
  clear ap_vw0_vg0
  have ap_x0_vg0 : ∀ k, (.slice (some ⟨g_x0, 0, none⟩) z0.q.length z0.q.length : Value).ownBlock = some k → (.slice a_vg0 ps0.q.length c_vg0 : Value).ownBlock ≠ some k := fun k h1 h2 => absurd (x0_21.out.lt k h1).2 (Nat.not_lt.2 (o_vg0.lt k h2).1)
  have AP_x0_vg0 := Lib.hid ap_x0_vg0
  clear ap_x0_vg0
  have bx_A_vg0 : ∀ k, (.slice a_vg0 ps0.q.length c_vg0 : Value).ownBlock = some k → k ≠ R0 := fun k h1 h2 => absurd A_21.out.lt (Nat.not_lt.2 (by rw [← h2]; exact (o_vg0.lt k h1).1))
  have BX_A_vg0 := Lib.hid bx_A_vg0
  clear bx_A_vg0
  have bx_bw_vg0 : ∀ k, (.slice a_vg0 ps0.q.length c_vg0 : Value).ownBlock = some k → k ≠ X_bw := fun k h1 h2 => absurd bw_21.out.lt (Nat.not_lt.2 (by rw [← h2]; exact (o_vg0.lt k h1).1))
  have BX_bw_vg0 := Lib.hid bx_bw_vg0
  clear bx_bw_vg0
  have bx_bx_vg0 : ∀ k, (.slice a_vg0 ps0.q.length c_vg0 : Value).ownBlock = some k → k ≠ X_bx := fun k h1 h2 => absurd bx_b20.out.lt (Nat.not_lt.2 (by rw [← h2]; exact (o_vg0.lt k h1).1))
  have BX_bx_vg0 := Lib.hid bx_bx_vg0
  clear bx_bx_vg0
  have O_vg0 := Lib.hid (own_base o_vg0 (HB_21.out.size))
  have HB_28 := Lib.hid (HB_21.out.trans (l27.mono HB_21.out.size))
  have vw0_28 := Lib.hid (own_below vw0_21.out l27 (Nat.le_refl _))
  clear vw0_21
  have x0_28 := Lib.hid (own_below x0_21.out l27 (Nat.le_refl _))
  clear x0_21
  have A_28 := Lib.hid (A_21.out.below l27 A_21.out.lt)
  clear A_21
  have bw_28 := Lib.hid (bw_21.out.below l27 bw_21.out.lt)
  clear bw_21
  have bx_28 := Lib.hid (bx_b20.out.below l27 bx_b20.out.lt)
  clear bx_b20
  clear HB_21
  clear hc0_A_24 hc1_A_24 hc2_A_24
  obtain ⟨hc0_A_29, hc1_A_29, hc2_A_29⟩ := A_28.out.cells
  clear hc0_bw_25 hc1_bw_25 hc2_bw_25
  obtain ⟨hc0_bw_30, hc1_bw_30, hc2_bw_30⟩ := bw_28.out.cells
  clear hc0_bx_26 hc1_bx_26 hc2_bx_26
  obtain ⟨hc0_bx_31, hc1_bx_31, hc2_bx_31⟩ := bx_28.out.cells
  clear l27 o_vg0
  go_upto_region 8 with fail
  obtain ⟨W32, hW32⟩ : ∃ W32, W32 = W27.alloc (.cells #[.slice a_vg0 ps0.q.length c_vg0, .string ps0.f, .int .i64 ps0.u] 26) := ⟨_, rfl⟩
  have l32 : Below W27.heap.size W27 W32 := by rw [hW32]; exact (Below.refl _ _).alloc (Nat.le_refl _) _
  have bg_b32 : Hid (Bk W32 W27.heap.size (.slice a_vg0 ps0.q.length c_vg0) ps0.f ps0.u 26) := Lib.hid (by rw [hW32]; exact Bk.new _ _ _ _ _)
  rw [← hW32]
  clear hW32
  have BX_bg_vw0 : Hid (∀ k, (.slice a_vw0 ps0.q.length c_vw0 : Value).ownBlock = some k → k ≠ W27.heap.size) := Lib.hid (fun k h1 h2 => absurd (vw0_28.out.lt k h1).2 (by omega))
  have BX_bg_x0 : Hid (∀ k, (.slice (some ⟨g_x0, 0, none⟩) z0.q.length z0.q.length : Value).ownBlock = some k → k ≠ W27.heap.size) := Lib.hid (fun k h1 h2 => absurd (x0_28.out.lt k h1).2 (by omega))
  have BX_bg_vg0 : Hid (∀ k, (.slice a_vg0 ps0.q.length c_vg0 : Value).ownBlock = some k → k ≠ W27.heap.size) := Lib.hid (fun k h1 h2 => absurd (O_vg0.out.lt k h1).2 (by omega))
  obtain ⟨X_bg, hX_bg⟩ : ∃ X, X = W27.heap.size := ⟨_, rfl⟩
  rw [← hX_bg] at bg_b32 BX_bg_vw0 BX_bg_x0 BX_bg_vg0 ⊢
  clear hX_bg
  have HB_33 := Lib.hid (HB_28.out.trans (l32.mono HB_28.out.size))
  have vw0_33 := Lib.hid (own_below vw0_28.out l32 (Nat.le_refl _))
  clear vw0_28
  have x0_33 := Lib.hid (own_below x0_28.out l32 (Nat.le_refl _))
  clear x0_28
  have vg0_33 := Lib.hid (own_below O_vg0.out l32 (Nat.le_refl _))
  clear O_vg0
  have A_33 := Lib.hid (A_28.out.below l32 A_28.out.lt)
  clear A_28
  have bw_33 := Lib.hid (bw_28.out.below l32 bw_28.out.lt)
  clear bw_28
  have bx_33 := Lib.hid (bx_28.out.below l32 bx_28.out.lt)
  clear bx_28
  clear HB_28
  clear hc0_A_29 hc1_A_29 hc2_A_29
  obtain ⟨hc0_A_34, hc1_A_34, hc2_A_34⟩ := A_33.out.cells
  clear hc0_bw_30 hc1_bw_30 hc2_bw_30
  obtain ⟨hc0_bw_35, hc1_bw_35, hc2_bw_35⟩ := bw_33.out.cells
  clear hc0_bx_31 hc1_bx_31 hc2_bx_31
  obtain ⟨hc0_bx_36, hc1_bx_36, hc2_bx_36⟩ := bx_33.out.cells
  clear l32
  clear hc0_A_34 hc1_A_34 hc2_A_34
  obtain ⟨hc0_A_37, hc1_A_37, hc2_A_37⟩ := A_33.out.cells
  clear hc0_bw_35 hc1_bw_35 hc2_bw_35
  obtain ⟨hc0_bw_38, hc1_bw_38, hc2_bw_38⟩ := bw_33.out.cells
  clear hc0_bx_36 hc1_bx_36 hc2_bx_36
  obtain ⟨hc0_bx_39, hc1_bx_39, hc2_bx_39⟩ := bx_33.out.cells
  obtain ⟨hc0_bg_40, hc1_bg_40, hc2_bg_40⟩ := bg_b32.out.cells
  go_wp2_with fail
  refine (eqLink_same _ _ ps0 _ (row_own vg0_33.out) (row_own vw0_33.out)).mono ?_
  rintro e W41 ⟨rfl, l41⟩
  have HB_42 := Lib.hid (HB_33.out.trans (l41.mono HB_33.out.size))
  have vw0_42 := Lib.hid (own_below vw0_33.out l41 (Nat.le_refl _))
  clear vw0_33
  have x0_42 := Lib.hid (own_below x0_33.out l41 (Nat.le_refl _))
  clear x0_33
  have vg0_42 := Lib.hid (own_below vg0_33.out l41 (Nat.le_refl _))
  clear vg0_33
  have A_42 := Lib.hid (A_33.out.below l41 A_33.out.lt)
  clear A_33
  have bw_42 := Lib.hid (bw_33.out.below l41 bw_33.out.lt)
  clear bw_33
  have bx_42 := Lib.hid (bx_33.out.below l41 bx_33.out.lt)
  clear bx_33
  have bg_42 := Lib.hid (bg_b32.out.below l41 bg_b32.out.lt)
  clear bg_b32
  clear HB_33
  clear hc0_A_37 hc1_A_37 hc2_A_37
  obtain ⟨hc0_A_43, hc1_A_43, hc2_A_43⟩ := A_42.out.cells
  clear hc0_bw_38 hc1_bw_38 hc2_bw_38
  obtain ⟨hc0_bw_44, hc1_bw_44, hc2_bw_44⟩ := bw_42.out.cells
  clear hc0_bx_39 hc1_bx_39 hc2_bx_39
  obtain ⟨hc0_bx_45, hc1_bx_45, hc2_bx_45⟩ := bx_42.out.cells
  clear hc0_bg_40 hc1_bg_40 hc2_bg_40
  obtain ⟨hc0_bg_46, hc1_bg_46, hc2_bg_46⟩ := bg_42.out.cells
  clear l41
  go_upto_region 10 with fail
  go_cut [49] from 45 to 49 (fun b wx => b = .bool false ∧ Hid (Below W41.heap.size W41 wx))
  case first => as_aux_lemma =>
    go_region_held3 (fun w' => w'.cell? ⟨X_bx, 0, none⟩ = some (.slice (some ⟨g_x0, 0, none⟩) z0.q.length z0.q.length) ∧ w'.cell? ⟨X_bx, 1, none⟩ = some (.string z0.f) ∧ w'.cell? ⟨X_bx, 2, none⟩ = some (.int .i64 z0.u) ∧ w'.cell? ⟨R0, 0, none⟩ = some (.slice p0 z0.q.length cap0) ∧ w'.cell? ⟨R0, 1, none⟩ = some (.string z0.f) ∧ w'.cell? ⟨R0, 2, none⟩ = some (.int .i64 z0.u) ∧ Below W41.heap.size W41 w')
      ((refine keep_links bx_42.out A_42.out ?_; repeat (first | assumption | exact Below.refl _ _ | refine Below.drew ?_)))
      (first
        | (go_at_call 45; refine (toLink_lit _ z0 _ (HR0.out.below (HB_42.out.trans ((by repeat (first | assumption | exact Below.refl _ _ | refine Below.drew ?_) : Below W41.heap.size W41 _).mono HB_42.out.size)) (Nat.le_refl _)) HN0.out).mono ?_; rintro e w5 ⟨g5, rfl, o5, l5⟩; have hb5 := below_call7 (by repeat (first | assumption | exact Below.refl _ _ | refine Below.drew ?_) : Below W41.heap.size W41 _) l5; have ho5 := row_own o5; clear o5 l5)
        | (go_at_call 46; refine (eqLink_same _ _ z0 _ ((row_own x0_42.out).below hb5 (Nat.le_refl _)) ho5).mono ?_; rintro e w6 ⟨rfl, l6⟩; have hb6 := below_call7 hb5 l6; clear l6))
    all_goals go_wp2_with fail
    all_goals go_meet
    all_goals
      case rel => exact ⟨by simp, Lib.hid (by repeat (first | assumption | exact Below.refl _ _ | refine Below.drew ?_))⟩
  case rest =>
    obtain ⟨rfl, HCut⟩ := hcut
    rename World => W47
    have l47 := HCut.out
    clear HCut
    have HB_48 := Lib.hid (HB_42.out.trans (l47.mono HB_42.out.size))
    have vw0_48 := Lib.hid (own_below vw0_42.out l47 (Nat.le_refl _))
    clear vw0_42
    have x0_48 := Lib.hid (own_below x0_42.out l47 (Nat.le_refl _))
    clear x0_42
    have vg0_48 := Lib.hid (own_below vg0_42.out l47 (Nat.le_refl _))
    clear vg0_42
    have A_48 := Lib.hid (A_42.out.below l47 A_42.out.lt)
    clear A_42
    have bw_48 := Lib.hid (bw_42.out.below l47 bw_42.out.lt)
    clear bw_42
    have bx_48 := Lib.hid (bx_42.out.below l47 bx_42.out.lt)
    clear bx_42
    have bg_48 := Lib.hid (bg_42.out.below l47 bg_42.out.lt)
    clear bg_42
    clear HB_42
    clear hc0_A_43 hc1_A_43 hc2_A_43
    obtain ⟨hc0_A_49, hc1_A_49, hc2_A_49⟩ := A_48.out.cells
    clear hc0_bw_44 hc1_bw_44 hc2_bw_44
    obtain ⟨hc0_bw_50, hc1_bw_50, hc2_bw_50⟩ := bw_48.out.cells
    clear hc0_bx_45 hc1_bx_45 hc2_bx_45
    obtain ⟨hc0_bx_51, hc1_bx_51, hc2_bx_51⟩ := bx_48.out.cells
    clear hc0_bg_46 hc1_bg_46 hc2_bg_46
    obtain ⟨hc0_bg_52, hc1_bg_52, hc2_bg_52⟩ := bg_48.out.cells
    clear l47
    go_wp2_with fail
    refine (markL_own _ _ _ z0.q.length 1 _ _ _ x0_48.out (by omega) (by have := HL0.out; have := HN0.out; omega)).mono ?_
    rintro e W53 ⟨rfl, m53, gr53⟩
    have HB_53 := Lib.hid (HB_48.out.grown gr53 HB_48.out.size (fun q hq => (x0_48.out.lt q hq).1))
    have vw0_53 := Lib.hid (own_apart vw0_48.out gr53 (fun k h1 h2 => AP_vw0_x0.out k h1 h2))
    clear vw0_48
    have vg0_53 := Lib.hid (own_apart vg0_48.out gr53 (fun k h1 h2 => AP_x0_vg0.out k h2 h1))
    clear vg0_48
    have A_53 := Lib.hid (A_48.out.grown gr53 (fun e => BX_A_x0.out _ e.symm rfl))
    clear A_48
    have bw_53 := Lib.hid (bw_48.out.grown gr53 (fun e => BX_bw_x0.out _ e.symm rfl))
    clear bw_48
    have bx_53 := Lib.hid (bx_48.out.grown gr53 (fun e => BX_bx_x0.out _ e.symm rfl))
    clear bx_48
    have bg_53 := Lib.hid (bg_48.out.grown gr53 (fun e => BX_bg_x0.out _ e.symm rfl))
    clear bg_48
    have x0_53 := Lib.hid m53
    clear m53 gr53 x0_48 HB_48
    clear hc0_A_49 hc1_A_49 hc2_A_49
    obtain ⟨hc0_A_54, hc1_A_54, hc2_A_54⟩ := A_53.out.cells
    clear hc0_bw_50 hc1_bw_50 hc2_bw_50
    obtain ⟨hc0_bw_55, hc1_bw_55, hc2_bw_55⟩ := bw_53.out.cells
    clear hc0_bx_51 hc1_bx_51 hc2_bx_51
    obtain ⟨hc0_bx_56, hc1_bx_56, hc2_bx_56⟩ := bx_53.out.cells
    clear hc0_bg_52 hc1_bg_52 hc2_bg_52
    obtain ⟨hc0_bg_57, hc1_bg_57, hc2_bg_57⟩ := bg_53.out.cells
    go_wp2_with fail
    refine (eqLink_same _ _ ps0 _ (row_own vg0_53.out) (row_own vw0_53.out)).mono ?_
    rintro e W58 ⟨rfl, l58⟩
    have HB_59 := Lib.hid (HB_53.out.trans (l58.mono HB_53.out.size))
    have vw0_59 := Lib.hid (own_below vw0_53.out l58 (Nat.le_refl _))
    clear vw0_53
    have x0_59 := Lib.hid (own_below x0_53.out l58 (Nat.le_refl _))
    clear x0_53
    have vg0_59 := Lib.hid (own_below vg0_53.out l58 (Nat.le_refl _))
    clear vg0_53
    have A_59 := Lib.hid (A_53.out.below l58 A_53.out.lt)
    clear A_53
    have bw_59 := Lib.hid (bw_53.out.below l58 bw_53.out.lt)
    clear bw_53
    have bx_59 := Lib.hid (bx_53.out.below l58 bx_53.out.lt)
    clear bx_53
    have bg_59 := Lib.hid (bg_53.out.below l58 bg_53.out.lt)
    clear bg_53
    clear HB_53
    clear hc0_A_54 hc1_A_54 hc2_A_54
    obtain ⟨hc0_A_60, hc1_A_60, hc2_A_60⟩ := A_59.out.cells
    clear hc0_bw_55 hc1_bw_55 hc2_bw_55
    obtain ⟨hc0_bw_61, hc1_bw_61, hc2_bw_61⟩ := bw_59.out.cells
    clear hc0_bx_56 hc1_bx_56 hc2_bx_56
    obtain ⟨hc0_bx_62, hc1_bx_62, hc2_bx_62⟩ := bx_59.out.cells
    clear hc0_bg_57 hc1_bg_57 hc2_bg_57
    obtain ⟨hc0_bg_63, hc1_bg_63, hc2_bg_63⟩ := bg_59.out.cells
    clear l58
    clear x0_59
    clear bx_59 hc0_bx_62 hc1_bx_62 hc2_bx_62
    go_wp2_with fail
    refine (markL_own _ _ _ ps0.q.length 1 _ _ _ vg0_59.out (by omega) (by have := HL0.out; have := HN0.out; omega)).mono ?_
    rintro e W64 ⟨rfl, m64, gr64⟩
    have HB_64 := Lib.hid (HB_59.out.grown gr64 HB_59.out.size (fun q hq => (vg0_59.out.lt q hq).1))
    have vw0_64 := Lib.hid (own_apart vw0_59.out gr64 (fun k h1 h2 => AP_vw0_vg0.out k h1 h2))
    clear vw0_59
    have A_64 := Lib.hid (A_59.out.grown gr64 (fun e => BX_A_vg0.out _ e.symm rfl))
    clear A_59
    have bw_64 := Lib.hid (bw_59.out.grown gr64 (fun e => BX_bw_vg0.out _ e.symm rfl))
    clear bw_59
    have bg_64 := Lib.hid (bg_59.out.grown gr64 (fun e => BX_bg_vg0.out _ e.symm rfl))
    clear bg_59
    have vg0_64 := Lib.hid m64
    clear m64 gr64 vg0_59 HB_59
    clear hc0_A_60 hc1_A_60 hc2_A_60
    obtain ⟨hc0_A_65, hc1_A_65, hc2_A_65⟩ := A_64.out.cells
    clear hc0_bw_61 hc1_bw_61 hc2_bw_61
    obtain ⟨hc0_bw_66, hc1_bw_66, hc2_bw_66⟩ := bw_64.out.cells
    clear hc0_bg_63 hc1_bg_63 hc2_bg_63
    obtain ⟨hc0_bg_67, hc1_bg_67, hc2_bg_67⟩ := bg_64.out.cells
    go_wp2_with fail
    refine (heldL_own _ _ _ ps0.q.length 1 _ _ vg0_64.out (by omega) (by have := HL0.out; have := HN0.out; omega)).mono ?_
    rintro e W68 ⟨rfl, l68⟩
    have HB_69 := Lib.hid (HB_64.out.trans (l68.mono HB_64.out.size))
    have vw0_69 := Lib.hid (own_below vw0_64.out l68 (Nat.le_refl _))
    clear vw0_64
    have vg0_69 := Lib.hid (own_below vg0_64.out l68 (Nat.le_refl _))
    clear vg0_64
    have A_69 := Lib.hid (A_64.out.below l68 A_64.out.lt)
    clear A_64
    have bw_69 := Lib.hid (bw_64.out.below l68 bw_64.out.lt)
    clear bw_64
    have bg_69 := Lib.hid (bg_64.out.below l68 bg_64.out.lt)
    clear bg_64
    clear HB_64
    clear hc0_A_65 hc1_A_65 hc2_A_65
    obtain ⟨hc0_A_70, hc1_A_70, hc2_A_70⟩ := A_69.out.cells
    clear hc0_bw_66 hc1_bw_66 hc2_bw_66
    obtain ⟨hc0_bw_71, hc1_bw_71, hc2_bw_71⟩ := bw_69.out.cells
    clear hc0_bg_67 hc1_bg_67 hc2_bg_67
    obtain ⟨hc0_bg_72, hc1_bg_72, hc2_bg_72⟩ := bg_69.out.cells
    clear l68
    go_wp2_with fail
    refine (toLink_lit _ z0 _ (HR0.out.below HB_69.out (Nat.le_refl _)) HN0.out).mono ?_
    rintro e W73 ⟨g_t0, rfl, o_t0, l73⟩
    have ap_vw0_t0 : ∀ k, (.slice a_vw0 ps0.q.length c_vw0 : Value).ownBlock = some k → (.slice (some ⟨g_t0, 0, none⟩) z0.q.length z0.q.length : Value).ownBlock ≠ some k := fun k h1 h2 => absurd (vw0_69.out.lt k h1).2 (Nat.not_lt.2 (o_t0.lt k h2).1)
    have AP_vw0_t0 := Lib.hid ap_vw0_t0
    clear ap_vw0_t0
    have ap_vg0_t0 : ∀ k, (.slice a_vg0 ps0.q.length c_vg0 : Value).ownBlock = some k → (.slice (some ⟨g_t0, 0, none⟩) z0.q.length z0.q.length : Value).ownBlock ≠ some k := fun k h1 h2 => absurd (vg0_69.out.lt k h1).2 (Nat.not_lt.2 (o_t0.lt k h2).1)
    have AP_vg0_t0 := Lib.hid ap_vg0_t0
    clear ap_vg0_t0
    have bx_A_t0 : ∀ k, (.slice (some ⟨g_t0, 0, none⟩) z0.q.length z0.q.length : Value).ownBlock = some k → k ≠ R0 := fun k h1 h2 => absurd A_69.out.lt (Nat.not_lt.2 (by rw [← h2]; exact (o_t0.lt k h1).1))
    have BX_A_t0 := Lib.hid bx_A_t0
    clear bx_A_t0
    have bx_bw_t0 : ∀ k, (.slice (some ⟨g_t0, 0, none⟩) z0.q.length z0.q.length : Value).ownBlock = some k → k ≠ X_bw := fun k h1 h2 => absurd bw_69.out.lt (Nat.not_lt.2 (by rw [← h2]; exact (o_t0.lt k h1).1))
    have BX_bw_t0 := Lib.hid bx_bw_t0
    clear bx_bw_t0
    have bx_bg_t0 : ∀ k, (.slice (some ⟨g_t0, 0, none⟩) z0.q.length z0.q.length : Value).ownBlock = some k → k ≠ X_bg := fun k h1 h2 => absurd bg_69.out.lt (Nat.not_lt.2 (by rw [← h2]; exact (o_t0.lt k h1).1))
    have BX_bg_t0 := Lib.hid bx_bg_t0
    clear bx_bg_t0
    have O_t0 := Lib.hid (own_base o_t0 (HB_69.out.size))
    have HB_74 := Lib.hid (HB_69.out.trans (l73.mono HB_69.out.size))
    have vw0_74 := Lib.hid (own_below vw0_69.out l73 (Nat.le_refl _))
    clear vw0_69
    have vg0_74 := Lib.hid (own_below vg0_69.out l73 (Nat.le_refl _))
    clear vg0_69
    have A_74 := Lib.hid (A_69.out.below l73 A_69.out.lt)
    clear A_69
    have bw_74 := Lib.hid (bw_69.out.below l73 bw_69.out.lt)
    clear bw_69
    have bg_74 := Lib.hid (bg_69.out.below l73 bg_69.out.lt)
    clear bg_69
    clear HB_69
    clear hc0_A_70 hc1_A_70 hc2_A_70
    obtain ⟨hc0_A_75, hc1_A_75, hc2_A_75⟩ := A_74.out.cells
    clear hc0_bw_71 hc1_bw_71 hc2_bw_71
    obtain ⟨hc0_bw_76, hc1_bw_76, hc2_bw_76⟩ := bw_74.out.cells
    clear hc0_bg_72 hc1_bg_72 hc2_bg_72
    obtain ⟨hc0_bg_77, hc1_bg_77, hc2_bg_77⟩ := bg_74.out.cells
    clear o_t0 l73
    go_wp2_with fail
    refine (HIm.out g_t0 _ (row_own O_t0.out)).mono ?_
    rintro e W78 ⟨vh0, rfl, o_vh0, l78⟩
    obtain ⟨a_vh0, c_vh0, rfl, _, _⟩ := own_someS0 o_vh0
    have ap_vw0_vh0 : ∀ k, (.slice a_vw0 ps0.q.length c_vw0 : Value).ownBlock = some k → (.slice a_vh0 ps0.q.length c_vh0 : Value).ownBlock ≠ some k := fun k h1 h2 => absurd (vw0_74.out.lt k h1).2 (Nat.not_lt.2 (o_vh0.lt k h2).1)
    have AP_vw0_vh0 := Lib.hid ap_vw0_vh0
    clear ap_vw0_vh0
    have ap_vg0_vh0 : ∀ k, (.slice a_vg0 ps0.q.length c_vg0 : Value).ownBlock = some k → (.slice a_vh0 ps0.q.length c_vh0 : Value).ownBlock ≠ some k := fun k h1 h2 => absurd (vg0_74.out.lt k h1).2 (Nat.not_lt.2 (o_vh0.lt k h2).1)
    have AP_vg0_vh0 := Lib.hid ap_vg0_vh0
    clear ap_vg0_vh0
    have ap_t0_vh0 : ∀ k, (.slice (some ⟨g_t0, 0, none⟩) z0.q.length z0.q.length : Value).ownBlock = some k → (.slice a_vh0 ps0.q.length c_vh0 : Value).ownBlock ≠ some k := fun k h1 h2 => absurd (O_t0.out.lt k h1).2 (Nat.not_lt.2 (o_vh0.lt k h2).1)
    have AP_t0_vh0 := Lib.hid ap_t0_vh0
    clear ap_t0_vh0
    have bx_A_vh0 : ∀ k, (.slice a_vh0 ps0.q.length c_vh0 : Value).ownBlock = some k → k ≠ R0 := fun k h1 h2 => absurd A_74.out.lt (Nat.not_lt.2 (by rw [← h2]; exact (o_vh0.lt k h1).1))
    have BX_A_vh0 := Lib.hid bx_A_vh0
    clear bx_A_vh0
    have bx_bw_vh0 : ∀ k, (.slice a_vh0 ps0.q.length c_vh0 : Value).ownBlock = some k → k ≠ X_bw := fun k h1 h2 => absurd bw_74.out.lt (Nat.not_lt.2 (by rw [← h2]; exact (o_vh0.lt k h1).1))
    have BX_bw_vh0 := Lib.hid bx_bw_vh0
    clear bx_bw_vh0
    have bx_bg_vh0 : ∀ k, (.slice a_vh0 ps0.q.length c_vh0 : Value).ownBlock = some k → k ≠ X_bg := fun k h1 h2 => absurd bg_74.out.lt (Nat.not_lt.2 (by rw [← h2]; exact (o_vh0.lt k h1).1))
    have BX_bg_vh0 := Lib.hid bx_bg_vh0
    clear bx_bg_vh0
    have O_vh0 := Lib.hid (own_base o_vh0 (HB_74.out.size))
    have HB_79 := Lib.hid (HB_74.out.trans (l78.mono HB_74.out.size))
    have vw0_79 := Lib.hid (own_below vw0_74.out l78 (Nat.le_refl _))
    clear vw0_74
    have vg0_79 := Lib.hid (own_below vg0_74.out l78 (Nat.le_refl _))
    clear vg0_74
    have t0_79 := Lib.hid (own_below O_t0.out l78 (Nat.le_refl _))
    clear O_t0
    have A_79 := Lib.hid (A_74.out.below l78 A_74.out.lt)
    clear A_74
    have bw_79 := Lib.hid (bw_74.out.below l78 bw_74.out.lt)
    clear bw_74
    have bg_79 := Lib.hid (bg_74.out.below l78 bg_74.out.lt)
    clear bg_74
    clear HB_74
    clear hc0_A_75 hc1_A_75 hc2_A_75
    obtain ⟨hc0_A_80, hc1_A_80, hc2_A_80⟩ := A_79.out.cells
    clear hc0_bw_76 hc1_bw_76 hc2_bw_76
    obtain ⟨hc0_bw_81, hc1_bw_81, hc2_bw_81⟩ := bw_79.out.cells
    clear hc0_bg_77 hc1_bg_77 hc2_bg_77
    obtain ⟨hc0_bg_82, hc1_bg_82, hc2_bg_82⟩ := bg_79.out.cells
    clear l78 o_vh0
    go_upto_region 25 with fail
    obtain ⟨W83, hW83⟩ : ∃ W83, W83 = W78.alloc (.cells #[.slice a_vh0 ps0.q.length c_vh0, .string ps0.f, .int .i64 ps0.u] 26) := ⟨_, rfl⟩
    have l83 : Below W78.heap.size W78 W83 := by rw [hW83]; exact (Below.refl _ _).alloc (Nat.le_refl _) _
    have bh_b83 : Hid (Bk W83 W78.heap.size (.slice a_vh0 ps0.q.length c_vh0) ps0.f ps0.u 26) := Lib.hid (by rw [hW83]; exact Bk.new _ _ _ _ _)
    rw [← hW83]
    clear hW83
    have BX_bh_vw0 : Hid (∀ k, (.slice a_vw0 ps0.q.length c_vw0 : Value).ownBlock = some k → k ≠ W78.heap.size) := Lib.hid (fun k h1 h2 => absurd (vw0_79.out.lt k h1).2 (by omega))
    have BX_bh_vg0 : Hid (∀ k, (.slice a_vg0 ps0.q.length c_vg0 : Value).ownBlock = some k → k ≠ W78.heap.size) := Lib.hid (fun k h1 h2 => absurd (vg0_79.out.lt k h1).2 (by omega))
    have BX_bh_t0 : Hid (∀ k, (.slice (some ⟨g_t0, 0, none⟩) z0.q.length z0.q.length : Value).ownBlock = some k → k ≠ W78.heap.size) := Lib.hid (fun k h1 h2 => absurd (t0_79.out.lt k h1).2 (by omega))
    have BX_bh_vh0 : Hid (∀ k, (.slice a_vh0 ps0.q.length c_vh0 : Value).ownBlock = some k → k ≠ W78.heap.size) := Lib.hid (fun k h1 h2 => absurd (O_vh0.out.lt k h1).2 (by omega))
    obtain ⟨X_bh, hX_bh⟩ : ∃ X, X = W78.heap.size := ⟨_, rfl⟩
    rw [← hX_bh] at bh_b83 BX_bh_vw0 BX_bh_vg0 BX_bh_t0 BX_bh_vh0 ⊢
    clear hX_bh
    have HB_84 := Lib.hid (HB_79.out.trans (l83.mono HB_79.out.size))
    have vw0_84 := Lib.hid (own_below vw0_79.out l83 (Nat.le_refl _))
    clear vw0_79
    have vg0_84 := Lib.hid (own_below vg0_79.out l83 (Nat.le_refl _))
    clear vg0_79
    have t0_84 := Lib.hid (own_below t0_79.out l83 (Nat.le_refl _))
    clear t0_79
    have vh0_84 := Lib.hid (own_below O_vh0.out l83 (Nat.le_refl _))
    clear O_vh0
    have A_84 := Lib.hid (A_79.out.below l83 A_79.out.lt)
    clear A_79
    have bw_84 := Lib.hid (bw_79.out.below l83 bw_79.out.lt)
    clear bw_79
    have bg_84 := Lib.hid (bg_79.out.below l83 bg_79.out.lt)
    clear bg_79
    clear HB_79
    clear hc0_A_80 hc1_A_80 hc2_A_80
    obtain ⟨hc0_A_85, hc1_A_85, hc2_A_85⟩ := A_84.out.cells
    clear hc0_bw_81 hc1_bw_81 hc2_bw_81
    obtain ⟨hc0_bw_86, hc1_bw_86, hc2_bw_86⟩ := bw_84.out.cells
    clear hc0_bg_82 hc1_bg_82 hc2_bg_82
    obtain ⟨hc0_bg_87, hc1_bg_87, hc2_bg_87⟩ := bg_84.out.cells
    clear l83
    clear hc0_A_85 hc1_A_85 hc2_A_85
    obtain ⟨hc0_A_88, hc1_A_88, hc2_A_88⟩ := A_84.out.cells
    clear hc0_bw_86 hc1_bw_86 hc2_bw_86
    obtain ⟨hc0_bw_89, hc1_bw_89, hc2_bw_89⟩ := bw_84.out.cells
    clear hc0_bg_87 hc1_bg_87 hc2_bg_87
    obtain ⟨hc0_bg_90, hc1_bg_90, hc2_bg_90⟩ := bg_84.out.cells
    obtain ⟨hc0_bh_91, hc1_bh_91, hc2_bh_91⟩ := bh_b83.out.cells
    go_wp2_with fail
    refine (eqLink_same _ _ ps0 _ (row_own vh0_84.out) (row_own vw0_84.out)).mono ?_
    rintro e W92 ⟨rfl, l92⟩
    have HB_93 := Lib.hid (HB_84.out.trans (l92.mono HB_84.out.size))
    have vw0_93 := Lib.hid (own_below vw0_84.out l92 (Nat.le_refl _))
    clear vw0_84
    have vg0_93 := Lib.hid (own_below vg0_84.out l92 (Nat.le_refl _))
    clear vg0_84
    have t0_93 := Lib.hid (own_below t0_84.out l92 (Nat.le_refl _))
    clear t0_84
    have vh0_93 := Lib.hid (own_below vh0_84.out l92 (Nat.le_refl _))
    clear vh0_84
    have A_93 := Lib.hid (A_84.out.below l92 A_84.out.lt)
    clear A_84
    have bw_93 := Lib.hid (bw_84.out.below l92 bw_84.out.lt)
    clear bw_84
    have bg_93 := Lib.hid (bg_84.out.below l92 bg_84.out.lt)
    clear bg_84
    have bh_93 := Lib.hid (bh_b83.out.below l92 bh_b83.out.lt)
    clear bh_b83
    clear HB_84
    clear hc0_A_88 hc1_A_88 hc2_A_88
    obtain ⟨hc0_A_94, hc1_A_94, hc2_A_94⟩ := A_93.out.cells
    clear hc0_bw_89 hc1_bw_89 hc2_bw_89
    obtain ⟨hc0_bw_95, hc1_bw_95, hc2_bw_95⟩ := bw_93.out.cells
    clear hc0_bg_90 hc1_bg_90 hc2_bg_90
    obtain ⟨hc0_bg_96, hc1_bg_96, hc2_bg_96⟩ := bg_93.out.cells
    clear hc0_bh_91 hc1_bh_91 hc2_bh_91
    obtain ⟨hc0_bh_97, hc1_bh_97, hc2_bh_97⟩ := bh_93.out.cells
    clear l92
    go_wp2_with fail
    refine (heldL_own _ _ _ ps0.q.length 1 _ _ vg0_93.out (by omega) (by have := HL0.out; have := HN0.out; omega)).mono ?_
    rintro e W98 ⟨rfl, l98⟩
    have HB_99 := Lib.hid (HB_93.out.trans (l98.mono HB_93.out.size))
    have vw0_99 := Lib.hid (own_below vw0_93.out l98 (Nat.le_refl _))
    clear vw0_93
    have vg0_99 := Lib.hid (own_below vg0_93.out l98 (Nat.le_refl _))
    clear vg0_93
    have t0_99 := Lib.hid (own_below t0_93.out l98 (Nat.le_refl _))
    clear t0_93
    have vh0_99 := Lib.hid (own_below vh0_93.out l98 (Nat.le_refl _))
    clear vh0_93
    have A_99 := Lib.hid (A_93.out.below l98 A_93.out.lt)
    clear A_93
    have bw_99 := Lib.hid (bw_93.out.below l98 bw_93.out.lt)
    clear bw_93
    have bg_99 := Lib.hid (bg_93.out.below l98 bg_93.out.lt)
    clear bg_93
    have bh_99 := Lib.hid (bh_93.out.below l98 bh_93.out.lt)
    clear bh_93
    clear HB_93
    clear hc0_A_94 hc1_A_94 hc2_A_94
    obtain ⟨hc0_A_100, hc1_A_100, hc2_A_100⟩ := A_99.out.cells
    clear hc0_bw_95 hc1_bw_95 hc2_bw_95
    obtain ⟨hc0_bw_101, hc1_bw_101, hc2_bw_101⟩ := bw_99.out.cells
    clear hc0_bg_96 hc1_bg_96 hc2_bg_96
    obtain ⟨hc0_bg_102, hc1_bg_102, hc2_bg_102⟩ := bg_99.out.cells
    clear hc0_bh_97 hc1_bh_97 hc2_bh_97
    obtain ⟨hc0_bh_103, hc1_bh_103, hc2_bh_103⟩ := bh_99.out.cells
    clear l98
    go_wp2_with fail
    go_ret
    exact ⟨rfl, HB_99.out⟩
theorem fnExactDropFrom_walk (w : World) (v0_0 : Value) (s0_0 : List ByteArray) (w0_0 : Row w v0_0 s0_0.length (s0_0.map Value.string)) (b0_0 : ∀ s ∈ s0_0, s.size ≤ maxLen) (a0_1 : ByteArray) (w0_1 : a0_1.size ≤ maxLen) (a0_2 : Int) (w0_2 : (Lit.int .i64 a0_2).wf = true) (a1 : Int) (w1 : (Lit.int .i64 a1).wf = true) (_hsh : w.ShapedOpen Try.prog) :
    Calls Try.prog 9 #[.agg #[v0_0, .string a0_1, .int .i64 a0_2], .int .i64 a1] w fun e w' => e = .returned (.bool true) ∧ Below w.heap.size w w' :=
  fnExactDropFrom_wk w v0_0 ⟨s0_0, a0_1, a0_2⟩ w0_0 b0_0 w0_1 a1 w1
end Go.Proofs.Ytbhhmaialilabaa
