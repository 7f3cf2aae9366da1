/-
  The exact law of links that are drained.
-/
import Derived.Test.YtbhhmaialilabaaDrainI
import Derived.Test.YtbhhmaialilabaaLink9
import Derived.Test.YtbhhmaialilabaaExLinkB
import Derived.WalkLawsBesides
import Derived.Deep.RegionHeld3
import Derived.Deep.CutRange
namespace Go.Proofs.Ytbhhmaialilabaa
open Go.RowKit Go.Lib Go.Joins
set_option linter.unusedVariables false

set_option maxRecDepth 100000 in
set_option maxHeartbeats 8000000 in
theorem fnExactDrain_wk (w : World) (v0 : Value) (z0 : Lk) (w0 : Row w v0 z0.q.length (z0.q.map Value.string)) (b0 : ∀ s ∈ z0.q, s.size ≤ maxLen) (c0 : z0.f.size ≤ maxLen) :
    Calls Try.prog 12 #[.agg #[v0, .string z0.f, .int .i64 z0.u]] w fun e w' => e = .returned (.bool true) ∧ Below w.heap.size w w' := by
  obtain ⟨p0, cap0, rfl, hc10, hc20, _⟩ := row_open w0
  unfold maxLen at hc20
  obtain ⟨W0, hW0⟩ : ∃ W0, W0 = w.alloc (.cells #[.slice p0 z0.q.length cap0, .string z0.f, .int .i64 z0.u] 55) := ⟨_, rfl⟩
  have HA0 : Hid (Bk W0 w.heap.size (.slice p0 z0.q.length cap0) z0.f z0.u 55) := Lib.hid (by rw [hW0]; exact Bk.new w _ _ _ _)
  have HB0 : Hid (Below w.heap.size w W0) := Lib.hid (by rw [hW0]; exact (Below.refl w.heap.size w).alloc (Nat.le_refl _) _)
  have HW0 := Lib.hid hW0
  clear hW0
  obtain ⟨R0, hR0⟩ : ∃ R0, R0 = w.heap.size := ⟨_, rfl⟩
  rw [← hR0] at HA0
  have HQ0 := Lib.hid hR0
  clear hR0
  have HR0 := Lib.hid w0
  have HSz := Lib.hid (fun (W : World) (hr : Row W (.slice p0 z0.q.length cap0) z0.q.length (z0.q.map Value.string)) => szLink_any (.slice p0 z0.q.length cap0) z0 W hr b0 c0 1048576 (by omega))
  clear w0 b0 c0
  go_enter Try.func12, Try.ntmps12
  go_upto_region 1 with fail
  rw [← HW0.out, ← HQ0.out]
  obtain ⟨hc0_A_1, hc1_A_1, hc2_A_1⟩ := HA0.out.cells
  go_wp2_with fail
  refine (HSz.out _ (HR0.out.below HB0.out (Nat.le_refl _))).mono ?_
  rintro e W2 ⟨l2, r0, rfl, hr1, hr0⟩
  have HB_3 := Lib.hid (HB0.out.trans (l2.mono HB0.out.size))
  have A_3 := Lib.hid (HA0.out.below l2 HA0.out.lt)
  clear HA0
  clear HB0
  clear hc0_A_1 hc1_A_1 hc2_A_1
  obtain ⟨hc0_A_4, hc1_A_4, hc2_A_4⟩ := A_3.out.cells
  clear l2
  by_cases hneg : r0 < 0
  · clear hr0
    go_wp2_with fail
    go_ret
    exact ⟨rfl, HB_3.out⟩
  obtain ⟨hm0, hs0, hf0, hr00⟩ := hr0.resolve_left hneg
  have HN0 := Lib.hid hm0
  have HF0 := Lib.hid hf0
  clear hr0 hs0 HSz
  have hm0' := hm0
  have hf0' := hf0
  have HSp := Lib.hid (fun (g0 : Nat) (W : World) (h0 : Row W (.slice (some ⟨g0, 0, none⟩) z0.q.length z0.q.length) z0.q.length (z0.q.map Value.string)) => specDrain_any (.slice (some ⟨g0, 0, none⟩) z0.q.length z0.q.length) z0 W h0 (fitA_some g0 _) (by omega))
  have HIm := Lib.hid (fun (g0 : Nat) (W : World) (h0 : Row W (.slice (some ⟨g0, 0, none⟩) z0.q.length z0.q.length) z0.q.length (z0.q.map Value.string)) => implDrain_any (.slice (some ⟨g0, 0, none⟩) z0.q.length z0.q.length) z0 W h0 (fitA_some g0 _))
  have hlen0 := drainL_len z0
  have hlen1 := drainT_len z0 hm0'
  generalize drainL z0 = ps0 at HSp HIm hlen0
  have HL0 := Lib.hid hlen0
  clear hlen0
  generalize drainT z0 = ps1 at HSp HIm hlen1
  have HL1 := Lib.hid hlen1
  clear hlen1
  generalize lkOk z0 = r0 at HSp HIm
  clear hm0 hf0 hm0' hf0'
  go_wp2_with fail
  refine (toLink_lit _ z0 _ (HR0.out.below HB_3.out (Nat.le_refl _)) HN0.out).mono ?_
  rintro e W5 ⟨g_s0, rfl, o_s0, l5⟩
  have bx_A_s0 : ∀ k, (.slice (some ⟨g_s0, 0, none⟩) z0.q.length z0.q.length : Value).ownBlock = some k → k ≠ R0 := fun k h1 h2 => absurd A_3.out.lt (Nat.not_lt.2 (by rw [← h2]; exact (o_s0.lt k h1).1))
  have BX_A_s0 := Lib.hid bx_A_s0
  clear bx_A_s0
  have O_s0 := Lib.hid (own_base o_s0 (HB_3.out.size))
  have HB_6 := Lib.hid (HB_3.out.trans (l5.mono HB_3.out.size))
  have A_6 := Lib.hid (A_3.out.below l5 A_3.out.lt)
  clear A_3
  clear HB_3
  clear hc0_A_4 hc1_A_4 hc2_A_4
  obtain ⟨hc0_A_7, hc1_A_7, hc2_A_7⟩ := A_6.out.cells
  clear o_s0 l5
  go_wp2_with fail
  refine (HSp.out g_s0 _ (row_own O_s0.out)).mono ?_
  rintro e W8 ⟨vw0, vw1, rfl, o_vw0, o_vw1, apm, l8⟩
  obtain ⟨a_vw0, c_vw0, rfl, _, _⟩ := own_someS0 o_vw0
  obtain ⟨a_vw1, c_vw1, rfl, _, _⟩ := own_someS0 o_vw1
  have ap_s0_vw0 : ∀ k, (.slice (some ⟨g_s0, 0, none⟩) z0.q.length z0.q.length : Value).ownBlock = some k → (.slice a_vw0 ps0.q.length c_vw0 : Value).ownBlock ≠ some k := fun k h1 h2 => absurd (O_s0.out.lt k h1).2 (Nat.not_lt.2 (o_vw0.lt k h2).1)
  have AP_s0_vw0 := Lib.hid ap_s0_vw0
  clear ap_s0_vw0
  have bx_A_vw0 : ∀ k, (.slice a_vw0 ps0.q.length c_vw0 : Value).ownBlock = some k → k ≠ R0 := fun k h1 h2 => absurd A_6.out.lt (Nat.not_lt.2 (by rw [← h2]; exact (o_vw0.lt k h1).1))
  have BX_A_vw0 := Lib.hid bx_A_vw0
  clear bx_A_vw0
  have ap_s0_vw1 : ∀ k, (.slice (some ⟨g_s0, 0, none⟩) z0.q.length z0.q.length : Value).ownBlock = some k → (.slice a_vw1 ps1.length c_vw1 : Value).ownBlock ≠ some k := fun k h1 h2 => absurd (O_s0.out.lt k h1).2 (Nat.not_lt.2 (o_vw1.lt k h2).1)
  have AP_s0_vw1 := Lib.hid ap_s0_vw1
  clear ap_s0_vw1
  have bx_A_vw1 : ∀ k, (.slice a_vw1 ps1.length c_vw1 : Value).ownBlock = some k → k ≠ R0 := fun k h1 h2 => absurd A_6.out.lt (Nat.not_lt.2 (by rw [← h2]; exact (o_vw1.lt k h1).1))
  have BX_A_vw1 := Lib.hid bx_A_vw1
  clear bx_A_vw1
  have O_vw0 := Lib.hid (own_base o_vw0 (HB_6.out.size))
  have O_vw1 := Lib.hid (own_base o_vw1 (HB_6.out.size))
  have AP_vw0_vw1 := Lib.hid apm
  clear apm
  have HB_9 := Lib.hid (HB_6.out.trans (l8.mono HB_6.out.size))
  have s0_9 := Lib.hid (own_below O_s0.out l8 (Nat.le_refl _))
  clear O_s0
  have A_9 := Lib.hid (A_6.out.below l8 A_6.out.lt)
  clear A_6
  clear HB_6
  clear hc0_A_7 hc1_A_7 hc2_A_7
  obtain ⟨hc0_A_10, hc1_A_10, hc2_A_10⟩ := A_9.out.cells
  clear l8 o_vw0 o_vw1
  clear s0_9
  go_upto_region 6 with fail
  obtain ⟨W11, hW11⟩ : ∃ W11, W11 = W8.alloc (.cells #[.slice a_vw0 ps0.q.length c_vw0, .string ps0.f, .int .i64 ps0.u] 26) := ⟨_, rfl⟩
  have l11 : Below W8.heap.size W8 W11 := by rw [hW11]; exact (Below.refl _ _).alloc (Nat.le_refl _) _
  have bw_b11 : Hid (Bk W11 W8.heap.size (.slice a_vw0 ps0.q.length c_vw0) ps0.f ps0.u 26) := Lib.hid (by rw [hW11]; exact Bk.new _ _ _ _ _)
  rw [← hW11]
  clear hW11
  have BX_bw_vw0 : Hid (∀ k, (.slice a_vw0 ps0.q.length c_vw0 : Value).ownBlock = some k → k ≠ W8.heap.size) := Lib.hid (fun k h1 h2 => absurd (O_vw0.out.lt k h1).2 (by omega))
  have BX_bw_vw1 : Hid (∀ k, (.slice a_vw1 ps1.length c_vw1 : Value).ownBlock = some k → k ≠ W8.heap.size) := Lib.hid (fun k h1 h2 => absurd (O_vw1.out.lt k h1).2 (by omega))
  obtain ⟨X_bw, hX_bw⟩ : ∃ X, X = W8.heap.size := ⟨_, rfl⟩
  rw [← hX_bw] at bw_b11 BX_bw_vw0 BX_bw_vw1 ⊢
  clear hX_bw
  have HB_12 := Lib.hid (HB_9.out.trans (l11.mono HB_9.out.size))
  have vw0_12 := Lib.hid (own_below O_vw0.out l11 (Nat.le_refl _))
  clear O_vw0
  have vw1_12 := Lib.hid (own_below O_vw1.out l11 (Nat.le_refl _))
  clear O_vw1
  have A_12 := Lib.hid (A_9.out.below l11 A_9.out.lt)
  clear A_9
  clear HB_9
  clear hc0_A_10 hc1_A_10 hc2_A_10
  obtain ⟨hc0_A_13, hc1_A_13, hc2_A_13⟩ := A_12.out.cells
  clear l11
  clear hc0_A_13 hc1_A_13 hc2_A_13
  obtain ⟨hc0_A_14, hc1_A_14, hc2_A_14⟩ := A_12.out.cells
  obtain ⟨hc0_bw_15, hc1_bw_15, hc2_bw_15⟩ := bw_b11.out.cells
  go_wp2_with fail
  refine (toLink_lit _ z0 _ (HR0.out.below HB_12.out (Nat.le_refl _)) HN0.out).mono ?_
  rintro e W16 ⟨g_x0, rfl, o_x0, l16⟩
  have ap_vw0_x0 : ∀ k, (.slice a_vw0 ps0.q.length c_vw0 : Value).ownBlock = some k → (.slice (some ⟨g_x0, 0, none⟩) z0.q.length z0.q.length : Value).ownBlock ≠ some k := fun k h1 h2 => absurd (vw0_12.out.lt k h1).2 (Nat.not_lt.2 (o_x0.lt k h2).1)
  have AP_vw0_x0 := Lib.hid ap_vw0_x0
  clear ap_vw0_x0
  have ap_vw1_x0 : ∀ k, (.slice a_vw1 ps1.length c_vw1 : Value).ownBlock = some k → (.slice (some ⟨g_x0, 0, none⟩) z0.q.length z0.q.length : Value).ownBlock ≠ some k := fun k h1 h2 => absurd (vw1_12.out.lt k h1).2 (Nat.not_lt.2 (o_x0.lt k h2).1)
  have AP_vw1_x0 := Lib.hid ap_vw1_x0
  clear ap_vw1_x0
  have bx_A_x0 : ∀ k, (.slice (some ⟨g_x0, 0, none⟩) z0.q.length z0.q.length : Value).ownBlock = some k → k ≠ R0 := fun k h1 h2 => absurd A_12.out.lt (Nat.not_lt.2 (by rw [← h2]; exact (o_x0.lt k h1).1))
  have BX_A_x0 := Lib.hid bx_A_x0
  clear bx_A_x0
  have bx_bw_x0 : ∀ k, (.slice (some ⟨g_x0, 0, none⟩) z0.q.length z0.q.length : Value).ownBlock = some k → k ≠ X_bw := fun k h1 h2 => absurd bw_b11.out.lt (Nat.not_lt.2 (by rw [← h2]; exact (o_x0.lt k h1).1))
  have BX_bw_x0 := Lib.hid bx_bw_x0
  clear bx_bw_x0
  have O_x0 := Lib.hid (own_base o_x0 (HB_12.out.size))
  have HB_17 := Lib.hid (HB_12.out.trans (l16.mono HB_12.out.size))
  have vw0_17 := Lib.hid (own_below vw0_12.out l16 (Nat.le_refl _))
  clear vw0_12
  have vw1_17 := Lib.hid (own_below vw1_12.out l16 (Nat.le_refl _))
  clear vw1_12
  have A_17 := Lib.hid (A_12.out.below l16 A_12.out.lt)
  clear A_12
  have bw_17 := Lib.hid (bw_b11.out.below l16 bw_b11.out.lt)
  clear bw_b11
  clear HB_12
  clear hc0_A_14 hc1_A_14 hc2_A_14
  obtain ⟨hc0_A_18, hc1_A_18, hc2_A_18⟩ := A_17.out.cells
  clear hc0_bw_15 hc1_bw_15 hc2_bw_15
  obtain ⟨hc0_bw_19, hc1_bw_19, hc2_bw_19⟩ := bw_17.out.cells
  clear o_x0 l16
  go_upto_region 7 with fail
  obtain ⟨W20, hW20⟩ : ∃ W20, W20 = W16.alloc (.cells #[.slice (some ⟨g_x0, 0, none⟩) z0.q.length z0.q.length, .string z0.f, .int .i64 z0.u] 26) := ⟨_, rfl⟩
  have l20 : Below W16.heap.size W16 W20 := by rw [hW20]; exact (Below.refl _ _).alloc (Nat.le_refl _) _
  have bx_b20 : Hid (Bk W20 W16.heap.size (.slice (some ⟨g_x0, 0, none⟩) z0.q.length z0.q.length) z0.f z0.u 26) := Lib.hid (by rw [hW20]; exact Bk.new _ _ _ _ _)
  rw [← hW20]
  clear hW20
  have BX_bx_vw0 : Hid (∀ k, (.slice a_vw0 ps0.q.length c_vw0 : Value).ownBlock = some k → k ≠ W16.heap.size) := Lib.hid (fun k h1 h2 => absurd (vw0_17.out.lt k h1).2 (by omega))
  have BX_bx_vw1 : Hid (∀ k, (.slice a_vw1 ps1.length c_vw1 : Value).ownBlock = some k → k ≠ W16.heap.size) := Lib.hid (fun k h1 h2 => absurd (vw1_17.out.lt k h1).2 (by omega))
  have BX_bx_x0 : Hid (∀ k, (.slice (some ⟨g_x0, 0, none⟩) z0.q.length z0.q.length : Value).ownBlock = some k → k ≠ W16.heap.size) := Lib.hid (fun k h1 h2 => absurd (O_x0.out.lt k h1).2 (by omega))
  obtain ⟨X_bx, hX_bx⟩ : ∃ X, X = W16.heap.size := ⟨_, rfl⟩
  rw [← hX_bx] at bx_b20 BX_bx_vw0 BX_bx_vw1 BX_bx_x0 ⊢
  clear hX_bx
  have HB_21 := Lib.hid (HB_17.out.trans (l20.mono HB_17.out.size))
  have vw0_21 := Lib.hid (own_below vw0_17.out l20 (Nat.le_refl _))
  clear vw0_17
  have vw1_21 := Lib.hid (own_below vw1_17.out l20 (Nat.le_refl _))
  clear vw1_17
  have x0_21 := Lib.hid (own_below O_x0.out l20 (Nat.le_refl _))
  clear O_x0
  have A_21 := Lib.hid (A_17.out.below l20 A_17.out.lt)
  clear A_17
  have bw_21 := Lib.hid (bw_17.out.below l20 bw_17.out.lt)
  clear bw_17
  clear HB_17
  clear hc0_A_18 hc1_A_18 hc2_A_18
  obtain ⟨hc0_A_22, hc1_A_22, hc2_A_22⟩ := A_21.out.cells
  clear hc0_bw_19 hc1_bw_19 hc2_bw_19
  obtain ⟨hc0_bw_23, hc1_bw_23, hc2_bw_23⟩ := bw_21.out.cells
  clear l20
  clear hc0_A_22 hc1_A_22 hc2_A_22
  obtain ⟨hc0_A_24, hc1_A_24, hc2_A_24⟩ := A_21.out.cells
  clear hc0_bw_23 hc1_bw_23 hc2_bw_23
  obtain ⟨hc0_bw_25, hc1_bw_25, hc2_bw_25⟩ := bw_21.out.cells
  obtain ⟨hc0_bx_26, hc1_bx_26, hc2_bx_26⟩ := bx_b20.out.cells
  go_wp2_with fail
  refine (HIm.out g_x0 _ (row_own x0_21.out)).mono ?_
  rintro e W27 ⟨vg0, vg1, rfl, o_vg0, o_vg1, apm, l27⟩
  obtain ⟨a_vg0, c_vg0, rfl, _, _⟩ := own_someS0 o_vg0
  obtain ⟨a_vg1, c_vg1, rfl, _, _⟩ := own_someS0 o_vg1
  have ap_vw0_vg0 : ∀ k, (.slice a_vw0 ps0.q.length c_vw0 : Value).ownBlock = some k → (.slice a_vg0 ps0.q.length c_vg0 : Value).ownBlock ≠ some k := fun k h1 h2 => absurd (vw0_21.out.lt k h1).2 (Nat.not_lt.2 (o_vg0.lt k h2).1)
  have AP_vw0_vg0 := Lib.hid ap_vw0_vg0
  clear ap_vw0_vg0
  have ap_vw1_vg0 : ∀ k, (.slice a_vw1 ps1.length c_vw1 : Value).ownBlock = some k → (.slice a_vg0 ps0.q.length c_vg0 : Value).ownBlock ≠ some k := fun k h1 h2 => absurd (vw1_21.out.lt k h1).2 (Nat.not_lt.2 (o_vg0.lt k h2).1)
  have AP_vw1_vg0 := Lib.hid ap_vw1_vg0
  clear ap_vw1_vg0
  have ap_x0_vg0 : ∀ k, (.slice (some ⟨g_x0, 0, none⟩) z0.q.length z0.q.length : Value).ownBlock = some k → (.slice a_vg0 ps0.q.length c_vg0 : Value).ownBlock ≠ some k := fun k h1 h2 => absurd (x0_21.out.lt k h1).2 (Nat.not_lt.2 (o_vg0.lt k h2).1)
  have AP_x0_vg0 := Lib.hid ap_x0_vg0
  clear ap_x0_vg0
  have bx_A_vg0 : ∀ k, (.slice a_vg0 ps0.q.length c_vg0 : Value).ownBlock = some k → k ≠ R0 := fun k h1 h2 => absurd A_21.out.lt (Nat.not_lt.2 (by rw [← h2]; exact (o_vg0.lt k h1).1))
  have BX_A_vg0 := Lib.hid bx_A_vg0
  clear bx_A_vg0
  have bx_bw_vg0 : ∀ k, (.slice a_vg0 ps0.q.length c_vg0 : Value).ownBlock = some k → k ≠ X_bw := fun k h1 h2 => absurd bw_21.out.lt (Nat.not_lt.2 (by rw [← h2]; exact (o_vg0.lt k h1).1))
  have BX_bw_vg0 := Lib.hid bx_bw_vg0
  clear bx_bw_vg0
  have bx_bx_vg0 : ∀ k, (.slice a_vg0 ps0.q.length c_vg0 : Value).ownBlock = some k → k ≠ X_bx := fun k h1 h2 => absurd bx_b20.out.lt (Nat.not_lt.2 (by rw [← h2]; exact (o_vg0.lt k h1).1))
  have BX_bx_vg0 := Lib.hid bx_bx_vg0
  clear bx_bx_vg0
  have ap_vw0_vg1 : ∀ k, (.slice a_vw0 ps0.q.length c_vw0 : Value).ownBlock = some k → (.slice a_vg1 ps1.length c_vg1 : Value).ownBlock ≠ some k := fun k h1 h2 => absurd (vw0_21.out.lt k h1).2 (Nat.not_lt.2 (o_vg1.lt k h2).1)
  have AP_vw0_vg1 := Lib.hid ap_vw0_vg1
  clear ap_vw0_vg1
  have ap_vw1_vg1 : ∀ k, (.slice a_vw1 ps1.length c_vw1 : Value).ownBlock = some k → (.slice a_vg1 ps1.length c_vg1 : Value).ownBlock ≠ some k := fun k h1 h2 => absurd (vw1_21.out.lt k h1).2 (Nat.not_lt.2 (o_vg1.lt k h2).1)
  have AP_vw1_vg1 := Lib.hid ap_vw1_vg1
  clear ap_vw1_vg1
  have ap_x0_vg1 : ∀ k, (.slice (some ⟨g_x0, 0, none⟩) z0.q.length z0.q.length : Value).ownBlock = some k → (.slice a_vg1 ps1.length c_vg1 : Value).ownBlock ≠ some k := fun k h1 h2 => absurd (x0_21.out.lt k h1).2 (Nat.not_lt.2 (o_vg1.lt k h2).1)
  have AP_x0_vg1 := Lib.hid ap_x0_vg1
  clear ap_x0_vg1
  have bx_A_vg1 : ∀ k, (.slice a_vg1 ps1.length c_vg1 : Value).ownBlock = some k → k ≠ R0 := fun k h1 h2 => absurd A_21.out.lt (Nat.not_lt.2 (by rw [← h2]; exact (o_vg1.lt k h1).1))
  have BX_A_vg1 := Lib.hid bx_A_vg1
  clear bx_A_vg1
  have bx_bw_vg1 : ∀ k, (.slice a_vg1 ps1.length c_vg1 : Value).ownBlock = some k → k ≠ X_bw := fun k h1 h2 => absurd bw_21.out.lt (Nat.not_lt.2 (by rw [← h2]; exact (o_vg1.lt k h1).1))
  have BX_bw_vg1 := Lib.hid bx_bw_vg1
  clear bx_bw_vg1
  have bx_bx_vg1 : ∀ k, (.slice a_vg1 ps1.length c_vg1 : Value).ownBlock = some k → k ≠ X_bx := fun k h1 h2 => absurd bx_b20.out.lt (Nat.not_lt.2 (by rw [← h2]; exact (o_vg1.lt k h1).1))
  have BX_bx_vg1 := Lib.hid bx_bx_vg1
  clear bx_bx_vg1
  have O_vg0 := Lib.hid (own_base o_vg0 (HB_21.out.size))
  have O_vg1 := Lib.hid (own_base o_vg1 (HB_21.out.size))
  have AP_vg0_vg1 := Lib.hid apm
  clear apm
  have HB_28 := Lib.hid (HB_21.out.trans (l27.mono HB_21.out.size))
  have vw0_28 := Lib.hid (own_below vw0_21.out l27 (Nat.le_refl _))
  clear vw0_21
  have vw1_28 := Lib.hid (own_below vw1_21.out l27 (Nat.le_refl _))
  clear vw1_21
  have x0_28 := Lib.hid (own_below x0_21.out l27 (Nat.le_refl _))
  clear x0_21
  have A_28 := Lib.hid (A_21.out.below l27 A_21.out.lt)
  clear A_21
  have bw_28 := Lib.hid (bw_21.out.below l27 bw_21.out.lt)
  clear bw_21
  have bx_28 := Lib.hid (bx_b20.out.below l27 bx_b20.out.lt)
  clear bx_b20
  clear HB_21
  clear hc0_A_24 hc1_A_24 hc2_A_24
  obtain ⟨hc0_A_29, hc1_A_29, hc2_A_29⟩ := A_28.out.cells
  clear hc0_bw_25 hc1_bw_25 hc2_bw_25
  obtain ⟨hc0_bw_30, hc1_bw_30, hc2_bw_30⟩ := bw_28.out.cells
  clear hc0_bx_26 hc1_bx_26 hc2_bx_26
  obtain ⟨hc0_bx_31, hc1_bx_31, hc2_bx_31⟩ := bx_28.out.cells
  clear l27 o_vg0 o_vg1
  go_upto_region 8 with fail
  obtain ⟨W32, hW32⟩ : ∃ W32, W32 = W27.alloc (.cells #[.slice a_vg0 ps0.q.length c_vg0, .string ps0.f, .int .i64 ps0.u] 26) := ⟨_, rfl⟩
  have l32 : Below W27.heap.size W27 W32 := by rw [hW32]; exact (Below.refl _ _).alloc (Nat.le_refl _) _
  have bg_b32 : Hid (Bk W32 W27.heap.size (.slice a_vg0 ps0.q.length c_vg0) ps0.f ps0.u 26) := Lib.hid (by rw [hW32]; exact Bk.new _ _ _ _ _)
  rw [← hW32]
  clear hW32
  have BX_bg_vw0 : Hid (∀ k, (.slice a_vw0 ps0.q.length c_vw0 : Value).ownBlock = some k → k ≠ W27.heap.size) := Lib.hid (fun k h1 h2 => absurd (vw0_28.out.lt k h1).2 (by omega))
  have BX_bg_vw1 : Hid (∀ k, (.slice a_vw1 ps1.length c_vw1 : Value).ownBlock = some k → k ≠ W27.heap.size) := Lib.hid (fun k h1 h2 => absurd (vw1_28.out.lt k h1).2 (by omega))
  have BX_bg_x0 : Hid (∀ k, (.slice (some ⟨g_x0, 0, none⟩) z0.q.length z0.q.length : Value).ownBlock = some k → k ≠ W27.heap.size) := Lib.hid (fun k h1 h2 => absurd (x0_28.out.lt k h1).2 (by omega))
  have BX_bg_vg0 : Hid (∀ k, (.slice a_vg0 ps0.q.length c_vg0 : Value).ownBlock = some k → k ≠ W27.heap.size) := Lib.hid (fun k h1 h2 => absurd (O_vg0.out.lt k h1).2 (by omega))
  have BX_bg_vg1 : Hid (∀ k, (.slice a_vg1 ps1.length c_vg1 : Value).ownBlock = some k → k ≠ W27.heap.size) := Lib.hid (fun k h1 h2 => absurd (O_vg1.out.lt k h1).2 (by omega))
  obtain ⟨X_bg, hX_bg⟩ : ∃ X, X = W27.heap.size := ⟨_, rfl⟩
  rw [← hX_bg] at bg_b32 BX_bg_vw0 BX_bg_vw1 BX_bg_x0 BX_bg_vg0 BX_bg_vg1 ⊢
  clear hX_bg
  have HB_33 := Lib.hid (HB_28.out.trans (l32.mono HB_28.out.size))
  have vw0_33 := Lib.hid (own_below vw0_28.out l32 (Nat.le_refl _))
  clear vw0_28
  have vw1_33 := Lib.hid (own_below vw1_28.out l32 (Nat.le_refl _))
  clear vw1_28
  have x0_33 := Lib.hid (own_below x0_28.out l32 (Nat.le_refl _))
  clear x0_28
  have vg0_33 := Lib.hid (own_below O_vg0.out l32 (Nat.le_refl _))
  clear O_vg0
  have vg1_33 := Lib.hid (own_below O_vg1.out l32 (Nat.le_refl _))
  clear O_vg1
  have A_33 := Lib.hid (A_28.out.below l32 A_28.out.lt)
  clear A_28
  have bw_33 := Lib.hid (bw_28.out.below l32 bw_28.out.lt)
  clear bw_28
  have bx_33 := Lib.hid (bx_28.out.below l32 bx_28.out.lt)
  clear bx_28
  clear HB_28
  clear hc0_A_29 hc1_A_29 hc2_A_29
  obtain ⟨hc0_A_34, hc1_A_34, hc2_A_34⟩ := A_33.out.cells
  clear hc0_bw_30 hc1_bw_30 hc2_bw_30
  obtain ⟨hc0_bw_35, hc1_bw_35, hc2_bw_35⟩ := bw_33.out.cells
  clear hc0_bx_31 hc1_bx_31 hc2_bx_31
  obtain ⟨hc0_bx_36, hc1_bx_36, hc2_bx_36⟩ := bx_33.out.cells
  clear l32
  clear hc0_A_34 hc1_A_34 hc2_A_34
  obtain ⟨hc0_A_37, hc1_A_37, hc2_A_37⟩ := A_33.out.cells
  clear hc0_bw_35 hc1_bw_35 hc2_bw_35
  obtain ⟨hc0_bw_38, hc1_bw_38, hc2_bw_38⟩ := bw_33.out.cells
  clear hc0_bx_36 hc1_bx_36 hc2_bx_36
  obtain ⟨hc0_bx_39, hc1_bx_39, hc2_bx_39⟩ := bx_33.out.cells
  obtain ⟨hc0_bg_40, hc1_bg_40, hc2_bg_40⟩ := bg_b32.out.cells
  go_wp2_with fail
  refine (eqLink_same _ _ ps0 _ (row_own vg0_33.out) (row_own vw0_33.out)).mono ?_
  rintro e W41 ⟨rfl, l41⟩
  have HB_42 := Lib.hid (HB_33.out.trans (l41.mono HB_33.out.size))
  have vw0_42 := Lib.hid (own_below vw0_33.out l41 (Nat.le_refl _))
  clear vw0_33
  have vw1_42 := Lib.hid (own_below vw1_33.out l41 (Nat.le_refl _))
  clear vw1_33
  have x0_42 := Lib.hid (own_below x0_33.out l41 (Nat.le_refl _))
  clear x0_33
  have vg0_42 := Lib.hid (own_below vg0_33.out l41 (Nat.le_refl _))
  clear vg0_33
  have vg1_42 := Lib.hid (own_below vg1_33.out l41 (Nat.le_refl _))
  clear vg1_33
  have A_42 := Lib.hid (A_33.out.below l41 A_33.out.lt)
  clear A_33
  have bw_42 := Lib.hid (bw_33.out.below l41 bw_33.out.lt)
  clear bw_33
  have bx_42 := Lib.hid (bx_33.out.below l41 bx_33.out.lt)
  clear bx_33
  have bg_42 := Lib.hid (bg_b32.out.below l41 bg_b32.out.lt)
  clear bg_b32
  clear HB_33
  clear hc0_A_37 hc1_A_37 hc2_A_37
  obtain ⟨hc0_A_43, hc1_A_43, hc2_A_43⟩ := A_42.out.cells
  clear hc0_bw_38 hc1_bw_38 hc2_bw_38
  obtain ⟨hc0_bw_44, hc1_bw_44, hc2_bw_44⟩ := bw_42.out.cells
  clear hc0_bx_39 hc1_bx_39 hc2_bx_39
  obtain ⟨hc0_bx_45, hc1_bx_45, hc2_bx_45⟩ := bx_42.out.cells
  clear hc0_bg_40 hc1_bg_40 hc2_bg_40
  obtain ⟨hc0_bg_46, hc1_bg_46, hc2_bg_46⟩ := bg_42.out.cells
  clear l41
  go_wp2_with fail
  refine (eqStringS_any _ _ ps1 ps1 _ (row_own vg1_42.out) (row_own vw1_42.out)).mono ?_
  rintro e W47 ⟨rfl, k47, hw47⟩
  have l47 : Below W41.heap.size W41 W47 := by rw [hw47]; exact bdrew _ _
  clear hw47
  have HB_48 := Lib.hid (HB_42.out.trans (l47.mono HB_42.out.size))
  have vw0_48 := Lib.hid (own_below vw0_42.out l47 (Nat.le_refl _))
  clear vw0_42
  have vw1_48 := Lib.hid (own_below vw1_42.out l47 (Nat.le_refl _))
  clear vw1_42
  have x0_48 := Lib.hid (own_below x0_42.out l47 (Nat.le_refl _))
  clear x0_42
  have vg0_48 := Lib.hid (own_below vg0_42.out l47 (Nat.le_refl _))
  clear vg0_42
  have vg1_48 := Lib.hid (own_below vg1_42.out l47 (Nat.le_refl _))
  clear vg1_42
  have A_48 := Lib.hid (A_42.out.below l47 A_42.out.lt)
  clear A_42
  have bw_48 := Lib.hid (bw_42.out.below l47 bw_42.out.lt)
  clear bw_42
  have bx_48 := Lib.hid (bx_42.out.below l47 bx_42.out.lt)
  clear bx_42
  have bg_48 := Lib.hid (bg_42.out.below l47 bg_42.out.lt)
  clear bg_42
  clear HB_42
  clear hc0_A_43 hc1_A_43 hc2_A_43
  obtain ⟨hc0_A_49, hc1_A_49, hc2_A_49⟩ := A_48.out.cells
  clear hc0_bw_44 hc1_bw_44 hc2_bw_44
  obtain ⟨hc0_bw_50, hc1_bw_50, hc2_bw_50⟩ := bw_48.out.cells
  clear hc0_bx_45 hc1_bx_45 hc2_bx_45
  obtain ⟨hc0_bx_51, hc1_bx_51, hc2_bx_51⟩ := bx_48.out.cells
  clear hc0_bg_46 hc1_bg_46 hc2_bg_46
  obtain ⟨hc0_bg_52, hc1_bg_52, hc2_bg_52⟩ := bg_48.out.cells
  clear l47
  go_upto_region 10 with fail
  go_cut [56] from 52 to 56 (fun b wx => b = .bool false ∧ Hid (Below W47.heap.size W47 wx))
  case first => as_aux_lemma =>
    go_region_held3 (fun w' => w'.cell? ⟨X_bx, 0, none⟩ = some (.slice (some ⟨g_x0, 0, none⟩) z0.q.length z0.q.length) ∧ w'.cell? ⟨X_bx, 1, none⟩ = some (.string z0.f) ∧ w'.cell? ⟨X_bx, 2, none⟩ = some (.int .i64 z0.u) ∧ w'.cell? ⟨R0, 0, none⟩ = some (.slice p0 z0.q.length cap0) ∧ w'.cell? ⟨R0, 1, none⟩ = some (.string z0.f) ∧ w'.cell? ⟨R0, 2, none⟩ = some (.int .i64 z0.u) ∧ Below W47.heap.size W47 w')
      ((refine keep_links bx_48.out A_48.out ?_; repeat (first | assumption | exact Below.refl _ _ | refine Below.drew ?_)))
      (first
        | (go_at_call 45; refine (toLink_lit _ z0 _ (HR0.out.below (HB_48.out.trans ((by repeat (first | assumption | exact Below.refl _ _ | refine Below.drew ?_) : Below W47.heap.size W47 _).mono HB_48.out.size)) (Nat.le_refl _)) HN0.out).mono ?_; rintro e w5 ⟨g5, rfl, o5, l5⟩; have hb5 := below_call7 (by repeat (first | assumption | exact Below.refl _ _ | refine Below.drew ?_) : Below W47.heap.size W47 _) l5; have ho5 := row_own o5; clear o5 l5)
        | (go_at_call 46; refine (eqLink_same _ _ z0 _ ((row_own x0_48.out).below hb5 (Nat.le_refl _)) ho5).mono ?_; rintro e w6 ⟨rfl, l6⟩; have hb6 := below_call7 hb5 l6; clear l6))
    all_goals go_wp2_with fail
    all_goals go_meet
    all_goals
      case rel => exact ⟨by simp, Lib.hid (by repeat (first | assumption | exact Below.refl _ _ | refine Below.drew ?_))⟩
  case rest =>
    obtain ⟨rfl, HCut⟩ := hcut
    rename World => W53
    have l53 := HCut.out
    clear HCut
    have HB_54 := Lib.hid (HB_48.out.trans (l53.mono HB_48.out.size))
    have vw0_54 := Lib.hid (own_below vw0_48.out l53 (Nat.le_refl _))
    clear vw0_48
    have vw1_54 := Lib.hid (own_below vw1_48.out l53 (Nat.le_refl _))
    clear vw1_48
    have x0_54 := Lib.hid (own_below x0_48.out l53 (Nat.le_refl _))
    clear x0_48
    have vg0_54 := Lib.hid (own_below vg0_48.out l53 (Nat.le_refl _))
    clear vg0_48
    have vg1_54 := Lib.hid (own_below vg1_48.out l53 (Nat.le_refl _))
    clear vg1_48
    have A_54 := Lib.hid (A_48.out.below l53 A_48.out.lt)
    clear A_48
    have bw_54 := Lib.hid (bw_48.out.below l53 bw_48.out.lt)
    clear bw_48
    have bx_54 := Lib.hid (bx_48.out.below l53 bx_48.out.lt)
    clear bx_48
    have bg_54 := Lib.hid (bg_48.out.below l53 bg_48.out.lt)
    clear bg_48
    clear HB_48
    clear hc0_A_49 hc1_A_49 hc2_A_49
    obtain ⟨hc0_A_55, hc1_A_55, hc2_A_55⟩ := A_54.out.cells
    clear hc0_bw_50 hc1_bw_50 hc2_bw_50
    obtain ⟨hc0_bw_56, hc1_bw_56, hc2_bw_56⟩ := bw_54.out.cells
    clear hc0_bx_51 hc1_bx_51 hc2_bx_51
    obtain ⟨hc0_bx_57, hc1_bx_57, hc2_bx_57⟩ := bx_54.out.cells
    clear hc0_bg_52 hc1_bg_52 hc2_bg_52
    obtain ⟨hc0_bg_58, hc1_bg_58, hc2_bg_58⟩ := bg_54.out.cells
    clear l53
    go_wp2_with fail
    refine (markL_own _ _ _ z0.q.length 1 _ _ _ x0_54.out (by omega) (by have := HL0.out; have := HL1.out; have := HN0.out; omega)).mono ?_
    rintro e W59 ⟨rfl, m59, gr59⟩
    have HB_59 := Lib.hid (HB_54.out.grown gr59 HB_54.out.size (fun q hq => (x0_54.out.lt q hq).1))
    have vw0_59 := Lib.hid (own_apart vw0_54.out gr59 (fun k h1 h2 => AP_vw0_x0.out k h1 h2))
    clear vw0_54
    have vw1_59 := Lib.hid (own_apart vw1_54.out gr59 (fun k h1 h2 => AP_vw1_x0.out k h1 h2))
    clear vw1_54
    have vg0_59 := Lib.hid (own_apart vg0_54.out gr59 (fun k h1 h2 => AP_x0_vg0.out k h2 h1))
    clear vg0_54
    have vg1_59 := Lib.hid (own_apart vg1_54.out gr59 (fun k h1 h2 => AP_x0_vg1.out k h2 h1))
    clear vg1_54
    have A_59 := Lib.hid (A_54.out.grown gr59 (fun e => BX_A_x0.out _ e.symm rfl))
    clear A_54
    have bw_59 := Lib.hid (bw_54.out.grown gr59 (fun e => BX_bw_x0.out _ e.symm rfl))
    clear bw_54
    have bx_59 := Lib.hid (bx_54.out.grown gr59 (fun e => BX_bx_x0.out _ e.symm rfl))
    clear bx_54
    have bg_59 := Lib.hid (bg_54.out.grown gr59 (fun e => BX_bg_x0.out _ e.symm rfl))
    clear bg_54
    have x0_59 := Lib.hid m59
    clear m59 gr59 x0_54 HB_54
    clear hc0_A_55 hc1_A_55 hc2_A_55
    obtain ⟨hc0_A_60, hc1_A_60, hc2_A_60⟩ := A_59.out.cells
    clear hc0_bw_56 hc1_bw_56 hc2_bw_56
    obtain ⟨hc0_bw_61, hc1_bw_61, hc2_bw_61⟩ := bw_59.out.cells
    clear hc0_bx_57 hc1_bx_57 hc2_bx_57
    obtain ⟨hc0_bx_62, hc1_bx_62, hc2_bx_62⟩ := bx_59.out.cells
    clear hc0_bg_58 hc1_bg_58 hc2_bg_58
    obtain ⟨hc0_bg_63, hc1_bg_63, hc2_bg_63⟩ := bg_59.out.cells
    go_wp2_with fail
    refine (eqLink_same _ _ ps0 _ (row_own vg0_59.out) (row_own vw0_59.out)).mono ?_
    rintro e W64 ⟨rfl, l64⟩
    have HB_65 := Lib.hid (HB_59.out.trans (l64.mono HB_59.out.size))
    have vw0_65 := Lib.hid (own_below vw0_59.out l64 (Nat.le_refl _))
    clear vw0_59
    have vw1_65 := Lib.hid (own_below vw1_59.out l64 (Nat.le_refl _))
    clear vw1_59
    have x0_65 := Lib.hid (own_below x0_59.out l64 (Nat.le_refl _))
    clear x0_59
    have vg0_65 := Lib.hid (own_below vg0_59.out l64 (Nat.le_refl _))
    clear vg0_59
    have vg1_65 := Lib.hid (own_below vg1_59.out l64 (Nat.le_refl _))
    clear vg1_59
    have A_65 := Lib.hid (A_59.out.below l64 A_59.out.lt)
    clear A_59
    have bw_65 := Lib.hid (bw_59.out.below l64 bw_59.out.lt)
    clear bw_59
    have bx_65 := Lib.hid (bx_59.out.below l64 bx_59.out.lt)
    clear bx_59
    have bg_65 := Lib.hid (bg_59.out.below l64 bg_59.out.lt)
    clear bg_59
    clear HB_59
    clear hc0_A_60 hc1_A_60 hc2_A_60
    obtain ⟨hc0_A_66, hc1_A_66, hc2_A_66⟩ := A_65.out.cells
    clear hc0_bw_61 hc1_bw_61 hc2_bw_61
    obtain ⟨hc0_bw_67, hc1_bw_67, hc2_bw_67⟩ := bw_65.out.cells
    clear hc0_bx_62 hc1_bx_62 hc2_bx_62
    obtain ⟨hc0_bx_68, hc1_bx_68, hc2_bx_68⟩ := bx_65.out.cells
    clear hc0_bg_63 hc1_bg_63 hc2_bg_63
    obtain ⟨hc0_bg_69, hc1_bg_69, hc2_bg_69⟩ := bg_65.out.cells
    clear l64
    go_wp2_with fail
    refine (eqStringS_any _ _ ps1 ps1 _ (row_own vg1_65.out) (row_own vw1_65.out)).mono ?_
    rintro e W70 ⟨rfl, k70, hw70⟩
    have l70 : Below W64.heap.size W64 W70 := by rw [hw70]; exact bdrew _ _
    clear hw70
    have HB_71 := Lib.hid (HB_65.out.trans (l70.mono HB_65.out.size))
    have vw0_71 := Lib.hid (own_below vw0_65.out l70 (Nat.le_refl _))
    clear vw0_65
    have vw1_71 := Lib.hid (own_below vw1_65.out l70 (Nat.le_refl _))
    clear vw1_65
    have x0_71 := Lib.hid (own_below x0_65.out l70 (Nat.le_refl _))
    clear x0_65
    have vg0_71 := Lib.hid (own_below vg0_65.out l70 (Nat.le_refl _))
    clear vg0_65
    have vg1_71 := Lib.hid (own_below vg1_65.out l70 (Nat.le_refl _))
    clear vg1_65
    have A_71 := Lib.hid (A_65.out.below l70 A_65.out.lt)
    clear A_65
    have bw_71 := Lib.hid (bw_65.out.below l70 bw_65.out.lt)
    clear bw_65
    have bx_71 := Lib.hid (bx_65.out.below l70 bx_65.out.lt)
    clear bx_65
    have bg_71 := Lib.hid (bg_65.out.below l70 bg_65.out.lt)
    clear bg_65
    clear HB_65
    clear hc0_A_66 hc1_A_66 hc2_A_66
    obtain ⟨hc0_A_72, hc1_A_72, hc2_A_72⟩ := A_71.out.cells
    clear hc0_bw_67 hc1_bw_67 hc2_bw_67
    obtain ⟨hc0_bw_73, hc1_bw_73, hc2_bw_73⟩ := bw_71.out.cells
    clear hc0_bx_68 hc1_bx_68 hc2_bx_68
    obtain ⟨hc0_bx_74, hc1_bx_74, hc2_bx_74⟩ := bx_71.out.cells
    clear hc0_bg_69 hc1_bg_69 hc2_bg_69
    obtain ⟨hc0_bg_75, hc1_bg_75, hc2_bg_75⟩ := bg_71.out.cells
    clear l70
    clear x0_71
    clear bx_71 hc0_bx_74 hc1_bx_74 hc2_bx_74
    go_wp2_with fail
    refine (markL_own _ _ _ ps0.q.length 1 _ _ _ vg0_71.out (by omega) (by have := HL0.out; have := HL1.out; have := HN0.out; omega)).mono ?_
    rintro e W76 ⟨rfl, m76, gr76⟩
    have HB_76 := Lib.hid (HB_71.out.grown gr76 HB_71.out.size (fun q hq => (vg0_71.out.lt q hq).1))
    have vw0_76 := Lib.hid (own_apart vw0_71.out gr76 (fun k h1 h2 => AP_vw0_vg0.out k h1 h2))
    clear vw0_71
    have vw1_76 := Lib.hid (own_apart vw1_71.out gr76 (fun k h1 h2 => AP_vw1_vg0.out k h1 h2))
    clear vw1_71
    have vg1_76 := Lib.hid (own_apart vg1_71.out gr76 (fun k h1 h2 => AP_vg0_vg1.out k h2 h1))
    clear vg1_71
    have A_76 := Lib.hid (A_71.out.grown gr76 (fun e => BX_A_vg0.out _ e.symm rfl))
    clear A_71
    have bw_76 := Lib.hid (bw_71.out.grown gr76 (fun e => BX_bw_vg0.out _ e.symm rfl))
    clear bw_71
    have bg_76 := Lib.hid (bg_71.out.grown gr76 (fun e => BX_bg_vg0.out _ e.symm rfl))
    clear bg_71
    have vg0_76 := Lib.hid m76
    clear m76 gr76 vg0_71 HB_71
    clear hc0_A_72 hc1_A_72 hc2_A_72
    obtain ⟨hc0_A_77, hc1_A_77, hc2_A_77⟩ := A_76.out.cells
    clear hc0_bw_73 hc1_bw_73 hc2_bw_73
    obtain ⟨hc0_bw_78, hc1_bw_78, hc2_bw_78⟩ := bw_76.out.cells
    clear hc0_bg_75 hc1_bg_75 hc2_bg_75
    obtain ⟨hc0_bg_79, hc1_bg_79, hc2_bg_79⟩ := bg_76.out.cells
    go_wp2_with fail
    refine (markS_own _ ps1.length (1 + ps0.q.length) _ _ _ vg1_76.out (by omega) (by have := HL0.out; have := HL1.out; have := HN0.out; omega)).mono ?_
    rintro e W80 ⟨rfl, m80, gr80⟩
    have HB_80 := Lib.hid (HB_76.out.grown gr80 HB_76.out.size (fun q hq => (vg1_76.out.lt q hq).1))
    have vw0_80 := Lib.hid (own_apart vw0_76.out gr80 (fun k h1 h2 => AP_vw0_vg1.out k h1 h2))
    clear vw0_76
    have vw1_80 := Lib.hid (own_apart vw1_76.out gr80 (fun k h1 h2 => AP_vw1_vg1.out k h1 h2))
    clear vw1_76
    have vg0_80 := Lib.hid (own_apart vg0_76.out gr80 (fun k h1 h2 => AP_vg0_vg1.out k h1 h2))
    clear vg0_76
    have A_80 := Lib.hid (A_76.out.grown gr80 (fun e => BX_A_vg1.out _ e.symm rfl))
    clear A_76
    have bw_80 := Lib.hid (bw_76.out.grown gr80 (fun e => BX_bw_vg1.out _ e.symm rfl))
    clear bw_76
    have bg_80 := Lib.hid (bg_76.out.grown gr80 (fun e => BX_bg_vg1.out _ e.symm rfl))
    clear bg_76
    have vg1_80 := Lib.hid m80
    clear m80 gr80 vg1_76 HB_76
    clear hc0_A_77 hc1_A_77 hc2_A_77
    obtain ⟨hc0_A_81, hc1_A_81, hc2_A_81⟩ := A_80.out.cells
    clear hc0_bw_78 hc1_bw_78 hc2_bw_78
    obtain ⟨hc0_bw_82, hc1_bw_82, hc2_bw_82⟩ := bw_80.out.cells
    clear hc0_bg_79 hc1_bg_79 hc2_bg_79
    obtain ⟨hc0_bg_83, hc1_bg_83, hc2_bg_83⟩ := bg_80.out.cells
    go_wp2_with fail
    refine (heldL_own _ _ _ ps0.q.length 1 _ _ vg0_80.out (by omega) (by have := HL0.out; have := HL1.out; have := HN0.out; omega)).mono ?_
    rintro e W84 ⟨rfl, l84⟩
    have HB_85 := Lib.hid (HB_80.out.trans (l84.mono HB_80.out.size))
    have vw0_85 := Lib.hid (own_below vw0_80.out l84 (Nat.le_refl _))
    clear vw0_80
    have vw1_85 := Lib.hid (own_below vw1_80.out l84 (Nat.le_refl _))
    clear vw1_80
    have vg0_85 := Lib.hid (own_below vg0_80.out l84 (Nat.le_refl _))
    clear vg0_80
    have vg1_85 := Lib.hid (own_below vg1_80.out l84 (Nat.le_refl _))
    clear vg1_80
    have A_85 := Lib.hid (A_80.out.below l84 A_80.out.lt)
    clear A_80
    have bw_85 := Lib.hid (bw_80.out.below l84 bw_80.out.lt)
    clear bw_80
    have bg_85 := Lib.hid (bg_80.out.below l84 bg_80.out.lt)
    clear bg_80
    clear HB_80
    clear hc0_A_81 hc1_A_81 hc2_A_81
    obtain ⟨hc0_A_86, hc1_A_86, hc2_A_86⟩ := A_85.out.cells
    clear hc0_bw_82 hc1_bw_82 hc2_bw_82
    obtain ⟨hc0_bw_87, hc1_bw_87, hc2_bw_87⟩ := bw_85.out.cells
    clear hc0_bg_83 hc1_bg_83 hc2_bg_83
    obtain ⟨hc0_bg_88, hc1_bg_88, hc2_bg_88⟩ := bg_85.out.cells
    clear l84
    go_wp2_with fail
    refine (heldS_own _ ps1.length (1 + ps0.q.length) _ _ vg1_85.out (by omega) (by have := HL0.out; have := HL1.out; have := HN0.out; omega)).mono ?_
    rintro e W89 ⟨rfl, lg89⟩
    have l89 := below_none lg89
    clear lg89
    have HB_90 := Lib.hid (HB_85.out.trans (l89.mono HB_85.out.size))
    have vw0_90 := Lib.hid (own_below vw0_85.out l89 (Nat.le_refl _))
    clear vw0_85
    have vw1_90 := Lib.hid (own_below vw1_85.out l89 (Nat.le_refl _))
    clear vw1_85
    have vg0_90 := Lib.hid (own_below vg0_85.out l89 (Nat.le_refl _))
    clear vg0_85
    have vg1_90 := Lib.hid (own_below vg1_85.out l89 (Nat.le_refl _))
    clear vg1_85
    have A_90 := Lib.hid (A_85.out.below l89 A_85.out.lt)
    clear A_85
    have bw_90 := Lib.hid (bw_85.out.below l89 bw_85.out.lt)
    clear bw_85
    have bg_90 := Lib.hid (bg_85.out.below l89 bg_85.out.lt)
    clear bg_85
    clear HB_85
    clear hc0_A_86 hc1_A_86 hc2_A_86
    obtain ⟨hc0_A_91, hc1_A_91, hc2_A_91⟩ := A_90.out.cells
    clear hc0_bw_87 hc1_bw_87 hc2_bw_87
    obtain ⟨hc0_bw_92, hc1_bw_92, hc2_bw_92⟩ := bw_90.out.cells
    clear hc0_bg_88 hc1_bg_88 hc2_bg_88
    obtain ⟨hc0_bg_93, hc1_bg_93, hc2_bg_93⟩ := bg_90.out.cells
    clear l89
    go_wp2_with fail
    refine (toLink_lit _ z0 _ (HR0.out.below HB_90.out (Nat.le_refl _)) HN0.out).mono ?_
    rintro e W94 ⟨g_t0, rfl, o_t0, l94⟩
    have ap_vw0_t0 : ∀ k, (.slice a_vw0 ps0.q.length c_vw0 : Value).ownBlock = some k → (.slice (some ⟨g_t0, 0, none⟩) z0.q.length z0.q.length : Value).ownBlock ≠ some k := fun k h1 h2 => absurd (vw0_90.out.lt k h1).2 (Nat.not_lt.2 (o_t0.lt k h2).1)
    have AP_vw0_t0 := Lib.hid ap_vw0_t0
    clear ap_vw0_t0
    have ap_vw1_t0 : ∀ k, (.slice a_vw1 ps1.length c_vw1 : Value).ownBlock = some k → (.slice (some ⟨g_t0, 0, none⟩) z0.q.length z0.q.length : Value).ownBlock ≠ some k := fun k h1 h2 => absurd (vw1_90.out.lt k h1).2 (Nat.not_lt.2 (o_t0.lt k h2).1)
    have AP_vw1_t0 := Lib.hid ap_vw1_t0
    clear ap_vw1_t0
    have ap_vg0_t0 : ∀ k, (.slice a_vg0 ps0.q.length c_vg0 : Value).ownBlock = some k → (.slice (some ⟨g_t0, 0, none⟩) z0.q.length z0.q.length : Value).ownBlock ≠ some k := fun k h1 h2 => absurd (vg0_90.out.lt k h1).2 (Nat.not_lt.2 (o_t0.lt k h2).1)
    have AP_vg0_t0 := Lib.hid ap_vg0_t0
    clear ap_vg0_t0
    have ap_vg1_t0 : ∀ k, (.slice a_vg1 ps1.length c_vg1 : Value).ownBlock = some k → (.slice (some ⟨g_t0, 0, none⟩) z0.q.length z0.q.length : Value).ownBlock ≠ some k := fun k h1 h2 => absurd (vg1_90.out.lt k h1).2 (Nat.not_lt.2 (o_t0.lt k h2).1)
    have AP_vg1_t0 := Lib.hid ap_vg1_t0
    clear ap_vg1_t0
    have bx_A_t0 : ∀ k, (.slice (some ⟨g_t0, 0, none⟩) z0.q.length z0.q.length : Value).ownBlock = some k → k ≠ R0 := fun k h1 h2 => absurd A_90.out.lt (Nat.not_lt.2 (by rw [← h2]; exact (o_t0.lt k h1).1))
    have BX_A_t0 := Lib.hid bx_A_t0
    clear bx_A_t0
    have bx_bw_t0 : ∀ k, (.slice (some ⟨g_t0, 0, none⟩) z0.q.length z0.q.length : Value).ownBlock = some k → k ≠ X_bw := fun k h1 h2 => absurd bw_90.out.lt (Nat.not_lt.2 (by rw [← h2]; exact (o_t0.lt k h1).1))
    have BX_bw_t0 := Lib.hid bx_bw_t0
    clear bx_bw_t0
    have bx_bg_t0 : ∀ k, (.slice (some ⟨g_t0, 0, none⟩) z0.q.length z0.q.length : Value).ownBlock = some k → k ≠ X_bg := fun k h1 h2 => absurd bg_90.out.lt (Nat.not_lt.2 (by rw [← h2]; exact (o_t0.lt k h1).1))
    have BX_bg_t0 := Lib.hid bx_bg_t0
    clear bx_bg_t0
    have O_t0 := Lib.hid (own_base o_t0 (HB_90.out.size))
    have HB_95 := Lib.hid (HB_90.out.trans (l94.mono HB_90.out.size))
    have vw0_95 := Lib.hid (own_below vw0_90.out l94 (Nat.le_refl _))
    clear vw0_90
    have vw1_95 := Lib.hid (own_below vw1_90.out l94 (Nat.le_refl _))
    clear vw1_90
    have vg0_95 := Lib.hid (own_below vg0_90.out l94 (Nat.le_refl _))
    clear vg0_90
    have vg1_95 := Lib.hid (own_below vg1_90.out l94 (Nat.le_refl _))
    clear vg1_90
    have A_95 := Lib.hid (A_90.out.below l94 A_90.out.lt)
    clear A_90
    have bw_95 := Lib.hid (bw_90.out.below l94 bw_90.out.lt)
    clear bw_90
    have bg_95 := Lib.hid (bg_90.out.below l94 bg_90.out.lt)
    clear bg_90
    clear HB_90
    clear hc0_A_91 hc1_A_91 hc2_A_91
    obtain ⟨hc0_A_96, hc1_A_96, hc2_A_96⟩ := A_95.out.cells
    clear hc0_bw_92 hc1_bw_92 hc2_bw_92
    obtain ⟨hc0_bw_97, hc1_bw_97, hc2_bw_97⟩ := bw_95.out.cells
    clear hc0_bg_93 hc1_bg_93 hc2_bg_93
    obtain ⟨hc0_bg_98, hc1_bg_98, hc2_bg_98⟩ := bg_95.out.cells
    clear o_t0 l94
    go_wp2_with fail
    refine (HIm.out g_t0 _ (row_own O_t0.out)).mono ?_
    rintro e W99 ⟨vh0, vh1, rfl, o_vh0, o_vh1, apm, l99⟩
    obtain ⟨a_vh0, c_vh0, rfl, _, _⟩ := own_someS0 o_vh0
    obtain ⟨a_vh1, c_vh1, rfl, _, _⟩ := own_someS0 o_vh1
    have ap_vw0_vh0 : ∀ k, (.slice a_vw0 ps0.q.length c_vw0 : Value).ownBlock = some k → (.slice a_vh0 ps0.q.length c_vh0 : Value).ownBlock ≠ some k := fun k h1 h2 => absurd (vw0_95.out.lt k h1).2 (Nat.not_lt.2 (o_vh0.lt k h2).1)
    have AP_vw0_vh0 := Lib.hid ap_vw0_vh0
    clear ap_vw0_vh0
    have ap_vw1_vh0 : ∀ k, (.slice a_vw1 ps1.length c_vw1 : Value).ownBlock = some k → (.slice a_vh0 ps0.q.length c_vh0 : Value).ownBlock ≠ some k := fun k h1 h2 => absurd (vw1_95.out.lt k h1).2 (Nat.not_lt.2 (o_vh0.lt k h2).1)
    have AP_vw1_vh0 := Lib.hid ap_vw1_vh0
    clear ap_vw1_vh0
    have ap_vg0_vh0 : ∀ k, (.slice a_vg0 ps0.q.length c_vg0 : Value).ownBlock = some k → (.slice a_vh0 ps0.q.length c_vh0 : Value).ownBlock ≠ some k := fun k h1 h2 => absurd (vg0_95.out.lt k h1).2 (Nat.not_lt.2 (o_vh0.lt k h2).1)
    have AP_vg0_vh0 := Lib.hid ap_vg0_vh0
    clear ap_vg0_vh0
    have ap_vg1_vh0 : ∀ k, (.slice a_vg1 ps1.length c_vg1 : Value).ownBlock = some k → (.slice a_vh0 ps0.q.length c_vh0 : Value).ownBlock ≠ some k := fun k h1 h2 => absurd (vg1_95.out.lt k h1).2 (Nat.not_lt.2 (o_vh0.lt k h2).1)
    have AP_vg1_vh0 := Lib.hid ap_vg1_vh0
    clear ap_vg1_vh0
    have ap_t0_vh0 : ∀ k, (.slice (some ⟨g_t0, 0, none⟩) z0.q.length z0.q.length : Value).ownBlock = some k → (.slice a_vh0 ps0.q.length c_vh0 : Value).ownBlock ≠ some k := fun k h1 h2 => absurd (O_t0.out.lt k h1).2 (Nat.not_lt.2 (o_vh0.lt k h2).1)
    have AP_t0_vh0 := Lib.hid ap_t0_vh0
    clear ap_t0_vh0
    have bx_A_vh0 : ∀ k, (.slice a_vh0 ps0.q.length c_vh0 : Value).ownBlock = some k → k ≠ R0 := fun k h1 h2 => absurd A_95.out.lt (Nat.not_lt.2 (by rw [← h2]; exact (o_vh0.lt k h1).1))
    have BX_A_vh0 := Lib.hid bx_A_vh0
    clear bx_A_vh0
    have bx_bw_vh0 : ∀ k, (.slice a_vh0 ps0.q.length c_vh0 : Value).ownBlock = some k → k ≠ X_bw := fun k h1 h2 => absurd bw_95.out.lt (Nat.not_lt.2 (by rw [← h2]; exact (o_vh0.lt k h1).1))
    have BX_bw_vh0 := Lib.hid bx_bw_vh0
    clear bx_bw_vh0
    have bx_bg_vh0 : ∀ k, (.slice a_vh0 ps0.q.length c_vh0 : Value).ownBlock = some k → k ≠ X_bg := fun k h1 h2 => absurd bg_95.out.lt (Nat.not_lt.2 (by rw [← h2]; exact (o_vh0.lt k h1).1))
    have BX_bg_vh0 := Lib.hid bx_bg_vh0
    clear bx_bg_vh0
    have ap_vw0_vh1 : ∀ k, (.slice a_vw0 ps0.q.length c_vw0 : Value).ownBlock = some k → (.slice a_vh1 ps1.length c_vh1 : Value).ownBlock ≠ some k := fun k h1 h2 => absurd (vw0_95.out.lt k h1).2 (Nat.not_lt.2 (o_vh1.lt k h2).1)
    have AP_vw0_vh1 := Lib.hid ap_vw0_vh1
    clear ap_vw0_vh1
    have ap_vw1_vh1 : ∀ k, (.slice a_vw1 ps1.length c_vw1 : Value).ownBlock = some k → (.slice a_vh1 ps1.length c_vh1 : Value).ownBlock ≠ some k := fun k h1 h2 => absurd (vw1_95.out.lt k h1).2 (Nat.not_lt.2 (o_vh1.lt k h2).1)
    have AP_vw1_vh1 := Lib.hid ap_vw1_vh1
    clear ap_vw1_vh1
    have ap_vg0_vh1 : ∀ k, (.slice a_vg0 ps0.q.length c_vg0 : Value).ownBlock = some k → (.slice a_vh1 ps1.length c_vh1 : Value).ownBlock ≠ some k := fun k h1 h2 => absurd (vg0_95.out.lt k h1).2 (Nat.not_lt.2 (o_vh1.lt k h2).1)
    have AP_vg0_vh1 := Lib.hid ap_vg0_vh1
    clear ap_vg0_vh1
    have ap_vg1_vh1 : ∀ k, (.slice a_vg1 ps1.length c_vg1 : Value).ownBlock = some k → (.slice a_vh1 ps1.length c_vh1 : Value).ownBlock ≠ some k := fun k h1 h2 => absurd (vg1_95.out.lt k h1).2 (Nat.not_lt.2 (o_vh1.lt k h2).1)
    have AP_vg1_vh1 := Lib.hid ap_vg1_vh1
    clear ap_vg1_vh1
    have ap_t0_vh1 : ∀ k, (.slice (some ⟨g_t0, 0, none⟩) z0.q.length z0.q.length : Value).ownBlock = some k → (.slice a_vh1 ps1.length c_vh1 : Value).ownBlock ≠ some k := fun k h1 h2 => absurd (O_t0.out.lt k h1).2 (Nat.not_lt.2 (o_vh1.lt k h2).1)
    have AP_t0_vh1 := Lib.hid ap_t0_vh1
    clear ap_t0_vh1
    have bx_A_vh1 : ∀ k, (.slice a_vh1 ps1.length c_vh1 : Value).ownBlock = some k → k ≠ R0 := fun k h1 h2 => absurd A_95.out.lt (Nat.not_lt.2 (by rw [← h2]; exact (o_vh1.lt k h1).1))
    have BX_A_vh1 := Lib.hid bx_A_vh1
    clear bx_A_vh1
    have bx_bw_vh1 : ∀ k, (.slice a_vh1 ps1.length c_vh1 : Value).ownBlock = some k → k ≠ X_bw := fun k h1 h2 => absurd bw_95.out.lt (Nat.not_lt.2 (by rw [← h2]; exact (o_vh1.lt k h1).1))
    have BX_bw_vh1 := Lib.hid bx_bw_vh1
    clear bx_bw_vh1
    have bx_bg_vh1 : ∀ k, (.slice a_vh1 ps1.length c_vh1 : Value).ownBlock = some k → k ≠ X_bg := fun k h1 h2 => absurd bg_95.out.lt (Nat.not_lt.2 (by rw [← h2]; exact (o_vh1.lt k h1).1))
    have BX_bg_vh1 := Lib.hid bx_bg_vh1
    clear bx_bg_vh1
    have O_vh0 := Lib.hid (own_base o_vh0 (HB_95.out.size))
    have O_vh1 := Lib.hid (own_base o_vh1 (HB_95.out.size))
    have AP_vh0_vh1 := Lib.hid apm
    clear apm
    have HB_100 := Lib.hid (HB_95.out.trans (l99.mono HB_95.out.size))
    have vw0_100 := Lib.hid (own_below vw0_95.out l99 (Nat.le_refl _))
    clear vw0_95
    have vw1_100 := Lib.hid (own_below vw1_95.out l99 (Nat.le_refl _))
    clear vw1_95
    have vg0_100 := Lib.hid (own_below vg0_95.out l99 (Nat.le_refl _))
    clear vg0_95
    have vg1_100 := Lib.hid (own_below vg1_95.out l99 (Nat.le_refl _))
    clear vg1_95
    have t0_100 := Lib.hid (own_below O_t0.out l99 (Nat.le_refl _))
    clear O_t0
    have A_100 := Lib.hid (A_95.out.below l99 A_95.out.lt)
    clear A_95
    have bw_100 := Lib.hid (bw_95.out.below l99 bw_95.out.lt)
    clear bw_95
    have bg_100 := Lib.hid (bg_95.out.below l99 bg_95.out.lt)
    clear bg_95
    clear HB_95
    clear hc0_A_96 hc1_A_96 hc2_A_96
    obtain ⟨hc0_A_101, hc1_A_101, hc2_A_101⟩ := A_100.out.cells
    clear hc0_bw_97 hc1_bw_97 hc2_bw_97
    obtain ⟨hc0_bw_102, hc1_bw_102, hc2_bw_102⟩ := bw_100.out.cells
    clear hc0_bg_98 hc1_bg_98 hc2_bg_98
    obtain ⟨hc0_bg_103, hc1_bg_103, hc2_bg_103⟩ := bg_100.out.cells
    clear l99 o_vh0 o_vh1
    go_upto_region 29 with fail
    obtain ⟨W104, hW104⟩ : ∃ W104, W104 = W99.alloc (.cells #[.slice a_vh0 ps0.q.length c_vh0, .string ps0.f, .int .i64 ps0.u] 26) := ⟨_, rfl⟩
    have l104 : Below W99.heap.size W99 W104 := by rw [hW104]; exact (Below.refl _ _).alloc (Nat.le_refl _) _
    have bh_b104 : Hid (Bk W104 W99.heap.size (.slice a_vh0 ps0.q.length c_vh0) ps0.f ps0.u 26) := Lib.hid (by rw [hW104]; exact Bk.new _ _ _ _ _)
    rw [← hW104]
    clear hW104
    have BX_bh_vw0 : Hid (∀ k, (.slice a_vw0 ps0.q.length c_vw0 : Value).ownBlock = some k → k ≠ W99.heap.size) := Lib.hid (fun k h1 h2 => absurd (vw0_100.out.lt k h1).2 (by omega))
    have BX_bh_vw1 : Hid (∀ k, (.slice a_vw1 ps1.length c_vw1 : Value).ownBlock = some k → k ≠ W99.heap.size) := Lib.hid (fun k h1 h2 => absurd (vw1_100.out.lt k h1).2 (by omega))
    have BX_bh_vg0 : Hid (∀ k, (.slice a_vg0 ps0.q.length c_vg0 : Value).ownBlock = some k → k ≠ W99.heap.size) := Lib.hid (fun k h1 h2 => absurd (vg0_100.out.lt k h1).2 (by omega))
    have BX_bh_vg1 : Hid (∀ k, (.slice a_vg1 ps1.length c_vg1 : Value).ownBlock = some k → k ≠ W99.heap.size) := Lib.hid (fun k h1 h2 => absurd (vg1_100.out.lt k h1).2 (by omega))
    have BX_bh_t0 : Hid (∀ k, (.slice (some ⟨g_t0, 0, none⟩) z0.q.length z0.q.length : Value).ownBlock = some k → k ≠ W99.heap.size) := Lib.hid (fun k h1 h2 => absurd (t0_100.out.lt k h1).2 (by omega))
    have BX_bh_vh0 : Hid (∀ k, (.slice a_vh0 ps0.q.length c_vh0 : Value).ownBlock = some k → k ≠ W99.heap.size) := Lib.hid (fun k h1 h2 => absurd (O_vh0.out.lt k h1).2 (by omega))
    have BX_bh_vh1 : Hid (∀ k, (.slice a_vh1 ps1.length c_vh1 : Value).ownBlock = some k → k ≠ W99.heap.size) := Lib.hid (fun k h1 h2 => absurd (O_vh1.out.lt k h1).2 (by omega))
    obtain ⟨X_bh, hX_bh⟩ : ∃ X, X = W99.heap.size := ⟨_, rfl⟩
    rw [← hX_bh] at bh_b104 BX_bh_vw0 BX_bh_vw1 BX_bh_vg0 BX_bh_vg1 BX_bh_t0 BX_bh_vh0 BX_bh_vh1 ⊢
    clear hX_bh
    have HB_105 := Lib.hid (HB_100.out.trans (l104.mono HB_100.out.size))
    have vw0_105 := Lib.hid (own_below vw0_100.out l104 (Nat.le_refl _))
    clear vw0_100
    have vw1_105 := Lib.hid (own_below vw1_100.out l104 (Nat.le_refl _))
    clear vw1_100
    have vg0_105 := Lib.hid (own_below vg0_100.out l104 (Nat.le_refl _))
    clear vg0_100
    have vg1_105 := Lib.hid (own_below vg1_100.out l104 (Nat.le_refl _))
    clear vg1_100
    have t0_105 := Lib.hid (own_below t0_100.out l104 (Nat.le_refl _))
    clear t0_100
    have vh0_105 := Lib.hid (own_below O_vh0.out l104 (Nat.le_refl _))
    clear O_vh0
    have vh1_105 := Lib.hid (own_below O_vh1.out l104 (Nat.le_refl _))
    clear O_vh1
    have A_105 := Lib.hid (A_100.out.below l104 A_100.out.lt)
    clear A_100
    have bw_105 := Lib.hid (bw_100.out.below l104 bw_100.out.lt)
    clear bw_100
    have bg_105 := Lib.hid (bg_100.out.below l104 bg_100.out.lt)
    clear bg_100
    clear HB_100
    clear hc0_A_101 hc1_A_101 hc2_A_101
    obtain ⟨hc0_A_106, hc1_A_106, hc2_A_106⟩ := A_105.out.cells
    clear hc0_bw_102 hc1_bw_102 hc2_bw_102
    obtain ⟨hc0_bw_107, hc1_bw_107, hc2_bw_107⟩ := bw_105.out.cells
    clear hc0_bg_103 hc1_bg_103 hc2_bg_103
    obtain ⟨hc0_bg_108, hc1_bg_108, hc2_bg_108⟩ := bg_105.out.cells
    clear l104
    clear hc0_A_106 hc1_A_106 hc2_A_106
    obtain ⟨hc0_A_109, hc1_A_109, hc2_A_109⟩ := A_105.out.cells
    clear hc0_bw_107 hc1_bw_107 hc2_bw_107
    obtain ⟨hc0_bw_110, hc1_bw_110, hc2_bw_110⟩ := bw_105.out.cells
    clear hc0_bg_108 hc1_bg_108 hc2_bg_108
    obtain ⟨hc0_bg_111, hc1_bg_111, hc2_bg_111⟩ := bg_105.out.cells
    obtain ⟨hc0_bh_112, hc1_bh_112, hc2_bh_112⟩ := bh_b104.out.cells
    go_wp2_with fail
    refine (eqLink_same _ _ ps0 _ (row_own vh0_105.out) (row_own vw0_105.out)).mono ?_
    rintro e W113 ⟨rfl, l113⟩
    have HB_114 := Lib.hid (HB_105.out.trans (l113.mono HB_105.out.size))
    have vw0_114 := Lib.hid (own_below vw0_105.out l113 (Nat.le_refl _))
    clear vw0_105
    have vw1_114 := Lib.hid (own_below vw1_105.out l113 (Nat.le_refl _))
    clear vw1_105
    have vg0_114 := Lib.hid (own_below vg0_105.out l113 (Nat.le_refl _))
    clear vg0_105
    have vg1_114 := Lib.hid (own_below vg1_105.out l113 (Nat.le_refl _))
    clear vg1_105
    have t0_114 := Lib.hid (own_below t0_105.out l113 (Nat.le_refl _))
    clear t0_105
    have vh0_114 := Lib.hid (own_below vh0_105.out l113 (Nat.le_refl _))
    clear vh0_105
    have vh1_114 := Lib.hid (own_below vh1_105.out l113 (Nat.le_refl _))
    clear vh1_105
    have A_114 := Lib.hid (A_105.out.below l113 A_105.out.lt)
    clear A_105
    have bw_114 := Lib.hid (bw_105.out.below l113 bw_105.out.lt)
    clear bw_105
    have bg_114 := Lib.hid (bg_105.out.below l113 bg_105.out.lt)
    clear bg_105
    have bh_114 := Lib.hid (bh_b104.out.below l113 bh_b104.out.lt)
    clear bh_b104
    clear HB_105
    clear hc0_A_109 hc1_A_109 hc2_A_109
    obtain ⟨hc0_A_115, hc1_A_115, hc2_A_115⟩ := A_114.out.cells
    clear hc0_bw_110 hc1_bw_110 hc2_bw_110
    obtain ⟨hc0_bw_116, hc1_bw_116, hc2_bw_116⟩ := bw_114.out.cells
    clear hc0_bg_111 hc1_bg_111 hc2_bg_111
    obtain ⟨hc0_bg_117, hc1_bg_117, hc2_bg_117⟩ := bg_114.out.cells
    clear hc0_bh_112 hc1_bh_112 hc2_bh_112
    obtain ⟨hc0_bh_118, hc1_bh_118, hc2_bh_118⟩ := bh_114.out.cells
    clear l113
    go_wp2_with fail
    refine (eqStringS_any _ _ ps1 ps1 _ (row_own vh1_114.out) (row_own vw1_114.out)).mono ?_
    rintro e W119 ⟨rfl, k119, hw119⟩
    have l119 : Below W113.heap.size W113 W119 := by rw [hw119]; exact bdrew _ _
    clear hw119
    have HB_120 := Lib.hid (HB_114.out.trans (l119.mono HB_114.out.size))
    have vw0_120 := Lib.hid (own_below vw0_114.out l119 (Nat.le_refl _))
    clear vw0_114
    have vw1_120 := Lib.hid (own_below vw1_114.out l119 (Nat.le_refl _))
    clear vw1_114
    have vg0_120 := Lib.hid (own_below vg0_114.out l119 (Nat.le_refl _))
    clear vg0_114
    have vg1_120 := Lib.hid (own_below vg1_114.out l119 (Nat.le_refl _))
    clear vg1_114
    have t0_120 := Lib.hid (own_below t0_114.out l119 (Nat.le_refl _))
    clear t0_114
    have vh0_120 := Lib.hid (own_below vh0_114.out l119 (Nat.le_refl _))
    clear vh0_114
    have vh1_120 := Lib.hid (own_below vh1_114.out l119 (Nat.le_refl _))
    clear vh1_114
    have A_120 := Lib.hid (A_114.out.below l119 A_114.out.lt)
    clear A_114
    have bw_120 := Lib.hid (bw_114.out.below l119 bw_114.out.lt)
    clear bw_114
    have bg_120 := Lib.hid (bg_114.out.below l119 bg_114.out.lt)
    clear bg_114
    have bh_120 := Lib.hid (bh_114.out.below l119 bh_114.out.lt)
    clear bh_114
    clear HB_114
    clear hc0_A_115 hc1_A_115 hc2_A_115
    obtain ⟨hc0_A_121, hc1_A_121, hc2_A_121⟩ := A_120.out.cells
    clear hc0_bw_116 hc1_bw_116 hc2_bw_116
    obtain ⟨hc0_bw_122, hc1_bw_122, hc2_bw_122⟩ := bw_120.out.cells
    clear hc0_bg_117 hc1_bg_117 hc2_bg_117
    obtain ⟨hc0_bg_123, hc1_bg_123, hc2_bg_123⟩ := bg_120.out.cells
    clear hc0_bh_118 hc1_bh_118 hc2_bh_118
    obtain ⟨hc0_bh_124, hc1_bh_124, hc2_bh_124⟩ := bh_120.out.cells
    clear l119
    go_wp2_with fail
    refine (heldL_own _ _ _ ps0.q.length 1 _ _ vg0_120.out (by omega) (by have := HL0.out; have := HL1.out; have := HN0.out; omega)).mono ?_
    rintro e W125 ⟨rfl, l125⟩
    have HB_126 := Lib.hid (HB_120.out.trans (l125.mono HB_120.out.size))
    have vw0_126 := Lib.hid (own_below vw0_120.out l125 (Nat.le_refl _))
    clear vw0_120
    have vw1_126 := Lib.hid (own_below vw1_120.out l125 (Nat.le_refl _))
    clear vw1_120
    have vg0_126 := Lib.hid (own_below vg0_120.out l125 (Nat.le_refl _))
    clear vg0_120
    have vg1_126 := Lib.hid (own_below vg1_120.out l125 (Nat.le_refl _))
    clear vg1_120
    have t0_126 := Lib.hid (own_below t0_120.out l125 (Nat.le_refl _))
    clear t0_120
    have vh0_126 := Lib.hid (own_below vh0_120.out l125 (Nat.le_refl _))
    clear vh0_120
    have vh1_126 := Lib.hid (own_below vh1_120.out l125 (Nat.le_refl _))
    clear vh1_120
    have A_126 := Lib.hid (A_120.out.below l125 A_120.out.lt)
    clear A_120
    have bw_126 := Lib.hid (bw_120.out.below l125 bw_120.out.lt)
    clear bw_120
    have bg_126 := Lib.hid (bg_120.out.below l125 bg_120.out.lt)
    clear bg_120
    have bh_126 := Lib.hid (bh_120.out.below l125 bh_120.out.lt)
    clear bh_120
    clear HB_120
    clear hc0_A_121 hc1_A_121 hc2_A_121
    obtain ⟨hc0_A_127, hc1_A_127, hc2_A_127⟩ := A_126.out.cells
    clear hc0_bw_122 hc1_bw_122 hc2_bw_122
    obtain ⟨hc0_bw_128, hc1_bw_128, hc2_bw_128⟩ := bw_126.out.cells
    clear hc0_bg_123 hc1_bg_123 hc2_bg_123
    obtain ⟨hc0_bg_129, hc1_bg_129, hc2_bg_129⟩ := bg_126.out.cells
    clear hc0_bh_124 hc1_bh_124 hc2_bh_124
    obtain ⟨hc0_bh_130, hc1_bh_130, hc2_bh_130⟩ := bh_126.out.cells
    clear l125
    go_wp2_with fail
    refine (heldS_own _ ps1.length (1 + ps0.q.length) _ _ vg1_126.out (by omega) (by have := HL0.out; have := HL1.out; have := HN0.out; omega)).mono ?_
    rintro e W131 ⟨rfl, lg131⟩
    have l131 := below_none lg131
    clear lg131
    have HB_132 := Lib.hid (HB_126.out.trans (l131.mono HB_126.out.size))
    have vw0_132 := Lib.hid (own_below vw0_126.out l131 (Nat.le_refl _))
    clear vw0_126
    have vw1_132 := Lib.hid (own_below vw1_126.out l131 (Nat.le_refl _))
    clear vw1_126
    have vg0_132 := Lib.hid (own_below vg0_126.out l131 (Nat.le_refl _))
    clear vg0_126
    have vg1_132 := Lib.hid (own_below vg1_126.out l131 (Nat.le_refl _))
    clear vg1_126
    have t0_132 := Lib.hid (own_below t0_126.out l131 (Nat.le_refl _))
    clear t0_126
    have vh0_132 := Lib.hid (own_below vh0_126.out l131 (Nat.le_refl _))
    clear vh0_126
    have vh1_132 := Lib.hid (own_below vh1_126.out l131 (Nat.le_refl _))
    clear vh1_126
    have A_132 := Lib.hid (A_126.out.below l131 A_126.out.lt)
    clear A_126
    have bw_132 := Lib.hid (bw_126.out.below l131 bw_126.out.lt)
    clear bw_126
    have bg_132 := Lib.hid (bg_126.out.below l131 bg_126.out.lt)
    clear bg_126
    have bh_132 := Lib.hid (bh_126.out.below l131 bh_126.out.lt)
    clear bh_126
    clear HB_126
    clear hc0_A_127 hc1_A_127 hc2_A_127
    obtain ⟨hc0_A_133, hc1_A_133, hc2_A_133⟩ := A_132.out.cells
    clear hc0_bw_128 hc1_bw_128 hc2_bw_128
    obtain ⟨hc0_bw_134, hc1_bw_134, hc2_bw_134⟩ := bw_132.out.cells
    clear hc0_bg_129 hc1_bg_129 hc2_bg_129
    obtain ⟨hc0_bg_135, hc1_bg_135, hc2_bg_135⟩ := bg_132.out.cells
    clear hc0_bh_130 hc1_bh_130 hc2_bh_130
    obtain ⟨hc0_bh_136, hc1_bh_136, hc2_bh_136⟩ := bh_132.out.cells
    clear l131
    go_wp2_with fail
    go_ret
    exact ⟨rfl, HB_132.out⟩
theorem fnExactDrain_walk (w : World) (v0_0 : Value) (s0_0 : List ByteArray) (w0_0 : Row w v0_0 s0_0.length (s0_0.map Value.string)) (b0_0 : ∀ s ∈ s0_0, s.size ≤ maxLen) (a0_1 : ByteArray) (w0_1 : a0_1.size ≤ maxLen) (a0_2 : Int) (w0_2 : (Lit.int .i64 a0_2).wf = true) (_hsh : w.ShapedOpen Try.prog) :
    Calls Try.prog 12 #[.agg #[v0_0, .string a0_1, .int .i64 a0_2]] w fun e w' => e = .returned (.bool true) ∧ Below w.heap.size w w' :=
  fnExactDrain_wk w v0_0 ⟨s0_0, a0_1, a0_2⟩ w0_0 b0_0 w0_1
end Go.Proofs.Ytbhhmaialilabaa
