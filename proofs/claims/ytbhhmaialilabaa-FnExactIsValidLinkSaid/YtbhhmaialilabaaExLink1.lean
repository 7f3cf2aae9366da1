/-
  The exact laws of links that read: validity, the next letter.
-/
import Derived.Test.YtbhhmaialilabaaLinkI2
import Derived.Test.YtbhhmaialilabaaExLinkB
import Derived.WalkLawsBesides
import Derived.Deep.RegionHeld3
import Derived.Deep.CutRange
namespace Go.Proofs.Ytbhhmaialilabaa
open Go.RowKit Go.Lib Go.Joins
set_option linter.unusedVariables false

set_option maxRecDepth 100000 in
set_option maxHeartbeats 8000000 in
theorem fnExactIsValidLink_wk (w : World) (v0 : Value) (z0 : Lk) (w0 : Row w v0 z0.q.length (z0.q.map Value.string)) (b0 : ∀ s ∈ z0.q, s.size ≤ maxLen) (c0 : z0.f.size ≤ maxLen) :
    Calls Try.prog 5 #[.agg #[v0, .string z0.f, .int .i64 z0.u]] w fun e w' => e = .returned (.bool true) ∧ Below w.heap.size w w' := by
  obtain ⟨p0, cap0, rfl, hc10, hc20, _⟩ := row_open w0
  unfold maxLen at hc20
  obtain ⟨W0, hW0⟩ : ∃ W0, W0 = w.alloc (.cells #[.slice p0 z0.q.length cap0, .string z0.f, .int .i64 z0.u] 55) := ⟨_, rfl⟩
  have HA0 : Hid (Bk W0 w.heap.size (.slice p0 z0.q.length cap0) z0.f z0.u 55) := Lib.hid (by rw [hW0]; exact Bk.new w _ _ _ _)
  have HB0 : Hid (Below w.heap.size w W0) := Lib.hid (by rw [hW0]; exact (Below.refl w.heap.size w).alloc (Nat.le_refl _) _)
  have HW0 := Lib.hid hW0
  clear hW0
  obtain ⟨R0, hR0⟩ : ∃ R0, R0 = w.heap.size := ⟨_, rfl⟩
  rw [← hR0] at HA0
  have HQ0 := Lib.hid hR0
  clear hR0
  have HR0 := Lib.hid w0
  have HSz := Lib.hid (fun (W : World) (hr : Row W (.slice p0 z0.q.length cap0) z0.q.length (z0.q.map Value.string)) => szLink_any (.slice p0 z0.q.length cap0) z0 W hr b0 c0 1048576 (by omega))
  clear w0 b0 c0
  go_enter Try.func5, Try.ntmps5
  go_upto_region 1 with fail
  rw [← HW0.out, ← HQ0.out]
  obtain ⟨hc0_A_1, hc1_A_1, hc2_A_1⟩ := HA0.out.cells
  go_wp2_with fail
  refine (HSz.out _ (HR0.out.below HB0.out (Nat.le_refl _))).mono ?_
  rintro e W2 ⟨l2, r0, rfl, hr1, hr0⟩
  have HB_3 := Lib.hid (HB0.out.trans (l2.mono HB0.out.size))
  have A_3 := Lib.hid (HA0.out.below l2 HA0.out.lt)
  clear HA0
  clear HB0
  clear hc0_A_1 hc1_A_1 hc2_A_1
  obtain ⟨hc0_A_4, hc1_A_4, hc2_A_4⟩ := A_3.out.cells
  clear l2
  by_cases hneg : r0 < 0
  · clear hr0
    go_wp2_with fail
    go_ret
    exact ⟨rfl, HB_3.out⟩
  obtain ⟨hm0, hs0, hf0, hr00⟩ := hr0.resolve_left hneg
  have HN0 := Lib.hid hm0
  have HF0 := Lib.hid hf0
  clear hr0 hs0 HSz
  have hm0' := hm0
  have hf0' := hf0
  have HSp := Lib.hid (fun (g0 : Nat) (W : World) (h0 : Row W (.slice (some ⟨g0, 0, none⟩) z0.q.length z0.q.length) z0.q.length (z0.q.map Value.string)) => specIsLink_any (.slice (some ⟨g0, 0, none⟩) z0.q.length z0.q.length) z0 W h0 (by omega))
  have HIm := Lib.hid (fun (g0 : Nat) (W : World) (h0 : Row W (.slice (some ⟨g0, 0, none⟩) z0.q.length z0.q.length) z0.q.length (z0.q.map Value.string)) => implIsLink_any (.slice (some ⟨g0, 0, none⟩) z0.q.length z0.q.length) z0 W h0)
  generalize lkOk z0 = r0 at HSp HIm
  clear hm0 hf0 hm0' hf0'
  go_wp2_with fail
  refine (toLink_lit _ z0 _ (HR0.out.below HB_3.out (Nat.le_refl _)) HN0.out).mono ?_
  rintro e W5 ⟨g_s0, rfl, o_s0, l5⟩
  have bx_A_s0 : ∀ k, (.slice (some ⟨g_s0, 0, none⟩) z0.q.length z0.q.length : Value).ownBlock = some k → k ≠ R0 := fun k h1 h2 => absurd A_3.out.lt (Nat.not_lt.2 (by rw [← h2]; exact (o_s0.lt k h1).1))
  have BX_A_s0 := Lib.hid bx_A_s0
  clear bx_A_s0
  have O_s0 := Lib.hid (own_base o_s0 (HB_3.out.size))
  have HB_6 := Lib.hid (HB_3.out.trans (l5.mono HB_3.out.size))
  have A_6 := Lib.hid (A_3.out.below l5 A_3.out.lt)
  clear A_3
  clear HB_3
  clear hc0_A_4 hc1_A_4 hc2_A_4
  obtain ⟨hc0_A_7, hc1_A_7, hc2_A_7⟩ := A_6.out.cells
  clear o_s0 l5
  go_wp2_with fail
  refine (HSp.out g_s0 _ (row_own O_s0.out)).mono ?_
  rintro e W8 ⟨rfl, l8⟩
  have HB_9 := Lib.hid (HB_6.out.trans (l8.mono HB_6.out.size))
  have s0_9 := Lib.hid (own_below O_s0.out l8 (Nat.le_refl _))
  clear O_s0
  have A_9 := Lib.hid (A_6.out.below l8 A_6.out.lt)
  clear A_6
  clear HB_6
  clear hc0_A_7 hc1_A_7 hc2_A_7
  obtain ⟨hc0_A_10, hc1_A_10, hc2_A_10⟩ := A_9.out.cells
  clear l8
  clear s0_9
  go_wp2_with fail
  refine (toLink_lit _ z0 _ (HR0.out.below HB_9.out (Nat.le_refl _)) HN0.out).mono ?_
  rintro e W11 ⟨g_x0, rfl, o_x0, l11⟩
  have bx_A_x0 : ∀ k, (.slice (some ⟨g_x0, 0, none⟩) z0.q.length z0.q.length : Value).ownBlock = some k → k ≠ R0 := fun k h1 h2 => absurd A_9.out.lt (Nat.not_lt.2 (by rw [← h2]; exact (o_x0.lt k h1).1))
  have BX_A_x0 := Lib.hid bx_A_x0
  clear bx_A_x0
  have O_x0 := Lib.hid (own_base o_x0 (HB_9.out.size))
  have HB_12 := Lib.hid (HB_9.out.trans (l11.mono HB_9.out.size))
  have A_12 := Lib.hid (A_9.out.below l11 A_9.out.lt)
  clear A_9
  clear HB_9
  clear hc0_A_10 hc1_A_10 hc2_A_10
  obtain ⟨hc0_A_13, hc1_A_13, hc2_A_13⟩ := A_12.out.cells
  clear o_x0 l11
  go_upto_region 7 with fail
  obtain ⟨W14, hW14⟩ : ∃ W14, W14 = W11.alloc (.cells #[.slice (some ⟨g_x0, 0, none⟩) z0.q.length z0.q.length, .string z0.f, .int .i64 z0.u] 26) := ⟨_, rfl⟩
  have l14 : Below W11.heap.size W11 W14 := by rw [hW14]; exact (Below.refl _ _).alloc (Nat.le_refl _) _
  have bx_b14 : Hid (Bk W14 W11.heap.size (.slice (some ⟨g_x0, 0, none⟩) z0.q.length z0.q.length) z0.f z0.u 26) := Lib.hid (by rw [hW14]; exact Bk.new _ _ _ _ _)
  rw [← hW14]
  clear hW14
  have BX_bx_x0 : Hid (∀ k, (.slice (some ⟨g_x0, 0, none⟩) z0.q.length z0.q.length : Value).ownBlock = some k → k ≠ W11.heap.size) := Lib.hid (fun k h1 h2 => absurd (O_x0.out.lt k h1).2 (by omega))
  obtain ⟨X_bx, hX_bx⟩ : ∃ X, X = W11.heap.size := ⟨_, rfl⟩
  rw [← hX_bx] at bx_b14 BX_bx_x0 ⊢
  clear hX_bx
  have HB_15 := Lib.hid (HB_12.out.trans (l14.mono HB_12.out.size))
  have x0_15 := Lib.hid (own_below O_x0.out l14 (Nat.le_refl _))
  clear O_x0
  have A_15 := Lib.hid (A_12.out.below l14 A_12.out.lt)
  clear A_12
  clear HB_12
  clear hc0_A_13 hc1_A_13 hc2_A_13
  obtain ⟨hc0_A_16, hc1_A_16, hc2_A_16⟩ := A_15.out.cells
  clear l14
  clear hc0_A_16 hc1_A_16 hc2_A_16
  obtain ⟨hc0_A_17, hc1_A_17, hc2_A_17⟩ := A_15.out.cells
  obtain ⟨hc0_bx_18, hc1_bx_18, hc2_bx_18⟩ := bx_b14.out.cells
  go_wp2_with fail
  refine (HIm.out g_x0 _ (row_own x0_15.out)).mono ?_
  rintro e W19 ⟨rfl, l19⟩
  have HB_20 := Lib.hid (HB_15.out.trans (l19.mono HB_15.out.size))
  have x0_20 := Lib.hid (own_below x0_15.out l19 (Nat.le_refl _))
  clear x0_15
  have A_20 := Lib.hid (A_15.out.below l19 A_15.out.lt)
  clear A_15
  have bx_20 := Lib.hid (bx_b14.out.below l19 bx_b14.out.lt)
  clear bx_b14
  clear HB_15
  clear hc0_A_17 hc1_A_17 hc2_A_17
  obtain ⟨hc0_A_21, hc1_A_21, hc2_A_21⟩ := A_20.out.cells
  clear hc0_bx_18 hc1_bx_18 hc2_bx_18
  obtain ⟨hc0_bx_22, hc1_bx_22, hc2_bx_22⟩ := bx_20.out.cells
  clear l19
  go_upto_region 10 with fail
  go_cut [26] from 22 to 26 (fun b wx => b = .bool false ∧ Hid (Below W19.heap.size W19 wx))
  case first => as_aux_lemma =>
    go_region_held3 (fun w' => w'.cell? ⟨X_bx, 0, none⟩ = some (.slice (some ⟨g_x0, 0, none⟩) z0.q.length z0.q.length) ∧ w'.cell? ⟨X_bx, 1, none⟩ = some (.string z0.f) ∧ w'.cell? ⟨X_bx, 2, none⟩ = some (.int .i64 z0.u) ∧ w'.cell? ⟨R0, 0, none⟩ = some (.slice p0 z0.q.length cap0) ∧ w'.cell? ⟨R0, 1, none⟩ = some (.string z0.f) ∧ w'.cell? ⟨R0, 2, none⟩ = some (.int .i64 z0.u) ∧ Below W19.heap.size W19 w')
      ((refine keep_links bx_20.out A_20.out ?_; repeat (first | assumption | exact Below.refl _ _ | refine Below.drew ?_)))
      (first
        | (go_at_call 45; refine (toLink_lit _ z0 _ (HR0.out.below (HB_20.out.trans ((by repeat (first | assumption | exact Below.refl _ _ | refine Below.drew ?_) : Below W19.heap.size W19 _).mono HB_20.out.size)) (Nat.le_refl _)) HN0.out).mono ?_; rintro e w5 ⟨g5, rfl, o5, l5⟩; have hb5 := below_call7 (by repeat (first | assumption | exact Below.refl _ _ | refine Below.drew ?_) : Below W19.heap.size W19 _) l5; have ho5 := row_own o5; clear o5 l5)
        | (go_at_call 46; refine (eqLink_same _ _ z0 _ ((row_own x0_20.out).below hb5 (Nat.le_refl _)) ho5).mono ?_; rintro e w6 ⟨rfl, l6⟩; have hb6 := below_call7 hb5 l6; clear l6))
    all_goals go_wp2_with fail
    all_goals go_meet
    all_goals
      case rel => exact ⟨by simp, Lib.hid (by repeat (first | assumption | exact Below.refl _ _ | refine Below.drew ?_))⟩
  case rest =>
    obtain ⟨rfl, HCut⟩ := hcut
    rename World => W23
    have l23 := HCut.out
    clear HCut
    have HB_24 := Lib.hid (HB_20.out.trans (l23.mono HB_20.out.size))
    have x0_24 := Lib.hid (own_below x0_20.out l23 (Nat.le_refl _))
    clear x0_20
    have A_24 := Lib.hid (A_20.out.below l23 A_20.out.lt)
    clear A_20
    have bx_24 := Lib.hid (bx_20.out.below l23 bx_20.out.lt)
    clear bx_20
    clear HB_20
    clear hc0_A_21 hc1_A_21 hc2_A_21
    obtain ⟨hc0_A_25, hc1_A_25, hc2_A_25⟩ := A_24.out.cells
    clear hc0_bx_22 hc1_bx_22 hc2_bx_22
    obtain ⟨hc0_bx_26, hc1_bx_26, hc2_bx_26⟩ := bx_24.out.cells
    clear l23
    go_wp2_with fail
    go_ret
    exact ⟨rfl, HB_24.out⟩
theorem fnExactIsValidLink_walk (w : World) (v0_0 : Value) (s0_0 : List ByteArray) (w0_0 : Row w v0_0 s0_0.length (s0_0.map Value.string)) (b0_0 : ∀ s ∈ s0_0, s.size ≤ maxLen) (a0_1 : ByteArray) (w0_1 : a0_1.size ≤ maxLen) (a0_2 : Int) (w0_2 : (Lit.int .i64 a0_2).wf = true) (_hsh : w.ShapedOpen Try.prog) :
    Calls Try.prog 5 #[.agg #[v0_0, .string a0_1, .int .i64 a0_2]] w fun e w' => e = .returned (.bool true) ∧ Below w.heap.size w w' :=
  fnExactIsValidLink_wk w v0_0 ⟨s0_0, a0_1, a0_2⟩ w0_0 b0_0 w0_1
set_option maxRecDepth 100000 in
set_option maxHeartbeats 8000000 in
theorem fnExactNextFate_wk (w : World) (v0 : Value) (z0 : Lk) (w0 : Row w v0 z0.q.length (z0.q.map Value.string)) (b0 : ∀ s ∈ z0.q, s.size ≤ maxLen) (c0 : z0.f.size ≤ maxLen) :
    Calls Try.prog 10 #[.agg #[v0, .string z0.f, .int .i64 z0.u]] w fun e w' => e = .returned (.bool true) ∧ Below w.heap.size w w' := by
  obtain ⟨p0, cap0, rfl, hc10, hc20, _⟩ := row_open w0
  unfold maxLen at hc20
  obtain ⟨W0, hW0⟩ : ∃ W0, W0 = w.alloc (.cells #[.slice p0 z0.q.length cap0, .string z0.f, .int .i64 z0.u] 55) := ⟨_, rfl⟩
  have HA0 : Hid (Bk W0 w.heap.size (.slice p0 z0.q.length cap0) z0.f z0.u 55) := Lib.hid (by rw [hW0]; exact Bk.new w _ _ _ _)
  have HB0 : Hid (Below w.heap.size w W0) := Lib.hid (by rw [hW0]; exact (Below.refl w.heap.size w).alloc (Nat.le_refl _) _)
  have HW0 := Lib.hid hW0
  clear hW0
  obtain ⟨R0, hR0⟩ : ∃ R0, R0 = w.heap.size := ⟨_, rfl⟩
  rw [← hR0] at HA0
  have HQ0 := Lib.hid hR0
  clear hR0
  have HR0 := Lib.hid w0
  have HSz := Lib.hid (fun (W : World) (hr : Row W (.slice p0 z0.q.length cap0) z0.q.length (z0.q.map Value.string)) => szLink_any (.slice p0 z0.q.length cap0) z0 W hr b0 c0 1048576 (by omega))
  clear w0 b0 c0
  go_enter Try.func10, Try.ntmps10
  go_upto_region 1 with fail
  rw [← HW0.out, ← HQ0.out]
  obtain ⟨hc0_A_1, hc1_A_1, hc2_A_1⟩ := HA0.out.cells
  go_wp2_with fail
  refine (HSz.out _ (HR0.out.below HB0.out (Nat.le_refl _))).mono ?_
  rintro e W2 ⟨l2, r0, rfl, hr1, hr0⟩
  have HB_3 := Lib.hid (HB0.out.trans (l2.mono HB0.out.size))
  have A_3 := Lib.hid (HA0.out.below l2 HA0.out.lt)
  clear HA0
  clear HB0
  clear hc0_A_1 hc1_A_1 hc2_A_1
  obtain ⟨hc0_A_4, hc1_A_4, hc2_A_4⟩ := A_3.out.cells
  clear l2
  by_cases hneg : r0 < 0
  · clear hr0
    go_wp2_with fail
    go_ret
    exact ⟨rfl, HB_3.out⟩
  obtain ⟨hm0, hs0, hf0, hr00⟩ := hr0.resolve_left hneg
  have HN0 := Lib.hid hm0
  have HF0 := Lib.hid hf0
  clear hr0 hs0 HSz
  have hm0' := hm0
  have hf0' := hf0
  have HSp := Lib.hid (fun (g0 : Nat) (W : World) (h0 : Row W (.slice (some ⟨g0, 0, none⟩) z0.q.length z0.q.length) z0.q.length (z0.q.map Value.string)) => specNextFate_any (.slice (some ⟨g0, 0, none⟩) z0.q.length z0.q.length) z0 W h0 (by omega))
  have HIm := Lib.hid (fun (g0 : Nat) (W : World) (h0 : Row W (.slice (some ⟨g0, 0, none⟩) z0.q.length z0.q.length) z0.q.length (z0.q.map Value.string)) => implNextFate_any (.slice (some ⟨g0, 0, none⟩) z0.q.length z0.q.length) z0 W h0)
  generalize ((nextFate z0).toNat : Int) = r0 at HSp HIm
  generalize lkOk z0 = r1 at HSp HIm
  clear hm0 hf0 hm0' hf0'
  go_wp2_with fail
  refine (toLink_lit _ z0 _ (HR0.out.below HB_3.out (Nat.le_refl _)) HN0.out).mono ?_
  rintro e W5 ⟨g_s0, rfl, o_s0, l5⟩
  have bx_A_s0 : ∀ k, (.slice (some ⟨g_s0, 0, none⟩) z0.q.length z0.q.length : Value).ownBlock = some k → k ≠ R0 := fun k h1 h2 => absurd A_3.out.lt (Nat.not_lt.2 (by rw [← h2]; exact (o_s0.lt k h1).1))
  have BX_A_s0 := Lib.hid bx_A_s0
  clear bx_A_s0
  have O_s0 := Lib.hid (own_base o_s0 (HB_3.out.size))
  have HB_6 := Lib.hid (HB_3.out.trans (l5.mono HB_3.out.size))
  have A_6 := Lib.hid (A_3.out.below l5 A_3.out.lt)
  clear A_3
  clear HB_3
  clear hc0_A_4 hc1_A_4 hc2_A_4
  obtain ⟨hc0_A_7, hc1_A_7, hc2_A_7⟩ := A_6.out.cells
  clear o_s0 l5
  go_wp2_with fail
  refine (HSp.out g_s0 _ (row_own O_s0.out)).mono ?_
  rintro e W8 ⟨rfl, l8⟩
  have HB_9 := Lib.hid (HB_6.out.trans (l8.mono HB_6.out.size))
  have s0_9 := Lib.hid (own_below O_s0.out l8 (Nat.le_refl _))
  clear O_s0
  have A_9 := Lib.hid (A_6.out.below l8 A_6.out.lt)
  clear A_6
  clear HB_6
  clear hc0_A_7 hc1_A_7 hc2_A_7
  obtain ⟨hc0_A_10, hc1_A_10, hc2_A_10⟩ := A_9.out.cells
  clear l8
  clear s0_9
  go_wp2_with fail
  refine (toLink_lit _ z0 _ (HR0.out.below HB_9.out (Nat.le_refl _)) HN0.out).mono ?_
  rintro e W11 ⟨g_x0, rfl, o_x0, l11⟩
  have bx_A_x0 : ∀ k, (.slice (some ⟨g_x0, 0, none⟩) z0.q.length z0.q.length : Value).ownBlock = some k → k ≠ R0 := fun k h1 h2 => absurd A_9.out.lt (Nat.not_lt.2 (by rw [← h2]; exact (o_x0.lt k h1).1))
  have BX_A_x0 := Lib.hid bx_A_x0
  clear bx_A_x0
  have O_x0 := Lib.hid (own_base o_x0 (HB_9.out.size))
  have HB_12 := Lib.hid (HB_9.out.trans (l11.mono HB_9.out.size))
  have A_12 := Lib.hid (A_9.out.below l11 A_9.out.lt)
  clear A_9
  clear HB_9
  clear hc0_A_10 hc1_A_10 hc2_A_10
  obtain ⟨hc0_A_13, hc1_A_13, hc2_A_13⟩ := A_12.out.cells
  clear o_x0 l11
  go_upto_region 7 with fail
  obtain ⟨W14, hW14⟩ : ∃ W14, W14 = W11.alloc (.cells #[.slice (some ⟨g_x0, 0, none⟩) z0.q.length z0.q.length, .string z0.f, .int .i64 z0.u] 26) := ⟨_, rfl⟩
  have l14 : Below W11.heap.size W11 W14 := by rw [hW14]; exact (Below.refl _ _).alloc (Nat.le_refl _) _
  have bx_b14 : Hid (Bk W14 W11.heap.size (.slice (some ⟨g_x0, 0, none⟩) z0.q.length z0.q.length) z0.f z0.u 26) := Lib.hid (by rw [hW14]; exact Bk.new _ _ _ _ _)
  rw [← hW14]
  clear hW14
  have BX_bx_x0 : Hid (∀ k, (.slice (some ⟨g_x0, 0, none⟩) z0.q.length z0.q.length : Value).ownBlock = some k → k ≠ W11.heap.size) := Lib.hid (fun k h1 h2 => absurd (O_x0.out.lt k h1).2 (by omega))
  obtain ⟨X_bx, hX_bx⟩ : ∃ X, X = W11.heap.size := ⟨_, rfl⟩
  rw [← hX_bx] at bx_b14 BX_bx_x0 ⊢
  clear hX_bx
  have HB_15 := Lib.hid (HB_12.out.trans (l14.mono HB_12.out.size))
  have x0_15 := Lib.hid (own_below O_x0.out l14 (Nat.le_refl _))
  clear O_x0
  have A_15 := Lib.hid (A_12.out.below l14 A_12.out.lt)
  clear A_12
  clear HB_12
  clear hc0_A_13 hc1_A_13 hc2_A_13
  obtain ⟨hc0_A_16, hc1_A_16, hc2_A_16⟩ := A_15.out.cells
  clear l14
  clear hc0_A_16 hc1_A_16 hc2_A_16
  obtain ⟨hc0_A_17, hc1_A_17, hc2_A_17⟩ := A_15.out.cells
  obtain ⟨hc0_bx_18, hc1_bx_18, hc2_bx_18⟩ := bx_b14.out.cells
  go_wp2_with fail
  refine (HIm.out g_x0 _ (row_own x0_15.out)).mono ?_
  rintro e W19 ⟨rfl, l19⟩
  have HB_20 := Lib.hid (HB_15.out.trans (l19.mono HB_15.out.size))
  have x0_20 := Lib.hid (own_below x0_15.out l19 (Nat.le_refl _))
  clear x0_15
  have A_20 := Lib.hid (A_15.out.below l19 A_15.out.lt)
  clear A_15
  have bx_20 := Lib.hid (bx_b14.out.below l19 bx_b14.out.lt)
  clear bx_b14
  clear HB_15
  clear hc0_A_17 hc1_A_17 hc2_A_17
  obtain ⟨hc0_A_21, hc1_A_21, hc2_A_21⟩ := A_20.out.cells
  clear hc0_bx_18 hc1_bx_18 hc2_bx_18
  obtain ⟨hc0_bx_22, hc1_bx_22, hc2_bx_22⟩ := bx_20.out.cells
  clear l19
  go_upto_region 10 with fail
  go_cut [39] from 35 to 39 (fun b wx => b = .bool false ∧ Hid (Below W19.heap.size W19 wx))
  case first => as_aux_lemma =>
    go_region_held3 (fun w' => w'.cell? ⟨X_bx, 0, none⟩ = some (.slice (some ⟨g_x0, 0, none⟩) z0.q.length z0.q.length) ∧ w'.cell? ⟨X_bx, 1, none⟩ = some (.string z0.f) ∧ w'.cell? ⟨X_bx, 2, none⟩ = some (.int .i64 z0.u) ∧ w'.cell? ⟨R0, 0, none⟩ = some (.slice p0 z0.q.length cap0) ∧ w'.cell? ⟨R0, 1, none⟩ = some (.string z0.f) ∧ w'.cell? ⟨R0, 2, none⟩ = some (.int .i64 z0.u) ∧ Below W19.heap.size W19 w')
      ((refine keep_links bx_20.out A_20.out ?_; repeat (first | assumption | exact Below.refl _ _ | refine Below.drew ?_)))
      (first
        | (go_at_call 45; refine (toLink_lit _ z0 _ (HR0.out.below (HB_20.out.trans ((by repeat (first | assumption | exact Below.refl _ _ | refine Below.drew ?_) : Below W19.heap.size W19 _).mono HB_20.out.size)) (Nat.le_refl _)) HN0.out).mono ?_; rintro e w5 ⟨g5, rfl, o5, l5⟩; have hb5 := below_call7 (by repeat (first | assumption | exact Below.refl _ _ | refine Below.drew ?_) : Below W19.heap.size W19 _) l5; have ho5 := row_own o5; clear o5 l5)
        | (go_at_call 46; refine (eqLink_same _ _ z0 _ ((row_own x0_20.out).below hb5 (Nat.le_refl _)) ho5).mono ?_; rintro e w6 ⟨rfl, l6⟩; have hb6 := below_call7 hb5 l6; clear l6))
    all_goals go_wp2_with fail
    all_goals go_meet
    all_goals
      case rel => exact ⟨by simp, Lib.hid (by repeat (first | assumption | exact Below.refl _ _ | refine Below.drew ?_))⟩
  case rest =>
    obtain ⟨rfl, HCut⟩ := hcut
    rename World => W23
    have l23 := HCut.out
    clear HCut
    have HB_24 := Lib.hid (HB_20.out.trans (l23.mono HB_20.out.size))
    have x0_24 := Lib.hid (own_below x0_20.out l23 (Nat.le_refl _))
    clear x0_20
    have A_24 := Lib.hid (A_20.out.below l23 A_20.out.lt)
    clear A_20
    have bx_24 := Lib.hid (bx_20.out.below l23 bx_20.out.lt)
    clear bx_20
    clear HB_20
    clear hc0_A_21 hc1_A_21 hc2_A_21
    obtain ⟨hc0_A_25, hc1_A_25, hc2_A_25⟩ := A_24.out.cells
    clear hc0_bx_22 hc1_bx_22 hc2_bx_22
    obtain ⟨hc0_bx_26, hc1_bx_26, hc2_bx_26⟩ := bx_24.out.cells
    clear l23
    go_wp2_with fail
    go_ret
    exact ⟨rfl, HB_24.out⟩
theorem fnExactNextFate_walk (w : World) (v0_0 : Value) (s0_0 : List ByteArray) (w0_0 : Row w v0_0 s0_0.length (s0_0.map Value.string)) (b0_0 : ∀ s ∈ s0_0, s.size ≤ maxLen) (a0_1 : ByteArray) (w0_1 : a0_1.size ≤ maxLen) (a0_2 : Int) (w0_2 : (Lit.int .i64 a0_2).wf = true) (_hsh : w.ShapedOpen Try.prog) :
    Calls Try.prog 10 #[.agg #[v0_0, .string a0_1, .int .i64 a0_2]] w fun e w' => e = .returned (.bool true) ∧ Below w.heap.size w w' :=
  fnExactNextFate_wk w v0_0 ⟨s0_0, a0_1, a0_2⟩ w0_0 b0_0 w0_1
end Go.Proofs.Ytbhhmaialilabaa
