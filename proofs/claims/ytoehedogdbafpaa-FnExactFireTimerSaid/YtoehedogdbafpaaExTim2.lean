/-
  The exact laws of timers that are stopped or fire, and of those that are due.
-/
import Derived.Test.YtoehedogdbafpaaExTimB
import Derived.WalkLawsBesides
import Derived.Deep.RegionHeld3
import Derived.Deep.CutRange
namespace Go.Proofs.Ytoehedogdbafpaa
open Go.RowKit Go.Lib Go.Joins
set_option linter.unusedVariables false

set_option maxRecDepth 100000 in
set_option maxHeartbeats 4000000 in
theorem fnExactStopTimer_walk (w : World) (v0 : Value) (z0 : List Tm) (w0 : Row w v0 z0.length (tmF z0)) (b0 : ∀ r ∈ z0, (Lit.int .i64 r.i).wf = true ∧ (Lit.int .i64 r.d).wf = true ∧ (Lit.int .i64 r.p).wf = true) (a1 : Int) (w1 : (Lit.int .i64 a1).wf = true) (_hsh : w.ShapedOpen Try.prog) :
    Calls Try.prog 7 #[v0, .int .i64 a1] w fun e w' => e = .returned (.bool true) ∧ Below w.heap.size w w' := by
  obtain ⟨p0, cap0, rfl, hc10, hc20, _⟩ := tm_open w0
  unfold maxLen at hc20
  by_cases hn0 : (z0.length : Int) ≤ 1048576
  rotate_left
  · have HN0 := Lib.hid (fun (W : World) => szT_no p0 z0.length cap0 (1048576) W (by omega) (by omega) (by omega))
    go_enter Try.func7, Try.ntmps7
    go_wp2_with fail
    refine (HN0.out _).mono ?_
    rintro e W ⟨rfl, rfl⟩
    go_wp2_with fail
    go_ret
    exact ⟨rfl, Below.refl _ _⟩
  have HY0 := Lib.hid (fun (W : World) => szT_yes p0 z0.length cap0 (1048576) W (by omega) (by omega))
  have hl0 : ¬ ((1048576) - (z0.length : Int) < 0) := by omega
  have hm0 : z0.length ≤ 1048576 := by omega
  have HZ0 := Lib.hid w0
  have HN0 := Lib.hid hm0
  clear w0 b0
  have HSp := Lib.hid (fun (g0 : Nat) (W : World) (h0 : Row W (.slice (some ⟨g0, 0, none⟩) z0.length z0.length) z0.length (tmF z0)) => specStopT_any (.slice (some ⟨g0, 0, none⟩) z0.length z0.length) z0 a1 W h0)
  have HIm := Lib.hid (fun (g0 : Nat) (W : World) (h0 : Row W (.slice (some ⟨g0, 0, none⟩) z0.length z0.length) z0.length (tmF z0)) => implStopT_any (.slice (some ⟨g0, 0, none⟩) z0.length z0.length) z0 a1 W h0)
  have hlen0 := stopV_len z0 a1
  generalize stopV z0 a1 = ps0 at HSp HIm hlen0
  have HL0 := Lib.hid hlen0
  clear hlen0
  generalize stopOk z0 a1 = r0 at HSp HIm
  go_enter Try.func7, Try.ntmps7
  go_wp2_with fail
  refine (HY0.out _).mono ?_
  rintro e W ⟨rfl, rfl⟩
  go_wp2_with fail
  refine (toTS_lit _ z0 _ (HZ0.out.below (Below.refl _ _) (Nat.le_refl _)) HN0.out).mono ?_
  rintro e W1 ⟨g_s0, rfl, o_s0, l1⟩
  have O_s0 := Lib.hid o_s0
  have HB_1 := Lib.hid l1
  clear o_s0 l1
  go_wp2_with fail
  refine (HSp.out g_s0 _ (rowz_own O_s0.out)).mono ?_
  rintro e W2 ⟨vw0, rfl, o_vw0, l2⟩
  have AP_s0_vw0 : Hid (∀ k, (.slice (some ⟨g_s0, 0, none⟩) z0.length z0.length : Value).ownBlock = some k → (vw0 : Value).ownBlock ≠ some k) := Lib.hid (fun k h1 h2 => absurd (O_s0.out.lt k h1).2 (Nat.not_lt.2 (o_vw0.lt k h2).1))
  have O_vw0 := Lib.hid (ownz_base o_vw0 (HB_1.out.size))
  have HB_2 := Lib.hid (HB_1.out.trans (l2.mono HB_1.out.size))
  have s0_2 := Lib.hid (ownz_below O_s0.out l2 (Nat.le_refl _))
  clear O_s0
  clear HB_1
  clear l2 o_vw0
  clear s0_2
  go_wp2_with fail
  refine (toTS_lit _ z0 _ (HZ0.out.below HB_2.out (Nat.le_refl _)) HN0.out).mono ?_
  rintro e W3 ⟨g_x0, rfl, o_x0, l3⟩
  have AP_vw0_x0 : Hid (∀ k, (vw0 : Value).ownBlock = some k → (.slice (some ⟨g_x0, 0, none⟩) z0.length z0.length : Value).ownBlock ≠ some k) := Lib.hid (fun k h1 h2 => absurd (O_vw0.out.lt k h1).2 (Nat.not_lt.2 (o_x0.lt k h2).1))
  have O_x0 := Lib.hid (ownz_base o_x0 (HB_2.out.size))
  have HB_3 := Lib.hid (HB_2.out.trans (l3.mono HB_2.out.size))
  have vw0_3 := Lib.hid (ownz_below O_vw0.out l3 (Nat.le_refl _))
  clear O_vw0
  clear HB_2
  clear o_x0 l3
  go_wp2_with fail
  refine (HIm.out g_x0 _ (rowz_own O_x0.out)).mono ?_
  rintro e W4 ⟨vg0, rfl, o_vg0, l4⟩
  have AP_vw0_vg0 : Hid (∀ k, (vw0 : Value).ownBlock = some k → (vg0 : Value).ownBlock ≠ some k) := Lib.hid (fun k h1 h2 => absurd (vw0_3.out.lt k h1).2 (Nat.not_lt.2 (o_vg0.lt k h2).1))
  have AP_x0_vg0 : Hid (∀ k, (.slice (some ⟨g_x0, 0, none⟩) z0.length z0.length : Value).ownBlock = some k → (vg0 : Value).ownBlock ≠ some k) := Lib.hid (fun k h1 h2 => absurd (O_x0.out.lt k h1).2 (Nat.not_lt.2 (o_vg0.lt k h2).1))
  have O_vg0 := Lib.hid (ownz_base o_vg0 (HB_3.out.size))
  have HB_4 := Lib.hid (HB_3.out.trans (l4.mono HB_3.out.size))
  have vw0_4 := Lib.hid (ownz_below vw0_3.out l4 (Nat.le_refl _))
  clear vw0_3
  have x0_4 := Lib.hid (ownz_below O_x0.out l4 (Nat.le_refl _))
  clear O_x0
  clear HB_3
  clear l4 o_vg0
  go_wp2_with fail
  refine (eqTS_same _ _ ps0 _ (rowz_own O_vg0.out) (rowz_own vw0_4.out)).mono ?_
  rintro e W5 ⟨rfl, l5⟩
  have HB_5 := Lib.hid (HB_4.out.trans (l5.mono HB_4.out.size))
  have vw0_5 := Lib.hid (ownz_below vw0_4.out l5 (Nat.le_refl _))
  clear vw0_4
  have x0_5 := Lib.hid (ownz_below x0_4.out l5 (Nat.le_refl _))
  clear x0_4
  have vg0_5 := Lib.hid (ownz_below O_vg0.out l5 (Nat.le_refl _))
  clear O_vg0
  clear HB_4
  clear l5
  go_wp2_with fail
  refine (toTS_lit _ z0 _ (HZ0.out.below HB_5.out (Nat.le_refl _)) HN0.out).mono ?_
  rintro e W6 ⟨g_y0, rfl, o_y0, l6⟩
  have AP_vw0_y0 : Hid (∀ k, (vw0 : Value).ownBlock = some k → (.slice (some ⟨g_y0, 0, none⟩) z0.length z0.length : Value).ownBlock ≠ some k) := Lib.hid (fun k h1 h2 => absurd (vw0_5.out.lt k h1).2 (Nat.not_lt.2 (o_y0.lt k h2).1))
  have AP_x0_y0 : Hid (∀ k, (.slice (some ⟨g_x0, 0, none⟩) z0.length z0.length : Value).ownBlock = some k → (.slice (some ⟨g_y0, 0, none⟩) z0.length z0.length : Value).ownBlock ≠ some k) := Lib.hid (fun k h1 h2 => absurd (x0_5.out.lt k h1).2 (Nat.not_lt.2 (o_y0.lt k h2).1))
  have AP_vg0_y0 : Hid (∀ k, (vg0 : Value).ownBlock = some k → (.slice (some ⟨g_y0, 0, none⟩) z0.length z0.length : Value).ownBlock ≠ some k) := Lib.hid (fun k h1 h2 => absurd (vg0_5.out.lt k h1).2 (Nat.not_lt.2 (o_y0.lt k h2).1))
  have O_y0 := Lib.hid (ownz_base o_y0 (HB_5.out.size))
  have HB_6 := Lib.hid (HB_5.out.trans (l6.mono HB_5.out.size))
  have vw0_6 := Lib.hid (ownz_below vw0_5.out l6 (Nat.le_refl _))
  clear vw0_5
  have x0_6 := Lib.hid (ownz_below x0_5.out l6 (Nat.le_refl _))
  clear x0_5
  have vg0_6 := Lib.hid (ownz_below vg0_5.out l6 (Nat.le_refl _))
  clear vg0_5
  clear HB_5
  clear o_y0 l6
  go_wp2_with fail
  refine (eqTS_same _ _ z0 _ (rowz_own x0_6.out) (rowz_own O_y0.out)).mono ?_
  rintro e W7 ⟨rfl, l7⟩
  have HB_7 := Lib.hid (HB_6.out.trans (l7.mono HB_6.out.size))
  have vw0_7 := Lib.hid (ownz_below vw0_6.out l7 (Nat.le_refl _))
  clear vw0_6
  have x0_7 := Lib.hid (ownz_below x0_6.out l7 (Nat.le_refl _))
  clear x0_6
  have vg0_7 := Lib.hid (ownz_below vg0_6.out l7 (Nat.le_refl _))
  clear vg0_6
  have y0_7 := Lib.hid (ownz_below O_y0.out l7 (Nat.le_refl _))
  clear O_y0
  clear HB_6
  clear l7
  clear y0_7
  go_wp2_with fail
  refine (markT_own _ z0.length 1 _ _ _ x0_7.out (by have := HL0.out; have := HN0.out; omega)).mono ?_
  rintro e W8 ⟨rfl, m8, gr8⟩
  have HB_8 := Lib.hid (HB_7.out.grown gr8 HB_7.out.size (fun q hq => (x0_7.out.lt q hq).1))
  have vw0_8 := Lib.hid (ownz_apart vw0_7.out gr8 (fun k h1 h2 => AP_vw0_x0.out k h1 h2))
  clear vw0_7
  have vg0_8 := Lib.hid (ownz_apart vg0_7.out gr8 (fun k h1 h2 => AP_x0_vg0.out k h2 h1))
  clear vg0_7
  have x0_8 := Lib.hid m8
  clear m8 gr8 x0_7 HB_7
  go_wp2_with fail
  refine (eqTS_same _ _ ps0 _ (rowz_own vg0_8.out) (rowz_own vw0_8.out)).mono ?_
  rintro e W9 ⟨rfl, l9⟩
  have HB_9 := Lib.hid (HB_8.out.trans (l9.mono HB_8.out.size))
  have vw0_9 := Lib.hid (ownz_below vw0_8.out l9 (Nat.le_refl _))
  clear vw0_8
  have x0_9 := Lib.hid (ownz_below x0_8.out l9 (Nat.le_refl _))
  clear x0_8
  have vg0_9 := Lib.hid (ownz_below vg0_8.out l9 (Nat.le_refl _))
  clear vg0_8
  clear HB_8
  clear l9
  clear x0_9
  go_wp2_with fail
  refine (markT_own _ ps0.length 1 _ _ _ vg0_9.out (by have := HL0.out; have := HN0.out; omega)).mono ?_
  rintro e W10 ⟨rfl, m10, gr10⟩
  have HB_10 := Lib.hid (HB_9.out.grown gr10 HB_9.out.size (fun q hq => (vg0_9.out.lt q hq).1))
  have vw0_10 := Lib.hid (ownz_apart vw0_9.out gr10 (fun k h1 h2 => AP_vw0_vg0.out k h1 h2))
  clear vw0_9
  have vg0_10 := Lib.hid m10
  clear m10 gr10 vg0_9 HB_9
  go_wp2_with fail
  refine (heldT_own _ ps0.length 1 _ _ vg0_10.out (by have := HL0.out; have := HN0.out; omega)).mono ?_
  rintro e W ⟨rfl, rfl⟩
  go_wp2_with fail
  refine (toTS_lit _ z0 _ (HZ0.out.below HB_10.out (Nat.le_refl _)) HN0.out).mono ?_
  rintro e W11 ⟨g_h0, rfl, o_h0, l11⟩
  have AP_vw0_h0 : Hid (∀ k, (vw0 : Value).ownBlock = some k → (.slice (some ⟨g_h0, 0, none⟩) z0.length z0.length : Value).ownBlock ≠ some k) := Lib.hid (fun k h1 h2 => absurd (vw0_10.out.lt k h1).2 (Nat.not_lt.2 (o_h0.lt k h2).1))
  have AP_vg0_h0 : Hid (∀ k, (vg0 : Value).ownBlock = some k → (.slice (some ⟨g_h0, 0, none⟩) z0.length z0.length : Value).ownBlock ≠ some k) := Lib.hid (fun k h1 h2 => absurd (vg0_10.out.lt k h1).2 (Nat.not_lt.2 (o_h0.lt k h2).1))
  have O_h0 := Lib.hid (ownz_base o_h0 (HB_10.out.size))
  have HB_11 := Lib.hid (HB_10.out.trans (l11.mono HB_10.out.size))
  have vw0_11 := Lib.hid (ownz_below vw0_10.out l11 (Nat.le_refl _))
  clear vw0_10
  have vg0_11 := Lib.hid (ownz_below vg0_10.out l11 (Nat.le_refl _))
  clear vg0_10
  clear HB_10
  clear o_h0 l11
  go_wp2_with fail
  refine (HIm.out g_h0 _ (rowz_own O_h0.out)).mono ?_
  rintro e W12 ⟨vh0, rfl, o_vh0, l12⟩
  have AP_vw0_vh0 : Hid (∀ k, (vw0 : Value).ownBlock = some k → (vh0 : Value).ownBlock ≠ some k) := Lib.hid (fun k h1 h2 => absurd (vw0_11.out.lt k h1).2 (Nat.not_lt.2 (o_vh0.lt k h2).1))
  have AP_vg0_vh0 : Hid (∀ k, (vg0 : Value).ownBlock = some k → (vh0 : Value).ownBlock ≠ some k) := Lib.hid (fun k h1 h2 => absurd (vg0_11.out.lt k h1).2 (Nat.not_lt.2 (o_vh0.lt k h2).1))
  have AP_h0_vh0 : Hid (∀ k, (.slice (some ⟨g_h0, 0, none⟩) z0.length z0.length : Value).ownBlock = some k → (vh0 : Value).ownBlock ≠ some k) := Lib.hid (fun k h1 h2 => absurd (O_h0.out.lt k h1).2 (Nat.not_lt.2 (o_vh0.lt k h2).1))
  have O_vh0 := Lib.hid (ownz_base o_vh0 (HB_11.out.size))
  have HB_12 := Lib.hid (HB_11.out.trans (l12.mono HB_11.out.size))
  have vw0_12 := Lib.hid (ownz_below vw0_11.out l12 (Nat.le_refl _))
  clear vw0_11
  have vg0_12 := Lib.hid (ownz_below vg0_11.out l12 (Nat.le_refl _))
  clear vg0_11
  have h0_12 := Lib.hid (ownz_below O_h0.out l12 (Nat.le_refl _))
  clear O_h0
  clear HB_11
  clear l12 o_vh0
  go_wp2_with fail
  refine (eqTS_same _ _ ps0 _ (rowz_own O_vh0.out) (rowz_own vw0_12.out)).mono ?_
  rintro e W13 ⟨rfl, l13⟩
  have HB_13 := Lib.hid (HB_12.out.trans (l13.mono HB_12.out.size))
  have vw0_13 := Lib.hid (ownz_below vw0_12.out l13 (Nat.le_refl _))
  clear vw0_12
  have vg0_13 := Lib.hid (ownz_below vg0_12.out l13 (Nat.le_refl _))
  clear vg0_12
  have h0_13 := Lib.hid (ownz_below h0_12.out l13 (Nat.le_refl _))
  clear h0_12
  have vh0_13 := Lib.hid (ownz_below O_vh0.out l13 (Nat.le_refl _))
  clear O_vh0
  clear HB_12
  clear l13
  go_wp2_with fail
  refine (heldT_own _ ps0.length 1 _ _ vg0_13.out (by have := HL0.out; have := HN0.out; omega)).mono ?_
  rintro e W ⟨rfl, rfl⟩
  go_wp2_with fail
  go_ret
  exact ⟨rfl, HB_13.out⟩
set_option maxRecDepth 100000 in
set_option maxHeartbeats 4000000 in
theorem fnExactFireTimer_walk (w : World) (v0 : Value) (z0 : List Tm) (w0 : Row w v0 z0.length (tmF z0)) (b0 : ∀ r ∈ z0, (Lit.int .i64 r.i).wf = true ∧ (Lit.int .i64 r.d).wf = true ∧ (Lit.int .i64 r.p).wf = true) (a1 : Int) (w1 : (Lit.int .i64 a1).wf = true) (_hsh : w.ShapedOpen Try.prog) :
    Calls Try.prog 10 #[v0, .int .i64 a1] w fun e w' => e = .returned (.bool true) ∧ Below w.heap.size w w' := by
  obtain ⟨p0, cap0, rfl, hc10, hc20, _⟩ := tm_open w0
  unfold maxLen at hc20
  by_cases hn0 : (z0.length : Int) ≤ 1048576
  rotate_left
  · have HN0 := Lib.hid (fun (W : World) => szT_no p0 z0.length cap0 (1048576) W (by omega) (by omega) (by omega))
    go_enter Try.func10, Try.ntmps10
    go_wp2_with fail
    refine (HN0.out _).mono ?_
    rintro e W ⟨rfl, rfl⟩
    go_wp2_with fail
    go_ret
    exact ⟨rfl, Below.refl _ _⟩
  have HY0 := Lib.hid (fun (W : World) => szT_yes p0 z0.length cap0 (1048576) W (by omega) (by omega))
  have hl0 : ¬ ((1048576) - (z0.length : Int) < 0) := by omega
  have hm0 : z0.length ≤ 1048576 := by omega
  have HZ0 := Lib.hid w0
  have HN0 := Lib.hid hm0
  clear w0 b0
  have HSp := Lib.hid (fun (g0 : Nat) (W : World) (h0 : Row W (.slice (some ⟨g0, 0, none⟩) z0.length z0.length) z0.length (tmF z0)) => specFireT_any (.slice (some ⟨g0, 0, none⟩) z0.length z0.length) z0 a1 W h0)
  have HIm := Lib.hid (fun (g0 : Nat) (W : World) (h0 : Row W (.slice (some ⟨g0, 0, none⟩) z0.length z0.length) z0.length (tmF z0)) => implFireT_any (.slice (some ⟨g0, 0, none⟩) z0.length z0.length) z0 a1 W h0)
  have hlen0 := fireV_len z0 a1
  generalize fireV z0 a1 = ps0 at HSp HIm hlen0
  have HL0 := Lib.hid hlen0
  clear hlen0
  generalize stopOk z0 a1 = r0 at HSp HIm
  go_enter Try.func10, Try.ntmps10
  go_wp2_with fail
  refine (HY0.out _).mono ?_
  rintro e W ⟨rfl, rfl⟩
  go_wp2_with fail
  refine (toTS_lit _ z0 _ (HZ0.out.below (Below.refl _ _) (Nat.le_refl _)) HN0.out).mono ?_
  rintro e W1 ⟨g_s0, rfl, o_s0, l1⟩
  have O_s0 := Lib.hid o_s0
  have HB_1 := Lib.hid l1
  clear o_s0 l1
  go_wp2_with fail
  refine (HSp.out g_s0 _ (rowz_own O_s0.out)).mono ?_
  rintro e W2 ⟨vw0, rfl, o_vw0, l2⟩
  have AP_s0_vw0 : Hid (∀ k, (.slice (some ⟨g_s0, 0, none⟩) z0.length z0.length : Value).ownBlock = some k → (vw0 : Value).ownBlock ≠ some k) := Lib.hid (fun k h1 h2 => absurd (O_s0.out.lt k h1).2 (Nat.not_lt.2 (o_vw0.lt k h2).1))
  have O_vw0 := Lib.hid (ownz_base o_vw0 (HB_1.out.size))
  have HB_2 := Lib.hid (HB_1.out.trans (l2.mono HB_1.out.size))
  have s0_2 := Lib.hid (ownz_below O_s0.out l2 (Nat.le_refl _))
  clear O_s0
  clear HB_1
  clear l2 o_vw0
  clear s0_2
  go_wp2_with fail
  refine (toTS_lit _ z0 _ (HZ0.out.below HB_2.out (Nat.le_refl _)) HN0.out).mono ?_
  rintro e W3 ⟨g_x0, rfl, o_x0, l3⟩
  have AP_vw0_x0 : Hid (∀ k, (vw0 : Value).ownBlock = some k → (.slice (some ⟨g_x0, 0, none⟩) z0.length z0.length : Value).ownBlock ≠ some k) := Lib.hid (fun k h1 h2 => absurd (O_vw0.out.lt k h1).2 (Nat.not_lt.2 (o_x0.lt k h2).1))
  have O_x0 := Lib.hid (ownz_base o_x0 (HB_2.out.size))
  have HB_3 := Lib.hid (HB_2.out.trans (l3.mono HB_2.out.size))
  have vw0_3 := Lib.hid (ownz_below O_vw0.out l3 (Nat.le_refl _))
  clear O_vw0
  clear HB_2
  clear o_x0 l3
  go_wp2_with fail
  refine (HIm.out g_x0 _ (rowz_own O_x0.out)).mono ?_
  rintro e W4 ⟨vg0, rfl, o_vg0, l4⟩
  have AP_vw0_vg0 : Hid (∀ k, (vw0 : Value).ownBlock = some k → (vg0 : Value).ownBlock ≠ some k) := Lib.hid (fun k h1 h2 => absurd (vw0_3.out.lt k h1).2 (Nat.not_lt.2 (o_vg0.lt k h2).1))
  have AP_x0_vg0 : Hid (∀ k, (.slice (some ⟨g_x0, 0, none⟩) z0.length z0.length : Value).ownBlock = some k → (vg0 : Value).ownBlock ≠ some k) := Lib.hid (fun k h1 h2 => absurd (O_x0.out.lt k h1).2 (Nat.not_lt.2 (o_vg0.lt k h2).1))
  have O_vg0 := Lib.hid (ownz_base o_vg0 (HB_3.out.size))
  have HB_4 := Lib.hid (HB_3.out.trans (l4.mono HB_3.out.size))
  have vw0_4 := Lib.hid (ownz_below vw0_3.out l4 (Nat.le_refl _))
  clear vw0_3
  have x0_4 := Lib.hid (ownz_below O_x0.out l4 (Nat.le_refl _))
  clear O_x0
  clear HB_3
  clear l4 o_vg0
  go_wp2_with fail
  refine (eqTS_same _ _ ps0 _ (rowz_own O_vg0.out) (rowz_own vw0_4.out)).mono ?_
  rintro e W5 ⟨rfl, l5⟩
  have HB_5 := Lib.hid (HB_4.out.trans (l5.mono HB_4.out.size))
  have vw0_5 := Lib.hid (ownz_below vw0_4.out l5 (Nat.le_refl _))
  clear vw0_4
  have x0_5 := Lib.hid (ownz_below x0_4.out l5 (Nat.le_refl _))
  clear x0_4
  have vg0_5 := Lib.hid (ownz_below O_vg0.out l5 (Nat.le_refl _))
  clear O_vg0
  clear HB_4
  clear l5
  go_wp2_with fail
  refine (toTS_lit _ z0 _ (HZ0.out.below HB_5.out (Nat.le_refl _)) HN0.out).mono ?_
  rintro e W6 ⟨g_y0, rfl, o_y0, l6⟩
  have AP_vw0_y0 : Hid (∀ k, (vw0 : Value).ownBlock = some k → (.slice (some ⟨g_y0, 0, none⟩) z0.length z0.length : Value).ownBlock ≠ some k) := Lib.hid (fun k h1 h2 => absurd (vw0_5.out.lt k h1).2 (Nat.not_lt.2 (o_y0.lt k h2).1))
  have AP_x0_y0 : Hid (∀ k, (.slice (some ⟨g_x0, 0, none⟩) z0.length z0.length : Value).ownBlock = some k → (.slice (some ⟨g_y0, 0, none⟩) z0.length z0.length : Value).ownBlock ≠ some k) := Lib.hid (fun k h1 h2 => absurd (x0_5.out.lt k h1).2 (Nat.not_lt.2 (o_y0.lt k h2).1))
  have AP_vg0_y0 : Hid (∀ k, (vg0 : Value).ownBlock = some k → (.slice (some ⟨g_y0, 0, none⟩) z0.length z0.length : Value).ownBlock ≠ some k) := Lib.hid (fun k h1 h2 => absurd (vg0_5.out.lt k h1).2 (Nat.not_lt.2 (o_y0.lt k h2).1))
  have O_y0 := Lib.hid (ownz_base o_y0 (HB_5.out.size))
  have HB_6 := Lib.hid (HB_5.out.trans (l6.mono HB_5.out.size))
  have vw0_6 := Lib.hid (ownz_below vw0_5.out l6 (Nat.le_refl _))
  clear vw0_5
  have x0_6 := Lib.hid (ownz_below x0_5.out l6 (Nat.le_refl _))
  clear x0_5
  have vg0_6 := Lib.hid (ownz_below vg0_5.out l6 (Nat.le_refl _))
  clear vg0_5
  clear HB_5
  clear o_y0 l6
  go_wp2_with fail
  refine (eqTS_same _ _ z0 _ (rowz_own x0_6.out) (rowz_own O_y0.out)).mono ?_
  rintro e W7 ⟨rfl, l7⟩
  have HB_7 := Lib.hid (HB_6.out.trans (l7.mono HB_6.out.size))
  have vw0_7 := Lib.hid (ownz_below vw0_6.out l7 (Nat.le_refl _))
  clear vw0_6
  have x0_7 := Lib.hid (ownz_below x0_6.out l7 (Nat.le_refl _))
  clear x0_6
  have vg0_7 := Lib.hid (ownz_below vg0_6.out l7 (Nat.le_refl _))
  clear vg0_6
  have y0_7 := Lib.hid (ownz_below O_y0.out l7 (Nat.le_refl _))
  clear O_y0
  clear HB_6
  clear l7
  clear y0_7
  go_wp2_with fail
  refine (markT_own _ z0.length 1 _ _ _ x0_7.out (by have := HL0.out; have := HN0.out; omega)).mono ?_
  rintro e W8 ⟨rfl, m8, gr8⟩
  have HB_8 := Lib.hid (HB_7.out.grown gr8 HB_7.out.size (fun q hq => (x0_7.out.lt q hq).1))
  have vw0_8 := Lib.hid (ownz_apart vw0_7.out gr8 (fun k h1 h2 => AP_vw0_x0.out k h1 h2))
  clear vw0_7
  have vg0_8 := Lib.hid (ownz_apart vg0_7.out gr8 (fun k h1 h2 => AP_x0_vg0.out k h2 h1))
  clear vg0_7
  have x0_8 := Lib.hid m8
  clear m8 gr8 x0_7 HB_7
  go_wp2_with fail
  refine (eqTS_same _ _ ps0 _ (rowz_own vg0_8.out) (rowz_own vw0_8.out)).mono ?_
  rintro e W9 ⟨rfl, l9⟩
  have HB_9 := Lib.hid (HB_8.out.trans (l9.mono HB_8.out.size))
  have vw0_9 := Lib.hid (ownz_below vw0_8.out l9 (Nat.le_refl _))
  clear vw0_8
  have x0_9 := Lib.hid (ownz_below x0_8.out l9 (Nat.le_refl _))
  clear x0_8
  have vg0_9 := Lib.hid (ownz_below vg0_8.out l9 (Nat.le_refl _))
  clear vg0_8
  clear HB_8
  clear l9
  clear x0_9
  go_wp2_with fail
  refine (markT_own _ ps0.length 1 _ _ _ vg0_9.out (by have := HL0.out; have := HN0.out; omega)).mono ?_
  rintro e W10 ⟨rfl, m10, gr10⟩
  have HB_10 := Lib.hid (HB_9.out.grown gr10 HB_9.out.size (fun q hq => (vg0_9.out.lt q hq).1))
  have vw0_10 := Lib.hid (ownz_apart vw0_9.out gr10 (fun k h1 h2 => AP_vw0_vg0.out k h1 h2))
  clear vw0_9
  have vg0_10 := Lib.hid m10
  clear m10 gr10 vg0_9 HB_9
  go_wp2_with fail
  refine (heldT_own _ ps0.length 1 _ _ vg0_10.out (by have := HL0.out; have := HN0.out; omega)).mono ?_
  rintro e W ⟨rfl, rfl⟩
  go_wp2_with fail
  refine (toTS_lit _ z0 _ (HZ0.out.below HB_10.out (Nat.le_refl _)) HN0.out).mono ?_
  rintro e W11 ⟨g_h0, rfl, o_h0, l11⟩
  have AP_vw0_h0 : Hid (∀ k, (vw0 : Value).ownBlock = some k → (.slice (some ⟨g_h0, 0, none⟩) z0.length z0.length : Value).ownBlock ≠ some k) := Lib.hid (fun k h1 h2 => absurd (vw0_10.out.lt k h1).2 (Nat.not_lt.2 (o_h0.lt k h2).1))
  have AP_vg0_h0 : Hid (∀ k, (vg0 : Value).ownBlock = some k → (.slice (some ⟨g_h0, 0, none⟩) z0.length z0.length : Value).ownBlock ≠ some k) := Lib.hid (fun k h1 h2 => absurd (vg0_10.out.lt k h1).2 (Nat.not_lt.2 (o_h0.lt k h2).1))
  have O_h0 := Lib.hid (ownz_base o_h0 (HB_10.out.size))
  have HB_11 := Lib.hid (HB_10.out.trans (l11.mono HB_10.out.size))
  have vw0_11 := Lib.hid (ownz_below vw0_10.out l11 (Nat.le_refl _))
  clear vw0_10
  have vg0_11 := Lib.hid (ownz_below vg0_10.out l11 (Nat.le_refl _))
  clear vg0_10
  clear HB_10
  clear o_h0 l11
  go_wp2_with fail
  refine (HIm.out g_h0 _ (rowz_own O_h0.out)).mono ?_
  rintro e W12 ⟨vh0, rfl, o_vh0, l12⟩
  have AP_vw0_vh0 : Hid (∀ k, (vw0 : Value).ownBlock = some k → (vh0 : Value).ownBlock ≠ some k) := Lib.hid (fun k h1 h2 => absurd (vw0_11.out.lt k h1).2 (Nat.not_lt.2 (o_vh0.lt k h2).1))
  have AP_vg0_vh0 : Hid (∀ k, (vg0 : Value).ownBlock = some k → (vh0 : Value).ownBlock ≠ some k) := Lib.hid (fun k h1 h2 => absurd (vg0_11.out.lt k h1).2 (Nat.not_lt.2 (o_vh0.lt k h2).1))
  have AP_h0_vh0 : Hid (∀ k, (.slice (some ⟨g_h0, 0, none⟩) z0.length z0.length : Value).ownBlock = some k → (vh0 : Value).ownBlock ≠ some k) := Lib.hid (fun k h1 h2 => absurd (O_h0.out.lt k h1).2 (Nat.not_lt.2 (o_vh0.lt k h2).1))
  have O_vh0 := Lib.hid (ownz_base o_vh0 (HB_11.out.size))
  have HB_12 := Lib.hid (HB_11.out.trans (l12.mono HB_11.out.size))
  have vw0_12 := Lib.hid (ownz_below vw0_11.out l12 (Nat.le_refl _))
  clear vw0_11
  have vg0_12 := Lib.hid (ownz_below vg0_11.out l12 (Nat.le_refl _))
  clear vg0_11
  have h0_12 := Lib.hid (ownz_below O_h0.out l12 (Nat.le_refl _))
  clear O_h0
  clear HB_11
  clear l12 o_vh0
  go_wp2_with fail
  refine (eqTS_same _ _ ps0 _ (rowz_own O_vh0.out) (rowz_own vw0_12.out)).mono ?_
  rintro e W13 ⟨rfl, l13⟩
  have HB_13 := Lib.hid (HB_12.out.trans (l13.mono HB_12.out.size))
  have vw0_13 := Lib.hid (ownz_below vw0_12.out l13 (Nat.le_refl _))
  clear vw0_12
  have vg0_13 := Lib.hid (ownz_below vg0_12.out l13 (Nat.le_refl _))
  clear vg0_12
  have h0_13 := Lib.hid (ownz_below h0_12.out l13 (Nat.le_refl _))
  clear h0_12
  have vh0_13 := Lib.hid (ownz_below O_vh0.out l13 (Nat.le_refl _))
  clear O_vh0
  clear HB_12
  clear l13
  go_wp2_with fail
  refine (heldT_own _ ps0.length 1 _ _ vg0_13.out (by have := HL0.out; have := HN0.out; omega)).mono ?_
  rintro e W ⟨rfl, rfl⟩
  go_wp2_with fail
  go_ret
  exact ⟨rfl, HB_13.out⟩
set_option maxRecDepth 100000 in
set_option maxHeartbeats 4000000 in
theorem fnExactDueTimers_walk (w : World) (v0 : Value) (z0 : List Tm) (w0 : Row w v0 z0.length (tmF z0)) (b0 : ∀ r ∈ z0, (Lit.int .i64 r.i).wf = true ∧ (Lit.int .i64 r.d).wf = true ∧ (Lit.int .i64 r.p).wf = true) (a1 : Int) (w1 : (Lit.int .i64 a1).wf = true) (_hsh : w.ShapedOpen Try.prog) :
    Calls Try.prog 8 #[v0, .int .i64 a1] w fun e w' => e = .returned (.bool true) ∧ Below w.heap.size w w' := by
  obtain ⟨p0, cap0, rfl, hc10, hc20, _⟩ := tm_open w0
  unfold maxLen at hc20
  by_cases hn0 : (z0.length : Int) ≤ 1048576
  rotate_left
  · have HN0 := Lib.hid (fun (W : World) => szT_no p0 z0.length cap0 (1048576) W (by omega) (by omega) (by omega))
    go_enter Try.func8, Try.ntmps8
    go_wp2_with fail
    refine (HN0.out _).mono ?_
    rintro e W ⟨rfl, rfl⟩
    go_wp2_with fail
    go_ret
    exact ⟨rfl, Below.refl _ _⟩
  have HY0 := Lib.hid (fun (W : World) => szT_yes p0 z0.length cap0 (1048576) W (by omega) (by omega))
  have hl0 : ¬ ((1048576) - (z0.length : Int) < 0) := by omega
  have hm0 : z0.length ≤ 1048576 := by omega
  have HZ0 := Lib.hid w0
  have HN0 := Lib.hid hm0
  clear w0 b0
  have HSp := Lib.hid (fun (g0 : Nat) (W : World) (h0 : Row W (.slice (some ⟨g0, 0, none⟩) z0.length z0.length) z0.length (tmF z0)) => specDue_any (.slice (some ⟨g0, 0, none⟩) z0.length z0.length) z0 a1 W h0 (fit_some _ _ _))
  have HIm := Lib.hid (fun (g0 : Nat) (W : World) (h0 : Row W (.slice (some ⟨g0, 0, none⟩) z0.length z0.length) z0.length (tmF z0)) => implDue_any (.slice (some ⟨g0, 0, none⟩) z0.length z0.length) z0 a1 W h0 (fit_some _ _ _))
  have hlen0 := dueV_len z0 a1
  generalize dueV z0 a1 = ps0 at HSp HIm hlen0
  have HL0 := Lib.hid hlen0
  clear hlen0
  generalize dueOk z0 a1 = r0 at HSp HIm
  go_enter Try.func8, Try.ntmps8
  go_wp2_with fail
  refine (HY0.out _).mono ?_
  rintro e W ⟨rfl, rfl⟩
  go_wp2_with fail
  refine (toTS_lit _ z0 _ (HZ0.out.below (Below.refl _ _) (Nat.le_refl _)) HN0.out).mono ?_
  rintro e W1 ⟨g_s0, rfl, o_s0, l1⟩
  have O_s0 := Lib.hid o_s0
  have HB_1 := Lib.hid l1
  clear o_s0 l1
  go_wp2_with fail
  refine (HSp.out g_s0 _ (rowz_own O_s0.out)).mono ?_
  rintro e W2 ⟨vw0, rfl, o_vw0, l2⟩
  have AP_s0_vw0 : Hid (∀ k, (.slice (some ⟨g_s0, 0, none⟩) z0.length z0.length : Value).ownBlock = some k → (vw0 : Value).ownBlock ≠ some k) := Lib.hid (fun k h1 h2 => absurd (O_s0.out.lt k h1).2 (Nat.not_lt.2 (o_vw0.lt k h2).1))
  have O_vw0 := Lib.hid (ownz_base o_vw0 (HB_1.out.size))
  have HB_2 := Lib.hid (HB_1.out.trans (l2.mono HB_1.out.size))
  have s0_2 := Lib.hid (ownz_below O_s0.out l2 (Nat.le_refl _))
  clear O_s0
  clear HB_1
  clear l2 o_vw0
  clear s0_2
  go_wp2_with fail
  refine (toTS_lit _ z0 _ (HZ0.out.below HB_2.out (Nat.le_refl _)) HN0.out).mono ?_
  rintro e W3 ⟨g_x0, rfl, o_x0, l3⟩
  have AP_vw0_x0 : Hid (∀ k, (vw0 : Value).ownBlock = some k → (.slice (some ⟨g_x0, 0, none⟩) z0.length z0.length : Value).ownBlock ≠ some k) := Lib.hid (fun k h1 h2 => absurd (O_vw0.out.lt k h1).2 (Nat.not_lt.2 (o_x0.lt k h2).1))
  have O_x0 := Lib.hid (ownz_base o_x0 (HB_2.out.size))
  have HB_3 := Lib.hid (HB_2.out.trans (l3.mono HB_2.out.size))
  have vw0_3 := Lib.hid (ownz_below O_vw0.out l3 (Nat.le_refl _))
  clear O_vw0
  clear HB_2
  clear o_x0 l3
  go_wp2_with fail
  refine (HIm.out g_x0 _ (rowz_own O_x0.out)).mono ?_
  rintro e W4 ⟨vg0, rfl, o_vg0, l4⟩
  have AP_vw0_vg0 : Hid (∀ k, (vw0 : Value).ownBlock = some k → (vg0 : Value).ownBlock ≠ some k) := Lib.hid (fun k h1 h2 => absurd (vw0_3.out.lt k h1).2 (Nat.not_lt.2 (o_vg0.lt k h2).1))
  have AP_x0_vg0 : Hid (∀ k, (.slice (some ⟨g_x0, 0, none⟩) z0.length z0.length : Value).ownBlock = some k → (vg0 : Value).ownBlock ≠ some k) := Lib.hid (fun k h1 h2 => absurd (O_x0.out.lt k h1).2 (Nat.not_lt.2 (o_vg0.lt k h2).1))
  have O_vg0 := Lib.hid (ownz_base o_vg0 (HB_3.out.size))
  have HB_4 := Lib.hid (HB_3.out.trans (l4.mono HB_3.out.size))
  have vw0_4 := Lib.hid (ownz_below vw0_3.out l4 (Nat.le_refl _))
  clear vw0_3
  have x0_4 := Lib.hid (ownz_below O_x0.out l4 (Nat.le_refl _))
  clear O_x0
  clear HB_3
  clear l4 o_vg0
  go_wp2_with fail
  refine (eqIntS_any _ _ ps0 ps0 _ (rowz_own O_vg0.out) (rowz_own vw0_4.out)).mono ?_
  rintro e W5 ⟨rfl, k5, hw5⟩
  have l5 : Below W4.heap.size W4 W5 := by rw [hw5]; exact bdrew _ _
  clear hw5
  have HB_5 := Lib.hid (HB_4.out.trans (l5.mono HB_4.out.size))
  have vw0_5 := Lib.hid (ownz_below vw0_4.out l5 (Nat.le_refl _))
  clear vw0_4
  have x0_5 := Lib.hid (ownz_below x0_4.out l5 (Nat.le_refl _))
  clear x0_4
  have vg0_5 := Lib.hid (ownz_below O_vg0.out l5 (Nat.le_refl _))
  clear O_vg0
  clear HB_4
  clear l5
  go_wp2_with fail
  refine (toTS_lit _ z0 _ (HZ0.out.below HB_5.out (Nat.le_refl _)) HN0.out).mono ?_
  rintro e W6 ⟨g_y0, rfl, o_y0, l6⟩
  have AP_vw0_y0 : Hid (∀ k, (vw0 : Value).ownBlock = some k → (.slice (some ⟨g_y0, 0, none⟩) z0.length z0.length : Value).ownBlock ≠ some k) := Lib.hid (fun k h1 h2 => absurd (vw0_5.out.lt k h1).2 (Nat.not_lt.2 (o_y0.lt k h2).1))
  have AP_x0_y0 : Hid (∀ k, (.slice (some ⟨g_x0, 0, none⟩) z0.length z0.length : Value).ownBlock = some k → (.slice (some ⟨g_y0, 0, none⟩) z0.length z0.length : Value).ownBlock ≠ some k) := Lib.hid (fun k h1 h2 => absurd (x0_5.out.lt k h1).2 (Nat.not_lt.2 (o_y0.lt k h2).1))
  have AP_vg0_y0 : Hid (∀ k, (vg0 : Value).ownBlock = some k → (.slice (some ⟨g_y0, 0, none⟩) z0.length z0.length : Value).ownBlock ≠ some k) := Lib.hid (fun k h1 h2 => absurd (vg0_5.out.lt k h1).2 (Nat.not_lt.2 (o_y0.lt k h2).1))
  have O_y0 := Lib.hid (ownz_base o_y0 (HB_5.out.size))
  have HB_6 := Lib.hid (HB_5.out.trans (l6.mono HB_5.out.size))
  have vw0_6 := Lib.hid (ownz_below vw0_5.out l6 (Nat.le_refl _))
  clear vw0_5
  have x0_6 := Lib.hid (ownz_below x0_5.out l6 (Nat.le_refl _))
  clear x0_5
  have vg0_6 := Lib.hid (ownz_below vg0_5.out l6 (Nat.le_refl _))
  clear vg0_5
  clear HB_5
  clear o_y0 l6
  go_wp2_with fail
  refine (eqTS_same _ _ z0 _ (rowz_own x0_6.out) (rowz_own O_y0.out)).mono ?_
  rintro e W7 ⟨rfl, l7⟩
  have HB_7 := Lib.hid (HB_6.out.trans (l7.mono HB_6.out.size))
  have vw0_7 := Lib.hid (ownz_below vw0_6.out l7 (Nat.le_refl _))
  clear vw0_6
  have x0_7 := Lib.hid (ownz_below x0_6.out l7 (Nat.le_refl _))
  clear x0_6
  have vg0_7 := Lib.hid (ownz_below vg0_6.out l7 (Nat.le_refl _))
  clear vg0_6
  have y0_7 := Lib.hid (ownz_below O_y0.out l7 (Nat.le_refl _))
  clear O_y0
  clear HB_6
  clear l7
  clear y0_7
  go_wp2_with fail
  refine (markT_own _ z0.length 1 _ _ _ x0_7.out (by have := HL0.out; have := HN0.out; omega)).mono ?_
  rintro e W8 ⟨rfl, m8, gr8⟩
  have HB_8 := Lib.hid (HB_7.out.grown gr8 HB_7.out.size (fun q hq => (x0_7.out.lt q hq).1))
  have vw0_8 := Lib.hid (ownz_apart vw0_7.out gr8 (fun k h1 h2 => AP_vw0_x0.out k h1 h2))
  clear vw0_7
  have vg0_8 := Lib.hid (ownz_apart vg0_7.out gr8 (fun k h1 h2 => AP_x0_vg0.out k h2 h1))
  clear vg0_7
  have x0_8 := Lib.hid m8
  clear m8 gr8 x0_7 HB_7
  go_wp2_with fail
  refine (eqIntS_any _ _ ps0 ps0 _ (rowz_own vg0_8.out) (rowz_own vw0_8.out)).mono ?_
  rintro e W9 ⟨rfl, k9, hw9⟩
  have l9 : Below W8.heap.size W8 W9 := by rw [hw9]; exact bdrew _ _
  clear hw9
  have HB_9 := Lib.hid (HB_8.out.trans (l9.mono HB_8.out.size))
  have vw0_9 := Lib.hid (ownz_below vw0_8.out l9 (Nat.le_refl _))
  clear vw0_8
  have x0_9 := Lib.hid (ownz_below x0_8.out l9 (Nat.le_refl _))
  clear x0_8
  have vg0_9 := Lib.hid (ownz_below vg0_8.out l9 (Nat.le_refl _))
  clear vg0_8
  clear HB_8
  clear l9
  clear x0_9
  go_wp2_with fail
  refine (markI_own _ ps0.length 1 _ _ _ vg0_9.out (by have := HL0.out; have := HN0.out; omega)).mono ?_
  rintro e W10 ⟨rfl, m10, gr10⟩
  have HB_10 := Lib.hid (HB_9.out.grown gr10 HB_9.out.size (fun q hq => (vg0_9.out.lt q hq).1))
  have vw0_10 := Lib.hid (ownz_apart vw0_9.out gr10 (fun k h1 h2 => AP_vw0_vg0.out k h1 h2))
  clear vw0_9
  have vg0_10 := Lib.hid m10
  clear m10 gr10 vg0_9 HB_9
  go_wp2_with fail
  refine (heldI_own _ ps0.length 1 _ _ vg0_10.out (by have := HL0.out; have := HN0.out; omega)).mono ?_
  rintro e W ⟨rfl, rfl⟩
  go_wp2_with fail
  refine (toTS_lit _ z0 _ (HZ0.out.below HB_10.out (Nat.le_refl _)) HN0.out).mono ?_
  rintro e W11 ⟨g_h0, rfl, o_h0, l11⟩
  have AP_vw0_h0 : Hid (∀ k, (vw0 : Value).ownBlock = some k → (.slice (some ⟨g_h0, 0, none⟩) z0.length z0.length : Value).ownBlock ≠ some k) := Lib.hid (fun k h1 h2 => absurd (vw0_10.out.lt k h1).2 (Nat.not_lt.2 (o_h0.lt k h2).1))
  have AP_vg0_h0 : Hid (∀ k, (vg0 : Value).ownBlock = some k → (.slice (some ⟨g_h0, 0, none⟩) z0.length z0.length : Value).ownBlock ≠ some k) := Lib.hid (fun k h1 h2 => absurd (vg0_10.out.lt k h1).2 (Nat.not_lt.2 (o_h0.lt k h2).1))
  have O_h0 := Lib.hid (ownz_base o_h0 (HB_10.out.size))
  have HB_11 := Lib.hid (HB_10.out.trans (l11.mono HB_10.out.size))
  have vw0_11 := Lib.hid (ownz_below vw0_10.out l11 (Nat.le_refl _))
  clear vw0_10
  have vg0_11 := Lib.hid (ownz_below vg0_10.out l11 (Nat.le_refl _))
  clear vg0_10
  clear HB_10
  clear o_h0 l11
  go_wp2_with fail
  refine (HIm.out g_h0 _ (rowz_own O_h0.out)).mono ?_
  rintro e W12 ⟨vh0, rfl, o_vh0, l12⟩
  have AP_vw0_vh0 : Hid (∀ k, (vw0 : Value).ownBlock = some k → (vh0 : Value).ownBlock ≠ some k) := Lib.hid (fun k h1 h2 => absurd (vw0_11.out.lt k h1).2 (Nat.not_lt.2 (o_vh0.lt k h2).1))
  have AP_vg0_vh0 : Hid (∀ k, (vg0 : Value).ownBlock = some k → (vh0 : Value).ownBlock ≠ some k) := Lib.hid (fun k h1 h2 => absurd (vg0_11.out.lt k h1).2 (Nat.not_lt.2 (o_vh0.lt k h2).1))
  have AP_h0_vh0 : Hid (∀ k, (.slice (some ⟨g_h0, 0, none⟩) z0.length z0.length : Value).ownBlock = some k → (vh0 : Value).ownBlock ≠ some k) := Lib.hid (fun k h1 h2 => absurd (O_h0.out.lt k h1).2 (Nat.not_lt.2 (o_vh0.lt k h2).1))
  have O_vh0 := Lib.hid (ownz_base o_vh0 (HB_11.out.size))
  have HB_12 := Lib.hid (HB_11.out.trans (l12.mono HB_11.out.size))
  have vw0_12 := Lib.hid (ownz_below vw0_11.out l12 (Nat.le_refl _))
  clear vw0_11
  have vg0_12 := Lib.hid (ownz_below vg0_11.out l12 (Nat.le_refl _))
  clear vg0_11
  have h0_12 := Lib.hid (ownz_below O_h0.out l12 (Nat.le_refl _))
  clear O_h0
  clear HB_11
  clear l12 o_vh0
  go_wp2_with fail
  refine (eqIntS_any _ _ ps0 ps0 _ (rowz_own O_vh0.out) (rowz_own vw0_12.out)).mono ?_
  rintro e W13 ⟨rfl, k13, hw13⟩
  have l13 : Below W12.heap.size W12 W13 := by rw [hw13]; exact bdrew _ _
  clear hw13
  have HB_13 := Lib.hid (HB_12.out.trans (l13.mono HB_12.out.size))
  have vw0_13 := Lib.hid (ownz_below vw0_12.out l13 (Nat.le_refl _))
  clear vw0_12
  have vg0_13 := Lib.hid (ownz_below vg0_12.out l13 (Nat.le_refl _))
  clear vg0_12
  have h0_13 := Lib.hid (ownz_below h0_12.out l13 (Nat.le_refl _))
  clear h0_12
  have vh0_13 := Lib.hid (ownz_below O_vh0.out l13 (Nat.le_refl _))
  clear O_vh0
  clear HB_12
  clear l13
  go_wp2_with fail
  refine (heldI_own _ ps0.length 1 _ _ vg0_13.out (by have := HL0.out; have := HN0.out; omega)).mono ?_
  rintro e W ⟨rfl, rfl⟩
  go_wp2_with fail
  go_ret
  exact ⟨rfl, HB_13.out⟩
end Go.Proofs.Ytoehedogdbafpaa
