/-
  The exact laws of timers that run, and of one that is set.
-/
import Derived.Test.YtoehedogdbafpaaExTimB
import Derived.WalkLawsBesides
import Derived.Deep.RegionHeld3
import Derived.Deep.CutRange
namespace Go.Proofs.Ytoehedogdbafpaa
open Go.RowKit Go.Lib Go.Joins
set_option linter.unusedVariables false

set_option maxRecDepth 100000 in
set_option maxHeartbeats 4000000 in
theorem fnExactRunTimers_walk (w : World) (v0 : Value) (z0 : List Tm) (w0 : Row w v0 z0.length (tmF z0)) (b0 : ∀ r ∈ z0, (Lit.int .i64 r.i).wf = true ∧ (Lit.int .i64 r.d).wf = true ∧ (Lit.int .i64 r.p).wf = true) (a1 : Int) (w1 : (Lit.int .i64 a1).wf = true) (_hsh : w.ShapedOpen Try.prog) :
    Calls Try.prog 11 #[v0, .int .i64 a1] w fun e w' => e = .returned (.bool true) ∧ Below w.heap.size w w' := by
  obtain ⟨p0, cap0, rfl, hc10, hc20, _⟩ := tm_open w0
  unfold maxLen at hc20
  by_cases hn0 : (z0.length : Int) ≤ 1048576
  rotate_left
  · have HN0 := Lib.hid (fun (W : World) => szT_no p0 z0.length cap0 (1048576) W (by omega) (by omega) (by omega))
    go_enter Try.func11, Try.ntmps11
    go_wp2_with fail
    refine (HN0.out _).mono ?_
    rintro e W ⟨rfl, rfl⟩
    go_wp2_with fail
    go_ret
    exact ⟨rfl, Below.refl _ _⟩
  have HY0 := Lib.hid (fun (W : World) => szT_yes p0 z0.length cap0 (1048576) W (by omega) (by omega))
  have hl0 : ¬ ((1048576) - (z0.length : Int) < 0) := by omega
  have hm0 : z0.length ≤ 1048576 := by omega
  have HZ0 := Lib.hid w0
  have HN0 := Lib.hid hm0
  clear w0 b0
  have HSp := Lib.hid (fun (g0 : Nat) (W : World) (h0 : Row W (.slice (some ⟨g0, 0, none⟩) z0.length z0.length) z0.length (tmF z0)) => specRun_any (.slice (some ⟨g0, 0, none⟩) z0.length z0.length) z0 a1 W h0 (fit_some _ _ _))
  have HIm := Lib.hid (fun (g0 : Nat) (W : World) (h0 : Row W (.slice (some ⟨g0, 0, none⟩) z0.length z0.length) z0.length (tmF z0)) => implRun_any ⟨g0, 0, none⟩ z0.length z0 a1 W h0)
  have hlen0 := (runV_len z0 a1).1
  have hlen1 := (runV_len z0 a1).2
  generalize runV z0 a1 = ps0 at HSp HIm hlen0
  have HL0 := Lib.hid hlen0
  clear hlen0
  generalize runF z0 a1 = ps1 at HSp HIm hlen1
  have HL1 := Lib.hid hlen1
  clear hlen1
  generalize runOk z0 a1 = r0 at HSp HIm
  go_enter Try.func11, Try.ntmps11
  go_wp2_with fail
  refine (HY0.out _).mono ?_
  rintro e W ⟨rfl, rfl⟩
  go_wp2_with fail
  refine (toTS_lit _ z0 _ (HZ0.out.below (Below.refl _ _) (Nat.le_refl _)) HN0.out).mono ?_
  rintro e W1 ⟨g_s0, rfl, o_s0, l1⟩
  have O_s0 := Lib.hid o_s0
  have HB_1 := Lib.hid l1
  clear o_s0 l1
  go_wp2_with fail
  refine (HSp.out g_s0 _ (rowz_own O_s0.out)).mono ?_
  rintro e W2 ⟨vw0, vw1, rfl, o_vw0, o_vw1, apm, l2⟩
  have AP_s0_vw0 : Hid (∀ k, (.slice (some ⟨g_s0, 0, none⟩) z0.length z0.length : Value).ownBlock = some k → (vw0 : Value).ownBlock ≠ some k) := Lib.hid (fun k h1 h2 => absurd (O_s0.out.lt k h1).2 (Nat.not_lt.2 (o_vw0.lt k h2).1))
  have AP_s0_vw1 : Hid (∀ k, (.slice (some ⟨g_s0, 0, none⟩) z0.length z0.length : Value).ownBlock = some k → (vw1 : Value).ownBlock ≠ some k) := Lib.hid (fun k h1 h2 => absurd (O_s0.out.lt k h1).2 (Nat.not_lt.2 (o_vw1.lt k h2).1))
  have O_vw0 := Lib.hid (ownz_base o_vw0 (HB_1.out.size))
  have O_vw1 := Lib.hid (ownz_base o_vw1 (HB_1.out.size))
  have AP_vw0_vw1 := Lib.hid apm
  clear apm
  have HB_2 := Lib.hid (HB_1.out.trans (l2.mono HB_1.out.size))
  have s0_2 := Lib.hid (ownz_below O_s0.out l2 (Nat.le_refl _))
  clear O_s0
  clear HB_1
  clear l2 o_vw0 o_vw1
  clear s0_2
  go_wp2_with fail
  refine (toTS_lit _ z0 _ (HZ0.out.below HB_2.out (Nat.le_refl _)) HN0.out).mono ?_
  rintro e W3 ⟨g_x0, rfl, o_x0, l3⟩
  have AP_vw0_x0 : Hid (∀ k, (vw0 : Value).ownBlock = some k → (.slice (some ⟨g_x0, 0, none⟩) z0.length z0.length : Value).ownBlock ≠ some k) := Lib.hid (fun k h1 h2 => absurd (O_vw0.out.lt k h1).2 (Nat.not_lt.2 (o_x0.lt k h2).1))
  have AP_vw1_x0 : Hid (∀ k, (vw1 : Value).ownBlock = some k → (.slice (some ⟨g_x0, 0, none⟩) z0.length z0.length : Value).ownBlock ≠ some k) := Lib.hid (fun k h1 h2 => absurd (O_vw1.out.lt k h1).2 (Nat.not_lt.2 (o_x0.lt k h2).1))
  have O_x0 := Lib.hid (ownz_base o_x0 (HB_2.out.size))
  have HB_3 := Lib.hid (HB_2.out.trans (l3.mono HB_2.out.size))
  have vw0_3 := Lib.hid (ownz_below O_vw0.out l3 (Nat.le_refl _))
  clear O_vw0
  have vw1_3 := Lib.hid (ownz_below O_vw1.out l3 (Nat.le_refl _))
  clear O_vw1
  clear HB_2
  clear o_x0 l3
  go_wp2_with fail
  refine (HIm.out g_x0 _ (rowz_own O_x0.out)).mono ?_
  rintro e W4 ⟨vg0, vg1, rfl, o_vg0, o_vg1, apm, l4⟩
  have AP_vw0_vg0 : Hid (∀ k, (vw0 : Value).ownBlock = some k → (vg0 : Value).ownBlock ≠ some k) := Lib.hid (fun k h1 h2 => absurd (vw0_3.out.lt k h1).2 (Nat.not_lt.2 (o_vg0.lt k h2).1))
  have AP_vw1_vg0 : Hid (∀ k, (vw1 : Value).ownBlock = some k → (vg0 : Value).ownBlock ≠ some k) := Lib.hid (fun k h1 h2 => absurd (vw1_3.out.lt k h1).2 (Nat.not_lt.2 (o_vg0.lt k h2).1))
  have AP_x0_vg0 : Hid (∀ k, (.slice (some ⟨g_x0, 0, none⟩) z0.length z0.length : Value).ownBlock = some k → (vg0 : Value).ownBlock ≠ some k) := Lib.hid (fun k h1 h2 => absurd (O_x0.out.lt k h1).2 (Nat.not_lt.2 (o_vg0.lt k h2).1))
  have AP_vw0_vg1 : Hid (∀ k, (vw0 : Value).ownBlock = some k → (vg1 : Value).ownBlock ≠ some k) := Lib.hid (fun k h1 h2 => absurd (vw0_3.out.lt k h1).2 (Nat.not_lt.2 (o_vg1.lt k h2).1))
  have AP_vw1_vg1 : Hid (∀ k, (vw1 : Value).ownBlock = some k → (vg1 : Value).ownBlock ≠ some k) := Lib.hid (fun k h1 h2 => absurd (vw1_3.out.lt k h1).2 (Nat.not_lt.2 (o_vg1.lt k h2).1))
  have AP_x0_vg1 : Hid (∀ k, (.slice (some ⟨g_x0, 0, none⟩) z0.length z0.length : Value).ownBlock = some k → (vg1 : Value).ownBlock ≠ some k) := Lib.hid (fun k h1 h2 => absurd (O_x0.out.lt k h1).2 (Nat.not_lt.2 (o_vg1.lt k h2).1))
  have O_vg0 := Lib.hid (ownz_base o_vg0 (HB_3.out.size))
  have O_vg1 := Lib.hid (ownz_base o_vg1 (HB_3.out.size))
  have AP_vg0_vg1 := Lib.hid apm
  clear apm
  have HB_4 := Lib.hid (HB_3.out.trans (l4.mono HB_3.out.size))
  have vw0_4 := Lib.hid (ownz_below vw0_3.out l4 (Nat.le_refl _))
  clear vw0_3
  have vw1_4 := Lib.hid (ownz_below vw1_3.out l4 (Nat.le_refl _))
  clear vw1_3
  have x0_4 := Lib.hid (ownz_below O_x0.out l4 (Nat.le_refl _))
  clear O_x0
  clear HB_3
  clear l4 o_vg0 o_vg1
  go_wp2_with fail
  refine (eqTS_same _ _ ps0 _ (rowz_own O_vg0.out) (rowz_own vw0_4.out)).mono ?_
  rintro e W5 ⟨rfl, l5⟩
  have HB_5 := Lib.hid (HB_4.out.trans (l5.mono HB_4.out.size))
  have vw0_5 := Lib.hid (ownz_below vw0_4.out l5 (Nat.le_refl _))
  clear vw0_4
  have vw1_5 := Lib.hid (ownz_below vw1_4.out l5 (Nat.le_refl _))
  clear vw1_4
  have x0_5 := Lib.hid (ownz_below x0_4.out l5 (Nat.le_refl _))
  clear x0_4
  have vg0_5 := Lib.hid (ownz_below O_vg0.out l5 (Nat.le_refl _))
  clear O_vg0
  have vg1_5 := Lib.hid (ownz_below O_vg1.out l5 (Nat.le_refl _))
  clear O_vg1
  clear HB_4
  clear l5
  go_wp2_with fail
  refine (eqIntS_any _ _ ps1 ps1 _ (rowz_own vg1_5.out) (rowz_own vw1_5.out)).mono ?_
  rintro e W6 ⟨rfl, k6, hw6⟩
  have l6 : Below W5.heap.size W5 W6 := by rw [hw6]; exact bdrew _ _
  clear hw6
  have HB_6 := Lib.hid (HB_5.out.trans (l6.mono HB_5.out.size))
  have vw0_6 := Lib.hid (ownz_below vw0_5.out l6 (Nat.le_refl _))
  clear vw0_5
  have vw1_6 := Lib.hid (ownz_below vw1_5.out l6 (Nat.le_refl _))
  clear vw1_5
  have x0_6 := Lib.hid (ownz_below x0_5.out l6 (Nat.le_refl _))
  clear x0_5
  have vg0_6 := Lib.hid (ownz_below vg0_5.out l6 (Nat.le_refl _))
  clear vg0_5
  have vg1_6 := Lib.hid (ownz_below vg1_5.out l6 (Nat.le_refl _))
  clear vg1_5
  clear HB_5
  clear l6
  go_wp2_with fail
  refine (toTS_lit _ z0 _ (HZ0.out.below HB_6.out (Nat.le_refl _)) HN0.out).mono ?_
  rintro e W7 ⟨g_y0, rfl, o_y0, l7⟩
  have AP_vw0_y0 : Hid (∀ k, (vw0 : Value).ownBlock = some k → (.slice (some ⟨g_y0, 0, none⟩) z0.length z0.length : Value).ownBlock ≠ some k) := Lib.hid (fun k h1 h2 => absurd (vw0_6.out.lt k h1).2 (Nat.not_lt.2 (o_y0.lt k h2).1))
  have AP_vw1_y0 : Hid (∀ k, (vw1 : Value).ownBlock = some k → (.slice (some ⟨g_y0, 0, none⟩) z0.length z0.length : Value).ownBlock ≠ some k) := Lib.hid (fun k h1 h2 => absurd (vw1_6.out.lt k h1).2 (Nat.not_lt.2 (o_y0.lt k h2).1))
  have AP_x0_y0 : Hid (∀ k, (.slice (some ⟨g_x0, 0, none⟩) z0.length z0.length : Value).ownBlock = some k → (.slice (some ⟨g_y0, 0, none⟩) z0.length z0.length : Value).ownBlock ≠ some k) := Lib.hid (fun k h1 h2 => absurd (x0_6.out.lt k h1).2 (Nat.not_lt.2 (o_y0.lt k h2).1))
  have AP_vg0_y0 : Hid (∀ k, (vg0 : Value).ownBlock = some k → (.slice (some ⟨g_y0, 0, none⟩) z0.length z0.length : Value).ownBlock ≠ some k) := Lib.hid (fun k h1 h2 => absurd (vg0_6.out.lt k h1).2 (Nat.not_lt.2 (o_y0.lt k h2).1))
  have AP_vg1_y0 : Hid (∀ k, (vg1 : Value).ownBlock = some k → (.slice (some ⟨g_y0, 0, none⟩) z0.length z0.length : Value).ownBlock ≠ some k) := Lib.hid (fun k h1 h2 => absurd (vg1_6.out.lt k h1).2 (Nat.not_lt.2 (o_y0.lt k h2).1))
  have O_y0 := Lib.hid (ownz_base o_y0 (HB_6.out.size))
  have HB_7 := Lib.hid (HB_6.out.trans (l7.mono HB_6.out.size))
  have vw0_7 := Lib.hid (ownz_below vw0_6.out l7 (Nat.le_refl _))
  clear vw0_6
  have vw1_7 := Lib.hid (ownz_below vw1_6.out l7 (Nat.le_refl _))
  clear vw1_6
  have x0_7 := Lib.hid (ownz_below x0_6.out l7 (Nat.le_refl _))
  clear x0_6
  have vg0_7 := Lib.hid (ownz_below vg0_6.out l7 (Nat.le_refl _))
  clear vg0_6
  have vg1_7 := Lib.hid (ownz_below vg1_6.out l7 (Nat.le_refl _))
  clear vg1_6
  clear HB_6
  clear o_y0 l7
  go_wp2_with fail
  refine (eqTS_same _ _ z0 _ (rowz_own x0_7.out) (rowz_own O_y0.out)).mono ?_
  rintro e W8 ⟨rfl, l8⟩
  have HB_8 := Lib.hid (HB_7.out.trans (l8.mono HB_7.out.size))
  have vw0_8 := Lib.hid (ownz_below vw0_7.out l8 (Nat.le_refl _))
  clear vw0_7
  have vw1_8 := Lib.hid (ownz_below vw1_7.out l8 (Nat.le_refl _))
  clear vw1_7
  have x0_8 := Lib.hid (ownz_below x0_7.out l8 (Nat.le_refl _))
  clear x0_7
  have vg0_8 := Lib.hid (ownz_below vg0_7.out l8 (Nat.le_refl _))
  clear vg0_7
  have vg1_8 := Lib.hid (ownz_below vg1_7.out l8 (Nat.le_refl _))
  clear vg1_7
  have y0_8 := Lib.hid (ownz_below O_y0.out l8 (Nat.le_refl _))
  clear O_y0
  clear HB_7
  clear l8
  clear y0_8
  go_wp2_with fail
  refine (markT_own _ z0.length 1 _ _ _ x0_8.out (by have := HL0.out; have := HL1.out; have := HN0.out; omega)).mono ?_
  rintro e W9 ⟨rfl, m9, gr9⟩
  have HB_9 := Lib.hid (HB_8.out.grown gr9 HB_8.out.size (fun q hq => (x0_8.out.lt q hq).1))
  have vw0_9 := Lib.hid (ownz_apart vw0_8.out gr9 (fun k h1 h2 => AP_vw0_x0.out k h1 h2))
  clear vw0_8
  have vw1_9 := Lib.hid (ownz_apart vw1_8.out gr9 (fun k h1 h2 => AP_vw1_x0.out k h1 h2))
  clear vw1_8
  have vg0_9 := Lib.hid (ownz_apart vg0_8.out gr9 (fun k h1 h2 => AP_x0_vg0.out k h2 h1))
  clear vg0_8
  have vg1_9 := Lib.hid (ownz_apart vg1_8.out gr9 (fun k h1 h2 => AP_x0_vg1.out k h2 h1))
  clear vg1_8
  have x0_9 := Lib.hid m9
  clear m9 gr9 x0_8 HB_8
  go_wp2_with fail
  refine (eqTS_same _ _ ps0 _ (rowz_own vg0_9.out) (rowz_own vw0_9.out)).mono ?_
  rintro e W10 ⟨rfl, l10⟩
  have HB_10 := Lib.hid (HB_9.out.trans (l10.mono HB_9.out.size))
  have vw0_10 := Lib.hid (ownz_below vw0_9.out l10 (Nat.le_refl _))
  clear vw0_9
  have vw1_10 := Lib.hid (ownz_below vw1_9.out l10 (Nat.le_refl _))
  clear vw1_9
  have x0_10 := Lib.hid (ownz_below x0_9.out l10 (Nat.le_refl _))
  clear x0_9
  have vg0_10 := Lib.hid (ownz_below vg0_9.out l10 (Nat.le_refl _))
  clear vg0_9
  have vg1_10 := Lib.hid (ownz_below vg1_9.out l10 (Nat.le_refl _))
  clear vg1_9
  clear HB_9
  clear l10
  go_wp2_with fail
  refine (eqIntS_any _ _ ps1 ps1 _ (rowz_own vg1_10.out) (rowz_own vw1_10.out)).mono ?_
  rintro e W11 ⟨rfl, k11, hw11⟩
  have l11 : Below W10.heap.size W10 W11 := by rw [hw11]; exact bdrew _ _
  clear hw11
  have HB_11 := Lib.hid (HB_10.out.trans (l11.mono HB_10.out.size))
  have vw0_11 := Lib.hid (ownz_below vw0_10.out l11 (Nat.le_refl _))
  clear vw0_10
  have vw1_11 := Lib.hid (ownz_below vw1_10.out l11 (Nat.le_refl _))
  clear vw1_10
  have x0_11 := Lib.hid (ownz_below x0_10.out l11 (Nat.le_refl _))
  clear x0_10
  have vg0_11 := Lib.hid (ownz_below vg0_10.out l11 (Nat.le_refl _))
  clear vg0_10
  have vg1_11 := Lib.hid (ownz_below vg1_10.out l11 (Nat.le_refl _))
  clear vg1_10
  clear HB_10
  clear l11
  clear x0_11
  go_wp2_with fail
  refine (markT_own _ ps0.length 1 _ _ _ vg0_11.out (by have := HL0.out; have := HL1.out; have := HN0.out; omega)).mono ?_
  rintro e W12 ⟨rfl, m12, gr12⟩
  have HB_12 := Lib.hid (HB_11.out.grown gr12 HB_11.out.size (fun q hq => (vg0_11.out.lt q hq).1))
  have vw0_12 := Lib.hid (ownz_apart vw0_11.out gr12 (fun k h1 h2 => AP_vw0_vg0.out k h1 h2))
  clear vw0_11
  have vw1_12 := Lib.hid (ownz_apart vw1_11.out gr12 (fun k h1 h2 => AP_vw1_vg0.out k h1 h2))
  clear vw1_11
  have vg1_12 := Lib.hid (ownz_apart vg1_11.out gr12 (fun k h1 h2 => AP_vg0_vg1.out k h2 h1))
  clear vg1_11
  have vg0_12 := Lib.hid m12
  clear m12 gr12 vg0_11 HB_11
  go_wp2_with fail
  refine (markI_own _ ps1.length (1 + 3 * ps0.length) _ _ _ vg1_12.out (by have := HL0.out; have := HL1.out; have := HN0.out; omega)).mono ?_
  rintro e W13 ⟨rfl, m13, gr13⟩
  have HB_13 := Lib.hid (HB_12.out.grown gr13 HB_12.out.size (fun q hq => (vg1_12.out.lt q hq).1))
  have vw0_13 := Lib.hid (ownz_apart vw0_12.out gr13 (fun k h1 h2 => AP_vw0_vg1.out k h1 h2))
  clear vw0_12
  have vw1_13 := Lib.hid (ownz_apart vw1_12.out gr13 (fun k h1 h2 => AP_vw1_vg1.out k h1 h2))
  clear vw1_12
  have vg0_13 := Lib.hid (ownz_apart vg0_12.out gr13 (fun k h1 h2 => AP_vg0_vg1.out k h1 h2))
  clear vg0_12
  have vg1_13 := Lib.hid m13
  clear m13 gr13 vg1_12 HB_12
  go_wp2_with fail
  refine (heldT_own _ ps0.length 1 _ _ vg0_13.out (by have := HL0.out; have := HL1.out; have := HN0.out; omega)).mono ?_
  rintro e W ⟨rfl, rfl⟩
  go_wp2_with fail
  refine (heldI_own _ ps1.length (1 + 3 * ps0.length) _ _ vg1_13.out (by have := HL0.out; have := HL1.out; have := HN0.out; omega)).mono ?_
  rintro e W ⟨rfl, rfl⟩
  go_wp2_with fail
  refine (toTS_lit _ z0 _ (HZ0.out.below HB_13.out (Nat.le_refl _)) HN0.out).mono ?_
  rintro e W14 ⟨g_h0, rfl, o_h0, l14⟩
  have AP_vw0_h0 : Hid (∀ k, (vw0 : Value).ownBlock = some k → (.slice (some ⟨g_h0, 0, none⟩) z0.length z0.length : Value).ownBlock ≠ some k) := Lib.hid (fun k h1 h2 => absurd (vw0_13.out.lt k h1).2 (Nat.not_lt.2 (o_h0.lt k h2).1))
  have AP_vw1_h0 : Hid (∀ k, (vw1 : Value).ownBlock = some k → (.slice (some ⟨g_h0, 0, none⟩) z0.length z0.length : Value).ownBlock ≠ some k) := Lib.hid (fun k h1 h2 => absurd (vw1_13.out.lt k h1).2 (Nat.not_lt.2 (o_h0.lt k h2).1))
  have AP_vg0_h0 : Hid (∀ k, (vg0 : Value).ownBlock = some k → (.slice (some ⟨g_h0, 0, none⟩) z0.length z0.length : Value).ownBlock ≠ some k) := Lib.hid (fun k h1 h2 => absurd (vg0_13.out.lt k h1).2 (Nat.not_lt.2 (o_h0.lt k h2).1))
  have AP_vg1_h0 : Hid (∀ k, (vg1 : Value).ownBlock = some k → (.slice (some ⟨g_h0, 0, none⟩) z0.length z0.length : Value).ownBlock ≠ some k) := Lib.hid (fun k h1 h2 => absurd (vg1_13.out.lt k h1).2 (Nat.not_lt.2 (o_h0.lt k h2).1))
  have O_h0 := Lib.hid (ownz_base o_h0 (HB_13.out.size))
  have HB_14 := Lib.hid (HB_13.out.trans (l14.mono HB_13.out.size))
  have vw0_14 := Lib.hid (ownz_below vw0_13.out l14 (Nat.le_refl _))
  clear vw0_13
  have vw1_14 := Lib.hid (ownz_below vw1_13.out l14 (Nat.le_refl _))
  clear vw1_13
  have vg0_14 := Lib.hid (ownz_below vg0_13.out l14 (Nat.le_refl _))
  clear vg0_13
  have vg1_14 := Lib.hid (ownz_below vg1_13.out l14 (Nat.le_refl _))
  clear vg1_13
  clear HB_13
  clear o_h0 l14
  go_wp2_with fail
  refine (HIm.out g_h0 _ (rowz_own O_h0.out)).mono ?_
  rintro e W15 ⟨vh0, vh1, rfl, o_vh0, o_vh1, apm, l15⟩
  have AP_vw0_vh0 : Hid (∀ k, (vw0 : Value).ownBlock = some k → (vh0 : Value).ownBlock ≠ some k) := Lib.hid (fun k h1 h2 => absurd (vw0_14.out.lt k h1).2 (Nat.not_lt.2 (o_vh0.lt k h2).1))
  have AP_vw1_vh0 : Hid (∀ k, (vw1 : Value).ownBlock = some k → (vh0 : Value).ownBlock ≠ some k) := Lib.hid (fun k h1 h2 => absurd (vw1_14.out.lt k h1).2 (Nat.not_lt.2 (o_vh0.lt k h2).1))
  have AP_vg0_vh0 : Hid (∀ k, (vg0 : Value).ownBlock = some k → (vh0 : Value).ownBlock ≠ some k) := Lib.hid (fun k h1 h2 => absurd (vg0_14.out.lt k h1).2 (Nat.not_lt.2 (o_vh0.lt k h2).1))
  have AP_vg1_vh0 : Hid (∀ k, (vg1 : Value).ownBlock = some k → (vh0 : Value).ownBlock ≠ some k) := Lib.hid (fun k h1 h2 => absurd (vg1_14.out.lt k h1).2 (Nat.not_lt.2 (o_vh0.lt k h2).1))
  have AP_h0_vh0 : Hid (∀ k, (.slice (some ⟨g_h0, 0, none⟩) z0.length z0.length : Value).ownBlock = some k → (vh0 : Value).ownBlock ≠ some k) := Lib.hid (fun k h1 h2 => absurd (O_h0.out.lt k h1).2 (Nat.not_lt.2 (o_vh0.lt k h2).1))
  have AP_vw0_vh1 : Hid (∀ k, (vw0 : Value).ownBlock = some k → (vh1 : Value).ownBlock ≠ some k) := Lib.hid (fun k h1 h2 => absurd (vw0_14.out.lt k h1).2 (Nat.not_lt.2 (o_vh1.lt k h2).1))
  have AP_vw1_vh1 : Hid (∀ k, (vw1 : Value).ownBlock = some k → (vh1 : Value).ownBlock ≠ some k) := Lib.hid (fun k h1 h2 => absurd (vw1_14.out.lt k h1).2 (Nat.not_lt.2 (o_vh1.lt k h2).1))
  have AP_vg0_vh1 : Hid (∀ k, (vg0 : Value).ownBlock = some k → (vh1 : Value).ownBlock ≠ some k) := Lib.hid (fun k h1 h2 => absurd (vg0_14.out.lt k h1).2 (Nat.not_lt.2 (o_vh1.lt k h2).1))
  have AP_vg1_vh1 : Hid (∀ k, (vg1 : Value).ownBlock = some k → (vh1 : Value).ownBlock ≠ some k) := Lib.hid (fun k h1 h2 => absurd (vg1_14.out.lt k h1).2 (Nat.not_lt.2 (o_vh1.lt k h2).1))
  have AP_h0_vh1 : Hid (∀ k, (.slice (some ⟨g_h0, 0, none⟩) z0.length z0.length : Value).ownBlock = some k → (vh1 : Value).ownBlock ≠ some k) := Lib.hid (fun k h1 h2 => absurd (O_h0.out.lt k h1).2 (Nat.not_lt.2 (o_vh1.lt k h2).1))
  have O_vh0 := Lib.hid (ownz_base o_vh0 (HB_14.out.size))
  have O_vh1 := Lib.hid (ownz_base o_vh1 (HB_14.out.size))
  have AP_vh0_vh1 := Lib.hid apm
  clear apm
  have HB_15 := Lib.hid (HB_14.out.trans (l15.mono HB_14.out.size))
  have vw0_15 := Lib.hid (ownz_below vw0_14.out l15 (Nat.le_refl _))
  clear vw0_14
  have vw1_15 := Lib.hid (ownz_below vw1_14.out l15 (Nat.le_refl _))
  clear vw1_14
  have vg0_15 := Lib.hid (ownz_below vg0_14.out l15 (Nat.le_refl _))
  clear vg0_14
  have vg1_15 := Lib.hid (ownz_below vg1_14.out l15 (Nat.le_refl _))
  clear vg1_14
  have h0_15 := Lib.hid (ownz_below O_h0.out l15 (Nat.le_refl _))
  clear O_h0
  clear HB_14
  clear l15 o_vh0 o_vh1
  go_wp2_with fail
  refine (eqTS_same _ _ ps0 _ (rowz_own O_vh0.out) (rowz_own vw0_15.out)).mono ?_
  rintro e W16 ⟨rfl, l16⟩
  have HB_16 := Lib.hid (HB_15.out.trans (l16.mono HB_15.out.size))
  have vw0_16 := Lib.hid (ownz_below vw0_15.out l16 (Nat.le_refl _))
  clear vw0_15
  have vw1_16 := Lib.hid (ownz_below vw1_15.out l16 (Nat.le_refl _))
  clear vw1_15
  have vg0_16 := Lib.hid (ownz_below vg0_15.out l16 (Nat.le_refl _))
  clear vg0_15
  have vg1_16 := Lib.hid (ownz_below vg1_15.out l16 (Nat.le_refl _))
  clear vg1_15
  have h0_16 := Lib.hid (ownz_below h0_15.out l16 (Nat.le_refl _))
  clear h0_15
  have vh0_16 := Lib.hid (ownz_below O_vh0.out l16 (Nat.le_refl _))
  clear O_vh0
  have vh1_16 := Lib.hid (ownz_below O_vh1.out l16 (Nat.le_refl _))
  clear O_vh1
  clear HB_15
  clear l16
  go_wp2_with fail
  refine (eqIntS_any _ _ ps1 ps1 _ (rowz_own vh1_16.out) (rowz_own vw1_16.out)).mono ?_
  rintro e W17 ⟨rfl, k17, hw17⟩
  have l17 : Below W16.heap.size W16 W17 := by rw [hw17]; exact bdrew _ _
  clear hw17
  have HB_17 := Lib.hid (HB_16.out.trans (l17.mono HB_16.out.size))
  have vw0_17 := Lib.hid (ownz_below vw0_16.out l17 (Nat.le_refl _))
  clear vw0_16
  have vw1_17 := Lib.hid (ownz_below vw1_16.out l17 (Nat.le_refl _))
  clear vw1_16
  have vg0_17 := Lib.hid (ownz_below vg0_16.out l17 (Nat.le_refl _))
  clear vg0_16
  have vg1_17 := Lib.hid (ownz_below vg1_16.out l17 (Nat.le_refl _))
  clear vg1_16
  have h0_17 := Lib.hid (ownz_below h0_16.out l17 (Nat.le_refl _))
  clear h0_16
  have vh0_17 := Lib.hid (ownz_below vh0_16.out l17 (Nat.le_refl _))
  clear vh0_16
  have vh1_17 := Lib.hid (ownz_below vh1_16.out l17 (Nat.le_refl _))
  clear vh1_16
  clear HB_16
  clear l17
  go_wp2_with fail
  refine (heldT_own _ ps0.length 1 _ _ vg0_17.out (by have := HL0.out; have := HL1.out; have := HN0.out; omega)).mono ?_
  rintro e W ⟨rfl, rfl⟩
  go_wp2_with fail
  refine (heldI_own _ ps1.length (1 + 3 * ps0.length) _ _ vg1_17.out (by have := HL0.out; have := HL1.out; have := HN0.out; omega)).mono ?_
  rintro e W ⟨rfl, rfl⟩
  go_wp2_with fail
  go_ret
  exact ⟨rfl, HB_17.out⟩
end Go.Proofs.Ytoehedogdbafpaa
