/-
  The exact laws of timers: validity, the next one, ticks.
-/
import Derived.Test.YtoehedogdbafpaaExTimB
import Derived.WalkLawsBesides
import Derived.Deep.RegionHeld3
import Derived.Deep.CutRange
namespace Go.Proofs.Ytoehedogdbafpaa
open Go.RowKit Go.Lib Go.Joins
set_option linter.unusedVariables false

set_option maxRecDepth 100000 in
set_option maxHeartbeats 4000000 in
theorem fnExactIsValidTimers_walk (w : World) (v0 : Value) (z0 : List Tm) (w0 : Row w v0 z0.length (tmF z0)) (b0 : ∀ r ∈ z0, (Lit.int .i64 r.i).wf = true ∧ (Lit.int .i64 r.d).wf = true ∧ (Lit.int .i64 r.p).wf = true) (_hsh : w.ShapedOpen Try.prog) :
    Calls Try.prog 5 #[v0] w fun e w' => e = .returned (.bool true) ∧ Below w.heap.size w w' := by
  obtain ⟨p0, cap0, rfl, hc10, hc20, _⟩ := tm_open w0
  unfold maxLen at hc20
  by_cases hn0 : (z0.length : Int) ≤ 1048576
  rotate_left
  · have HN0 := Lib.hid (fun (W : World) => szT_no p0 z0.length cap0 (1048576) W (by omega) (by omega) (by omega))
    go_enter Try.func5, Try.ntmps5
    go_wp2_with fail
    refine (HN0.out _).mono ?_
    rintro e W ⟨rfl, rfl⟩
    go_wp2_with fail
    go_ret
    exact ⟨rfl, Below.refl _ _⟩
  have HY0 := Lib.hid (fun (W : World) => szT_yes p0 z0.length cap0 (1048576) W (by omega) (by omega))
  have hl0 : ¬ ((1048576) - (z0.length : Int) < 0) := by omega
  have hm0 : z0.length ≤ 1048576 := by omega
  have HZ0 := Lib.hid w0
  have HN0 := Lib.hid hm0
  clear w0 b0
  have HSp := Lib.hid (fun (g0 : Nat) (W : World) (h0 : Row W (.slice (some ⟨g0, 0, none⟩) z0.length z0.length) z0.length (tmF z0)) => specIsT_any (.slice (some ⟨g0, 0, none⟩) z0.length z0.length) z0 W h0)
  have HIm := Lib.hid (fun (g0 : Nat) (W : World) (h0 : Row W (.slice (some ⟨g0, 0, none⟩) z0.length z0.length) z0.length (tmF z0)) => implIsT_any (.slice (some ⟨g0, 0, none⟩) z0.length z0.length) z0 W h0)
  generalize tsOk z0 = r0 at HSp HIm
  go_enter Try.func5, Try.ntmps5
  go_wp2_with fail
  refine (HY0.out _).mono ?_
  rintro e W ⟨rfl, rfl⟩
  go_wp2_with fail
  refine (toTS_lit _ z0 _ (HZ0.out.below (Below.refl _ _) (Nat.le_refl _)) HN0.out).mono ?_
  rintro e W1 ⟨g_s0, rfl, o_s0, l1⟩
  have O_s0 := Lib.hid o_s0
  have HB_1 := Lib.hid l1
  clear o_s0 l1
  go_wp2_with fail
  refine (HSp.out g_s0 _ (rowz_own O_s0.out)).mono ?_
  rintro e W2 ⟨rfl, l2⟩
  have HB_2 := Lib.hid (HB_1.out.trans (l2.mono HB_1.out.size))
  have s0_2 := Lib.hid (ownz_below O_s0.out l2 (Nat.le_refl _))
  clear O_s0
  clear HB_1
  clear l2
  clear s0_2
  go_wp2_with fail
  refine (toTS_lit _ z0 _ (HZ0.out.below HB_2.out (Nat.le_refl _)) HN0.out).mono ?_
  rintro e W3 ⟨g_x0, rfl, o_x0, l3⟩
  have O_x0 := Lib.hid (ownz_base o_x0 (HB_2.out.size))
  have HB_3 := Lib.hid (HB_2.out.trans (l3.mono HB_2.out.size))
  clear HB_2
  clear o_x0 l3
  go_wp2_with fail
  refine (HIm.out g_x0 _ (rowz_own O_x0.out)).mono ?_
  rintro e W4 ⟨rfl, l4⟩
  have HB_4 := Lib.hid (HB_3.out.trans (l4.mono HB_3.out.size))
  have x0_4 := Lib.hid (ownz_below O_x0.out l4 (Nat.le_refl _))
  clear O_x0
  clear HB_3
  clear l4
  go_wp2_with fail
  refine (toTS_lit _ z0 _ (HZ0.out.below HB_4.out (Nat.le_refl _)) HN0.out).mono ?_
  rintro e W5 ⟨g_y0, rfl, o_y0, l5⟩
  have AP_x0_y0 : Hid (∀ k, (.slice (some ⟨g_x0, 0, none⟩) z0.length z0.length : Value).ownBlock = some k → (.slice (some ⟨g_y0, 0, none⟩) z0.length z0.length : Value).ownBlock ≠ some k) := Lib.hid (fun k h1 h2 => absurd (x0_4.out.lt k h1).2 (Nat.not_lt.2 (o_y0.lt k h2).1))
  have O_y0 := Lib.hid (ownz_base o_y0 (HB_4.out.size))
  have HB_5 := Lib.hid (HB_4.out.trans (l5.mono HB_4.out.size))
  have x0_5 := Lib.hid (ownz_below x0_4.out l5 (Nat.le_refl _))
  clear x0_4
  clear HB_4
  clear o_y0 l5
  go_wp2_with fail
  refine (eqTS_same _ _ z0 _ (rowz_own x0_5.out) (rowz_own O_y0.out)).mono ?_
  rintro e W6 ⟨rfl, l6⟩
  have HB_6 := Lib.hid (HB_5.out.trans (l6.mono HB_5.out.size))
  have x0_6 := Lib.hid (ownz_below x0_5.out l6 (Nat.le_refl _))
  clear x0_5
  have y0_6 := Lib.hid (ownz_below O_y0.out l6 (Nat.le_refl _))
  clear O_y0
  clear HB_5
  clear l6
  clear y0_6
  go_wp2_with fail
  go_ret
  exact ⟨rfl, HB_6.out⟩
set_option maxRecDepth 100000 in
set_option maxHeartbeats 4000000 in
theorem fnExactNextDue_walk (w : World) (v0 : Value) (z0 : List Tm) (w0 : Row w v0 z0.length (tmF z0)) (b0 : ∀ r ∈ z0, (Lit.int .i64 r.i).wf = true ∧ (Lit.int .i64 r.d).wf = true ∧ (Lit.int .i64 r.p).wf = true) (_hsh : w.ShapedOpen Try.prog) :
    Calls Try.prog 9 #[v0] w fun e w' => e = .returned (.bool true) ∧ Below w.heap.size w w' := by
  obtain ⟨p0, cap0, rfl, hc10, hc20, _⟩ := tm_open w0
  unfold maxLen at hc20
  by_cases hn0 : (z0.length : Int) ≤ 1048576
  rotate_left
  · have HN0 := Lib.hid (fun (W : World) => szT_no p0 z0.length cap0 (1048576) W (by omega) (by omega) (by omega))
    go_enter Try.func9, Try.ntmps9
    go_wp2_with fail
    refine (HN0.out _).mono ?_
    rintro e W ⟨rfl, rfl⟩
    go_wp2_with fail
    go_ret
    exact ⟨rfl, Below.refl _ _⟩
  have HY0 := Lib.hid (fun (W : World) => szT_yes p0 z0.length cap0 (1048576) W (by omega) (by omega))
  have hl0 : ¬ ((1048576) - (z0.length : Int) < 0) := by omega
  have hm0 : z0.length ≤ 1048576 := by omega
  have HZ0 := Lib.hid w0
  have HN0 := Lib.hid hm0
  clear w0 b0
  have HSp := Lib.hid (fun (g0 : Nat) (W : World) (h0 : Row W (.slice (some ⟨g0, 0, none⟩) z0.length z0.length) z0.length (tmF z0)) => specNext_any (.slice (some ⟨g0, 0, none⟩) z0.length z0.length) z0 W h0)
  have HIm := Lib.hid (fun (g0 : Nat) (W : World) (h0 : Row W (.slice (some ⟨g0, 0, none⟩) z0.length z0.length) z0.length (tmF z0)) => implNext_any (.slice (some ⟨g0, 0, none⟩) z0.length z0.length) z0 W h0 (fit_some _ _ _))
  generalize (nextT z0).d = r0 at HSp HIm
  generalize (nextT z0).i = r1 at HSp HIm
  generalize nextOk z0 = r2 at HSp HIm
  go_enter Try.func9, Try.ntmps9
  go_wp2_with fail
  refine (HY0.out _).mono ?_
  rintro e W ⟨rfl, rfl⟩
  go_wp2_with fail
  refine (toTS_lit _ z0 _ (HZ0.out.below (Below.refl _ _) (Nat.le_refl _)) HN0.out).mono ?_
  rintro e W1 ⟨g_s0, rfl, o_s0, l1⟩
  have O_s0 := Lib.hid o_s0
  have HB_1 := Lib.hid l1
  clear o_s0 l1
  go_wp2_with fail
  refine (HSp.out g_s0 _ (rowz_own O_s0.out)).mono ?_
  rintro e W2 ⟨rfl, l2⟩
  have HB_2 := Lib.hid (HB_1.out.trans (l2.mono HB_1.out.size))
  have s0_2 := Lib.hid (ownz_below O_s0.out l2 (Nat.le_refl _))
  clear O_s0
  clear HB_1
  clear l2
  clear s0_2
  go_wp2_with fail
  refine (toTS_lit _ z0 _ (HZ0.out.below HB_2.out (Nat.le_refl _)) HN0.out).mono ?_
  rintro e W3 ⟨g_x0, rfl, o_x0, l3⟩
  have O_x0 := Lib.hid (ownz_base o_x0 (HB_2.out.size))
  have HB_3 := Lib.hid (HB_2.out.trans (l3.mono HB_2.out.size))
  clear HB_2
  clear o_x0 l3
  go_wp2_with fail
  refine (HIm.out g_x0 _ (rowz_own O_x0.out)).mono ?_
  rintro e W4 ⟨rfl, l4⟩
  have HB_4 := Lib.hid (HB_3.out.trans (l4.mono HB_3.out.size))
  have x0_4 := Lib.hid (ownz_below O_x0.out l4 (Nat.le_refl _))
  clear O_x0
  clear HB_3
  clear l4
  go_wp2_with fail
  refine (toTS_lit _ z0 _ (HZ0.out.below HB_4.out (Nat.le_refl _)) HN0.out).mono ?_
  rintro e W5 ⟨g_y0, rfl, o_y0, l5⟩
  have AP_x0_y0 : Hid (∀ k, (.slice (some ⟨g_x0, 0, none⟩) z0.length z0.length : Value).ownBlock = some k → (.slice (some ⟨g_y0, 0, none⟩) z0.length z0.length : Value).ownBlock ≠ some k) := Lib.hid (fun k h1 h2 => absurd (x0_4.out.lt k h1).2 (Nat.not_lt.2 (o_y0.lt k h2).1))
  have O_y0 := Lib.hid (ownz_base o_y0 (HB_4.out.size))
  have HB_5 := Lib.hid (HB_4.out.trans (l5.mono HB_4.out.size))
  have x0_5 := Lib.hid (ownz_below x0_4.out l5 (Nat.le_refl _))
  clear x0_4
  clear HB_4
  clear o_y0 l5
  go_wp2_with fail
  refine (eqTS_same _ _ z0 _ (rowz_own x0_5.out) (rowz_own O_y0.out)).mono ?_
  rintro e W6 ⟨rfl, l6⟩
  have HB_6 := Lib.hid (HB_5.out.trans (l6.mono HB_5.out.size))
  have x0_6 := Lib.hid (ownz_below x0_5.out l6 (Nat.le_refl _))
  clear x0_5
  have y0_6 := Lib.hid (ownz_below O_y0.out l6 (Nat.le_refl _))
  clear O_y0
  clear HB_5
  clear l6
  clear y0_6
  go_wp2_with fail
  go_ret
  exact ⟨rfl, HB_6.out⟩
set_option maxRecDepth 100000 in
set_option maxHeartbeats 4000000 in
theorem fnExactTicksUntil_walk (w : World) (v0 : Value) (z0 : List Tm) (w0 : Row w v0 z0.length (tmF z0)) (b0 : ∀ r ∈ z0, (Lit.int .i64 r.i).wf = true ∧ (Lit.int .i64 r.d).wf = true ∧ (Lit.int .i64 r.p).wf = true) (a1 : Int) (w1 : (Lit.int .i64 a1).wf = true) (a2 : Int) (w2 : (Lit.int .i64 a2).wf = true) (_hsh : w.ShapedOpen Try.prog) :
    Calls Try.prog 12 #[v0, .int .i64 a1, .int .i64 a2] w fun e w' => e = .returned (.bool true) ∧ Below w.heap.size w w' := by
  obtain ⟨p0, cap0, rfl, hc10, hc20, _⟩ := tm_open w0
  unfold maxLen at hc20
  by_cases hn0 : (z0.length : Int) ≤ 1048576
  rotate_left
  · have HN0 := Lib.hid (fun (W : World) => szT_no p0 z0.length cap0 (1048576) W (by omega) (by omega) (by omega))
    go_enter Try.func12, Try.ntmps12
    go_wp2_with fail
    refine (HN0.out _).mono ?_
    rintro e W ⟨rfl, rfl⟩
    go_wp2_with fail
    go_ret
    exact ⟨rfl, Below.refl _ _⟩
  have HY0 := Lib.hid (fun (W : World) => szT_yes p0 z0.length cap0 (1048576) W (by omega) (by omega))
  have hl0 : ¬ ((1048576) - (z0.length : Int) < 0) := by omega
  have hm0 : z0.length ≤ 1048576 := by omega
  have HZ0 := Lib.hid w0
  have HN0 := Lib.hid hm0
  clear w0 b0
  have HSp := Lib.hid (fun (g0 : Nat) (W : World) (h0 : Row W (.slice (some ⟨g0, 0, none⟩) z0.length z0.length) z0.length (tmF z0)) => specTicks_any (.slice (some ⟨g0, 0, none⟩) z0.length z0.length) z0 a1 a2 W h0)
  have HIm := Lib.hid (fun (g0 : Nat) (W : World) (h0 : Row W (.slice (some ⟨g0, 0, none⟩) z0.length z0.length) z0.length (tmF z0)) => implTicks_any (.slice (some ⟨g0, 0, none⟩) z0.length z0.length) z0 a1 a2 W h0)
  generalize tickV z0 a1 a2 = r0 at HSp HIm
  generalize tickOk z0 a1 a2 = r1 at HSp HIm
  go_enter Try.func12, Try.ntmps12
  go_wp2_with fail
  refine (HY0.out _).mono ?_
  rintro e W ⟨rfl, rfl⟩
  go_wp2_with fail
  refine (toTS_lit _ z0 _ (HZ0.out.below (Below.refl _ _) (Nat.le_refl _)) HN0.out).mono ?_
  rintro e W1 ⟨g_s0, rfl, o_s0, l1⟩
  have O_s0 := Lib.hid o_s0
  have HB_1 := Lib.hid l1
  clear o_s0 l1
  go_wp2_with fail
  refine (HSp.out g_s0 _ (rowz_own O_s0.out)).mono ?_
  rintro e W2 ⟨rfl, l2⟩
  have HB_2 := Lib.hid (HB_1.out.trans (l2.mono HB_1.out.size))
  have s0_2 := Lib.hid (ownz_below O_s0.out l2 (Nat.le_refl _))
  clear O_s0
  clear HB_1
  clear l2
  clear s0_2
  go_wp2_with fail
  refine (toTS_lit _ z0 _ (HZ0.out.below HB_2.out (Nat.le_refl _)) HN0.out).mono ?_
  rintro e W3 ⟨g_x0, rfl, o_x0, l3⟩
  have O_x0 := Lib.hid (ownz_base o_x0 (HB_2.out.size))
  have HB_3 := Lib.hid (HB_2.out.trans (l3.mono HB_2.out.size))
  clear HB_2
  clear o_x0 l3
  go_wp2_with fail
  refine (HIm.out g_x0 _ (rowz_own O_x0.out)).mono ?_
  rintro e W4 ⟨rfl, l4⟩
  have HB_4 := Lib.hid (HB_3.out.trans (l4.mono HB_3.out.size))
  have x0_4 := Lib.hid (ownz_below O_x0.out l4 (Nat.le_refl _))
  clear O_x0
  clear HB_3
  clear l4
  go_wp2_with fail
  refine (toTS_lit _ z0 _ (HZ0.out.below HB_4.out (Nat.le_refl _)) HN0.out).mono ?_
  rintro e W5 ⟨g_y0, rfl, o_y0, l5⟩
  have AP_x0_y0 : Hid (∀ k, (.slice (some ⟨g_x0, 0, none⟩) z0.length z0.length : Value).ownBlock = some k → (.slice (some ⟨g_y0, 0, none⟩) z0.length z0.length : Value).ownBlock ≠ some k) := Lib.hid (fun k h1 h2 => absurd (x0_4.out.lt k h1).2 (Nat.not_lt.2 (o_y0.lt k h2).1))
  have O_y0 := Lib.hid (ownz_base o_y0 (HB_4.out.size))
  have HB_5 := Lib.hid (HB_4.out.trans (l5.mono HB_4.out.size))
  have x0_5 := Lib.hid (ownz_below x0_4.out l5 (Nat.le_refl _))
  clear x0_4
  clear HB_4
  clear o_y0 l5
  go_wp2_with fail
  refine (eqTS_same _ _ z0 _ (rowz_own x0_5.out) (rowz_own O_y0.out)).mono ?_
  rintro e W6 ⟨rfl, l6⟩
  have HB_6 := Lib.hid (HB_5.out.trans (l6.mono HB_5.out.size))
  have x0_6 := Lib.hid (ownz_below x0_5.out l6 (Nat.le_refl _))
  clear x0_5
  have y0_6 := Lib.hid (ownz_below O_y0.out l6 (Nat.le_refl _))
  clear O_y0
  clear HB_5
  clear l6
  clear y0_6
  go_wp2_with fail
  go_ret
  exact ⟨rfl, HB_6.out⟩
end Go.Proofs.Ytoehedogdbafpaa
