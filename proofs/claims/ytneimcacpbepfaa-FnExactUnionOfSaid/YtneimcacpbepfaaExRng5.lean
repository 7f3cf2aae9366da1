/-
  The exact laws of UnionOf and AddRange.
-/
import Derived.Test.YtneimcacpbepfaaRngI7
import Derived.Test.YtneimcacpbepfaaRngS
import Derived.WalkLawsBesides
namespace Go.Proofs.Ytneimcacpbepfaa
open Go.RowKit Go.Lib Go.Joins
set_option linter.unusedVariables false

theorem two_len5 (x y z : List Rg) : (twoL x y z).length ≤ 65536 := by
  unfold twoL twoOk
  split
  · rename_i h
    rw [Bool.and_eq_true] at h
    have := (rgOk_parts h.2).2
    omega
  · simp
theorem add_len5 (s : List Rg) (f t : Int) : (addL s f t).length ≤ 65536 := by
  unfold addL addROk
  split
  · rename_i h
    rw [Bool.and_eq_true] at h
    have := (rgOk_parts h.2).2
    omega
  · simp
set_option maxRecDepth 100000 in
set_option maxHeartbeats 2000000 in
theorem fnExactUnionOf_walk (w : World) (v0 : Value) (z0 : List Rg) (w0 : Row w v0 z0.length (rgF z0)) (b0 : ∀ r ∈ z0, (Lit.int .i64 r.1).wf = true ∧ (Lit.int .i64 r.2).wf = true) (v1 : Value) (z1 : List Rg) (w1 : Row w v1 z1.length (rgF z1)) (b1 : ∀ r ∈ z1, (Lit.int .i64 r.1).wf = true ∧ (Lit.int .i64 r.2).wf = true) (_hsh : w.ShapedOpen Try.prog) :
    Calls Try.prog 8 #[v0, v1] w fun e w' => e = .returned (.bool true) ∧ Below w.heap.size w w' := by
  obtain ⟨p0, cap0, rfl, hc10, hc20, _⟩ := rg_open w0
  unfold maxLen at hc20
  obtain ⟨p1, cap1, rfl, hc11, hc21, _⟩ := rg_open w1
  unfold maxLen at hc21
  by_cases hn0 : (z0.length : Int) ≤ 1048576
  rotate_left
  · have HN0 := Lib.hid (fun (W : World) => szR_no p0 z0.length cap0 (1048576) W (by omega) (by omega) (by omega))
    go_enter Try.func8, Try.ntmps8
    go_wp2_with fail
    refine (HN0.out _).mono ?_
    rintro e W ⟨rfl, rfl⟩
    go_wp2_with fail
    go_ret
    exact ⟨rfl, Below.refl _ _⟩
  by_cases hn1 : (z1.length : Int) ≤ 1048576 - (z0.length : Int)
  rotate_left
  · have HN1 := Lib.hid (fun (W : World) => szR_no p1 z1.length cap1 (1048576 - (z0.length : Int)) W (by omega) (by omega) (by omega))
    have HY0 := Lib.hid (fun (W : World) => szR_yes p0 z0.length cap0 (1048576) W (by omega) (by omega))
    have hl0 : ¬ ((1048576) - (z0.length : Int) < 0) := by omega
    go_enter Try.func8, Try.ntmps8
    go_wp2_with fail
    refine (HY0.out _).mono ?_
    rintro e W ⟨rfl, rfl⟩
    go_wp2_with fail
    refine (HN1.out _).mono ?_
    rintro e W ⟨rfl, rfl⟩
    go_wp2_with fail
    go_ret
    exact ⟨rfl, Below.refl _ _⟩
  have HY0 := Lib.hid (fun (W : World) => szR_yes p0 z0.length cap0 (1048576) W (by omega) (by omega))
  have hl0 : ¬ ((1048576) - (z0.length : Int) < 0) := by omega
  have HY1 := Lib.hid (fun (W : World) => szR_yes p1 z1.length cap1 (1048576 - (z0.length : Int)) W (by omega) (by omega))
  have hl1 : ¬ ((1048576 - (z0.length : Int)) - (z1.length : Int) < 0) := by omega
  have hm0 : z0.length ≤ 1048576 := by omega
  have hm1 : z1.length ≤ 1048576 := by omega
  have HR0 := Lib.hid w0
  have HN0 := Lib.hid hm0
  have HR1 := Lib.hid w1
  have HN1 := Lib.hid hm1
  clear w0 b0
  clear w1 b1
  have HSp := Lib.hid (fun (g0 g1 : Nat) (W : World) (h0 : Row W (.slice (some ⟨g0, 0, none⟩) z0.length z0.length) z0.length (rgF z0)) (h1 : Row W (.slice (some ⟨g1, 0, none⟩) z1.length z1.length) z1.length (rgF z1)) => specUnion_any ⟨g0, 0, none⟩ z0.length (.slice (some ⟨g1, 0, none⟩) z1.length z1.length) z0 z1 W h0 h1)
  have HIm := Lib.hid (fun (g0 g1 : Nat) (W : World) (h0 : Row W (.slice (some ⟨g0, 0, none⟩) z0.length z0.length) z0.length (rgF z0)) (h1 : Row W (.slice (some ⟨g1, 0, none⟩) z1.length z1.length) z1.length (rgF z1)) => implUnion_any (.slice (some ⟨g0, 0, none⟩) z0.length z0.length) (.slice (some ⟨g1, 0, none⟩) z1.length z1.length) z0 z1 W h0 h1 (fit_some _ _ _) (fit_some _ _ _))
  have hlen0 := two_len5 z0 z1 (unG z0 z1)
  generalize twoL z0 z1 (unG z0 z1) = ps0 at HSp HIm hlen0
  have HL0 := Lib.hid hlen0
  clear hlen0
  generalize twoOk z0 z1 (unG z0 z1) = r0 at HSp HIm
  have HT := Lib.hid (show ((1 : Int)) = ((1 : Nat) : Int) from rfl)
  go_enter Try.func8, Try.ntmps8
  go_wp2_with fail
  refine (HY0.out _).mono ?_
  rintro e W ⟨rfl, rfl⟩
  go_wp2_with fail
  refine (HY1.out _).mono ?_
  rintro e W ⟨rfl, rfl⟩
  go_wp2_with fail
  refine (toRangeS_lit _ z0 _ (HR0.out.below (Below.refl _ _) (Nat.le_refl _)) HN0.out).mono ?_
  rintro e W1 ⟨g_s0, rfl, o_s0, l1⟩
  have O_s0 := Lib.hid o_s0
  have HB1 := Lib.hid l1
  clear o_s0 l1
  go_wp2_with fail
  refine (toRangeS_lit _ z1 _ (HR1.out.below HB1.out (Nat.le_refl _)) HN1.out).mono ?_
  rintro e W2 ⟨g_s1, rfl, o_s1, l2⟩
  have ap_s0_s1 : ∀ k, (.slice (some ⟨g_s0, 0, none⟩) z0.length z0.length : Value).ownBlock = some k → (.slice (some ⟨g_s1, 0, none⟩) z1.length z1.length : Value).ownBlock ≠ some k := fun k h1 h2 => absurd (O_s0.out.lt k h1).2 (Nat.not_lt.2 (o_s1.lt k h2).1)
  have O_s1 := Lib.hid (ownz_base o_s1 (HB1.out.size))
  have HB2 := Lib.hid (HB1.out.trans (l2.mono HB1.out.size))
  have s0_2 := Lib.hid (ownz_below O_s0.out l2 (Nat.le_refl _))
  clear O_s0
  clear HB1
  clear o_s1 l2
  go_wp2_with fail
  refine (HSp.out g_s0 g_s1 _ (rowz_own s0_2.out) (rowz_own O_s1.out)).mono ?_
  rintro e W3 ⟨vw0, rfl, o_vw0, l3⟩
  have ap_s0_vw0 : ∀ k, (.slice (some ⟨g_s0, 0, none⟩) z0.length z0.length : Value).ownBlock = some k → (vw0 : Value).ownBlock ≠ some k := fun k h1 h2 => absurd (s0_2.out.lt k h1).2 (Nat.not_lt.2 (o_vw0.lt k h2).1)
  have ap_s1_vw0 : ∀ k, (.slice (some ⟨g_s1, 0, none⟩) z1.length z1.length : Value).ownBlock = some k → (vw0 : Value).ownBlock ≠ some k := fun k h1 h2 => absurd (O_s1.out.lt k h1).2 (Nat.not_lt.2 (o_vw0.lt k h2).1)
  have O_vw0 := Lib.hid (ownz_base o_vw0 (HB2.out.size))
  have HB3 := Lib.hid (HB2.out.trans (l3.mono HB2.out.size))
  have s0_3 := Lib.hid (ownz_below s0_2.out l3 (Nat.le_refl _))
  clear s0_2
  have s1_3 := Lib.hid (ownz_below O_s1.out l3 (Nat.le_refl _))
  clear O_s1
  clear HB2
  clear l3 o_vw0
  clear s0_3
  clear s1_3
  go_wp2_with fail
  refine (toRangeS_lit _ z0 _ (HR0.out.below HB3.out (Nat.le_refl _)) HN0.out).mono ?_
  rintro e W4 ⟨g_x0, rfl, o_x0, l4⟩
  have ap_vw0_x0 : ∀ k, (vw0 : Value).ownBlock = some k → (.slice (some ⟨g_x0, 0, none⟩) z0.length z0.length : Value).ownBlock ≠ some k := fun k h1 h2 => absurd (O_vw0.out.lt k h1).2 (Nat.not_lt.2 (o_x0.lt k h2).1)
  have O_x0 := Lib.hid (ownz_base o_x0 (HB3.out.size))
  have HB4 := Lib.hid (HB3.out.trans (l4.mono HB3.out.size))
  have vw0_4 := Lib.hid (ownz_below O_vw0.out l4 (Nat.le_refl _))
  clear O_vw0
  clear HB3
  clear o_x0 l4
  go_wp2_with fail
  refine (toRangeS_lit _ z1 _ (HR1.out.below HB4.out (Nat.le_refl _)) HN1.out).mono ?_
  rintro e W5 ⟨g_x1, rfl, o_x1, l5⟩
  have ap_vw0_x1 : ∀ k, (vw0 : Value).ownBlock = some k → (.slice (some ⟨g_x1, 0, none⟩) z1.length z1.length : Value).ownBlock ≠ some k := fun k h1 h2 => absurd (vw0_4.out.lt k h1).2 (Nat.not_lt.2 (o_x1.lt k h2).1)
  have ap_x0_x1 : ∀ k, (.slice (some ⟨g_x0, 0, none⟩) z0.length z0.length : Value).ownBlock = some k → (.slice (some ⟨g_x1, 0, none⟩) z1.length z1.length : Value).ownBlock ≠ some k := fun k h1 h2 => absurd (O_x0.out.lt k h1).2 (Nat.not_lt.2 (o_x1.lt k h2).1)
  have O_x1 := Lib.hid (ownz_base o_x1 (HB4.out.size))
  have HB5 := Lib.hid (HB4.out.trans (l5.mono HB4.out.size))
  have vw0_5 := Lib.hid (ownz_below vw0_4.out l5 (Nat.le_refl _))
  clear vw0_4
  have x0_5 := Lib.hid (ownz_below O_x0.out l5 (Nat.le_refl _))
  clear O_x0
  clear HB4
  clear o_x1 l5
  go_wp2_with fail
  refine (HIm.out g_x0 g_x1 _ (rowz_own x0_5.out) (rowz_own O_x1.out)).mono ?_
  rintro e W6 ⟨vg0, rfl, o_vg0, l6⟩
  have ap_vw0_vg0 : ∀ k, (vw0 : Value).ownBlock = some k → (vg0 : Value).ownBlock ≠ some k := fun k h1 h2 => absurd (vw0_5.out.lt k h1).2 (Nat.not_lt.2 (o_vg0.lt k h2).1)
  have ap_x0_vg0 : ∀ k, (.slice (some ⟨g_x0, 0, none⟩) z0.length z0.length : Value).ownBlock = some k → (vg0 : Value).ownBlock ≠ some k := fun k h1 h2 => absurd (x0_5.out.lt k h1).2 (Nat.not_lt.2 (o_vg0.lt k h2).1)
  have ap_x1_vg0 : ∀ k, (.slice (some ⟨g_x1, 0, none⟩) z1.length z1.length : Value).ownBlock = some k → (vg0 : Value).ownBlock ≠ some k := fun k h1 h2 => absurd (O_x1.out.lt k h1).2 (Nat.not_lt.2 (o_vg0.lt k h2).1)
  have O_vg0 := Lib.hid (ownz_base o_vg0 (HB5.out.size))
  have HB6 := Lib.hid (HB5.out.trans (l6.mono HB5.out.size))
  have vw0_6 := Lib.hid (ownz_below vw0_5.out l6 (Nat.le_refl _))
  clear vw0_5
  have x0_6 := Lib.hid (ownz_below x0_5.out l6 (Nat.le_refl _))
  clear x0_5
  have x1_6 := Lib.hid (ownz_below O_x1.out l6 (Nat.le_refl _))
  clear O_x1
  clear HB5
  clear l6 o_vg0
  go_wp2_with fail
  refine (eqRangeS_same _ _ ps0 _ (rowz_own O_vg0.out) (rowz_own vw0_6.out)).mono ?_
  rintro e W7 ⟨rfl, l7⟩
  have HB7 := Lib.hid (HB6.out.trans (l7.mono HB6.out.size))
  have vw0_7 := Lib.hid (ownz_below vw0_6.out l7 (Nat.le_refl _))
  clear vw0_6
  have x0_7 := Lib.hid (ownz_below x0_6.out l7 (Nat.le_refl _))
  clear x0_6
  have x1_7 := Lib.hid (ownz_below x1_6.out l7 (Nat.le_refl _))
  clear x1_6
  have vg0_7 := Lib.hid (ownz_below O_vg0.out l7 (Nat.le_refl _))
  clear O_vg0
  clear HB6
  clear l7
  go_wp2_with fail
  refine (toRangeS_lit _ z0 _ (HR0.out.below HB7.out (Nat.le_refl _)) HN0.out).mono ?_
  rintro e W8 ⟨g_y0, rfl, o_y0, l8⟩
  have ap_vw0_y0 : ∀ k, (vw0 : Value).ownBlock = some k → (.slice (some ⟨g_y0, 0, none⟩) z0.length z0.length : Value).ownBlock ≠ some k := fun k h1 h2 => absurd (vw0_7.out.lt k h1).2 (Nat.not_lt.2 (o_y0.lt k h2).1)
  have ap_x0_y0 : ∀ k, (.slice (some ⟨g_x0, 0, none⟩) z0.length z0.length : Value).ownBlock = some k → (.slice (some ⟨g_y0, 0, none⟩) z0.length z0.length : Value).ownBlock ≠ some k := fun k h1 h2 => absurd (x0_7.out.lt k h1).2 (Nat.not_lt.2 (o_y0.lt k h2).1)
  have ap_x1_y0 : ∀ k, (.slice (some ⟨g_x1, 0, none⟩) z1.length z1.length : Value).ownBlock = some k → (.slice (some ⟨g_y0, 0, none⟩) z0.length z0.length : Value).ownBlock ≠ some k := fun k h1 h2 => absurd (x1_7.out.lt k h1).2 (Nat.not_lt.2 (o_y0.lt k h2).1)
  have ap_vg0_y0 : ∀ k, (vg0 : Value).ownBlock = some k → (.slice (some ⟨g_y0, 0, none⟩) z0.length z0.length : Value).ownBlock ≠ some k := fun k h1 h2 => absurd (vg0_7.out.lt k h1).2 (Nat.not_lt.2 (o_y0.lt k h2).1)
  have O_y0 := Lib.hid (ownz_base o_y0 (HB7.out.size))
  have HB8 := Lib.hid (HB7.out.trans (l8.mono HB7.out.size))
  have vw0_8 := Lib.hid (ownz_below vw0_7.out l8 (Nat.le_refl _))
  clear vw0_7
  have x0_8 := Lib.hid (ownz_below x0_7.out l8 (Nat.le_refl _))
  clear x0_7
  have x1_8 := Lib.hid (ownz_below x1_7.out l8 (Nat.le_refl _))
  clear x1_7
  have vg0_8 := Lib.hid (ownz_below vg0_7.out l8 (Nat.le_refl _))
  clear vg0_7
  clear HB7
  clear o_y0 l8
  go_wp2_with fail
  refine (eqRangeS_same _ _ z0 _ (rowz_own x0_8.out) (rowz_own O_y0.out)).mono ?_
  rintro e W9 ⟨rfl, l9⟩
  have HB9 := Lib.hid (HB8.out.trans (l9.mono HB8.out.size))
  have vw0_9 := Lib.hid (ownz_below vw0_8.out l9 (Nat.le_refl _))
  clear vw0_8
  have x0_9 := Lib.hid (ownz_below x0_8.out l9 (Nat.le_refl _))
  clear x0_8
  have x1_9 := Lib.hid (ownz_below x1_8.out l9 (Nat.le_refl _))
  clear x1_8
  have vg0_9 := Lib.hid (ownz_below vg0_8.out l9 (Nat.le_refl _))
  clear vg0_8
  have y0_9 := Lib.hid (ownz_below O_y0.out l9 (Nat.le_refl _))
  clear O_y0
  clear HB8
  clear l9
  clear y0_9
  go_wp2_with fail
  refine (toRangeS_lit _ z1 _ (HR1.out.below HB9.out (Nat.le_refl _)) HN1.out).mono ?_
  rintro e W10 ⟨g_y1, rfl, o_y1, l10⟩
  have ap_vw0_y1 : ∀ k, (vw0 : Value).ownBlock = some k → (.slice (some ⟨g_y1, 0, none⟩) z1.length z1.length : Value).ownBlock ≠ some k := fun k h1 h2 => absurd (vw0_9.out.lt k h1).2 (Nat.not_lt.2 (o_y1.lt k h2).1)
  have ap_x0_y1 : ∀ k, (.slice (some ⟨g_x0, 0, none⟩) z0.length z0.length : Value).ownBlock = some k → (.slice (some ⟨g_y1, 0, none⟩) z1.length z1.length : Value).ownBlock ≠ some k := fun k h1 h2 => absurd (x0_9.out.lt k h1).2 (Nat.not_lt.2 (o_y1.lt k h2).1)
  have ap_x1_y1 : ∀ k, (.slice (some ⟨g_x1, 0, none⟩) z1.length z1.length : Value).ownBlock = some k → (.slice (some ⟨g_y1, 0, none⟩) z1.length z1.length : Value).ownBlock ≠ some k := fun k h1 h2 => absurd (x1_9.out.lt k h1).2 (Nat.not_lt.2 (o_y1.lt k h2).1)
  have ap_vg0_y1 : ∀ k, (vg0 : Value).ownBlock = some k → (.slice (some ⟨g_y1, 0, none⟩) z1.length z1.length : Value).ownBlock ≠ some k := fun k h1 h2 => absurd (vg0_9.out.lt k h1).2 (Nat.not_lt.2 (o_y1.lt k h2).1)
  have O_y1 := Lib.hid (ownz_base o_y1 (HB9.out.size))
  have HB10 := Lib.hid (HB9.out.trans (l10.mono HB9.out.size))
  have vw0_10 := Lib.hid (ownz_below vw0_9.out l10 (Nat.le_refl _))
  clear vw0_9
  have x0_10 := Lib.hid (ownz_below x0_9.out l10 (Nat.le_refl _))
  clear x0_9
  have x1_10 := Lib.hid (ownz_below x1_9.out l10 (Nat.le_refl _))
  clear x1_9
  have vg0_10 := Lib.hid (ownz_below vg0_9.out l10 (Nat.le_refl _))
  clear vg0_9
  clear HB9
  clear o_y1 l10
  go_wp2_with fail
  refine (eqRangeS_same _ _ z1 _ (rowz_own x1_10.out) (rowz_own O_y1.out)).mono ?_
  rintro e W11 ⟨rfl, l11⟩
  have HB11 := Lib.hid (HB10.out.trans (l11.mono HB10.out.size))
  have vw0_11 := Lib.hid (ownz_below vw0_10.out l11 (Nat.le_refl _))
  clear vw0_10
  have x0_11 := Lib.hid (ownz_below x0_10.out l11 (Nat.le_refl _))
  clear x0_10
  have x1_11 := Lib.hid (ownz_below x1_10.out l11 (Nat.le_refl _))
  clear x1_10
  have vg0_11 := Lib.hid (ownz_below vg0_10.out l11 (Nat.le_refl _))
  clear vg0_10
  have y1_11 := Lib.hid (ownz_below O_y1.out l11 (Nat.le_refl _))
  clear O_y1
  clear HB10
  clear l11
  clear y1_11
  go_wp2_with fail
  refine (markR_own _ z0.length 1 _ _ _ x0_11.out (by have := HL0.out; have := HN0.out; have := HN1.out; omega)).mono ?_
  rintro e W12 ⟨rfl, m12, gr12⟩
  have HB12 := Lib.hid (HB11.out.grown gr12 HB11.out.size (fun q hq => (x0_11.out.lt q hq).1))
  have vw0_12 := Lib.hid (ownz_apart vw0_11.out gr12 (fun k h1 h2 => ap_vw0_x0 k h1 h2))
  clear vw0_11
  have x1_12 := Lib.hid (ownz_apart x1_11.out gr12 (fun k h1 h2 => ap_x0_x1 k h2 h1))
  clear x1_11
  have vg0_12 := Lib.hid (ownz_apart vg0_11.out gr12 (fun k h1 h2 => ap_x0_vg0 k h2 h1))
  clear vg0_11
  have x0_12 := Lib.hid m12
  clear m12 gr12 x0_11 HB11
  go_wp2_with fail
  refine (markR_own _ z1.length (1 + 2 * z0.length) _ _ _ x1_12.out (by have := HL0.out; have := HN0.out; have := HN1.out; omega)).mono ?_
  rintro e W13 ⟨rfl, m13, gr13⟩
  have HB13 := Lib.hid (HB12.out.grown gr13 HB12.out.size (fun q hq => (x1_12.out.lt q hq).1))
  have vw0_13 := Lib.hid (ownz_apart vw0_12.out gr13 (fun k h1 h2 => ap_vw0_x1 k h1 h2))
  clear vw0_12
  have x0_13 := Lib.hid (ownz_apart x0_12.out gr13 (fun k h1 h2 => ap_x0_x1 k h1 h2))
  clear x0_12
  have vg0_13 := Lib.hid (ownz_apart vg0_12.out gr13 (fun k h1 h2 => ap_x1_vg0 k h2 h1))
  clear vg0_12
  have x1_13 := Lib.hid m13
  clear m13 gr13 x1_12 HB12
  go_wp2_with fail
  refine (eqRangeS_same _ _ ps0 _ (rowz_own vg0_13.out) (rowz_own vw0_13.out)).mono ?_
  rintro e W14 ⟨rfl, l14⟩
  have HB14 := Lib.hid (HB13.out.trans (l14.mono HB13.out.size))
  have vw0_14 := Lib.hid (ownz_below vw0_13.out l14 (Nat.le_refl _))
  clear vw0_13
  have x0_14 := Lib.hid (ownz_below x0_13.out l14 (Nat.le_refl _))
  clear x0_13
  have x1_14 := Lib.hid (ownz_below x1_13.out l14 (Nat.le_refl _))
  clear x1_13
  have vg0_14 := Lib.hid (ownz_below vg0_13.out l14 (Nat.le_refl _))
  clear vg0_13
  clear HB13
  clear l14
  clear x0_14
  clear x1_14
  go_wp2_with fail
  refine (markR_own _ ps0.length 1 _ _ _ vg0_14.out (by have := HL0.out; have := HN0.out; have := HN1.out; omega)).mono ?_
  rintro e W15 ⟨rfl, m15, gr15⟩
  have HB15 := Lib.hid (HB14.out.grown gr15 HB14.out.size (fun q hq => (vg0_14.out.lt q hq).1))
  have vw0_15 := Lib.hid (ownz_apart vw0_14.out gr15 (fun k h1 h2 => ap_vw0_vg0 k h1 h2))
  clear vw0_14
  have vg0_15 := Lib.hid m15
  clear m15 gr15 vg0_14 HB14
  go_wp2_with fail
  refine (heldR_own _ ps0.length 1 _ _ vg0_15.out (by have := HL0.out; have := HN0.out; have := HN1.out; omega)).mono ?_
  rintro e W ⟨rfl, rfl⟩
  go_wp2_with fail
  refine (toRangeS_lit _ z0 _ (HR0.out.below HB15.out (Nat.le_refl _)) HN0.out).mono ?_
  rintro e W16 ⟨g_t0, rfl, o_t0, l16⟩
  have ap_vw0_t0 : ∀ k, (vw0 : Value).ownBlock = some k → (.slice (some ⟨g_t0, 0, none⟩) z0.length z0.length : Value).ownBlock ≠ some k := fun k h1 h2 => absurd (vw0_15.out.lt k h1).2 (Nat.not_lt.2 (o_t0.lt k h2).1)
  have ap_vg0_t0 : ∀ k, (vg0 : Value).ownBlock = some k → (.slice (some ⟨g_t0, 0, none⟩) z0.length z0.length : Value).ownBlock ≠ some k := fun k h1 h2 => absurd (vg0_15.out.lt k h1).2 (Nat.not_lt.2 (o_t0.lt k h2).1)
  have O_t0 := Lib.hid (ownz_base o_t0 (HB15.out.size))
  have HB16 := Lib.hid (HB15.out.trans (l16.mono HB15.out.size))
  have vw0_16 := Lib.hid (ownz_below vw0_15.out l16 (Nat.le_refl _))
  clear vw0_15
  have vg0_16 := Lib.hid (ownz_below vg0_15.out l16 (Nat.le_refl _))
  clear vg0_15
  clear HB15
  clear o_t0 l16
  go_wp2_with fail
  refine (toRangeS_lit _ z1 _ (HR1.out.below HB16.out (Nat.le_refl _)) HN1.out).mono ?_
  rintro e W17 ⟨g_t1, rfl, o_t1, l17⟩
  have ap_vw0_t1 : ∀ k, (vw0 : Value).ownBlock = some k → (.slice (some ⟨g_t1, 0, none⟩) z1.length z1.length : Value).ownBlock ≠ some k := fun k h1 h2 => absurd (vw0_16.out.lt k h1).2 (Nat.not_lt.2 (o_t1.lt k h2).1)
  have ap_vg0_t1 : ∀ k, (vg0 : Value).ownBlock = some k → (.slice (some ⟨g_t1, 0, none⟩) z1.length z1.length : Value).ownBlock ≠ some k := fun k h1 h2 => absurd (vg0_16.out.lt k h1).2 (Nat.not_lt.2 (o_t1.lt k h2).1)
  have ap_t0_t1 : ∀ k, (.slice (some ⟨g_t0, 0, none⟩) z0.length z0.length : Value).ownBlock = some k → (.slice (some ⟨g_t1, 0, none⟩) z1.length z1.length : Value).ownBlock ≠ some k := fun k h1 h2 => absurd (O_t0.out.lt k h1).2 (Nat.not_lt.2 (o_t1.lt k h2).1)
  have O_t1 := Lib.hid (ownz_base o_t1 (HB16.out.size))
  have HB17 := Lib.hid (HB16.out.trans (l17.mono HB16.out.size))
  have vw0_17 := Lib.hid (ownz_below vw0_16.out l17 (Nat.le_refl _))
  clear vw0_16
  have vg0_17 := Lib.hid (ownz_below vg0_16.out l17 (Nat.le_refl _))
  clear vg0_16
  have t0_17 := Lib.hid (ownz_below O_t0.out l17 (Nat.le_refl _))
  clear O_t0
  clear HB16
  clear o_t1 l17
  go_wp2_with fail
  refine (HIm.out g_t0 g_t1 _ (rowz_own t0_17.out) (rowz_own O_t1.out)).mono ?_
  rintro e W18 ⟨vh0, rfl, o_vh0, l18⟩
  have ap_vw0_vh0 : ∀ k, (vw0 : Value).ownBlock = some k → (vh0 : Value).ownBlock ≠ some k := fun k h1 h2 => absurd (vw0_17.out.lt k h1).2 (Nat.not_lt.2 (o_vh0.lt k h2).1)
  have ap_vg0_vh0 : ∀ k, (vg0 : Value).ownBlock = some k → (vh0 : Value).ownBlock ≠ some k := fun k h1 h2 => absurd (vg0_17.out.lt k h1).2 (Nat.not_lt.2 (o_vh0.lt k h2).1)
  have ap_t0_vh0 : ∀ k, (.slice (some ⟨g_t0, 0, none⟩) z0.length z0.length : Value).ownBlock = some k → (vh0 : Value).ownBlock ≠ some k := fun k h1 h2 => absurd (t0_17.out.lt k h1).2 (Nat.not_lt.2 (o_vh0.lt k h2).1)
  have ap_t1_vh0 : ∀ k, (.slice (some ⟨g_t1, 0, none⟩) z1.length z1.length : Value).ownBlock = some k → (vh0 : Value).ownBlock ≠ some k := fun k h1 h2 => absurd (O_t1.out.lt k h1).2 (Nat.not_lt.2 (o_vh0.lt k h2).1)
  have O_vh0 := Lib.hid (ownz_base o_vh0 (HB17.out.size))
  have HB18 := Lib.hid (HB17.out.trans (l18.mono HB17.out.size))
  have vw0_18 := Lib.hid (ownz_below vw0_17.out l18 (Nat.le_refl _))
  clear vw0_17
  have vg0_18 := Lib.hid (ownz_below vg0_17.out l18 (Nat.le_refl _))
  clear vg0_17
  have t0_18 := Lib.hid (ownz_below t0_17.out l18 (Nat.le_refl _))
  clear t0_17
  have t1_18 := Lib.hid (ownz_below O_t1.out l18 (Nat.le_refl _))
  clear O_t1
  clear HB17
  clear l18 o_vh0
  go_wp2_with fail
  refine (eqRangeS_same _ _ ps0 _ (rowz_own O_vh0.out) (rowz_own vw0_18.out)).mono ?_
  rintro e W19 ⟨rfl, l19⟩
  have HB19 := Lib.hid (HB18.out.trans (l19.mono HB18.out.size))
  have vw0_19 := Lib.hid (ownz_below vw0_18.out l19 (Nat.le_refl _))
  clear vw0_18
  have vg0_19 := Lib.hid (ownz_below vg0_18.out l19 (Nat.le_refl _))
  clear vg0_18
  have t0_19 := Lib.hid (ownz_below t0_18.out l19 (Nat.le_refl _))
  clear t0_18
  have t1_19 := Lib.hid (ownz_below t1_18.out l19 (Nat.le_refl _))
  clear t1_18
  have vh0_19 := Lib.hid (ownz_below O_vh0.out l19 (Nat.le_refl _))
  clear O_vh0
  clear HB18
  clear l19
  go_wp2_with fail
  refine (heldR_own _ ps0.length 1 _ _ vg0_19.out (by have := HL0.out; have := HN0.out; have := HN1.out; omega)).mono ?_
  rintro e W ⟨rfl, rfl⟩
  go_wp2_with fail
  go_ret
  exact ⟨rfl, HB19.out⟩
set_option maxRecDepth 100000 in
set_option maxHeartbeats 2000000 in
theorem fnExactAddRange_walk (w : World) (v0 : Value) (z0 : List Rg) (w0 : Row w v0 z0.length (rgF z0)) (b0 : ∀ r ∈ z0, (Lit.int .i64 r.1).wf = true ∧ (Lit.int .i64 r.2).wf = true) (a1 : Int) (w1 : (Lit.int .i64 a1).wf = true) (a2 : Int) (w2 : (Lit.int .i64 a2).wf = true) (_hsh : w.ShapedOpen Try.prog) :
    Calls Try.prog 6 #[v0, .int .i64 a1, .int .i64 a2] w fun e w' => e = .returned (.bool true) ∧ Below w.heap.size w w' := by
  obtain ⟨p0, cap0, rfl, hc10, hc20, _⟩ := rg_open w0
  unfold maxLen at hc20
  by_cases hn0 : (z0.length : Int) ≤ 1048576
  rotate_left
  · have HN0 := Lib.hid (fun (W : World) => szR_no p0 z0.length cap0 (1048576) W (by omega) (by omega) (by omega))
    go_enter Try.func6, Try.ntmps6
    go_wp2_with fail
    refine (HN0.out _).mono ?_
    rintro e W ⟨rfl, rfl⟩
    go_wp2_with fail
    go_ret
    exact ⟨rfl, Below.refl _ _⟩
  have HY0 := Lib.hid (fun (W : World) => szR_yes p0 z0.length cap0 (1048576) W (by omega) (by omega))
  have hl0 : ¬ ((1048576) - (z0.length : Int) < 0) := by omega
  have hm0 : z0.length ≤ 1048576 := by omega
  have HR0 := Lib.hid w0
  have HN0 := Lib.hid hm0
  clear w0 b0
  have HSp := Lib.hid (fun (g0 : Nat) (W : World) (h0 : Row W (.slice (some ⟨g0, 0, none⟩) z0.length z0.length) z0.length (rgF z0)) => specAddRange_any (.slice (some ⟨g0, 0, none⟩) z0.length z0.length) z0 a1 a2 W h0)
  have HIm := Lib.hid (fun (g0 : Nat) (W : World) (h0 : Row W (.slice (some ⟨g0, 0, none⟩) z0.length z0.length) z0.length (rgF z0)) => implAdd_any (.slice (some ⟨g0, 0, none⟩) z0.length z0.length) z0 a1 a2 W h0 (fit_some _ _ _))
  have hlen0 := add_len5 z0 a1 a2
  generalize addL z0 a1 a2 = ps0 at HSp HIm hlen0
  have HL0 := Lib.hid hlen0
  clear hlen0
  generalize addROk z0 a1 a2 = r0 at HSp HIm
  have HT := Lib.hid (show ((1 : Int)) = ((1 : Nat) : Int) from rfl)
  go_enter Try.func6, Try.ntmps6
  go_wp2_with fail
  refine (HY0.out _).mono ?_
  rintro e W ⟨rfl, rfl⟩
  go_wp2_with fail
  refine (toRangeS_lit _ z0 _ (HR0.out.below (Below.refl _ _) (Nat.le_refl _)) HN0.out).mono ?_
  rintro e W1 ⟨g_s0, rfl, o_s0, l1⟩
  have O_s0 := Lib.hid o_s0
  have HB1 := Lib.hid l1
  clear o_s0 l1
  go_wp2_with fail
  refine (HSp.out g_s0 _ (rowz_own O_s0.out)).mono ?_
  rintro e W2 ⟨vw0, rfl, o_vw0, l2⟩
  have ap_s0_vw0 : ∀ k, (.slice (some ⟨g_s0, 0, none⟩) z0.length z0.length : Value).ownBlock = some k → (vw0 : Value).ownBlock ≠ some k := fun k h1 h2 => absurd (O_s0.out.lt k h1).2 (Nat.not_lt.2 (o_vw0.lt k h2).1)
  have O_vw0 := Lib.hid (ownz_base o_vw0 (HB1.out.size))
  have HB2 := Lib.hid (HB1.out.trans (l2.mono HB1.out.size))
  have s0_2 := Lib.hid (ownz_below O_s0.out l2 (Nat.le_refl _))
  clear O_s0
  clear HB1
  clear l2 o_vw0
  clear s0_2
  go_wp2_with fail
  refine (toRangeS_lit _ z0 _ (HR0.out.below HB2.out (Nat.le_refl _)) HN0.out).mono ?_
  rintro e W3 ⟨g_x0, rfl, o_x0, l3⟩
  have ap_vw0_x0 : ∀ k, (vw0 : Value).ownBlock = some k → (.slice (some ⟨g_x0, 0, none⟩) z0.length z0.length : Value).ownBlock ≠ some k := fun k h1 h2 => absurd (O_vw0.out.lt k h1).2 (Nat.not_lt.2 (o_x0.lt k h2).1)
  have O_x0 := Lib.hid (ownz_base o_x0 (HB2.out.size))
  have HB3 := Lib.hid (HB2.out.trans (l3.mono HB2.out.size))
  have vw0_3 := Lib.hid (ownz_below O_vw0.out l3 (Nat.le_refl _))
  clear O_vw0
  clear HB2
  clear o_x0 l3
  go_wp2_with fail
  refine (HIm.out g_x0 _ (rowz_own O_x0.out)).mono ?_
  rintro e W4 ⟨vg0, rfl, o_vg0, l4⟩
  have ap_vw0_vg0 : ∀ k, (vw0 : Value).ownBlock = some k → (vg0 : Value).ownBlock ≠ some k := fun k h1 h2 => absurd (vw0_3.out.lt k h1).2 (Nat.not_lt.2 (o_vg0.lt k h2).1)
  have ap_x0_vg0 : ∀ k, (.slice (some ⟨g_x0, 0, none⟩) z0.length z0.length : Value).ownBlock = some k → (vg0 : Value).ownBlock ≠ some k := fun k h1 h2 => absurd (O_x0.out.lt k h1).2 (Nat.not_lt.2 (o_vg0.lt k h2).1)
  have O_vg0 := Lib.hid (ownz_base o_vg0 (HB3.out.size))
  have HB4 := Lib.hid (HB3.out.trans (l4.mono HB3.out.size))
  have vw0_4 := Lib.hid (ownz_below vw0_3.out l4 (Nat.le_refl _))
  clear vw0_3
  have x0_4 := Lib.hid (ownz_below O_x0.out l4 (Nat.le_refl _))
  clear O_x0
  clear HB3
  clear l4 o_vg0
  go_wp2_with fail
  refine (eqRangeS_same _ _ ps0 _ (rowz_own O_vg0.out) (rowz_own vw0_4.out)).mono ?_
  rintro e W5 ⟨rfl, l5⟩
  have HB5 := Lib.hid (HB4.out.trans (l5.mono HB4.out.size))
  have vw0_5 := Lib.hid (ownz_below vw0_4.out l5 (Nat.le_refl _))
  clear vw0_4
  have x0_5 := Lib.hid (ownz_below x0_4.out l5 (Nat.le_refl _))
  clear x0_4
  have vg0_5 := Lib.hid (ownz_below O_vg0.out l5 (Nat.le_refl _))
  clear O_vg0
  clear HB4
  clear l5
  go_wp2_with fail
  refine (toRangeS_lit _ z0 _ (HR0.out.below HB5.out (Nat.le_refl _)) HN0.out).mono ?_
  rintro e W6 ⟨g_y0, rfl, o_y0, l6⟩
  have ap_vw0_y0 : ∀ k, (vw0 : Value).ownBlock = some k → (.slice (some ⟨g_y0, 0, none⟩) z0.length z0.length : Value).ownBlock ≠ some k := fun k h1 h2 => absurd (vw0_5.out.lt k h1).2 (Nat.not_lt.2 (o_y0.lt k h2).1)
  have ap_x0_y0 : ∀ k, (.slice (some ⟨g_x0, 0, none⟩) z0.length z0.length : Value).ownBlock = some k → (.slice (some ⟨g_y0, 0, none⟩) z0.length z0.length : Value).ownBlock ≠ some k := fun k h1 h2 => absurd (x0_5.out.lt k h1).2 (Nat.not_lt.2 (o_y0.lt k h2).1)
  have ap_vg0_y0 : ∀ k, (vg0 : Value).ownBlock = some k → (.slice (some ⟨g_y0, 0, none⟩) z0.length z0.length : Value).ownBlock ≠ some k := fun k h1 h2 => absurd (vg0_5.out.lt k h1).2 (Nat.not_lt.2 (o_y0.lt k h2).1)
  have O_y0 := Lib.hid (ownz_base o_y0 (HB5.out.size))
  have HB6 := Lib.hid (HB5.out.trans (l6.mono HB5.out.size))
  have vw0_6 := Lib.hid (ownz_below vw0_5.out l6 (Nat.le_refl _))
  clear vw0_5
  have x0_6 := Lib.hid (ownz_below x0_5.out l6 (Nat.le_refl _))
  clear x0_5
  have vg0_6 := Lib.hid (ownz_below vg0_5.out l6 (Nat.le_refl _))
  clear vg0_5
  clear HB5
  clear o_y0 l6
  go_wp2_with fail
  refine (eqRangeS_same _ _ z0 _ (rowz_own x0_6.out) (rowz_own O_y0.out)).mono ?_
  rintro e W7 ⟨rfl, l7⟩
  have HB7 := Lib.hid (HB6.out.trans (l7.mono HB6.out.size))
  have vw0_7 := Lib.hid (ownz_below vw0_6.out l7 (Nat.le_refl _))
  clear vw0_6
  have x0_7 := Lib.hid (ownz_below x0_6.out l7 (Nat.le_refl _))
  clear x0_6
  have vg0_7 := Lib.hid (ownz_below vg0_6.out l7 (Nat.le_refl _))
  clear vg0_6
  have y0_7 := Lib.hid (ownz_below O_y0.out l7 (Nat.le_refl _))
  clear O_y0
  clear HB6
  clear l7
  clear y0_7
  go_wp2_with fail
  refine (markR_own _ z0.length 1 _ _ _ x0_7.out (by have := HL0.out; have := HN0.out; omega)).mono ?_
  rintro e W8 ⟨rfl, m8, gr8⟩
  have HB8 := Lib.hid (HB7.out.grown gr8 HB7.out.size (fun q hq => (x0_7.out.lt q hq).1))
  have vw0_8 := Lib.hid (ownz_apart vw0_7.out gr8 (fun k h1 h2 => ap_vw0_x0 k h1 h2))
  clear vw0_7
  have vg0_8 := Lib.hid (ownz_apart vg0_7.out gr8 (fun k h1 h2 => ap_x0_vg0 k h2 h1))
  clear vg0_7
  have x0_8 := Lib.hid m8
  clear m8 gr8 x0_7 HB7
  go_wp2_with fail
  refine (eqRangeS_same _ _ ps0 _ (rowz_own vg0_8.out) (rowz_own vw0_8.out)).mono ?_
  rintro e W9 ⟨rfl, l9⟩
  have HB9 := Lib.hid (HB8.out.trans (l9.mono HB8.out.size))
  have vw0_9 := Lib.hid (ownz_below vw0_8.out l9 (Nat.le_refl _))
  clear vw0_8
  have x0_9 := Lib.hid (ownz_below x0_8.out l9 (Nat.le_refl _))
  clear x0_8
  have vg0_9 := Lib.hid (ownz_below vg0_8.out l9 (Nat.le_refl _))
  clear vg0_8
  clear HB8
  clear l9
  clear x0_9
  go_wp2_with fail
  refine (markR_own _ ps0.length 1 _ _ _ vg0_9.out (by have := HL0.out; have := HN0.out; omega)).mono ?_
  rintro e W10 ⟨rfl, m10, gr10⟩
  have HB10 := Lib.hid (HB9.out.grown gr10 HB9.out.size (fun q hq => (vg0_9.out.lt q hq).1))
  have vw0_10 := Lib.hid (ownz_apart vw0_9.out gr10 (fun k h1 h2 => ap_vw0_vg0 k h1 h2))
  clear vw0_9
  have vg0_10 := Lib.hid m10
  clear m10 gr10 vg0_9 HB9
  go_wp2_with fail
  refine (heldR_own _ ps0.length 1 _ _ vg0_10.out (by have := HL0.out; have := HN0.out; omega)).mono ?_
  rintro e W ⟨rfl, rfl⟩
  go_wp2_with fail
  refine (toRangeS_lit _ z0 _ (HR0.out.below HB10.out (Nat.le_refl _)) HN0.out).mono ?_
  rintro e W11 ⟨g_t0, rfl, o_t0, l11⟩
  have ap_vw0_t0 : ∀ k, (vw0 : Value).ownBlock = some k → (.slice (some ⟨g_t0, 0, none⟩) z0.length z0.length : Value).ownBlock ≠ some k := fun k h1 h2 => absurd (vw0_10.out.lt k h1).2 (Nat.not_lt.2 (o_t0.lt k h2).1)
  have ap_vg0_t0 : ∀ k, (vg0 : Value).ownBlock = some k → (.slice (some ⟨g_t0, 0, none⟩) z0.length z0.length : Value).ownBlock ≠ some k := fun k h1 h2 => absurd (vg0_10.out.lt k h1).2 (Nat.not_lt.2 (o_t0.lt k h2).1)
  have O_t0 := Lib.hid (ownz_base o_t0 (HB10.out.size))
  have HB11 := Lib.hid (HB10.out.trans (l11.mono HB10.out.size))
  have vw0_11 := Lib.hid (ownz_below vw0_10.out l11 (Nat.le_refl _))
  clear vw0_10
  have vg0_11 := Lib.hid (ownz_below vg0_10.out l11 (Nat.le_refl _))
  clear vg0_10
  clear HB10
  clear o_t0 l11
  go_wp2_with fail
  refine (HIm.out g_t0 _ (rowz_own O_t0.out)).mono ?_
  rintro e W12 ⟨vh0, rfl, o_vh0, l12⟩
  have ap_vw0_vh0 : ∀ k, (vw0 : Value).ownBlock = some k → (vh0 : Value).ownBlock ≠ some k := fun k h1 h2 => absurd (vw0_11.out.lt k h1).2 (Nat.not_lt.2 (o_vh0.lt k h2).1)
  have ap_vg0_vh0 : ∀ k, (vg0 : Value).ownBlock = some k → (vh0 : Value).ownBlock ≠ some k := fun k h1 h2 => absurd (vg0_11.out.lt k h1).2 (Nat.not_lt.2 (o_vh0.lt k h2).1)
  have ap_t0_vh0 : ∀ k, (.slice (some ⟨g_t0, 0, none⟩) z0.length z0.length : Value).ownBlock = some k → (vh0 : Value).ownBlock ≠ some k := fun k h1 h2 => absurd (O_t0.out.lt k h1).2 (Nat.not_lt.2 (o_vh0.lt k h2).1)
  have O_vh0 := Lib.hid (ownz_base o_vh0 (HB11.out.size))
  have HB12 := Lib.hid (HB11.out.trans (l12.mono HB11.out.size))
  have vw0_12 := Lib.hid (ownz_below vw0_11.out l12 (Nat.le_refl _))
  clear vw0_11
  have vg0_12 := Lib.hid (ownz_below vg0_11.out l12 (Nat.le_refl _))
  clear vg0_11
  have t0_12 := Lib.hid (ownz_below O_t0.out l12 (Nat.le_refl _))
  clear O_t0
  clear HB11
  clear l12 o_vh0
  go_wp2_with fail
  refine (eqRangeS_same _ _ ps0 _ (rowz_own O_vh0.out) (rowz_own vw0_12.out)).mono ?_
  rintro e W13 ⟨rfl, l13⟩
  have HB13 := Lib.hid (HB12.out.trans (l13.mono HB12.out.size))
  have vw0_13 := Lib.hid (ownz_below vw0_12.out l13 (Nat.le_refl _))
  clear vw0_12
  have vg0_13 := Lib.hid (ownz_below vg0_12.out l13 (Nat.le_refl _))
  clear vg0_12
  have t0_13 := Lib.hid (ownz_below t0_12.out l13 (Nat.le_refl _))
  clear t0_12
  have vh0_13 := Lib.hid (ownz_below O_vh0.out l13 (Nat.le_refl _))
  clear O_vh0
  clear HB12
  clear l13
  go_wp2_with fail
  refine (heldR_own _ ps0.length 1 _ _ vg0_13.out (by have := HL0.out; have := HN0.out; omega)).mono ?_
  rintro e W ⟨rfl, rfl⟩
  go_wp2_with fail
  go_ret
  exact ⟨rfl, HB13.out⟩
end Go.Proofs.Ytneimcacpbepfaa
