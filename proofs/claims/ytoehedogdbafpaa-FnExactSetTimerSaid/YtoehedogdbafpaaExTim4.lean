/-
  The exact law of a timer that is set.
-/
import Derived.Test.YtoehedogdbafpaaExTimB
import Derived.WalkLawsBesides
import Derived.Deep.RegionHeld3
import Derived.Deep.CutRange
namespace Go.Proofs.Ytoehedogdbafpaa
open Go.RowKit Go.Lib Go.Joins
set_option linter.unusedVariables false

set_option maxRecDepth 100000 in
set_option maxHeartbeats 4000000 in
theorem fnExactSetTimer_walk (w : World) (v0 : Value) (z0 : List Tm) (w0 : Row w v0 z0.length (tmF z0)) (b0 : ∀ r ∈ z0, (Lit.int .i64 r.i).wf = true ∧ (Lit.int .i64 r.d).wf = true ∧ (Lit.int .i64 r.p).wf = true) (a1_0 : Int) (w1_0 : (Lit.int .i64 a1_0).wf = true) (a1_1 : Int) (w1_1 : (Lit.int .i64 a1_1).wf = true) (a1_2 : Int) (w1_2 : (Lit.int .i64 a1_2).wf = true) (_hsh : w.ShapedOpen Try.prog) :
    Calls Try.prog 6 #[v0, .agg #[.int .i64 a1_0, .int .i64 a1_1, .int .i64 a1_2]] w fun e w' => e = .returned (.bool true) ∧ Below w.heap.size w w' := by
  obtain ⟨t1, ht1⟩ : ∃ t : Tm, t = ⟨a1_0, a1_1, a1_2⟩ := ⟨_, rfl⟩
  rw [show (Value.agg #[.int .i64 a1_0, .int .i64 a1_1, .int .i64 a1_2]) = .agg #[.int .i64 t1.i, .int .i64 t1.d, .int .i64 t1.p] by rw [ht1]]
  clear ht1
  obtain ⟨p0, cap0, rfl, hc10, hc20, _⟩ := tm_open w0
  unfold maxLen at hc20
  obtain ⟨W0, hW0⟩ : ∃ W0, W0 = w.alloc (.cells #[.int .i64 t1.i, .int .i64 t1.d, .int .i64 t1.p] 58) := ⟨_, rfl⟩
  obtain ⟨R0, hR0⟩ : ∃ R, R = w.heap.size := ⟨_, rfl⟩
  have HA0 : Hid (W0.heap[R0]? = some (.cells #[.int .i64 t1.i, .int .i64 t1.d, .int .i64 t1.p] 58 (0, 0))) := Lib.hid (by rw [hW0, hR0]; exact heap_alloc_new w _)
  have HB0 : Hid (Below w.heap.size w W0) := Lib.hid (by rw [hW0]; exact (Below.refl w.heap.size w).alloc (Nat.le_refl _) _)
  have HW0 := Lib.hid hW0
  have HR0 := Lib.hid hR0
  clear hW0 hR0
  by_cases hn0 : (z0.length : Int) ≤ 1048576
  rotate_left
  · have HN0 := Lib.hid (fun (W : World) => szT_no p0 z0.length cap0 (1048576) W (by omega) (by omega) (by omega))
    go_enter Try.func6, Try.ntmps6
    go_upto_region 1 with fail
    rw [← HW0.out, ← HR0.out]
    go_wp2_with fail
    refine (HN0.out _).mono ?_
    rintro e W ⟨rfl, rfl⟩
    go_wp2_with fail
    go_ret
    exact ⟨rfl, HB0.out⟩
  have HY0 := Lib.hid (fun (W : World) => szT_yes p0 z0.length cap0 (1048576) W (by omega) (by omega))
  have hl0 : ¬ ((1048576) - (z0.length : Int) < 0) := by omega
  have hm0 : z0.length ≤ 1048576 := by omega
  have HZ0 := Lib.hid w0
  have HN0 := Lib.hid hm0
  clear w0 b0
  have HSp := Lib.hid (fun (g0 : Nat) (W : World) (h0 : Row W (.slice (some ⟨g0, 0, none⟩) z0.length z0.length) z0.length (tmF z0)) => specSetT_any (.slice (some ⟨g0, 0, none⟩) z0.length z0.length) z0 t1 W h0)
  have HIm := Lib.hid (fun (g0 : Nat) (W : World) (h0 : Row W (.slice (some ⟨g0, 0, none⟩) z0.length z0.length) z0.length (tmF z0)) => implSetT_any g0 0 z0.length z0 t1 W h0)
  have hlen0 := setV_len z0 t1
  generalize setV z0 t1 = ps0 at HSp HIm hlen0
  have HL0 := Lib.hid hlen0
  clear hlen0
  generalize setOk z0 t1 = r0 at HSp HIm
  go_enter Try.func6, Try.ntmps6
  go_upto_region 1 with fail
  rw [← HW0.out, ← HR0.out]
  have bc0_1 : W0.cell? ⟨R0, 0, none⟩ = some (.int .i64 t1.i) := by have h := HA0.out; simp [World.cell?, h]
  have bc1_1 : W0.cell? ⟨R0, 1, none⟩ = some (.int .i64 t1.d) := by have h := HA0.out; simp [World.cell?, h]
  have bc2_1 : W0.cell? ⟨R0, 2, none⟩ = some (.int .i64 t1.p) := by have h := HA0.out; simp [World.cell?, h]
  go_wp2_with fail
  refine (HY0.out _).mono ?_
  rintro e W ⟨rfl, rfl⟩
  have HKp2 := Lib.hid (fun (w' : World) (hb : Below W0.heap.size W0 w') => (And.intro ((hb.cell (p := ⟨R0, 0, none⟩) (Array.getElem?_eq_some_iff.1 HA0.out).1).trans bc0_1) (And.intro ((hb.cell (p := ⟨R0, 1, none⟩) (Array.getElem?_eq_some_iff.1 HA0.out).1).trans bc1_1) (And.intro ((hb.cell (p := ⟨R0, 2, none⟩) (Array.getElem?_eq_some_iff.1 HA0.out).1).trans bc2_1) hb))))
  go_upto_region 5 with fail
  go_cut [6, 7] from 21 to 28 (fun x0 x1 wx => Hid (wx.ownsRow W0.heap.size 42 3 x0 ps0.length (tmF ps0)) ∧ x1 = .bool r0 ∧ Hid (Below W0.heap.size W0 wx))
  case first => as_aux_lemma =>
    go_region_held3 (fun w' => w'.cell? ⟨R0, 0, none⟩ = some (.int .i64 t1.i) ∧ w'.cell? ⟨R0, 1, none⟩ = some (.int .i64 t1.d) ∧ w'.cell? ⟨R0, 2, none⟩ = some (.int .i64 t1.p) ∧ Below W0.heap.size W0 w')
      ((refine HKp2.out _ ?_; repeat (first | assumption | exact Below.refl _ _ | refine Below.drew ?_)))
      (first
        | (go_at_call 44; refine (toTS_lit _ z0 _ (HZ0.out.below (HB0.out.trans ((by repeat (first | assumption | exact Below.refl _ _ | refine Below.drew ?_) : Below W0.heap.size W0 _).mono HB0.out.size)) (Nat.le_refl _)) HN0.out).mono ?_; rintro e w5 ⟨g5, rfl, o5, l5⟩; have hb5 := below_call (by repeat (first | assumption | exact Below.refl _ _ | refine Below.drew ?_) : Below W0.heap.size W0 _) l5; have hr5 := rowz_own o5; clear o5 l5)
        | (go_at_call 46; refine (toT_any t1 _).mono ?_; rintro e w6 ⟨rfl, l6⟩; have hb6 := below_call (by repeat (first | assumption | exact Below.refl _ _ | refine Below.drew ?_) : Below W0.heap.size W0 _) l6; try (have hr6 := Row.below hr5 l6 (by first | exact Nat.le_refl _ | (simp; done))); clear l6)
        | (go_at_call 32; refine (HSp.out g5 _ (by first | exact hr6 | exact hr5 | exact Row.below hr5 (bdrew _ 1) (Nat.le_refl _) | exact Row.below hr6 (bdrew _ 1) (Nat.le_refl _))).mono ?_; rintro e w7 ⟨v5_0, rfl, o5_0, l7⟩; have hb7 := below_call (by repeat (first | assumption | exact Below.refl _ _ | refine Below.drew ?_) : Below W0.heap.size W0 _) l7; have ho7 := ownz_base o5_0 (show W0.heap.size ≤ _ from ((by repeat (first | assumption | exact Below.refl _ _ | refine Below.drew ?_) : Below W0.heap.size W0 _)).size); clear l7 o5_0))
    all_goals go_wp2_with fail
    all_goals go_meet
    all_goals
      case rel => exact ⟨Lib.hid (by first | exact ho7 | exact ownz_below ho7 (bdrew _ 1) (Nat.le_refl _)), rfl, Lib.hid (by repeat (first | assumption | exact Below.refl _ _ | refine Below.drew ?_))⟩
  case rest =>
    obtain ⟨HO_vw0, rfl, HCut2⟩ := hcut
    rename World => W2
    have l2 := HCut2.out
    clear HCut2 HKp2
    have o_vw0 := HO_vw0.out
    clear HO_vw0
    obtain ⟨vw0, hv_vw0⟩ : ∃ v : Value, v = u6 := ⟨_, rfl⟩
    rw [← hv_vw0] at o_vw0 ⊢
    clear hv_vw0
    have O_vw0 := Lib.hid (ownz_base o_vw0 (HB0.out.size))
    have BR_vw0 : Hid (∀ k, (vw0 : Value).ownBlock = some k → k ≠ R0) := Lib.hid (fun k h1 h2 => absurd (Array.getElem?_eq_some_iff.1 HA0.out).1 (Nat.not_lt.2 (by rw [← h2]; exact (o_vw0.lt k h1).1)))
    have HB_2 := Lib.hid (HB0.out.trans (l2.mono HB0.out.size))
    have BX_2 := Lib.hid ((l2.block R0 (Array.getElem?_eq_some_iff.1 HA0.out).1).trans HA0.out)
    clear HA0
    clear HB0
    clear bc0_1 bc1_1 bc2_1
    have bc0_3 : W2.cell? ⟨R0, 0, none⟩ = some (.int .i64 t1.i) := by have h := BX_2.out; simp [World.cell?, h]
    have bc1_3 : W2.cell? ⟨R0, 1, none⟩ = some (.int .i64 t1.d) := by have h := BX_2.out; simp [World.cell?, h]
    have bc2_3 : W2.cell? ⟨R0, 2, none⟩ = some (.int .i64 t1.p) := by have h := BX_2.out; simp [World.cell?, h]
    clear l2 o_vw0
    go_wp2_with fail
    refine (toTS_lit _ z0 _ (HZ0.out.below HB_2.out (Nat.le_refl _)) HN0.out).mono ?_
    rintro e W4 ⟨g_x0, rfl, o_x0, l4⟩
    have AP_vw0_x0 : Hid (∀ k, (vw0 : Value).ownBlock = some k → (.slice (some ⟨g_x0, 0, none⟩) z0.length z0.length : Value).ownBlock ≠ some k) := Lib.hid (fun k h1 h2 => absurd (O_vw0.out.lt k h1).2 (Nat.not_lt.2 (o_x0.lt k h2).1))
    have O_x0 := Lib.hid (ownz_base o_x0 (HB_2.out.size))
    have BR_x0 : Hid (∀ k, (.slice (some ⟨g_x0, 0, none⟩) z0.length z0.length : Value).ownBlock = some k → k ≠ R0) := Lib.hid (fun k h1 h2 => absurd (Array.getElem?_eq_some_iff.1 BX_2.out).1 (Nat.not_lt.2 (by rw [← h2]; exact (o_x0.lt k h1).1)))
    have HB_4 := Lib.hid (HB_2.out.trans (l4.mono HB_2.out.size))
    have vw0_4 := Lib.hid (ownz_below O_vw0.out l4 (Nat.le_refl _))
    clear O_vw0
    have BX_4 := Lib.hid ((l4.block R0 (Array.getElem?_eq_some_iff.1 BX_2.out).1).trans BX_2.out)
    clear BX_2
    clear HB_2
    clear bc0_3 bc1_3 bc2_3
    have bc0_5 : W4.cell? ⟨R0, 0, none⟩ = some (.int .i64 t1.i) := by have h := BX_4.out; simp [World.cell?, h]
    have bc1_5 : W4.cell? ⟨R0, 1, none⟩ = some (.int .i64 t1.d) := by have h := BX_4.out; simp [World.cell?, h]
    have bc2_5 : W4.cell? ⟨R0, 2, none⟩ = some (.int .i64 t1.p) := by have h := BX_4.out; simp [World.cell?, h]
    clear o_x0 l4
    go_wp2_with fail
    refine (toT_any t1 _).mono ?_
    rintro e W6 ⟨rfl, l6⟩
    have HB_6 := Lib.hid (HB_4.out.trans (l6.mono HB_4.out.size))
    have vw0_6 := Lib.hid (ownz_below vw0_4.out l6 (Nat.le_refl _))
    clear vw0_4
    have x0_6 := Lib.hid (ownz_below O_x0.out l6 (Nat.le_refl _))
    clear O_x0
    have BX_6 := Lib.hid ((l6.block R0 (Array.getElem?_eq_some_iff.1 BX_4.out).1).trans BX_4.out)
    clear BX_4
    clear HB_4
    clear bc0_5 bc1_5 bc2_5
    have bc0_7 : W6.cell? ⟨R0, 0, none⟩ = some (.int .i64 t1.i) := by have h := BX_6.out; simp [World.cell?, h]
    have bc1_7 : W6.cell? ⟨R0, 1, none⟩ = some (.int .i64 t1.d) := by have h := BX_6.out; simp [World.cell?, h]
    have bc2_7 : W6.cell? ⟨R0, 2, none⟩ = some (.int .i64 t1.p) := by have h := BX_6.out; simp [World.cell?, h]
    clear l6
    go_wp2_with fail
    refine (HIm.out g_x0 _ (rowz_own x0_6.out)).mono ?_
    rintro e W8 ⟨vg0, rfl, o_vg0, l8⟩
    have AP_vw0_vg0 : Hid (∀ k, (vw0 : Value).ownBlock = some k → (vg0 : Value).ownBlock ≠ some k) := Lib.hid (fun k h1 h2 => absurd (vw0_6.out.lt k h1).2 (Nat.not_lt.2 (o_vg0.lt k h2).1))
    have AP_x0_vg0 : Hid (∀ k, (.slice (some ⟨g_x0, 0, none⟩) z0.length z0.length : Value).ownBlock = some k → (vg0 : Value).ownBlock ≠ some k) := Lib.hid (fun k h1 h2 => absurd (x0_6.out.lt k h1).2 (Nat.not_lt.2 (o_vg0.lt k h2).1))
    have O_vg0 := Lib.hid (ownz_base o_vg0 (HB_6.out.size))
    have BR_vg0 : Hid (∀ k, (vg0 : Value).ownBlock = some k → k ≠ R0) := Lib.hid (fun k h1 h2 => absurd (Array.getElem?_eq_some_iff.1 BX_6.out).1 (Nat.not_lt.2 (by rw [← h2]; exact (o_vg0.lt k h1).1)))
    have HB_8 := Lib.hid (HB_6.out.trans (l8.mono HB_6.out.size))
    have vw0_8 := Lib.hid (ownz_below vw0_6.out l8 (Nat.le_refl _))
    clear vw0_6
    have x0_8 := Lib.hid (ownz_below x0_6.out l8 (Nat.le_refl _))
    clear x0_6
    have BX_8 := Lib.hid ((l8.block R0 (Array.getElem?_eq_some_iff.1 BX_6.out).1).trans BX_6.out)
    clear BX_6
    clear HB_6
    clear bc0_7 bc1_7 bc2_7
    have bc0_9 : W8.cell? ⟨R0, 0, none⟩ = some (.int .i64 t1.i) := by have h := BX_8.out; simp [World.cell?, h]
    have bc1_9 : W8.cell? ⟨R0, 1, none⟩ = some (.int .i64 t1.d) := by have h := BX_8.out; simp [World.cell?, h]
    have bc2_9 : W8.cell? ⟨R0, 2, none⟩ = some (.int .i64 t1.p) := by have h := BX_8.out; simp [World.cell?, h]
    clear l8 o_vg0
    go_wp2_with fail
    refine (eqTS_same _ _ ps0 _ (rowz_own O_vg0.out) (rowz_own vw0_8.out)).mono ?_
    rintro e W10 ⟨rfl, l10⟩
    have HB_10 := Lib.hid (HB_8.out.trans (l10.mono HB_8.out.size))
    have vw0_10 := Lib.hid (ownz_below vw0_8.out l10 (Nat.le_refl _))
    clear vw0_8
    have x0_10 := Lib.hid (ownz_below x0_8.out l10 (Nat.le_refl _))
    clear x0_8
    have vg0_10 := Lib.hid (ownz_below O_vg0.out l10 (Nat.le_refl _))
    clear O_vg0
    have BX_10 := Lib.hid ((l10.block R0 (Array.getElem?_eq_some_iff.1 BX_8.out).1).trans BX_8.out)
    clear BX_8
    clear HB_8
    clear bc0_9 bc1_9 bc2_9
    have bc0_11 : W10.cell? ⟨R0, 0, none⟩ = some (.int .i64 t1.i) := by have h := BX_10.out; simp [World.cell?, h]
    have bc1_11 : W10.cell? ⟨R0, 1, none⟩ = some (.int .i64 t1.d) := by have h := BX_10.out; simp [World.cell?, h]
    have bc2_11 : W10.cell? ⟨R0, 2, none⟩ = some (.int .i64 t1.p) := by have h := BX_10.out; simp [World.cell?, h]
    clear l10
    go_wp2_with fail
    refine (toTS_lit _ z0 _ (HZ0.out.below HB_10.out (Nat.le_refl _)) HN0.out).mono ?_
    rintro e W12 ⟨g_y0, rfl, o_y0, l12⟩
    have AP_vw0_y0 : Hid (∀ k, (vw0 : Value).ownBlock = some k → (.slice (some ⟨g_y0, 0, none⟩) z0.length z0.length : Value).ownBlock ≠ some k) := Lib.hid (fun k h1 h2 => absurd (vw0_10.out.lt k h1).2 (Nat.not_lt.2 (o_y0.lt k h2).1))
    have AP_x0_y0 : Hid (∀ k, (.slice (some ⟨g_x0, 0, none⟩) z0.length z0.length : Value).ownBlock = some k → (.slice (some ⟨g_y0, 0, none⟩) z0.length z0.length : Value).ownBlock ≠ some k) := Lib.hid (fun k h1 h2 => absurd (x0_10.out.lt k h1).2 (Nat.not_lt.2 (o_y0.lt k h2).1))
    have AP_vg0_y0 : Hid (∀ k, (vg0 : Value).ownBlock = some k → (.slice (some ⟨g_y0, 0, none⟩) z0.length z0.length : Value).ownBlock ≠ some k) := Lib.hid (fun k h1 h2 => absurd (vg0_10.out.lt k h1).2 (Nat.not_lt.2 (o_y0.lt k h2).1))
    have O_y0 := Lib.hid (ownz_base o_y0 (HB_10.out.size))
    have BR_y0 : Hid (∀ k, (.slice (some ⟨g_y0, 0, none⟩) z0.length z0.length : Value).ownBlock = some k → k ≠ R0) := Lib.hid (fun k h1 h2 => absurd (Array.getElem?_eq_some_iff.1 BX_10.out).1 (Nat.not_lt.2 (by rw [← h2]; exact (o_y0.lt k h1).1)))
    have HB_12 := Lib.hid (HB_10.out.trans (l12.mono HB_10.out.size))
    have vw0_12 := Lib.hid (ownz_below vw0_10.out l12 (Nat.le_refl _))
    clear vw0_10
    have x0_12 := Lib.hid (ownz_below x0_10.out l12 (Nat.le_refl _))
    clear x0_10
    have vg0_12 := Lib.hid (ownz_below vg0_10.out l12 (Nat.le_refl _))
    clear vg0_10
    have BX_12 := Lib.hid ((l12.block R0 (Array.getElem?_eq_some_iff.1 BX_10.out).1).trans BX_10.out)
    clear BX_10
    clear HB_10
    clear bc0_11 bc1_11 bc2_11
    have bc0_13 : W12.cell? ⟨R0, 0, none⟩ = some (.int .i64 t1.i) := by have h := BX_12.out; simp [World.cell?, h]
    have bc1_13 : W12.cell? ⟨R0, 1, none⟩ = some (.int .i64 t1.d) := by have h := BX_12.out; simp [World.cell?, h]
    have bc2_13 : W12.cell? ⟨R0, 2, none⟩ = some (.int .i64 t1.p) := by have h := BX_12.out; simp [World.cell?, h]
    clear o_y0 l12
    go_wp2_with fail
    refine (eqTS_same _ _ z0 _ (rowz_own x0_12.out) (rowz_own O_y0.out)).mono ?_
    rintro e W14 ⟨rfl, l14⟩
    have HB_14 := Lib.hid (HB_12.out.trans (l14.mono HB_12.out.size))
    have vw0_14 := Lib.hid (ownz_below vw0_12.out l14 (Nat.le_refl _))
    clear vw0_12
    have x0_14 := Lib.hid (ownz_below x0_12.out l14 (Nat.le_refl _))
    clear x0_12
    have vg0_14 := Lib.hid (ownz_below vg0_12.out l14 (Nat.le_refl _))
    clear vg0_12
    have y0_14 := Lib.hid (ownz_below O_y0.out l14 (Nat.le_refl _))
    clear O_y0
    have BX_14 := Lib.hid ((l14.block R0 (Array.getElem?_eq_some_iff.1 BX_12.out).1).trans BX_12.out)
    clear BX_12
    clear HB_12
    clear bc0_13 bc1_13 bc2_13
    have bc0_15 : W14.cell? ⟨R0, 0, none⟩ = some (.int .i64 t1.i) := by have h := BX_14.out; simp [World.cell?, h]
    have bc1_15 : W14.cell? ⟨R0, 1, none⟩ = some (.int .i64 t1.d) := by have h := BX_14.out; simp [World.cell?, h]
    have bc2_15 : W14.cell? ⟨R0, 2, none⟩ = some (.int .i64 t1.p) := by have h := BX_14.out; simp [World.cell?, h]
    clear l14
    clear y0_14
    go_wp2_with fail
    refine (markT_own _ z0.length 1 _ _ _ x0_14.out (by have := HL0.out; have := HN0.out; omega)).mono ?_
    rintro e W16 ⟨rfl, m16, gr16⟩
    have HB_16 := Lib.hid (HB_14.out.grown gr16 HB_14.out.size (fun q hq => (x0_14.out.lt q hq).1))
    have vw0_16 := Lib.hid (ownz_apart vw0_14.out gr16 (fun k h1 h2 => AP_vw0_x0.out k h1 h2))
    clear vw0_14
    have vg0_16 := Lib.hid (ownz_apart vg0_14.out gr16 (fun k h1 h2 => AP_x0_vg0.out k h2 h1))
    clear vg0_14
    have BX_16 := Lib.hid ((gr16.block R0 (Array.getElem?_eq_some_iff.1 BX_14.out).1 (fun e => BR_x0.out _ e.symm rfl)).trans BX_14.out)
    clear BX_14
    have x0_16 := Lib.hid m16
    clear m16 gr16 x0_14 HB_14
    clear bc0_15 bc1_15 bc2_15
    have bc0_17 : W16.cell? ⟨R0, 0, none⟩ = some (.int .i64 t1.i) := by have h := BX_16.out; simp [World.cell?, h]
    have bc1_17 : W16.cell? ⟨R0, 1, none⟩ = some (.int .i64 t1.d) := by have h := BX_16.out; simp [World.cell?, h]
    have bc2_17 : W16.cell? ⟨R0, 2, none⟩ = some (.int .i64 t1.p) := by have h := BX_16.out; simp [World.cell?, h]
    go_wp2_with fail
    refine (eqTS_same _ _ ps0 _ (rowz_own vg0_16.out) (rowz_own vw0_16.out)).mono ?_
    rintro e W18 ⟨rfl, l18⟩
    have HB_18 := Lib.hid (HB_16.out.trans (l18.mono HB_16.out.size))
    have vw0_18 := Lib.hid (ownz_below vw0_16.out l18 (Nat.le_refl _))
    clear vw0_16
    have x0_18 := Lib.hid (ownz_below x0_16.out l18 (Nat.le_refl _))
    clear x0_16
    have vg0_18 := Lib.hid (ownz_below vg0_16.out l18 (Nat.le_refl _))
    clear vg0_16
    have BX_18 := Lib.hid ((l18.block R0 (Array.getElem?_eq_some_iff.1 BX_16.out).1).trans BX_16.out)
    clear BX_16
    clear HB_16
    clear bc0_17 bc1_17 bc2_17
    have bc0_19 : W18.cell? ⟨R0, 0, none⟩ = some (.int .i64 t1.i) := by have h := BX_18.out; simp [World.cell?, h]
    have bc1_19 : W18.cell? ⟨R0, 1, none⟩ = some (.int .i64 t1.d) := by have h := BX_18.out; simp [World.cell?, h]
    have bc2_19 : W18.cell? ⟨R0, 2, none⟩ = some (.int .i64 t1.p) := by have h := BX_18.out; simp [World.cell?, h]
    clear l18
    clear x0_18
    go_wp2_with fail
    refine (markT_own _ ps0.length 1 _ _ _ vg0_18.out (by have := HL0.out; have := HN0.out; omega)).mono ?_
    rintro e W20 ⟨rfl, m20, gr20⟩
    have HB_20 := Lib.hid (HB_18.out.grown gr20 HB_18.out.size (fun q hq => (vg0_18.out.lt q hq).1))
    have vw0_20 := Lib.hid (ownz_apart vw0_18.out gr20 (fun k h1 h2 => AP_vw0_vg0.out k h1 h2))
    clear vw0_18
    have BX_20 := Lib.hid ((gr20.block R0 (Array.getElem?_eq_some_iff.1 BX_18.out).1 (fun e => BR_vg0.out _ e.symm rfl)).trans BX_18.out)
    clear BX_18
    have vg0_20 := Lib.hid m20
    clear m20 gr20 vg0_18 HB_18
    clear bc0_19 bc1_19 bc2_19
    have bc0_21 : W20.cell? ⟨R0, 0, none⟩ = some (.int .i64 t1.i) := by have h := BX_20.out; simp [World.cell?, h]
    have bc1_21 : W20.cell? ⟨R0, 1, none⟩ = some (.int .i64 t1.d) := by have h := BX_20.out; simp [World.cell?, h]
    have bc2_21 : W20.cell? ⟨R0, 2, none⟩ = some (.int .i64 t1.p) := by have h := BX_20.out; simp [World.cell?, h]
    go_wp2_with fail
    refine (heldT_own _ ps0.length 1 _ _ vg0_20.out (by have := HL0.out; have := HN0.out; omega)).mono ?_
    rintro e W ⟨rfl, rfl⟩
    have HKp22 := Lib.hid (fun (w' : World) (hb : Below W20.heap.size W20 w') => (And.intro ((hb.cell (p := ⟨R0, 0, none⟩) (Array.getElem?_eq_some_iff.1 BX_20.out).1).trans bc0_21) (And.intro ((hb.cell (p := ⟨R0, 1, none⟩) (Array.getElem?_eq_some_iff.1 BX_20.out).1).trans bc1_21) (And.intro ((hb.cell (p := ⟨R0, 2, none⟩) (Array.getElem?_eq_some_iff.1 BX_20.out).1).trans bc2_21) hb))))
    go_upto_region 24 with fail
    go_cut [14, 15] from 79 to 86 (fun x0 x1 wx => Hid (wx.ownsRow W20.heap.size 42 3 x0 ps0.length (tmF ps0)) ∧ x1 = .bool r0 ∧ Hid (Below W20.heap.size W20 wx))
    case first => as_aux_lemma =>
      go_region_held3 (fun w' => w'.cell? ⟨R0, 0, none⟩ = some (.int .i64 t1.i) ∧ w'.cell? ⟨R0, 1, none⟩ = some (.int .i64 t1.d) ∧ w'.cell? ⟨R0, 2, none⟩ = some (.int .i64 t1.p) ∧ Below W20.heap.size W20 w')
        ((refine HKp22.out _ ?_; repeat (first | assumption | exact Below.refl _ _ | refine Below.drew ?_)))
        (first
          | (go_at_call 44; refine (toTS_lit _ z0 _ (HZ0.out.below (HB_20.out.trans ((by repeat (first | assumption | exact Below.refl _ _ | refine Below.drew ?_) : Below W20.heap.size W20 _).mono HB_20.out.size)) (Nat.le_refl _)) HN0.out).mono ?_; rintro e w5 ⟨g5, rfl, o5, l5⟩; have hb5 := below_call (by repeat (first | assumption | exact Below.refl _ _ | refine Below.drew ?_) : Below W20.heap.size W20 _) l5; have hr5 := rowz_own o5; clear o5 l5)
          | (go_at_call 46; refine (toT_any t1 _).mono ?_; rintro e w6 ⟨rfl, l6⟩; have hb6 := below_call (by repeat (first | assumption | exact Below.refl _ _ | refine Below.drew ?_) : Below W20.heap.size W20 _) l6; try (have hr6 := Row.below hr5 l6 (by first | exact Nat.le_refl _ | (simp; done))); clear l6)
          | (go_at_call 31; refine (HIm.out g5 _ (by first | exact hr6 | exact hr5 | exact Row.below hr5 (bdrew _ 1) (Nat.le_refl _) | exact Row.below hr6 (bdrew _ 1) (Nat.le_refl _))).mono ?_; rintro e w7 ⟨v5_0, rfl, o5_0, l7⟩; have hb7 := below_call (by repeat (first | assumption | exact Below.refl _ _ | refine Below.drew ?_) : Below W20.heap.size W20 _) l7; have ho7 := ownz_base o5_0 (show W20.heap.size ≤ _ from ((by repeat (first | assumption | exact Below.refl _ _ | refine Below.drew ?_) : Below W20.heap.size W20 _)).size); clear l7 o5_0))
      all_goals go_wp2_with fail
      all_goals go_meet
      all_goals
        case rel => exact ⟨Lib.hid (by first | exact ho7 | exact ownz_below ho7 (bdrew _ 1) (Nat.le_refl _)), rfl, Lib.hid (by repeat (first | assumption | exact Below.refl _ _ | refine Below.drew ?_))⟩
    case rest =>
      obtain ⟨HO_vh0, rfl, HCut22⟩ := hcut
      rename World => W22
      have l22 := HCut22.out
      clear HCut22 HKp22
      have o_vh0 := HO_vh0.out
      clear HO_vh0
      obtain ⟨vh0, hv_vh0⟩ : ∃ v : Value, v = u14 := ⟨_, rfl⟩
      rw [← hv_vh0] at o_vh0 ⊢
      clear hv_vh0
      have AP_vw0_vh0 : Hid (∀ k, (vw0 : Value).ownBlock = some k → (vh0 : Value).ownBlock ≠ some k) := Lib.hid (fun k h1 h2 => absurd (vw0_20.out.lt k h1).2 (Nat.not_lt.2 (o_vh0.lt k h2).1))
      have AP_vg0_vh0 : Hid (∀ k, (vg0 : Value).ownBlock = some k → (vh0 : Value).ownBlock ≠ some k) := Lib.hid (fun k h1 h2 => absurd (vg0_20.out.lt k h1).2 (Nat.not_lt.2 (o_vh0.lt k h2).1))
      have O_vh0 := Lib.hid (ownz_base o_vh0 (HB_20.out.size))
      have BR_vh0 : Hid (∀ k, (vh0 : Value).ownBlock = some k → k ≠ R0) := Lib.hid (fun k h1 h2 => absurd (Array.getElem?_eq_some_iff.1 BX_20.out).1 (Nat.not_lt.2 (by rw [← h2]; exact (o_vh0.lt k h1).1)))
      have HB_22 := Lib.hid (HB_20.out.trans (l22.mono HB_20.out.size))
      have vw0_22 := Lib.hid (ownz_below vw0_20.out l22 (Nat.le_refl _))
      clear vw0_20
      have vg0_22 := Lib.hid (ownz_below vg0_20.out l22 (Nat.le_refl _))
      clear vg0_20
      have BX_22 := Lib.hid ((l22.block R0 (Array.getElem?_eq_some_iff.1 BX_20.out).1).trans BX_20.out)
      clear BX_20
      clear HB_20
      clear bc0_21 bc1_21 bc2_21
      have bc0_23 : W22.cell? ⟨R0, 0, none⟩ = some (.int .i64 t1.i) := by have h := BX_22.out; simp [World.cell?, h]
      have bc1_23 : W22.cell? ⟨R0, 1, none⟩ = some (.int .i64 t1.d) := by have h := BX_22.out; simp [World.cell?, h]
      have bc2_23 : W22.cell? ⟨R0, 2, none⟩ = some (.int .i64 t1.p) := by have h := BX_22.out; simp [World.cell?, h]
      clear l22 o_vh0
      go_wp2_with fail
      refine (eqTS_same _ _ ps0 _ (rowz_own O_vh0.out) (rowz_own vw0_22.out)).mono ?_
      rintro e W24 ⟨rfl, l24⟩
      have HB_24 := Lib.hid (HB_22.out.trans (l24.mono HB_22.out.size))
      have vw0_24 := Lib.hid (ownz_below vw0_22.out l24 (Nat.le_refl _))
      clear vw0_22
      have vg0_24 := Lib.hid (ownz_below vg0_22.out l24 (Nat.le_refl _))
      clear vg0_22
      have vh0_24 := Lib.hid (ownz_below O_vh0.out l24 (Nat.le_refl _))
      clear O_vh0
      have BX_24 := Lib.hid ((l24.block R0 (Array.getElem?_eq_some_iff.1 BX_22.out).1).trans BX_22.out)
      clear BX_22
      clear HB_22
      clear bc0_23 bc1_23 bc2_23
      have bc0_25 : W24.cell? ⟨R0, 0, none⟩ = some (.int .i64 t1.i) := by have h := BX_24.out; simp [World.cell?, h]
      have bc1_25 : W24.cell? ⟨R0, 1, none⟩ = some (.int .i64 t1.d) := by have h := BX_24.out; simp [World.cell?, h]
      have bc2_25 : W24.cell? ⟨R0, 2, none⟩ = some (.int .i64 t1.p) := by have h := BX_24.out; simp [World.cell?, h]
      clear l24
      go_wp2_with fail
      refine (heldT_own _ ps0.length 1 _ _ vg0_24.out (by have := HL0.out; have := HN0.out; omega)).mono ?_
      rintro e W ⟨rfl, rfl⟩
      go_wp2_with fail
      go_ret
      exact ⟨rfl, HB_24.out⟩
end Go.Proofs.Ytoehedogdbafpaa
