/-
  Receive windows: what is given up (the specification's).
-/
import Derived.Test.YtpmjdppipalfcaaRcv7
import Derived.Deep.QuietTactic
import Derived.BigQuiet
import Derived.IntWalk
import Derived.Deep.CutRange
import Derived.WalkLawsBesides
import Derived.Lib.SmallJoins
import Derived.Deep.RegionHeld3
namespace Go.Proofs.Ytpmjdppipalfcaa
open Go.RowKit Go.Lib Go.Joins
set_option linter.unusedVariables false

set_option maxRecDepth 100000 in
set_option maxHeartbeats 16000000 in
theorem specGive_any (v : Value) (l : Rw) (w : World) (hrow : Row w v l.q.length (slF l.q)) (hs : ∀ s ∈ l.q, s.s.size ≤ maxLen) (n : Int) (hfit : Fit v l.q.length) :
    Calls Try.prog 14 #[.agg #[.int .i64 l.x, v], .int .i64 n] w fun e w' => ∃ v' u', e = .returned (.tuple #[.agg #[.int .i64 (giveV l n).x, v'], u', .bool (giveOk l n)]) ∧ Row w' v' (giveV l n).q.length (slF (giveV l n).q) ∧ w'.ownsRow w.heap.size 9 1 u' (giveL l n).length ((giveL l n).map Value.string) ∧ (∀ k, v'.ownBlock = some k → w.heap.size ≤ k) ∧ Below w.heap.size w w' := by
  have HS := Lib.hid hs
  clear hs
  obtain ⟨x, q⟩ := l
  dsimp only at hrow hfit ⊢
  obtain ⟨a, cap, rfl, hc1, hm1, _⟩ := sl_open hrow
  unfold maxLen at hm1
  have HP := Lib.hid hrow
  have HFit := Lib.hid hfit
  clear hrow hfit
  dsimp only at HS
  obtain ⟨W0, R_T, R_A, hW0, hR_T, hR_A, hX_T, hX_A, hB0⟩ := entry2 w #[.int .i64 x, .slice a q.length cap] #[.int .i64 0, .slice none 0 0] 26 26
  have HW0 := Lib.hid hW0
  have HB0 := Lib.hid hB0
  have HR_T := Lib.hid hR_T
  have HX_T := Lib.hid hX_T
  have HR_A := Lib.hid hR_A
  have HX_A := Lib.hid hX_A
  clear hW0 hB0 hR_T hX_T hR_A hX_A
  have HG := Lib.hid (fun (W1 : World) (hr : Row W1 (.slice a q.length cap) q.length (slF q)) => l10Good_any (.slice a q.length cap) ⟨x, q⟩ W1 hr HS.out)
  have HN := Lib.hid (fun (W1 : World) => l2Good_any n W1)
  cases ok : rwOk ⟨x, q⟩ with
  | false =>
    rw [ok] at HG
    have ho : giveOk ⟨x, q⟩ n = false := by unfold giveOk; rw [ok]; rfl
    have hv : giveV ⟨x, q⟩ n = rw0 := by unfold giveV; rw [ho]; rfl
    have hl : giveL ⟨x, q⟩ n = [] := by unfold giveL; rw [ho]; rfl
    rw [ho, hv, hl]
    clear ho hv hl
    dsimp only [rw0]
    have c22_T_0 := HX_T.out.at 0 (v := .int .i64 x) rfl
    have c22_T_1 := HX_T.out.at 1 (v := .slice a q.length cap) rfl
    have c23_A_0 := HX_A.out.at 0 (v := .int .i64 0) rfl
    have c23_A_1 := HX_A.out.at 1 (v := .slice none 0 0) rfl
    go_enter Try.func14, Try.ntmps14
    go_upto_region 1 with fail
    rw [← HW0.out, ← HR_A.out, ← HR_T.out]
    go_wp2_with fail
    refine (HG.out _ (HP.out.below HB0.out (Nat.le_refl _))).mono ?_
    rintro e W24 ⟨rfl, l24⟩
    clear c22_T_0 c22_T_1
    clear c23_A_0 c23_A_1
    have HB_25 := Lib.hid (HB0.out.trans (l24.mono HB0.out.size))
    have T_25 := Lib.hid (HX_T.out.below l24 HX_T.out.lt)
    have A_25 := Lib.hid (HX_A.out.below l24 HX_A.out.lt)
    clear l24
    have c26_T_0 := T_25.out.at 0 (v := .int .i64 x) rfl
    have c26_T_1 := T_25.out.at 1 (v := .slice a q.length cap) rfl
    have c27_A_0 := A_25.out.at 0 (v := .int .i64 0) rfl
    have c27_A_1 := A_25.out.at 1 (v := .slice none 0 0) rfl
    have hAl := A_25.out.alloc (.cells #[] 9)
    have z0 := hAl.at 0 (v := .int .i64 0) rfl
    have y0 := hAl.free 0
    have z1 := hAl.at 1 (v := .slice none 0 0) rfl
    have y1 := hAl.free 1
    have HAl := Lib.hid hAl
    clear hAl
    go_wp2_with fail
    obtain ⟨p1, q1⟩ := HAl.out.store2 (.int .i64 0) (.slice none 0 0)
    have hB9 := HB_25.out.alloc HB_25.out.size (.cells #[] 9)
    refine bodyPost_ret (results_bx2 rfl isRw _ _ R_A rfl rfl rfl rfl p1) rfl ?_
    exact ⟨_, _, rfl, row_none _ none 0 (by unfold maxLen; omega), (own_lit (heap_alloc_new W24 (.cells #[] 9)) HB_25.out.size).kept q1 (.inr (fun e => by have e2 : W24.heap.size = R_A := Option.some.inj e; have h1 := A_25.out.lt; omega)), (fun k h => by cases h), hB9.grown q1 hB9.size (fun k hk => by have e2 : R_A = k := Option.some.inj hk; have := HR_A.out; omega)⟩
  | true =>
    rw [ok] at HG
    cases os : serB n with
    | false =>
      rw [os] at HN
      have ho : giveOk ⟨x, q⟩ n = false := by unfold giveOk; rw [os, Bool.false_and, Bool.and_false]
      have hv : giveV ⟨x, q⟩ n = rw0 := by unfold giveV; rw [ho]; rfl
      have hl : giveL ⟨x, q⟩ n = [] := by unfold giveL; rw [ho]; rfl
      rw [ho, hv, hl]
      clear ho hv hl
      dsimp only [rw0]
      have c28_T_0 := HX_T.out.at 0 (v := .int .i64 x) rfl
      have c28_T_1 := HX_T.out.at 1 (v := .slice a q.length cap) rfl
      have c29_A_0 := HX_A.out.at 0 (v := .int .i64 0) rfl
      have c29_A_1 := HX_A.out.at 1 (v := .slice none 0 0) rfl
      go_enter Try.func14, Try.ntmps14
      go_upto_region 1 with fail
      rw [← HW0.out, ← HR_A.out, ← HR_T.out]
      go_wp2_with fail
      refine (HG.out _ (HP.out.below HB0.out (Nat.le_refl _))).mono ?_
      rintro e W30 ⟨rfl, l30⟩
      clear c28_T_0 c28_T_1
      clear c29_A_0 c29_A_1
      have HB_31 := Lib.hid (HB0.out.trans (l30.mono HB0.out.size))
      have T_31 := Lib.hid (HX_T.out.below l30 HX_T.out.lt)
      have A_31 := Lib.hid (HX_A.out.below l30 HX_A.out.lt)
      clear l30
      have c32_T_0 := T_31.out.at 0 (v := .int .i64 x) rfl
      have c32_T_1 := T_31.out.at 1 (v := .slice a q.length cap) rfl
      have c33_A_0 := A_31.out.at 0 (v := .int .i64 0) rfl
      have c33_A_1 := A_31.out.at 1 (v := .slice none 0 0) rfl
      go_wp2_with fail
      refine (HN.out _).mono ?_
      rintro e _ ⟨rfl, rfl⟩
      have hAl := A_31.out.alloc (.cells #[] 9)
      have z0 := hAl.at 0 (v := .int .i64 0) rfl
      have y0 := hAl.free 0
      have z1 := hAl.at 1 (v := .slice none 0 0) rfl
      have y1 := hAl.free 1
      have HAl := Lib.hid hAl
      clear hAl
      go_wp2_with fail
      obtain ⟨p1, q1⟩ := HAl.out.store2 (.int .i64 0) (.slice none 0 0)
      have hB9 := HB_31.out.alloc HB_31.out.size (.cells #[] 9)
      refine bodyPost_ret (results_bx2 rfl isRw _ _ R_A rfl rfl rfl rfl p1) rfl ?_
      exact ⟨_, _, rfl, row_none _ none 0 (by unfold maxLen; omega), (own_lit (heap_alloc_new W30 (.cells #[] 9)) HB_31.out.size).kept q1 (.inr (fun e => by have e2 : W30.heap.size = R_A := Option.some.inj e; have h1 := A_31.out.lt; omega)), (fun k h => by cases h), hB9.grown q1 hB9.size (fun k hk => by have e2 : R_A = k := Option.some.inj hk; have := HR_A.out; omega)⟩
    | true =>
      rw [os] at HN
      have hx := (rwOk_iff.1 ok).1
      dsimp only at hx
      have hn := serB_bd os
      have HGp := Lib.hid (fun (W1 : World) => l2Gap_any x n W1 hx.1 hx.2 hn.1 hn.2)
      have HBf := Lib.hid (fun (W1 : World) => l2Before_any n x W1 hn.1 hn.2 hx.1 hx.2)
      have hgo : giveOk ⟨x, q⟩ n = (befB n x || decide (gapI x n ≤ 8)) := by unfold giveOk; rw [ok, os]; rfl
      have HGv := Lib.hid (fun (h : giveOk ⟨x, q⟩ n = true) (W1 : World) (hr : Row W1 (.slice a q.length cap) q.length (slF q)) => l10GiveUp_any (.slice a q.length cap) ⟨x, q⟩ W1 hr n h HFit.out)
      cases hb : befB n x with
      | true =>
        rw [hb] at HBf hgo
        rw [Bool.true_or] at hgo
        have HT2 := Lib.hid (HGv.out hgo)
        have hv : giveV ⟨x, q⟩ n = giveW ⟨x, q⟩ n := if_pos hgo
        have hl : giveL ⟨x, q⟩ n = giveE ⟨x, q⟩ n := if_pos hgo
        rw [hgo, hv, hl]
        generalize giveE ⟨x, q⟩ n = wl at HT2 ⊢
        generalize giveW ⟨x, q⟩ n = wv at HT2 ⊢
        obtain ⟨xx, qq⟩ := wv
        dsimp only at HT2 ⊢
        clear HGv hgo hv hl ok os hx hn hb
        have c34_T_0 := HX_T.out.at 0 (v := .int .i64 x) rfl
        have c34_T_1 := HX_T.out.at 1 (v := .slice a q.length cap) rfl
        have c35_A_0 := HX_A.out.at 0 (v := .int .i64 0) rfl
        have c35_A_1 := HX_A.out.at 1 (v := .slice none 0 0) rfl
        go_enter Try.func14, Try.ntmps14
        go_upto_region 1 with fail
        rw [← HW0.out, ← HR_A.out, ← HR_T.out]
        go_wp2_with fail
        refine (HG.out _ (HP.out.below HB0.out (Nat.le_refl _))).mono ?_
        rintro e W36 ⟨rfl, l36⟩
        clear c34_T_0 c34_T_1
        clear c35_A_0 c35_A_1
        have HB_37 := Lib.hid (HB0.out.trans (l36.mono HB0.out.size))
        have T_37 := Lib.hid (HX_T.out.below l36 HX_T.out.lt)
        have A_37 := Lib.hid (HX_A.out.below l36 HX_A.out.lt)
        clear l36
        have c38_T_0 := T_37.out.at 0 (v := .int .i64 x) rfl
        have c38_T_1 := T_37.out.at 1 (v := .slice a q.length cap) rfl
        have c39_A_0 := A_37.out.at 0 (v := .int .i64 0) rfl
        have c39_A_1 := A_37.out.at 1 (v := .slice none 0 0) rfl
        go_wp2_with fail
        refine (HN.out _).mono ?_
        rintro e _ ⟨rfl, rfl⟩
        go_wp2_with fail
        refine (HBf.out _).mono ?_
        rintro e _ ⟨rfl, rfl⟩
        go_wp2_with fail
        refine (HT2.out _ (HP.out.below HB_37.out (Nat.le_refl _))).mono ?_
        rintro e W40 ⟨v_m, u_m, rfl, r_m, o_u, nb, l40⟩
        obtain ⟨a_m, c_m, rfl, _, _, _⟩ := sl_open r_m
        obtain ⟨a_u, c_u, rfl, _, _⟩ := ownz_slice o_u
        have R_m := Lib.hid r_m
        have O_u := Lib.hid (ownz_base o_u HB_37.out.size)
        have NB : Hid (∀ k, (.slice a_m qq.length c_m : Value).ownBlock = some k → w.heap.size ≤ k) := Lib.hid (fun k h => Nat.le_trans HB_37.out.size (nb k h))
        have BX_T_m : Hid (∀ k, (.slice a_m qq.length c_m : Value).ownBlock = some k → k ≠ R_T) := Lib.hid (fun k h1 h2 => absurd T_37.out.lt (Nat.not_lt.2 (by rw [← h2]; exact nb k h1)))
        have BX_T_u : Hid (∀ k, (.slice a_u wl.length c_u : Value).ownBlock = some k → k ≠ R_T) := Lib.hid (fun k h1 h2 => absurd T_37.out.lt (Nat.not_lt.2 (by rw [← h2]; exact (o_u.lt k h1).1)))
        have BX_A_m : Hid (∀ k, (.slice a_m qq.length c_m : Value).ownBlock = some k → k ≠ R_A) := Lib.hid (fun k h1 h2 => absurd A_37.out.lt (Nat.not_lt.2 (by rw [← h2]; exact nb k h1)))
        have BX_A_u : Hid (∀ k, (.slice a_u wl.length c_u : Value).ownBlock = some k → k ≠ R_A) := Lib.hid (fun k h1 h2 => absurd A_37.out.lt (Nat.not_lt.2 (by rw [← h2]; exact (o_u.lt k h1).1)))
        clear r_m o_u nb
        clear c38_T_0 c38_T_1
        clear c39_A_0 c39_A_1
        have HB_41 := Lib.hid (HB_37.out.trans (l40.mono HB_37.out.size))
        have T_41 := Lib.hid (T_37.out.below l40 T_37.out.lt)
        clear T_37
        have A_41 := Lib.hid (A_37.out.below l40 A_37.out.lt)
        clear A_37
        clear l40
        have c42_T_0 := T_41.out.at 0 (v := .int .i64 x) rfl
        have c42_T_1 := T_41.out.at 1 (v := .slice a q.length cap) rfl
        have c43_A_0 := A_41.out.at 0 (v := .int .i64 0) rfl
        have c43_A_1 := A_41.out.at 1 (v := .slice none 0 0) rfl
        go_upto_region 4 with fail
        obtain ⟨W44, hW44⟩ : ∃ W44, W44 = W40.alloc (.cells #[.int .i64 xx, .slice a_m qq.length c_m] 26) := ⟨_, rfl⟩
        have l44 : Below W40.heap.size W40 W44 := by rw [hW44]; exact (Below.refl _ _).alloc (Nat.le_refl _) _
        have X44_R : Hid (Bx W44 W40.heap.size #[.int .i64 xx, .slice a_m qq.length c_m] 26) := Lib.hid (by rw [hW44]; exact Bx.new _ _ _)
        rw [← hW44]
        clear hW44
        have BX_R_u : Hid (∀ k, (.slice a_u wl.length c_u : Value).ownBlock = some k → k ≠ W40.heap.size) := Lib.hid (fun k h1 h2 => absurd (O_u.out.lt k h1).2 (by omega))
        have HG_R : Hid (w.heap.size ≤ W40.heap.size) := Lib.hid HB_41.out.size
        have HN_R_T : Hid (R_T < W40.heap.size) := Lib.hid T_41.out.lt
        have HN_R_A : Hid (R_A < W40.heap.size) := Lib.hid A_41.out.lt
        obtain ⟨R_R, hR_R⟩ : ∃ X, X = W40.heap.size := ⟨_, rfl⟩
        rw [← hR_R] at X44_R HG_R BX_R_u HN_R_T HN_R_A ⊢
        clear hR_R
        clear c42_T_0 c42_T_1
        clear c43_A_0 c43_A_1
        have HB_45 := Lib.hid (HB_41.out.trans (l44.mono HB_41.out.size))
        have u_45 := Lib.hid (ownz_below O_u.out l44 (Nat.le_refl _))
        clear O_u
        have m_45 := Lib.hid (R_m.out.below l44 (Nat.le_refl _))
        clear R_m
        have T_45 := Lib.hid (T_41.out.below l44 T_41.out.lt)
        clear T_41
        have A_45 := Lib.hid (A_41.out.below l44 A_41.out.lt)
        clear A_41
        clear l44
        have c46_T_0 := T_45.out.at 0 (v := .int .i64 x) rfl
        have c46_T_1 := T_45.out.at 1 (v := .slice a q.length cap) rfl
        have c47_A_0 := A_45.out.at 0 (v := .int .i64 0) rfl
        have c47_A_1 := A_45.out.at 1 (v := .slice none 0 0) rfl
        have c48_R_0 := X44_R.out.at 0 (v := .int .i64 xx) rfl
        have c48_R_1 := X44_R.out.at 1 (v := .slice a_m qq.length c_m) rfl
        have fr49_A_0 := A_45.out.free 0
        have fr49_A_1 := A_45.out.free 1
        go_wp2_with fail
        obtain ⟨p1, q1⟩ := A_45.out.store2 (.int .i64 xx) (.slice a_m qq.length c_m)
        refine bodyPost_ret (results_bx2 rfl isRw _ _ R_A rfl rfl rfl rfl p1) rfl ?_
        exact ⟨_, _, rfl, row_kept m_45.out q1 (fun k hk e => BX_A_m.out k hk (Option.some.inj e).symm), (u_45.out.kept q1 (by
          cases hv : (.slice a_u wl.length c_u : Value).ownBlock with
          | none => exact .inl rfl
          | some k => exact .inr (fun e => BX_A_u.out k hv (Option.some.inj e)))), NB.out, (HB_45.out.grown q1 HB_45.out.size (fun k hk => by have e2 : R_A = k := Option.some.inj hk; have := HR_A.out; omega))⟩
      | false =>
        rw [hb] at HBf hgo
        rw [Bool.false_or] at hgo
        by_cases h8 : gapI x n ≤ 8
        rotate_left
        · rw [decide_eq_false h8] at hgo
          have h8' : (8 : Int) < gapI x n := by omega
          have HIt := Lib.hid hgo
          clear hgo hb h8 HGv
          generalize gapI x n = gp at HGp h8'
          have ho : giveOk ⟨x, q⟩ n = false := HIt.out
          have hv : giveV ⟨x, q⟩ n = rw0 := by unfold giveV; rw [ho]; rfl
          have hl : giveL ⟨x, q⟩ n = [] := by unfold giveL; rw [ho]; rfl
          rw [ho, hv, hl]
          clear ho hv hl
          dsimp only [rw0]
          have c50_T_0 := HX_T.out.at 0 (v := .int .i64 x) rfl
          have c50_T_1 := HX_T.out.at 1 (v := .slice a q.length cap) rfl
          have c51_A_0 := HX_A.out.at 0 (v := .int .i64 0) rfl
          have c51_A_1 := HX_A.out.at 1 (v := .slice none 0 0) rfl
          go_enter Try.func14, Try.ntmps14
          go_upto_region 1 with fail
          rw [← HW0.out, ← HR_A.out, ← HR_T.out]
          go_wp2_with fail
          refine (HG.out _ (HP.out.below HB0.out (Nat.le_refl _))).mono ?_
          rintro e W52 ⟨rfl, l52⟩
          clear c50_T_0 c50_T_1
          clear c51_A_0 c51_A_1
          have HB_53 := Lib.hid (HB0.out.trans (l52.mono HB0.out.size))
          have T_53 := Lib.hid (HX_T.out.below l52 HX_T.out.lt)
          have A_53 := Lib.hid (HX_A.out.below l52 HX_A.out.lt)
          clear l52
          have c54_T_0 := T_53.out.at 0 (v := .int .i64 x) rfl
          have c54_T_1 := T_53.out.at 1 (v := .slice a q.length cap) rfl
          have c55_A_0 := A_53.out.at 0 (v := .int .i64 0) rfl
          have c55_A_1 := A_53.out.at 1 (v := .slice none 0 0) rfl
          go_wp2_with fail
          refine (HN.out _).mono ?_
          rintro e _ ⟨rfl, rfl⟩
          go_wp2_with fail
          refine (HBf.out _).mono ?_
          rintro e _ ⟨rfl, rfl⟩
          go_wp2_with fail
          refine (HGp.out _).mono ?_
          rintro e _ ⟨rfl, rfl⟩
          have hAl := A_53.out.alloc (.cells #[] 9)
          have z0 := hAl.at 0 (v := .int .i64 0) rfl
          have y0 := hAl.free 0
          have z1 := hAl.at 1 (v := .slice none 0 0) rfl
          have y1 := hAl.free 1
          have HAl := Lib.hid hAl
          clear hAl
          go_wp2_with fail
          obtain ⟨p1, q1⟩ := HAl.out.store2 (.int .i64 0) (.slice none 0 0)
          have hB9 := HB_53.out.alloc HB_53.out.size (.cells #[] 9)
          refine bodyPost_ret (results_bx2 rfl isRw _ _ R_A rfl rfl rfl rfl p1) rfl ?_
          exact ⟨_, _, rfl, row_none _ none 0 (by unfold maxLen; omega), (own_lit (heap_alloc_new W52 (.cells #[] 9)) HB_53.out.size).kept q1 (.inr (fun e => by have e2 : W52.heap.size = R_A := Option.some.inj e; have h1 := A_53.out.lt; omega)), (fun k h => by cases h), hB9.grown q1 hB9.size (fun k hk => by have e2 : R_A = k := Option.some.inj hk; have := HR_A.out; omega)⟩
        rw [decide_eq_true h8] at hgo
        have h8' : ¬ (8 : Int) < gapI x n := by omega
        clear h8
        generalize gapI x n = gp at HGp h8'
        have HT2 := Lib.hid (HGv.out hgo)
        have hv : giveV ⟨x, q⟩ n = giveW ⟨x, q⟩ n := if_pos hgo
        have hl : giveL ⟨x, q⟩ n = giveE ⟨x, q⟩ n := if_pos hgo
        rw [hgo, hv, hl]
        generalize giveE ⟨x, q⟩ n = wl at HT2 ⊢
        generalize giveW ⟨x, q⟩ n = wv at HT2 ⊢
        obtain ⟨xx, qq⟩ := wv
        dsimp only at HT2 ⊢
        clear HGv hgo hv hl ok os hx hn hb
        have c56_T_0 := HX_T.out.at 0 (v := .int .i64 x) rfl
        have c56_T_1 := HX_T.out.at 1 (v := .slice a q.length cap) rfl
        have c57_A_0 := HX_A.out.at 0 (v := .int .i64 0) rfl
        have c57_A_1 := HX_A.out.at 1 (v := .slice none 0 0) rfl
        go_enter Try.func14, Try.ntmps14
        go_upto_region 1 with fail
        rw [← HW0.out, ← HR_A.out, ← HR_T.out]
        go_wp2_with fail
        refine (HG.out _ (HP.out.below HB0.out (Nat.le_refl _))).mono ?_
        rintro e W58 ⟨rfl, l58⟩
        clear c56_T_0 c56_T_1
        clear c57_A_0 c57_A_1
        have HB_59 := Lib.hid (HB0.out.trans (l58.mono HB0.out.size))
        have T_59 := Lib.hid (HX_T.out.below l58 HX_T.out.lt)
        have A_59 := Lib.hid (HX_A.out.below l58 HX_A.out.lt)
        clear l58
        have c60_T_0 := T_59.out.at 0 (v := .int .i64 x) rfl
        have c60_T_1 := T_59.out.at 1 (v := .slice a q.length cap) rfl
        have c61_A_0 := A_59.out.at 0 (v := .int .i64 0) rfl
        have c61_A_1 := A_59.out.at 1 (v := .slice none 0 0) rfl
        go_wp2_with fail
        refine (HN.out _).mono ?_
        rintro e _ ⟨rfl, rfl⟩
        go_wp2_with fail
        refine (HBf.out _).mono ?_
        rintro e _ ⟨rfl, rfl⟩
        go_wp2_with fail
        refine (HGp.out _).mono ?_
        rintro e _ ⟨rfl, rfl⟩
        go_wp2_with fail
        refine (HT2.out _ (HP.out.below HB_59.out (Nat.le_refl _))).mono ?_
        rintro e W62 ⟨v_m, u_m, rfl, r_m, o_u, nb, l62⟩
        obtain ⟨a_m, c_m, rfl, _, _, _⟩ := sl_open r_m
        obtain ⟨a_u, c_u, rfl, _, _⟩ := ownz_slice o_u
        have R_m := Lib.hid r_m
        have O_u := Lib.hid (ownz_base o_u HB_59.out.size)
        have NB : Hid (∀ k, (.slice a_m qq.length c_m : Value).ownBlock = some k → w.heap.size ≤ k) := Lib.hid (fun k h => Nat.le_trans HB_59.out.size (nb k h))
        have BX_T_m : Hid (∀ k, (.slice a_m qq.length c_m : Value).ownBlock = some k → k ≠ R_T) := Lib.hid (fun k h1 h2 => absurd T_59.out.lt (Nat.not_lt.2 (by rw [← h2]; exact nb k h1)))
        have BX_T_u : Hid (∀ k, (.slice a_u wl.length c_u : Value).ownBlock = some k → k ≠ R_T) := Lib.hid (fun k h1 h2 => absurd T_59.out.lt (Nat.not_lt.2 (by rw [← h2]; exact (o_u.lt k h1).1)))
        have BX_A_m : Hid (∀ k, (.slice a_m qq.length c_m : Value).ownBlock = some k → k ≠ R_A) := Lib.hid (fun k h1 h2 => absurd A_59.out.lt (Nat.not_lt.2 (by rw [← h2]; exact nb k h1)))
        have BX_A_u : Hid (∀ k, (.slice a_u wl.length c_u : Value).ownBlock = some k → k ≠ R_A) := Lib.hid (fun k h1 h2 => absurd A_59.out.lt (Nat.not_lt.2 (by rw [← h2]; exact (o_u.lt k h1).1)))
        clear r_m o_u nb
        clear c60_T_0 c60_T_1
        clear c61_A_0 c61_A_1
        have HB_63 := Lib.hid (HB_59.out.trans (l62.mono HB_59.out.size))
        have T_63 := Lib.hid (T_59.out.below l62 T_59.out.lt)
        clear T_59
        have A_63 := Lib.hid (A_59.out.below l62 A_59.out.lt)
        clear A_59
        clear l62
        have c64_T_0 := T_63.out.at 0 (v := .int .i64 x) rfl
        have c64_T_1 := T_63.out.at 1 (v := .slice a q.length cap) rfl
        have c65_A_0 := A_63.out.at 0 (v := .int .i64 0) rfl
        have c65_A_1 := A_63.out.at 1 (v := .slice none 0 0) rfl
        go_upto_region 4 with fail
        obtain ⟨W66, hW66⟩ : ∃ W66, W66 = W62.alloc (.cells #[.int .i64 xx, .slice a_m qq.length c_m] 26) := ⟨_, rfl⟩
        have l66 : Below W62.heap.size W62 W66 := by rw [hW66]; exact (Below.refl _ _).alloc (Nat.le_refl _) _
        have X66_R : Hid (Bx W66 W62.heap.size #[.int .i64 xx, .slice a_m qq.length c_m] 26) := Lib.hid (by rw [hW66]; exact Bx.new _ _ _)
        rw [← hW66]
        clear hW66
        have BX_R_u : Hid (∀ k, (.slice a_u wl.length c_u : Value).ownBlock = some k → k ≠ W62.heap.size) := Lib.hid (fun k h1 h2 => absurd (O_u.out.lt k h1).2 (by omega))
        have HG_R : Hid (w.heap.size ≤ W62.heap.size) := Lib.hid HB_63.out.size
        have HN_R_T : Hid (R_T < W62.heap.size) := Lib.hid T_63.out.lt
        have HN_R_A : Hid (R_A < W62.heap.size) := Lib.hid A_63.out.lt
        obtain ⟨R_R, hR_R⟩ : ∃ X, X = W62.heap.size := ⟨_, rfl⟩
        rw [← hR_R] at X66_R HG_R BX_R_u HN_R_T HN_R_A ⊢
        clear hR_R
        clear c64_T_0 c64_T_1
        clear c65_A_0 c65_A_1
        have HB_67 := Lib.hid (HB_63.out.trans (l66.mono HB_63.out.size))
        have u_67 := Lib.hid (ownz_below O_u.out l66 (Nat.le_refl _))
        clear O_u
        have m_67 := Lib.hid (R_m.out.below l66 (Nat.le_refl _))
        clear R_m
        have T_67 := Lib.hid (T_63.out.below l66 T_63.out.lt)
        clear T_63
        have A_67 := Lib.hid (A_63.out.below l66 A_63.out.lt)
        clear A_63
        clear l66
        have c68_T_0 := T_67.out.at 0 (v := .int .i64 x) rfl
        have c68_T_1 := T_67.out.at 1 (v := .slice a q.length cap) rfl
        have c69_A_0 := A_67.out.at 0 (v := .int .i64 0) rfl
        have c69_A_1 := A_67.out.at 1 (v := .slice none 0 0) rfl
        have c70_R_0 := X66_R.out.at 0 (v := .int .i64 xx) rfl
        have c70_R_1 := X66_R.out.at 1 (v := .slice a_m qq.length c_m) rfl
        have fr71_A_0 := A_67.out.free 0
        have fr71_A_1 := A_67.out.free 1
        go_wp2_with fail
        obtain ⟨p1, q1⟩ := A_67.out.store2 (.int .i64 xx) (.slice a_m qq.length c_m)
        refine bodyPost_ret (results_bx2 rfl isRw _ _ R_A rfl rfl rfl rfl p1) rfl ?_
        exact ⟨_, _, rfl, row_kept m_67.out q1 (fun k hk e => BX_A_m.out k hk (Option.some.inj e).symm), (u_67.out.kept q1 (by
          cases hv : (.slice a_u wl.length c_u : Value).ownBlock with
          | none => exact .inl rfl
          | some k => exact .inr (fun e => BX_A_u.out k hv (Option.some.inj e)))), NB.out, (HB_67.out.grown q1 HB_67.out.size (fun k hk => by have e2 : R_A = k := Option.some.inj hk; have := HR_A.out; omega))⟩
end Go.Proofs.Ytpmjdppipalfcaa
