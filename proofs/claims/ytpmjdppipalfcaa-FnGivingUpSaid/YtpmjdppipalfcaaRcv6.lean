/-
  Receive windows: items that are taken (the specification's).
-/
import Derived.Test.YtpmjdppipalfcaaRcv5
import Derived.Deep.QuietTactic
import Derived.BigQuiet
import Derived.IntWalk
import Derived.Deep.CutRange
import Derived.WalkLawsBesides
import Derived.Lib.SmallJoins
import Derived.Deep.RegionHeld3
namespace Go.Proofs.Ytpmjdppipalfcaa
open Go.RowKit Go.Lib Go.Joins
set_option linter.unusedVariables false

set_option maxRecDepth 100000 in
set_option maxHeartbeats 16000000 in
theorem specTake_any (v : Value) (l : Rw) (w : World) (hrow : Row w v l.q.length (slF l.q)) (hs : ∀ s ∈ l.q, s.s.size ≤ maxLen) (n : Int) (s : ByteArray) (hsz : s.size ≤ maxLen) (hfit : Fit v l.q.length) :
    Calls Try.prog 32 #[.agg #[.int .i64 l.x, v], .int .i64 n, .string s] w fun e w' => ∃ v' u', e = .returned (.tuple #[.agg #[.int .i64 (takeV l n s).x, v'], u', .bool (takeOk l n s)]) ∧ Row w' v' (takeV l n s).q.length (slF (takeV l n s).q) ∧ w'.ownsRow w.heap.size 9 1 u' (takeL l n s).length ((takeL l n s).map Value.string) ∧ (∀ k, v'.ownBlock = some k → w.heap.size ≤ k) ∧ Below w.heap.size w w' := by
  have HS := Lib.hid hs
  clear hs
  obtain ⟨x, q⟩ := l
  dsimp only at hrow hfit ⊢
  obtain ⟨a, cap, rfl, hc1, hm1, _⟩ := sl_open hrow
  unfold maxLen at hm1
  have HP := Lib.hid hrow
  have HFit := Lib.hid hfit
  clear hrow hfit
  dsimp only at HS
  obtain ⟨W0, R_T, R_A, hW0, hR_T, hR_A, hX_T, hX_A, hB0⟩ := entry2 w #[.int .i64 x, .slice a q.length cap] #[.int .i64 0, .slice none 0 0] 26 26
  have HW0 := Lib.hid hW0
  have HB0 := Lib.hid hB0
  have HR_T := Lib.hid hR_T
  have HX_T := Lib.hid hX_T
  have HR_A := Lib.hid hR_A
  have HX_A := Lib.hid hX_A
  clear hW0 hB0 hR_T hX_T hR_A hX_A
  have HG := Lib.hid (fun (W1 : World) (hr : Row W1 (.slice a q.length cap) q.length (slF q)) => l10Good_any (.slice a q.length cap) ⟨x, q⟩ W1 hr HS.out)
  have HN := Lib.hid (fun (W1 : World) => l2Good_any n W1)
  have HI := Lib.hid (fun (W1 : World) => l4Letters_any s 8 W1 hsz (by omega))
  have hit9 : (ltrB s && decide (s.size ≤ 8)) = itB s := rfl
  rw [hit9] at HI
  clear hit9
  cases ok : rwOk ⟨x, q⟩ with
  | false =>
    rw [ok] at HG
    have ho : takeOk ⟨x, q⟩ n s = false := by unfold takeOk; rw [ok]; rfl
    have hv : takeV ⟨x, q⟩ n s = rw0 := by unfold takeV; rw [ho]; rfl
    have hl : takeL ⟨x, q⟩ n s = [] := by unfold takeL; rw [ho]; rfl
    rw [ho, hv, hl]
    clear ho hv hl
    dsimp only [rw0]
    have c41_T_0 := HX_T.out.at 0 (v := .int .i64 x) rfl
    have c41_T_1 := HX_T.out.at 1 (v := .slice a q.length cap) rfl
    have c42_A_0 := HX_A.out.at 0 (v := .int .i64 0) rfl
    have c42_A_1 := HX_A.out.at 1 (v := .slice none 0 0) rfl
    go_enter Try.func32, Try.ntmps32
    go_upto_region 1 with fail
    rw [← HW0.out, ← HR_A.out, ← HR_T.out]
    go_wp2_with fail
    refine (HG.out _ (HP.out.below HB0.out (Nat.le_refl _))).mono ?_
    rintro e W43 ⟨rfl, l43⟩
    clear c41_T_0 c41_T_1
    clear c42_A_0 c42_A_1
    have HB_44 := Lib.hid (HB0.out.trans (l43.mono HB0.out.size))
    have T_44 := Lib.hid (HX_T.out.below l43 HX_T.out.lt)
    have A_44 := Lib.hid (HX_A.out.below l43 HX_A.out.lt)
    clear l43
    have c45_T_0 := T_44.out.at 0 (v := .int .i64 x) rfl
    have c45_T_1 := T_44.out.at 1 (v := .slice a q.length cap) rfl
    have c46_A_0 := A_44.out.at 0 (v := .int .i64 0) rfl
    have c46_A_1 := A_44.out.at 1 (v := .slice none 0 0) rfl
    have hAl := A_44.out.alloc (.cells #[] 9)
    have z0 := hAl.at 0 (v := .int .i64 0) rfl
    have y0 := hAl.free 0
    have z1 := hAl.at 1 (v := .slice none 0 0) rfl
    have y1 := hAl.free 1
    have HAl := Lib.hid hAl
    clear hAl
    go_wp2_with fail
    obtain ⟨p1, q1⟩ := HAl.out.store2 (.int .i64 0) (.slice none 0 0)
    have hB9 := HB_44.out.alloc HB_44.out.size (.cells #[] 9)
    refine bodyPost_ret (results_bx2 rfl isRw _ _ R_A rfl rfl rfl rfl p1) rfl ?_
    exact ⟨_, _, rfl, row_none _ none 0 (by unfold maxLen; omega), (own_lit (heap_alloc_new W43 (.cells #[] 9)) HB_44.out.size).kept q1 (.inr (fun e => by have e2 : W43.heap.size = R_A := Option.some.inj e; have h1 := A_44.out.lt; omega)), (fun k h => by cases h), hB9.grown q1 hB9.size (fun k hk => by have e2 : R_A = k := Option.some.inj hk; have := HR_A.out; omega)⟩
  | true =>
    rw [ok] at HG
    cases os : serB n with
    | false =>
      rw [os] at HN
      have ho : takeOk ⟨x, q⟩ n s = false := by unfold takeOk; rw [os, Bool.false_and, Bool.and_false]
      have hv : takeV ⟨x, q⟩ n s = rw0 := by unfold takeV; rw [ho]; rfl
      have hl : takeL ⟨x, q⟩ n s = [] := by unfold takeL; rw [ho]; rfl
      rw [ho, hv, hl]
      clear ho hv hl
      dsimp only [rw0]
      have c47_T_0 := HX_T.out.at 0 (v := .int .i64 x) rfl
      have c47_T_1 := HX_T.out.at 1 (v := .slice a q.length cap) rfl
      have c48_A_0 := HX_A.out.at 0 (v := .int .i64 0) rfl
      have c48_A_1 := HX_A.out.at 1 (v := .slice none 0 0) rfl
      go_enter Try.func32, Try.ntmps32
      go_upto_region 1 with fail
      rw [← HW0.out, ← HR_A.out, ← HR_T.out]
      go_wp2_with fail
      refine (HG.out _ (HP.out.below HB0.out (Nat.le_refl _))).mono ?_
      rintro e W49 ⟨rfl, l49⟩
      clear c47_T_0 c47_T_1
      clear c48_A_0 c48_A_1
      have HB_50 := Lib.hid (HB0.out.trans (l49.mono HB0.out.size))
      have T_50 := Lib.hid (HX_T.out.below l49 HX_T.out.lt)
      have A_50 := Lib.hid (HX_A.out.below l49 HX_A.out.lt)
      clear l49
      have c51_T_0 := T_50.out.at 0 (v := .int .i64 x) rfl
      have c51_T_1 := T_50.out.at 1 (v := .slice a q.length cap) rfl
      have c52_A_0 := A_50.out.at 0 (v := .int .i64 0) rfl
      have c52_A_1 := A_50.out.at 1 (v := .slice none 0 0) rfl
      go_wp2_with fail
      refine (HN.out _).mono ?_
      rintro e _ ⟨rfl, rfl⟩
      have hAl := A_50.out.alloc (.cells #[] 9)
      have z0 := hAl.at 0 (v := .int .i64 0) rfl
      have y0 := hAl.free 0
      have z1 := hAl.at 1 (v := .slice none 0 0) rfl
      have y1 := hAl.free 1
      have HAl := Lib.hid hAl
      clear hAl
      go_wp2_with fail
      obtain ⟨p1, q1⟩ := HAl.out.store2 (.int .i64 0) (.slice none 0 0)
      have hB9 := HB_50.out.alloc HB_50.out.size (.cells #[] 9)
      refine bodyPost_ret (results_bx2 rfl isRw _ _ R_A rfl rfl rfl rfl p1) rfl ?_
      exact ⟨_, _, rfl, row_none _ none 0 (by unfold maxLen; omega), (own_lit (heap_alloc_new W49 (.cells #[] 9)) HB_50.out.size).kept q1 (.inr (fun e => by have e2 : W49.heap.size = R_A := Option.some.inj e; have h1 := A_50.out.lt; omega)), (fun k h => by cases h), hB9.grown q1 hB9.size (fun k hk => by have e2 : R_A = k := Option.some.inj hk; have := HR_A.out; omega)⟩
    | true =>
      rw [os] at HN
      cases oi : itB s with
      | false =>
        rw [oi] at HI
        have ho : takeOk ⟨x, q⟩ n s = false := by unfold takeOk; rw [oi, Bool.false_and, Bool.and_false, Bool.and_false]
        have hv : takeV ⟨x, q⟩ n s = rw0 := by unfold takeV; rw [ho]; rfl
        have hl : takeL ⟨x, q⟩ n s = [] := by unfold takeL; rw [ho]; rfl
        rw [ho, hv, hl]
        clear ho hv hl
        dsimp only [rw0]
        have c53_T_0 := HX_T.out.at 0 (v := .int .i64 x) rfl
        have c53_T_1 := HX_T.out.at 1 (v := .slice a q.length cap) rfl
        have c54_A_0 := HX_A.out.at 0 (v := .int .i64 0) rfl
        have c54_A_1 := HX_A.out.at 1 (v := .slice none 0 0) rfl
        go_enter Try.func32, Try.ntmps32
        go_upto_region 1 with fail
        rw [← HW0.out, ← HR_A.out, ← HR_T.out]
        go_wp2_with fail
        refine (HG.out _ (HP.out.below HB0.out (Nat.le_refl _))).mono ?_
        rintro e W55 ⟨rfl, l55⟩
        clear c53_T_0 c53_T_1
        clear c54_A_0 c54_A_1
        have HB_56 := Lib.hid (HB0.out.trans (l55.mono HB0.out.size))
        have T_56 := Lib.hid (HX_T.out.below l55 HX_T.out.lt)
        have A_56 := Lib.hid (HX_A.out.below l55 HX_A.out.lt)
        clear l55
        have c57_T_0 := T_56.out.at 0 (v := .int .i64 x) rfl
        have c57_T_1 := T_56.out.at 1 (v := .slice a q.length cap) rfl
        have c58_A_0 := A_56.out.at 0 (v := .int .i64 0) rfl
        have c58_A_1 := A_56.out.at 1 (v := .slice none 0 0) rfl
        go_wp2_with fail
        refine (HN.out _).mono ?_
        rintro e _ ⟨rfl, rfl⟩
        go_wp2_with fail
        refine (HI.out _).mono ?_
        rintro e _ ⟨rfl, rfl⟩
        have hAl := A_56.out.alloc (.cells #[] 9)
        have z0 := hAl.at 0 (v := .int .i64 0) rfl
        have y0 := hAl.free 0
        have z1 := hAl.at 1 (v := .slice none 0 0) rfl
        have y1 := hAl.free 1
        have HAl := Lib.hid hAl
        clear hAl
        go_wp2_with fail
        obtain ⟨p1, q1⟩ := HAl.out.store2 (.int .i64 0) (.slice none 0 0)
        have hB9 := HB_56.out.alloc HB_56.out.size (.cells #[] 9)
        refine bodyPost_ret (results_bx2 rfl isRw _ _ R_A rfl rfl rfl rfl p1) rfl ?_
        exact ⟨_, _, rfl, row_none _ none 0 (by unfold maxLen; omega), (own_lit (heap_alloc_new W55 (.cells #[] 9)) HB_56.out.size).kept q1 (.inr (fun e => by have e2 : W55.heap.size = R_A := Option.some.inj e; have h1 := A_56.out.lt; omega)), (fun k h => by cases h), hB9.grown q1 hB9.size (fun k hk => by have e2 : R_A = k := Option.some.inj hk; have := HR_A.out; omega)⟩
      | true =>
        rw [oi] at HI
        have hx := (rwOk_iff.1 ok).1
        dsimp only at hx
        have HR := Lib.hid (fun (W1 : World) (hr : Row W1 (.slice a q.length cap) q.length (slF q)) => l10Reach_any (.slice a q.length cap) ⟨x, q⟩ W1 hr n hx (serB_bd os))
        cases orr : reachB ⟨x, q⟩ n with
        | false =>
          rw [orr] at HR
          have ho : takeOk ⟨x, q⟩ n s = false := by unfold takeOk; rw [orr, Bool.and_false, Bool.and_false, Bool.and_false]
          have hv : takeV ⟨x, q⟩ n s = rw0 := by unfold takeV; rw [ho]; rfl
          have hl : takeL ⟨x, q⟩ n s = [] := by unfold takeL; rw [ho]; rfl
          rw [ho, hv, hl]
          clear ho hv hl
          dsimp only [rw0]
          have c59_T_0 := HX_T.out.at 0 (v := .int .i64 x) rfl
          have c59_T_1 := HX_T.out.at 1 (v := .slice a q.length cap) rfl
          have c60_A_0 := HX_A.out.at 0 (v := .int .i64 0) rfl
          have c60_A_1 := HX_A.out.at 1 (v := .slice none 0 0) rfl
          go_enter Try.func32, Try.ntmps32
          go_upto_region 1 with fail
          rw [← HW0.out, ← HR_A.out, ← HR_T.out]
          go_wp2_with fail
          refine (HG.out _ (HP.out.below HB0.out (Nat.le_refl _))).mono ?_
          rintro e W61 ⟨rfl, l61⟩
          clear c59_T_0 c59_T_1
          clear c60_A_0 c60_A_1
          have HB_62 := Lib.hid (HB0.out.trans (l61.mono HB0.out.size))
          have T_62 := Lib.hid (HX_T.out.below l61 HX_T.out.lt)
          have A_62 := Lib.hid (HX_A.out.below l61 HX_A.out.lt)
          clear l61
          have c63_T_0 := T_62.out.at 0 (v := .int .i64 x) rfl
          have c63_T_1 := T_62.out.at 1 (v := .slice a q.length cap) rfl
          have c64_A_0 := A_62.out.at 0 (v := .int .i64 0) rfl
          have c64_A_1 := A_62.out.at 1 (v := .slice none 0 0) rfl
          go_wp2_with fail
          refine (HN.out _).mono ?_
          rintro e _ ⟨rfl, rfl⟩
          go_wp2_with fail
          refine (HI.out _).mono ?_
          rintro e _ ⟨rfl, rfl⟩
          go_wp2_with fail
          refine (HR.out _ (HP.out.below HB_62.out (Nat.le_refl _))).mono ?_
          rintro e W65 ⟨rfl, l65⟩
          clear c63_T_0 c63_T_1
          clear c64_A_0 c64_A_1
          have HB_66 := Lib.hid (HB_62.out.trans (l65.mono HB_62.out.size))
          have T_66 := Lib.hid (T_62.out.below l65 T_62.out.lt)
          clear T_62
          have A_66 := Lib.hid (A_62.out.below l65 A_62.out.lt)
          clear A_62
          clear l65
          have c67_T_0 := T_66.out.at 0 (v := .int .i64 x) rfl
          have c67_T_1 := T_66.out.at 1 (v := .slice a q.length cap) rfl
          have c68_A_0 := A_66.out.at 0 (v := .int .i64 0) rfl
          have c68_A_1 := A_66.out.at 1 (v := .slice none 0 0) rfl
          have hAl := A_66.out.alloc (.cells #[] 9)
          have z0 := hAl.at 0 (v := .int .i64 0) rfl
          have y0 := hAl.free 0
          have z1 := hAl.at 1 (v := .slice none 0 0) rfl
          have y1 := hAl.free 1
          have HAl := Lib.hid hAl
          clear hAl
          go_wp2_with fail
          obtain ⟨p1, q1⟩ := HAl.out.store2 (.int .i64 0) (.slice none 0 0)
          have hB9 := HB_66.out.alloc HB_66.out.size (.cells #[] 9)
          refine bodyPost_ret (results_bx2 rfl isRw _ _ R_A rfl rfl rfl rfl p1) rfl ?_
          exact ⟨_, _, rfl, row_none _ none 0 (by unfold maxLen; omega), (own_lit (heap_alloc_new W65 (.cells #[] 9)) HB_66.out.size).kept q1 (.inr (fun e => by have e2 : W65.heap.size = R_A := Option.some.inj e; have h1 := A_66.out.lt; omega)), (fun k h => by cases h), hB9.grown q1 hB9.size (fun k hk => by have e2 : R_A = k := Option.some.inj hk; have := HR_A.out; omega)⟩
        | true =>
          rw [orr] at HR
          have hit : takeOk ⟨x, q⟩ n s = true := by unfold takeOk; rw [ok, os, oi, orr]; rfl
          have HTk := Lib.hid (fun (W1 : World) (hr : Row W1 (.slice a q.length cap) q.length (slF q)) => l10Take_any (.slice a q.length cap) ⟨x, q⟩ W1 hr n s hit HFit.out)
          have hv : takeV ⟨x, q⟩ n s = takeW ⟨x, q⟩ n s := if_pos hit
          have hl : takeL ⟨x, q⟩ n s = takeE ⟨x, q⟩ n s := if_pos hit
          rw [hit, hv, hl]
          generalize takeE ⟨x, q⟩ n s = wl at HTk ⊢
          generalize takeW ⟨x, q⟩ n s = wv at HTk ⊢
          obtain ⟨xx, qq⟩ := wv
          dsimp only at HTk ⊢
          clear hit hv hl ok os oi orr hx
          have c69_T_0 := HX_T.out.at 0 (v := .int .i64 x) rfl
          have c69_T_1 := HX_T.out.at 1 (v := .slice a q.length cap) rfl
          have c70_A_0 := HX_A.out.at 0 (v := .int .i64 0) rfl
          have c70_A_1 := HX_A.out.at 1 (v := .slice none 0 0) rfl
          go_enter Try.func32, Try.ntmps32
          go_upto_region 1 with fail
          rw [← HW0.out, ← HR_A.out, ← HR_T.out]
          go_wp2_with fail
          refine (HG.out _ (HP.out.below HB0.out (Nat.le_refl _))).mono ?_
          rintro e W71 ⟨rfl, l71⟩
          clear c69_T_0 c69_T_1
          clear c70_A_0 c70_A_1
          have HB_72 := Lib.hid (HB0.out.trans (l71.mono HB0.out.size))
          have T_72 := Lib.hid (HX_T.out.below l71 HX_T.out.lt)
          have A_72 := Lib.hid (HX_A.out.below l71 HX_A.out.lt)
          clear l71
          have c73_T_0 := T_72.out.at 0 (v := .int .i64 x) rfl
          have c73_T_1 := T_72.out.at 1 (v := .slice a q.length cap) rfl
          have c74_A_0 := A_72.out.at 0 (v := .int .i64 0) rfl
          have c74_A_1 := A_72.out.at 1 (v := .slice none 0 0) rfl
          go_wp2_with fail
          refine (HN.out _).mono ?_
          rintro e _ ⟨rfl, rfl⟩
          go_wp2_with fail
          refine (HI.out _).mono ?_
          rintro e _ ⟨rfl, rfl⟩
          go_wp2_with fail
          refine (HR.out _ (HP.out.below HB_72.out (Nat.le_refl _))).mono ?_
          rintro e W75 ⟨rfl, l75⟩
          clear c73_T_0 c73_T_1
          clear c74_A_0 c74_A_1
          have HB_76 := Lib.hid (HB_72.out.trans (l75.mono HB_72.out.size))
          have T_76 := Lib.hid (T_72.out.below l75 T_72.out.lt)
          clear T_72
          have A_76 := Lib.hid (A_72.out.below l75 A_72.out.lt)
          clear A_72
          clear l75
          have c77_T_0 := T_76.out.at 0 (v := .int .i64 x) rfl
          have c77_T_1 := T_76.out.at 1 (v := .slice a q.length cap) rfl
          have c78_A_0 := A_76.out.at 0 (v := .int .i64 0) rfl
          have c78_A_1 := A_76.out.at 1 (v := .slice none 0 0) rfl
          go_wp2_with fail
          refine (HTk.out _ (HP.out.below HB_76.out (Nat.le_refl _))).mono ?_
          rintro e W79 ⟨v_m, u_m, rfl, r_m, o_u, nb, l79⟩
          obtain ⟨a_m, c_m, rfl, _, _, _⟩ := sl_open r_m
          obtain ⟨a_u, c_u, rfl, _, _⟩ := ownz_slice o_u
          have R_m := Lib.hid r_m
          have O_u := Lib.hid (ownz_base o_u HB_76.out.size)
          have NB : Hid (∀ k, (.slice a_m qq.length c_m : Value).ownBlock = some k → w.heap.size ≤ k) := Lib.hid (fun k h => Nat.le_trans HB_76.out.size (nb k h))
          have BX_T_m : Hid (∀ k, (.slice a_m qq.length c_m : Value).ownBlock = some k → k ≠ R_T) := Lib.hid (fun k h1 h2 => absurd T_76.out.lt (Nat.not_lt.2 (by rw [← h2]; exact nb k h1)))
          have BX_T_u : Hid (∀ k, (.slice a_u wl.length c_u : Value).ownBlock = some k → k ≠ R_T) := Lib.hid (fun k h1 h2 => absurd T_76.out.lt (Nat.not_lt.2 (by rw [← h2]; exact (o_u.lt k h1).1)))
          have BX_A_m : Hid (∀ k, (.slice a_m qq.length c_m : Value).ownBlock = some k → k ≠ R_A) := Lib.hid (fun k h1 h2 => absurd A_76.out.lt (Nat.not_lt.2 (by rw [← h2]; exact nb k h1)))
          have BX_A_u : Hid (∀ k, (.slice a_u wl.length c_u : Value).ownBlock = some k → k ≠ R_A) := Lib.hid (fun k h1 h2 => absurd A_76.out.lt (Nat.not_lt.2 (by rw [← h2]; exact (o_u.lt k h1).1)))
          clear r_m o_u nb
          clear c77_T_0 c77_T_1
          clear c78_A_0 c78_A_1
          have HB_80 := Lib.hid (HB_76.out.trans (l79.mono HB_76.out.size))
          have T_80 := Lib.hid (T_76.out.below l79 T_76.out.lt)
          clear T_76
          have A_80 := Lib.hid (A_76.out.below l79 A_76.out.lt)
          clear A_76
          clear l79
          have c81_T_0 := T_80.out.at 0 (v := .int .i64 x) rfl
          have c81_T_1 := T_80.out.at 1 (v := .slice a q.length cap) rfl
          have c82_A_0 := A_80.out.at 0 (v := .int .i64 0) rfl
          have c82_A_1 := A_80.out.at 1 (v := .slice none 0 0) rfl
          go_upto_region 4 with fail
          obtain ⟨W83, hW83⟩ : ∃ W83, W83 = W79.alloc (.cells #[.int .i64 xx, .slice a_m qq.length c_m] 26) := ⟨_, rfl⟩
          have l83 : Below W79.heap.size W79 W83 := by rw [hW83]; exact (Below.refl _ _).alloc (Nat.le_refl _) _
          have X83_R : Hid (Bx W83 W79.heap.size #[.int .i64 xx, .slice a_m qq.length c_m] 26) := Lib.hid (by rw [hW83]; exact Bx.new _ _ _)
          rw [← hW83]
          clear hW83
          have BX_R_u : Hid (∀ k, (.slice a_u wl.length c_u : Value).ownBlock = some k → k ≠ W79.heap.size) := Lib.hid (fun k h1 h2 => absurd (O_u.out.lt k h1).2 (by omega))
          have HG_R : Hid (w.heap.size ≤ W79.heap.size) := Lib.hid HB_80.out.size
          have HN_R_T : Hid (R_T < W79.heap.size) := Lib.hid T_80.out.lt
          have HN_R_A : Hid (R_A < W79.heap.size) := Lib.hid A_80.out.lt
          obtain ⟨R_R, hR_R⟩ : ∃ X, X = W79.heap.size := ⟨_, rfl⟩
          rw [← hR_R] at X83_R HG_R BX_R_u HN_R_T HN_R_A ⊢
          clear hR_R
          clear c81_T_0 c81_T_1
          clear c82_A_0 c82_A_1
          have HB_84 := Lib.hid (HB_80.out.trans (l83.mono HB_80.out.size))
          have u_84 := Lib.hid (ownz_below O_u.out l83 (Nat.le_refl _))
          clear O_u
          have m_84 := Lib.hid (R_m.out.below l83 (Nat.le_refl _))
          clear R_m
          have T_84 := Lib.hid (T_80.out.below l83 T_80.out.lt)
          clear T_80
          have A_84 := Lib.hid (A_80.out.below l83 A_80.out.lt)
          clear A_80
          clear l83
          have c85_T_0 := T_84.out.at 0 (v := .int .i64 x) rfl
          have c85_T_1 := T_84.out.at 1 (v := .slice a q.length cap) rfl
          have c86_A_0 := A_84.out.at 0 (v := .int .i64 0) rfl
          have c86_A_1 := A_84.out.at 1 (v := .slice none 0 0) rfl
          have c87_R_0 := X83_R.out.at 0 (v := .int .i64 xx) rfl
          have c87_R_1 := X83_R.out.at 1 (v := .slice a_m qq.length c_m) rfl
          have fr88_A_0 := A_84.out.free 0
          have fr88_A_1 := A_84.out.free 1
          go_wp2_with fail
          obtain ⟨p1, q1⟩ := A_84.out.store2 (.int .i64 xx) (.slice a_m qq.length c_m)
          refine bodyPost_ret (results_bx2 rfl isRw _ _ R_A rfl rfl rfl rfl p1) rfl ?_
          exact ⟨_, _, rfl, row_kept m_84.out q1 (fun k hk e => BX_A_m.out k hk (Option.some.inj e).symm), (u_84.out.kept q1 (by
            cases hv : (.slice a_u wl.length c_u : Value).ownBlock with
            | none => exact .inl rfl
            | some k => exact .inr (fun e => BX_A_u.out k hv (Option.some.inj e)))), NB.out, (HB_84.out.grown q1 HB_84.out.size (fun k hk => by have e2 : R_A = k := Option.some.inj hk; have := HR_A.out; omega))⟩
end Go.Proofs.Ytpmjdppipalfcaa
