/-
  Receive windows: missing serials (the specification's).
-/
import Derived.Test.YtpmjdppipalfcaaRcv2
import Derived.Test.YtpmjdppipalfcaaSpan
import Derived.Deep.QuietTactic
import Derived.BigQuiet
import Derived.IntWalk
import Derived.Deep.CutRange
import Derived.WalkLawsBesides
import Derived.Lib.SmallJoins
import Derived.Deep.RegionHeld3
namespace Go.Proofs.Ytpmjdppipalfcaa
open Go.RowKit Go.Lib Go.Joins
set_option linter.unusedVariables false

theorem miss_own {w : World} {B : Nat} {v : Value} {x : Int} {q : List Sl} {k : Nat} (h : hasQ q k = false) (ho : w.ownsRow B 3 1 v ((missP x q k).length + 1) ((missP x q k).map (Value.int .i64) ++ [.int .i64 (aftI x k)])) :
    w.ownsRow B 3 1 v (missP x q (k + 1)).length ((missP x q (k + 1)).map (Value.int .i64)) := by
  rw [missP_no h, List.length_append, List.map_append]
  exact ho
set_option maxRecDepth 100000 in
set_option maxHeartbeats 4000000 in
theorem l10Missing_any (v : Value) (l : Rw) (w : World) (hrow : Row w v l.q.length (slF l.q)) (n : Int) (hx : 0 ≤ l.x ∧ l.x ≤ 65535) (hn : 0 ≤ n ∧ n ≤ 65535) (h8 : gapI l.x n ≤ 8) :
    Calls Try.prog 70 #[.agg #[.int .i64 l.x, v], .int .i64 n] w fun e w' => ∃ v', e = .returned v' ∧ w'.ownsRow w.heap.size 3 1 v' (missL l n).length ((missL l n).map (Value.int .i64)) ∧ Below w.heap.size w w' := by
  obtain ⟨i0, hi, hz0, hz1, hz2⟩ := info_parts infoInt2
  obtain ⟨x, q⟩ := l
  dsimp only at hrow ⊢
  obtain ⟨a, cap, rfl, hc1, hm1, _⟩ := sl_open hrow
  unfold maxLen at hm1
  have HP := Lib.hid hrow
  clear hrow
  dsimp only at hx h8
  have HGp := Lib.hid (fun (W1 : World) => l2Gap_any x n W1 hx.1 hx.2 hn.1 hn.2)
  obtain ⟨m, hm⟩ : ∃ m : Nat, gapI x n = (m : Int) := ⟨(gapI x n).toNat, by have := gapI_bd x n; omega⟩
  have hh : missL ⟨x, q⟩ n = missP x q m := by
    show missP x q (gapI x n).toNat = _
    rw [hm]; rfl
  rw [hm] at HGp h8
  rw [hh]
  clear hh hm hn
  obtain ⟨W0, R_T, hW0, hR_T, hX_T, hB0⟩ := entry1 w #[.int .i64 x, .slice a q.length cap] 26
  have HW0 := Lib.hid hW0
  have HB0 := Lib.hid hB0
  have HR_T := Lib.hid hR_T
  have HX_T := Lib.hid hX_T
  clear hW0 hB0 hR_T hX_T
  have c1_T_0 := HX_T.out.at 0 (v := .int .i64 x) rfl
  have c1_T_1 := HX_T.out.at 1 (v := .slice a q.length cap) rfl
  go_enter Try.func70, Try.ntmps70
  go_upto_region 1 with fail
  rw [← HW0.out, ← HR_T.out]
  go_upto_region 2 with fail
  have lL : Below W0.heap.size W0 (W0.alloc (.cells #[] 3)) := (Below.refl _ _).alloc (Nat.le_refl _) _
  have HOl := Lib.hid (own_lit (heap_alloc_new W0 (.cells #[] 3)) (Nat.le_refl W0.heap.size))
  obtain ⟨WL, hWL⟩ : ∃ W, W = W0.alloc (.cells #[] 3) := ⟨_, rfl⟩
  rw [← hWL] at lL HOl ⊢
  have HLL := Lib.hid lL
  clear hWL
  clear c1_T_0 c1_T_1
  have HB_2 := Lib.hid (HB0.out.trans (lL.mono HB0.out.size))
  have T_2 := Lib.hid (HX_T.out.below lL HX_T.out.lt)
  clear lL
  have c3_T_0 := T_2.out.at 0 (v := .int .i64 x) rfl
  have c3_T_1 := T_2.out.at 1 (v := .slice a q.length cap) rfl
  go_wp2_with fail
  go_loopw [5, 6] (fun v i wr => ∃ k : Nat, k ≤ m ∧ i = .int .i64 k ∧ Hid (wr.ownsRow W0.heap.size 3 1 v (missP x q k).length ((missP x q k).map (Value.int .i64))) ∧ Hid (Below W0.heap.size W0 wr)) (fun _ i _ => m - (RowKit.intOf i).toNat)
  case atStart => exact ⟨0, Nat.zero_le _, rfl, HOl, HLL⟩
  case round =>
    clear c3_T_0 c3_T_1
    obtain ⟨k, hk, rfl, HO, HL⟩ := hrel
    have hT := HX_T.out.below HL.out HX_T.out.lt
    have t0 := hT.at 0 (v := .int .i64 x) rfl
    have t1 := hT.at 1 (v := .slice a q.length cap) rfl
    clear hT
    have hsl := missP_len x q k
    by_cases hkm : k < m
    · have HST := Lib.hid (fun w => l2After_any x (k : Int) w hx.1 hx.2 (by omega) (by omega))
      obtain ⟨y, hy⟩ : ∃ y, y = aftI x k := ⟨_, rfl⟩
      rw [← hy] at HST
      have HY := Lib.hid hy
      have hszr := HL.out.size
      clear hy
      by_cases hkn : k < q.length
      · obtain ⟨b, off, rfl, hb, d0, _⟩ := row_sl HP.out hkn
        have e0 := ((HB0.out.trans (HL.out.mono HB0.out.size)).cell (p := ⟨b, off + k * 2, none⟩) hb).trans d0
        have hq : hasQ q k = q[k].h := by unfold hasQ; rw [List.getElem?_eq_getElem hkn]
        have HN := Lib.hid hq
        clear d0 hq
        generalize q[k].h = hv at e0 HN
        cases hv with
        | false =>
          go_wp2_with (first | (at_builtin; refine wpList_append_own _ rfl _ _ 54 rfl W0.heap.size 3 i0 (.int .i64 0) 1 8 Try.underlying54 hi hz0 hz1 hz2 rfl (by decide) _ _ _ rfl (HO.out.alloc _) ⟨wr.heap.size, 0, none⟩ 1 1 [.int .i64 y] rfl rfl (cell_one_new _ _ _) (by intro u hu; simp at hu; subst hu; rfl) (by unfold maxLen; omega) (by omega) (by simp; omega) ?_; intro v' w1 hown' hgrow _) | (go_at_call 50; refine (HGp.out _).mono ?_; rintro e w' ⟨rfl, rfl⟩) | (go_at_call 59; refine (HST.out _).mono ?_; rintro e w' ⟨rfl, rfl⟩))
          go_roundw
          case rel => exact ⟨k + 1, by omega, by go_num, Lib.hid (miss_own HN.out (by rw [← HY.out]; exact hown')), Lib.hid (below_own_i HL.out hszr HO.out hgrow)⟩
          case measure => (simp [RowKit.intOf]; omega)
        | true =>
          go_wp2_with (first | (go_at_call 50; refine (HGp.out _).mono ?_; rintro e w' ⟨rfl, rfl⟩))
          go_roundw
          case rel => exact ⟨k + 1, by omega, by go_num, Lib.hid (by rw [missP_yes HN.out]; exact HO.out), HL⟩
          case measure => (simp [RowKit.intOf]; omega)
      · have HN : Hid (hasQ q k = false) := Lib.hid (by unfold hasQ; rw [List.getElem?_eq_none (by omega)])
        go_wp2_with (first | (at_builtin; refine wpList_append_own _ rfl _ _ 54 rfl W0.heap.size 3 i0 (.int .i64 0) 1 8 Try.underlying54 hi hz0 hz1 hz2 rfl (by decide) _ _ _ rfl (HO.out.alloc _) ⟨wr.heap.size, 0, none⟩ 1 1 [.int .i64 y] rfl rfl (cell_one_new _ _ _) (by intro u hu; simp at hu; subst hu; rfl) (by unfold maxLen; omega) (by omega) (by simp; omega) ?_; intro v' w1 hown' hgrow _) | (go_at_call 50; refine (HGp.out _).mono ?_; rintro e w' ⟨rfl, rfl⟩) | (go_at_call 59; refine (HST.out _).mono ?_; rintro e w' ⟨rfl, rfl⟩))
        go_roundw
        case rel => exact ⟨k + 1, by omega, by go_num, Lib.hid (miss_own HN.out (by rw [← HY.out]; exact hown')), Lib.hid (below_own_i HL.out hszr HO.out hgrow)⟩
        case measure => (simp [RowKit.intOf]; omega)
    · obtain rfl : k = m := by omega
      have HO2 := Lib.hid HO.out
      clear HO hsl
      go_wp2_with (go_at_call 50; refine (HGp.out _).mono ?_; rintro e w' ⟨rfl, rfl⟩)
      go_ret
      exact ⟨_, rfl, own_base HO2.out HB0.out.size, HB0.out.trans (HL.out.mono HB0.out.size)⟩
set_option maxRecDepth 100000 in
set_option maxHeartbeats 2000000 in
theorem specMiss_any (v : Value) (l : Rw) (w : World) (hrow : Row w v l.q.length (slF l.q)) (hs : ∀ s ∈ l.q, s.s.size ≤ maxLen) (n : Int) :
    Calls Try.prog 39 #[.agg #[.int .i64 l.x, v], .int .i64 n] w fun e w' => ∃ v', e = .returned (.tuple #[v', .bool (missOk l n)]) ∧ w'.ownsRow w.heap.size 3 1 v' (missV l n).length ((missV l n).map (Value.int .i64)) ∧ Below w.heap.size w w' := by
  obtain ⟨x, q⟩ := l
  dsimp only at hrow hs ⊢
  obtain ⟨a, cap, rfl, hc1, hm1, _⟩ := sl_open hrow
  unfold maxLen at hm1
  have HP := Lib.hid hrow
  clear hrow
  have HS := Lib.hid hs
  clear hs
  obtain ⟨W0, R_T, hW0, hR_T, hX_T, hB0⟩ := entry1 w #[.int .i64 x, .slice a q.length cap] 26
  have HW0 := Lib.hid hW0
  have HB0 := Lib.hid hB0
  have HR_T := Lib.hid hR_T
  have HX_T := Lib.hid hX_T
  clear hW0 hB0 hR_T hX_T
  have c4_T_0 := HX_T.out.at 0 (v := .int .i64 x) rfl
  have c4_T_1 := HX_T.out.at 1 (v := .slice a q.length cap) rfl
  have HG := Lib.hid (l10Good_any (.slice a q.length cap) ⟨x, q⟩ W0 (HP.out.below HB0.out (Nat.le_refl _)) HS.out)
  have HSer := Lib.hid (fun (W1 : World) => l2Good_any n W1)
  have HO : Hid (missOk ⟨x, q⟩ n = (rwOk ⟨x, q⟩ && (serB n && decide (gapI x n ≤ 8)))) := Lib.hid rfl
  cases ok : rwOk ⟨x, q⟩ with
  | false =>
    rw [ok] at HG
    have ho : missOk ⟨x, q⟩ n = false := by rw [HO.out, ok]; simp
    have hv : missV ⟨x, q⟩ n = [] := by unfold missV; rw [ho]; rfl
    rw [ho, hv]
    clear ho hv HO
    go_enter Try.func39, Try.ntmps39
    go_upto_region 1 with fail
    rw [← HW0.out, ← HR_T.out]
    go_wp2_with fail
    refine (HG.out).mono ?_
    rintro e W5 ⟨rfl, l5⟩
    clear c4_T_0 c4_T_1
    have HB_6 := Lib.hid (HB0.out.trans (l5.mono HB0.out.size))
    have T_6 := Lib.hid (HX_T.out.below l5 HX_T.out.lt)
    clear l5
    have c7_T_0 := T_6.out.at 0 (v := .int .i64 x) rfl
    have c7_T_1 := T_6.out.at 1 (v := .slice a q.length cap) rfl
    go_wp2_with fail
    go_ret2
    exact ⟨_, rfl, own_lit (heap_alloc_new W5 (.cells #[] 3)) HB_6.out.size, HB_6.out.alloc HB_6.out.size _⟩
  | true =>
    rw [ok] at HG
    cases os : serB n with
    | false =>
      rw [os] at HSer
      have ho : missOk ⟨x, q⟩ n = false := by rw [HO.out, ok, os]; simp
      have hv : missV ⟨x, q⟩ n = [] := by unfold missV; rw [ho]; rfl
      rw [ho, hv]
      clear ho hv HO
      go_enter Try.func39, Try.ntmps39
      go_upto_region 1 with fail
      rw [← HW0.out, ← HR_T.out]
      go_wp2_with fail
      refine (HG.out).mono ?_
      rintro e W8 ⟨rfl, l8⟩
      clear c4_T_0 c4_T_1
      have HB_9 := Lib.hid (HB0.out.trans (l8.mono HB0.out.size))
      have T_9 := Lib.hid (HX_T.out.below l8 HX_T.out.lt)
      clear l8
      have c10_T_0 := T_9.out.at 0 (v := .int .i64 x) rfl
      have c10_T_1 := T_9.out.at 1 (v := .slice a q.length cap) rfl
      go_wp2_with fail
      refine (HSer.out _).mono ?_
      rintro e _ ⟨rfl, rfl⟩
      go_wp2_with fail
      go_ret2
      exact ⟨_, rfl, own_lit (heap_alloc_new W8 (.cells #[] 3)) HB_9.out.size, HB_9.out.alloc HB_9.out.size _⟩
    | true =>
      rw [os] at HSer
      have hx := (rwOk_iff.1 ok).1
      dsimp only at hx
      have hn := serB_bd os
      have HGp := Lib.hid (fun (W1 : World) => l2Gap_any x n W1 hx.1 hx.2 hn.1 hn.2)
      by_cases h8 : gapI x n ≤ 8
      rotate_left
      · have h8' : (8 : Int) < gapI x n := by omega
        have hdec : decide (gapI x n ≤ 8) = false := decide_eq_false h8
        clear hx hn
        have ho : missOk ⟨x, q⟩ n = false := by rw [HO.out, ok, os, hdec]; simp
        have hv : missV ⟨x, q⟩ n = [] := by unfold missV; rw [ho]; rfl
        rw [ho, hv]
        clear ho hv HO
        go_enter Try.func39, Try.ntmps39
        go_upto_region 1 with fail
        rw [← HW0.out, ← HR_T.out]
        go_wp2_with fail
        refine (HG.out).mono ?_
        rintro e W11 ⟨rfl, l11⟩
        clear c4_T_0 c4_T_1
        have HB_12 := Lib.hid (HB0.out.trans (l11.mono HB0.out.size))
        have T_12 := Lib.hid (HX_T.out.below l11 HX_T.out.lt)
        clear l11
        have c13_T_0 := T_12.out.at 0 (v := .int .i64 x) rfl
        have c13_T_1 := T_12.out.at 1 (v := .slice a q.length cap) rfl
        go_wp2_with fail
        refine (HSer.out _).mono ?_
        rintro e _ ⟨rfl, rfl⟩
        go_wp2_with fail
        refine (HGp.out _).mono ?_
        rintro e _ ⟨rfl, rfl⟩
        go_wp2_with fail
        go_ret2
        exact ⟨_, rfl, own_lit (heap_alloc_new W11 (.cells #[] 3)) HB_12.out.size, HB_12.out.alloc HB_12.out.size _⟩
      have h8' : ¬ (8 : Int) < gapI x n := by omega
      have ho : missOk ⟨x, q⟩ n = true := by rw [HO.out, ok, os, decide_eq_true h8]; rfl
      have hv : missV ⟨x, q⟩ n = missL ⟨x, q⟩ n := if_pos ho
      rw [ho, hv]
      have HM := Lib.hid (fun (W1 : World) (hr : Row W1 (.slice a q.length cap) q.length (slF q)) => l10Missing_any (.slice a q.length cap) ⟨x, q⟩ W1 hr n hx hn h8)
      generalize missL ⟨x, q⟩ n = y at HM ⊢
      generalize gapI x n = gp at HGp h8'
      clear ho hv HO hx hn h8
      go_enter Try.func39, Try.ntmps39
      go_upto_region 1 with fail
      rw [← HW0.out, ← HR_T.out]
      go_wp2_with fail
      refine (HG.out).mono ?_
      rintro e W14 ⟨rfl, l14⟩
      clear c4_T_0 c4_T_1
      have HB_15 := Lib.hid (HB0.out.trans (l14.mono HB0.out.size))
      have T_15 := Lib.hid (HX_T.out.below l14 HX_T.out.lt)
      clear l14
      have c16_T_0 := T_15.out.at 0 (v := .int .i64 x) rfl
      have c16_T_1 := T_15.out.at 1 (v := .slice a q.length cap) rfl
      go_wp2_with fail
      refine (HSer.out _).mono ?_
      rintro e _ ⟨rfl, rfl⟩
      go_wp2_with fail
      refine (HGp.out _).mono ?_
      rintro e _ ⟨rfl, rfl⟩
      go_wp2_with fail
      refine (HM.out _ (HP.out.below HB_15.out (Nat.le_refl _))).mono ?_
      rintro e W17 ⟨v_y, rfl, o_y, l17⟩
      have HY := Lib.hid (ownz_base o_y HB_15.out.size)
      clear o_y
      clear c16_T_0 c16_T_1
      have HB_18 := Lib.hid (HB_15.out.trans (l17.mono HB_15.out.size))
      have T_18 := Lib.hid (T_15.out.below l17 T_15.out.lt)
      clear T_15
      clear l17
      have c19_T_0 := T_18.out.at 0 (v := .int .i64 x) rfl
      have c19_T_1 := T_18.out.at 1 (v := .slice a q.length cap) rfl
      go_wp2_with fail
      go_ret2
      exact ⟨_, rfl, HY.out, HB_18.out⟩
end Go.Proofs.Ytpmjdppipalfcaa
