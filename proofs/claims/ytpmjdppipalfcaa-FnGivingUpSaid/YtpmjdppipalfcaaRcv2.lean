/-
  Receive windows: the specification's functions that read.
-/
import Derived.Test.YtpmjdppipalfcaaRcv
import Derived.Deep.QuietTactic
import Derived.BigQuiet
import Derived.IntWalk
import Derived.Deep.CutRange
import Derived.WalkLawsBesides
import Derived.Lib.SmallJoins
import Derived.Deep.RegionHeld3
namespace Go.Proofs.Ytpmjdppipalfcaa
open Go.RowKit Go.Lib Go.Joins
set_option linter.unusedVariables false

set_option maxRecDepth 100000 in
set_option maxHeartbeats 1000000 in
theorem specIsRw_any (v : Value) (l : Rw) (w : World) (hrow : Row w v l.q.length (slF l.q)) (hs : ∀ s ∈ l.q, s.s.size ≤ maxLen) :
    Calls Try.prog 29 #[.agg #[.int .i64 l.x, v]] w fun e w' => e = .returned (.bool (rwOk l)) ∧ Below w.heap.size w w' := by
  obtain ⟨x, q⟩ := l
  dsimp only at hrow hs ⊢
  obtain ⟨a, cap, rfl, hc1, hm1, _⟩ := sl_open hrow
  unfold maxLen at hm1
  have HP := Lib.hid hrow
  clear hrow
  have HS := Lib.hid hs
  clear hs
  obtain ⟨W0, R_T, hW0, hR_T, hX_T, hB0⟩ := entry1 w #[.int .i64 x, .slice a q.length cap] 26
  have HW0 := Lib.hid hW0
  have HB0 := Lib.hid hB0
  have HR_T := Lib.hid hR_T
  have HX_T := Lib.hid hX_T
  clear hW0 hB0 hR_T hX_T
  have c1_T_0 := HX_T.out.at 0 (v := .int .i64 x) rfl
  have c1_T_1 := HX_T.out.at 1 (v := .slice a q.length cap) rfl
  have HG := Lib.hid (l10Good_any (.slice a q.length cap) ⟨x, q⟩ W0 (HP.out.below HB0.out (Nat.le_refl _)) HS.out)
  generalize rwOk ⟨x, q⟩ = ok at HG ⊢
  go_enter Try.func29, Try.ntmps29
  go_upto_region 1 with fail
  rw [← HW0.out, ← HR_T.out]
  go_wp2_with fail
  refine (HG.out).mono ?_
  rintro e W2 ⟨rfl, l2⟩
  clear c1_T_0 c1_T_1
  have HB_3 := Lib.hid (HB0.out.trans (l2.mono HB0.out.size))
  have T_3 := Lib.hid (HX_T.out.below l2 HX_T.out.lt)
  clear l2
  have c4_T_0 := T_3.out.at 0 (v := .int .i64 x) rfl
  have c4_T_1 := T_3.out.at 1 (v := .slice a q.length cap) rfl
  go_wp2_with fail
  go_ret
  exact ⟨rfl, HB_3.out⟩
set_option maxRecDepth 100000 in
set_option maxHeartbeats 1000000 in
theorem specHigh_any (v : Value) (l : Rw) (w : World) (hrow : Row w v l.q.length (slF l.q)) (hs : ∀ s ∈ l.q, s.s.size ≤ maxLen) :
    Calls Try.prog 26 #[.agg #[.int .i64 l.x, v]] w fun e w' => e = .returned (.tuple #[.int .i64 (highV l), .bool (rwOk l)]) ∧ Below w.heap.size w w' := by
  obtain ⟨x, q⟩ := l
  dsimp only at hrow hs ⊢
  obtain ⟨a, cap, rfl, hc1, hm1, _⟩ := sl_open hrow
  unfold maxLen at hm1
  have HP := Lib.hid hrow
  clear hrow
  have HS := Lib.hid hs
  clear hs
  obtain ⟨W0, R_T, hW0, hR_T, hX_T, hB0⟩ := entry1 w #[.int .i64 x, .slice a q.length cap] 26
  have HW0 := Lib.hid hW0
  have HB0 := Lib.hid hB0
  have HR_T := Lib.hid hR_T
  have HX_T := Lib.hid hX_T
  clear hW0 hB0 hR_T hX_T
  have c5_T_0 := HX_T.out.at 0 (v := .int .i64 x) rfl
  have c5_T_1 := HX_T.out.at 1 (v := .slice a q.length cap) rfl
  have HG := Lib.hid (l10Good_any (.slice a q.length cap) ⟨x, q⟩ W0 (HP.out.below HB0.out (Nat.le_refl _)) HS.out)
  cases ok : rwOk ⟨x, q⟩ with
  | false =>
    have hv : highV ⟨x, q⟩ = 0 := by unfold highV; rw [ok]; rfl
    rw [ok] at HG
    rw [hv]
    clear hv ok
    go_enter Try.func26, Try.ntmps26
    go_upto_region 1 with fail
    rw [← HW0.out, ← HR_T.out]
    go_wp2_with fail
    refine (HG.out).mono ?_
    rintro e W6 ⟨rfl, l6⟩
    clear c5_T_0 c5_T_1
    have HB_7 := Lib.hid (HB0.out.trans (l6.mono HB0.out.size))
    have T_7 := Lib.hid (HX_T.out.below l6 HX_T.out.lt)
    clear l6
    have c8_T_0 := T_7.out.at 0 (v := .int .i64 x) rfl
    have c8_T_1 := T_7.out.at 1 (v := .slice a q.length cap) rfl
    go_wp2_with fail
    go_ret2
    exact ⟨rfl, HB_7.out⟩
  | true =>
    have hv : highV ⟨x, q⟩ = aftI x q.length := if_pos ok
    have hb := rwOk_iff.1 ok
    dsimp only at hb
    have HC := Lib.hid (fun (W1 : World) => l2After_any x q.length W1 hb.1.1 hb.1.2 (by omega) (by have := hb.2.1; omega))
    rw [ok] at HG
    rw [hv]
    clear hv ok hb
    generalize aftI x q.length = y at HC
    go_enter Try.func26, Try.ntmps26
    go_upto_region 1 with fail
    rw [← HW0.out, ← HR_T.out]
    go_wp2_with fail
    refine (HG.out).mono ?_
    rintro e W9 ⟨rfl, l9⟩
    clear c5_T_0 c5_T_1
    have HB_10 := Lib.hid (HB0.out.trans (l9.mono HB0.out.size))
    have T_10 := Lib.hid (HX_T.out.below l9 HX_T.out.lt)
    clear l9
    have c11_T_0 := T_10.out.at 0 (v := .int .i64 x) rfl
    have c11_T_1 := T_10.out.at 1 (v := .slice a q.length cap) rfl
    go_wp2_with fail
    refine (HC.out _).mono ?_
    rintro e _ ⟨rfl, rfl⟩
    go_wp2_with fail
    go_ret2
    exact ⟨rfl, HB_10.out⟩
set_option maxRecDepth 100000 in
set_option maxHeartbeats 1000000 in
theorem l10Reach_any (v : Value) (l : Rw) (w : World) (hrow : Row w v l.q.length (slF l.q)) (n : Int) (hx : 0 ≤ l.x ∧ l.x ≤ 65535) (hn : 0 ≤ n ∧ n ≤ 65535) :
    Calls Try.prog 64 #[.agg #[.int .i64 l.x, v], .int .i64 n] w fun e w' => e = .returned (.bool (reachB l n)) ∧ Below w.heap.size w w' := by
  obtain ⟨x, q⟩ := l
  dsimp only at hrow ⊢
  obtain ⟨a, cap, rfl, hc1, hm1, _⟩ := sl_open hrow
  unfold maxLen at hm1
  have HP := Lib.hid hrow
  clear hrow
  dsimp only at hx
  have HGp := Lib.hid (fun (W1 : World) => l2Gap_any x n W1 hx.1 hx.2 hn.1 hn.2)
  have HBf := Lib.hid (fun (W1 : World) => l2Before_any n x W1 hn.1 hn.2 hx.1 hx.2)
  obtain ⟨k, hk⟩ : ∃ k : Nat, gapI x n = (k : Int) := ⟨(gapI x n).toNat, by have := gapI_bd x n; omega⟩
  have hh : reachB ⟨x, q⟩ n = (befB n x || decide ((k : Int) < 8)) := by
    show (befB n x || decide (gapI x n < 8)) = _
    rw [hk]
  rw [hk] at HGp
  generalize befB n x = bf at HBf hh
  rw [hh]
  clear hh hk hx hn
  obtain ⟨W0, R_T, hW0, hR_T, hX_T, hB0⟩ := entry1 w #[.int .i64 x, .slice a q.length cap] 26
  have HW0 := Lib.hid hW0
  have HB0 := Lib.hid hB0
  have HR_T := Lib.hid hR_T
  have HX_T := Lib.hid hX_T
  clear hW0 hB0 hR_T hX_T
  have c12_T_0 := HX_T.out.at 0 (v := .int .i64 x) rfl
  have c12_T_1 := HX_T.out.at 1 (v := .slice a q.length cap) rfl
  cases bf with
  | true =>
    go_enter Try.func64, Try.ntmps64
    go_upto_region 1 with fail
    rw [← HW0.out, ← HR_T.out]
    go_wp2_with fail
    refine (HBf.out _).mono ?_
    rintro e _ ⟨rfl, rfl⟩
    go_wp2_with fail
    go_ret
    exact ⟨rfl, HB0.out⟩
  | false =>
    by_cases h8 : (k : Int) < 8
    · rw [decide_eq_true h8]
      go_enter Try.func64, Try.ntmps64
      go_upto_region 1 with fail
      rw [← HW0.out, ← HR_T.out]
      go_wp2_with fail
      refine (HBf.out _).mono ?_
      rintro e _ ⟨rfl, rfl⟩
      go_wp2_with fail
      refine (HGp.out _).mono ?_
      rintro e _ ⟨rfl, rfl⟩
      go_wp2_with fail
      go_ret
      exact ⟨by simp <;> omega, HB0.out⟩
    · rw [decide_eq_false h8]
      go_enter Try.func64, Try.ntmps64
      go_upto_region 1 with fail
      rw [← HW0.out, ← HR_T.out]
      go_wp2_with fail
      refine (HBf.out _).mono ?_
      rintro e _ ⟨rfl, rfl⟩
      go_wp2_with fail
      refine (HGp.out _).mono ?_
      rintro e _ ⟨rfl, rfl⟩
      go_wp2_with fail
      go_ret
      exact ⟨by simp <;> omega, HB0.out⟩
set_option maxRecDepth 100000 in
set_option maxHeartbeats 1000000 in
theorem l10Have_any (v : Value) (l : Rw) (w : World) (hrow : Row w v l.q.length (slF l.q)) (n : Int) (hx : 0 ≤ l.x ∧ l.x ≤ 65535) (hn : 0 ≤ n ∧ n ≤ 65535) :
    Calls Try.prog 56 #[.agg #[.int .i64 l.x, v], .int .i64 n] w fun e w' => e = .returned (.bool (haveB l n)) ∧ Below w.heap.size w w' := by
  obtain ⟨x, q⟩ := l
  dsimp only at hrow ⊢
  obtain ⟨a, cap, rfl, hc1, hm1, _⟩ := sl_open hrow
  unfold maxLen at hm1
  have HP := Lib.hid hrow
  clear hrow
  dsimp only at hx
  have HGp := Lib.hid (fun (W1 : World) => l2Gap_any x n W1 hx.1 hx.2 hn.1 hn.2)
  have HBf := Lib.hid (fun (W1 : World) => l2Before_any n x W1 hn.1 hn.2 hx.1 hx.2)
  obtain ⟨k, hk⟩ : ∃ k : Nat, gapI x n = (k : Int) := ⟨(gapI x n).toNat, by have := gapI_bd x n; omega⟩
  have hh : haveB ⟨x, q⟩ n = (befB n x || hasQ q k) := by
    show (befB n x || hasQ q (gapI x n).toNat) = _
    rw [hk]; rfl
  rw [hk] at HGp
  generalize befB n x = bf at HBf hh
  rw [hh]
  clear hh hk hx hn
  obtain ⟨W0, R_T, hW0, hR_T, hX_T, hB0⟩ := entry1 w #[.int .i64 x, .slice a q.length cap] 26
  have HW0 := Lib.hid hW0
  have HB0 := Lib.hid hB0
  have HR_T := Lib.hid hR_T
  have HX_T := Lib.hid hX_T
  clear hW0 hB0 hR_T hX_T
  have c13_T_0 := HX_T.out.at 0 (v := .int .i64 x) rfl
  have c13_T_1 := HX_T.out.at 1 (v := .slice a q.length cap) rfl
  cases bf with
  | true =>
    go_enter Try.func56, Try.ntmps56
    go_upto_region 1 with fail
    rw [← HW0.out, ← HR_T.out]
    go_wp2_with fail
    refine (HGp.out _).mono ?_
    rintro e _ ⟨rfl, rfl⟩
    go_wp2_with fail
    refine (HBf.out _).mono ?_
    rintro e _ ⟨rfl, rfl⟩
    go_wp2_with fail
    go_ret
    exact ⟨rfl, HB0.out⟩
  | false =>
    by_cases hkn : k < q.length
    · obtain ⟨b, off, rfl, hb, d0, _⟩ := row_sl HP.out hkn
      have e0 := (HB0.out.cell (p := ⟨b, off + k * 2, none⟩) hb).trans d0
      have hq : hasQ q k = q[k].h := by unfold hasQ; rw [List.getElem?_eq_getElem hkn]
      rw [hq]
      clear d0 hq
      generalize q[k].h = hv at e0 ⊢
      go_enter Try.func56, Try.ntmps56
      go_upto_region 1 with fail
      rw [← HW0.out, ← HR_T.out]
      go_wp2_with fail
      refine (HGp.out _).mono ?_
      rintro e _ ⟨rfl, rfl⟩
      go_wp2_with fail
      refine (HBf.out _).mono ?_
      rintro e _ ⟨rfl, rfl⟩
      go_wp2_with fail
      go_ret
      exact ⟨rfl, HB0.out⟩
    · have hq : hasQ q k = false := by unfold hasQ; rw [List.getElem?_eq_none (by omega)]
      rw [hq]
      clear hq
      go_enter Try.func56, Try.ntmps56
      go_upto_region 1 with fail
      rw [← HW0.out, ← HR_T.out]
      go_wp2_with fail
      refine (HGp.out _).mono ?_
      rintro e _ ⟨rfl, rfl⟩
      go_wp2_with fail
      refine (HBf.out _).mono ?_
      rintro e _ ⟨rfl, rfl⟩
      go_wp2_with fail
      go_ret
      exact ⟨rfl, HB0.out⟩
set_option maxRecDepth 100000 in
set_option maxHeartbeats 1000000 in
theorem specHave_any (v : Value) (l : Rw) (w : World) (hrow : Row w v l.q.length (slF l.q)) (hs : ∀ s ∈ l.q, s.s.size ≤ maxLen) (n : Int) :
    Calls Try.prog 23 #[.agg #[.int .i64 l.x, v], .int .i64 n] w fun e w' => e = .returned (.tuple #[.bool (haveV l n), .bool (haveOk l n)]) ∧ Below w.heap.size w w' := by
  obtain ⟨x, q⟩ := l
  dsimp only at hrow hs ⊢
  obtain ⟨a, cap, rfl, hc1, hm1, _⟩ := sl_open hrow
  unfold maxLen at hm1
  have HP := Lib.hid hrow
  clear hrow
  have HS := Lib.hid hs
  clear hs
  obtain ⟨W0, R_T, hW0, hR_T, hX_T, hB0⟩ := entry1 w #[.int .i64 x, .slice a q.length cap] 26
  have HW0 := Lib.hid hW0
  have HB0 := Lib.hid hB0
  have HR_T := Lib.hid hR_T
  have HX_T := Lib.hid hX_T
  clear hW0 hB0 hR_T hX_T
  have c14_T_0 := HX_T.out.at 0 (v := .int .i64 x) rfl
  have c14_T_1 := HX_T.out.at 1 (v := .slice a q.length cap) rfl
  have HG := Lib.hid (l10Good_any (.slice a q.length cap) ⟨x, q⟩ W0 (HP.out.below HB0.out (Nat.le_refl _)) HS.out)
  have HSer := Lib.hid (fun (W1 : World) => l2Good_any n W1)
  cases ok : rwOk ⟨x, q⟩ with
  | false =>
    have ho : haveOk ⟨x, q⟩ n = false := by unfold haveOk; rw [ok]; rfl
    have hv : haveV ⟨x, q⟩ n = false := by unfold haveV; rw [ho]; rfl
    rw [ok] at HG
    rw [hv, ho]
    clear hv ho
    go_enter Try.func23, Try.ntmps23
    go_upto_region 1 with fail
    rw [← HW0.out, ← HR_T.out]
    go_wp2_with fail
    refine (HG.out).mono ?_
    rintro e W15 ⟨rfl, l15⟩
    clear c14_T_0 c14_T_1
    have HB_16 := Lib.hid (HB0.out.trans (l15.mono HB0.out.size))
    have T_16 := Lib.hid (HX_T.out.below l15 HX_T.out.lt)
    clear l15
    have c17_T_0 := T_16.out.at 0 (v := .int .i64 x) rfl
    have c17_T_1 := T_16.out.at 1 (v := .slice a q.length cap) rfl
    go_wp2_with fail
    go_ret2
    exact ⟨rfl, HB_16.out⟩
  | true =>
    cases os : serB n with
    | false =>
      have ho : haveOk ⟨x, q⟩ n = false := by unfold haveOk; rw [ok, os]; rfl
      have hv : haveV ⟨x, q⟩ n = false := by unfold haveV; rw [ho]; rfl
      rw [ok] at HG
      rw [os] at HSer
      rw [hv, ho]
      clear hv ho
      go_enter Try.func23, Try.ntmps23
      go_upto_region 1 with fail
      rw [← HW0.out, ← HR_T.out]
      go_wp2_with fail
      refine (HG.out).mono ?_
      rintro e W18 ⟨rfl, l18⟩
      clear c14_T_0 c14_T_1
      have HB_19 := Lib.hid (HB0.out.trans (l18.mono HB0.out.size))
      have T_19 := Lib.hid (HX_T.out.below l18 HX_T.out.lt)
      clear l18
      have c20_T_0 := T_19.out.at 0 (v := .int .i64 x) rfl
      have c20_T_1 := T_19.out.at 1 (v := .slice a q.length cap) rfl
      go_wp2_with fail
      refine (HSer.out _).mono ?_
      rintro e _ ⟨rfl, rfl⟩
      go_wp2_with fail
      go_ret2
      exact ⟨rfl, HB_19.out⟩
    | true =>
      have ho : haveOk ⟨x, q⟩ n = true := by unfold haveOk; rw [ok, os]; rfl
      have hv : haveV ⟨x, q⟩ n = haveB ⟨x, q⟩ n := by unfold haveV; rw [ho, Bool.true_and]
      have HH := Lib.hid (fun (W1 : World) (hr : Row W1 (.slice a q.length cap) q.length (slF q)) => l10Have_any (.slice a q.length cap) ⟨x, q⟩ W1 hr n (rwOk_iff.1 ok).1 (serB_bd os))
      rw [ok] at HG
      rw [os] at HSer
      rw [hv, ho]
      generalize haveB ⟨x, q⟩ n = y at HH
      clear hv ho
      go_enter Try.func23, Try.ntmps23
      go_upto_region 1 with fail
      rw [← HW0.out, ← HR_T.out]
      go_wp2_with fail
      refine (HG.out).mono ?_
      rintro e W21 ⟨rfl, l21⟩
      clear c14_T_0 c14_T_1
      have HB_22 := Lib.hid (HB0.out.trans (l21.mono HB0.out.size))
      have T_22 := Lib.hid (HX_T.out.below l21 HX_T.out.lt)
      clear l21
      have c23_T_0 := T_22.out.at 0 (v := .int .i64 x) rfl
      have c23_T_1 := T_22.out.at 1 (v := .slice a q.length cap) rfl
      go_wp2_with fail
      refine (HSer.out _).mono ?_
      rintro e _ ⟨rfl, rfl⟩
      go_wp2_with fail
      refine (HH.out _ (HP.out.below HB_22.out (Nat.le_refl _))).mono ?_
      rintro e W24 ⟨rfl, l24⟩
      clear c23_T_0 c23_T_1
      have HB_25 := Lib.hid (HB_22.out.trans (l24.mono HB_22.out.size))
      have T_25 := Lib.hid (T_22.out.below l24 T_22.out.lt)
      clear T_22
      clear l24
      have c26_T_0 := T_25.out.at 0 (v := .int .i64 x) rfl
      have c26_T_1 := T_25.out.at 1 (v := .slice a q.length cap) rfl
      go_wp2_with fail
      go_ret2
      exact ⟨rfl, HB_25.out⟩
set_option maxRecDepth 100000 in
set_option maxHeartbeats 2000000 in
theorem specCnt_any (v : Value) (l : Rw) (w : World) (hrow : Row w v l.q.length (slF l.q)) (hs : ∀ s ∈ l.q, s.s.size ≤ maxLen) :
    Calls Try.prog 27 #[.agg #[.int .i64 l.x, v]] w fun e w' => e = .returned (.tuple #[.int .i64 (cntV l), .int .i64 (cntF l), .bool (rwOk l)]) ∧ Below w.heap.size w w' := by
  obtain ⟨x, q⟩ := l
  dsimp only at hrow hs ⊢
  obtain ⟨a, cap, rfl, hc1, hm1, _⟩ := sl_open hrow
  unfold maxLen at hm1
  have HP := Lib.hid hrow
  clear hrow
  have HS := Lib.hid hs
  clear hs
  obtain ⟨W0, R_T, hW0, hR_T, hX_T, hB0⟩ := entry1 w #[.int .i64 x, .slice a q.length cap] 26
  have HW0 := Lib.hid hW0
  have HB0 := Lib.hid hB0
  have HR_T := Lib.hid hR_T
  have HX_T := Lib.hid hX_T
  clear hW0 hB0 hR_T hX_T
  have c27_T_0 := HX_T.out.at 0 (v := .int .i64 x) rfl
  have c27_T_1 := HX_T.out.at 1 (v := .slice a q.length cap) rfl
  have HG := Lib.hid (l10Good_any (.slice a q.length cap) ⟨x, q⟩ W0 (HP.out.below HB0.out (Nat.le_refl _)) HS.out)
  cases ok : rwOk ⟨x, q⟩ with
  | false =>
    have hv : cntV ⟨x, q⟩ = 0 := by unfold cntV; rw [ok]; rfl
    have hf : cntF ⟨x, q⟩ = 0 := by unfold cntF; rw [ok]; rfl
    rw [ok] at HG
    rw [hv, hf]
    clear hv hf ok
    go_enter Try.func27, Try.ntmps27
    go_upto_region 1 with fail
    rw [← HW0.out, ← HR_T.out]
    go_wp2_with fail
    refine (HG.out).mono ?_
    rintro e W28 ⟨rfl, l28⟩
    clear c27_T_0 c27_T_1
    have HB_29 := Lib.hid (HB0.out.trans (l28.mono HB0.out.size))
    have T_29 := Lib.hid (HX_T.out.below l28 HX_T.out.lt)
    clear l28
    have c30_T_0 := T_29.out.at 0 (v := .int .i64 x) rfl
    have c30_T_1 := T_29.out.at 1 (v := .slice a q.length cap) rfl
    go_wp2_with fail
    go_ret3
    exact ⟨rfl, HB_29.out⟩
  | true =>
    have hv : cntV ⟨x, q⟩ = (cntH q : Int) := if_pos ok
    have hf : cntF ⟨x, q⟩ = ((q.length - cntH q : Nat) : Int) := if_pos ok
    have h8 : q.length ≤ 8 := (rwOk_iff.1 ok).2.1
    rw [ok] at HG
    rw [hv, hf]
    clear hv hf ok
    have HCl := Lib.hid (cntH_le q)
    go_enter Try.func27, Try.ntmps27
    go_upto_region 1 with fail
    rw [← HW0.out, ← HR_T.out]
    go_wp2_with fail
    refine (HG.out).mono ?_
    rintro e W31 ⟨rfl, l31⟩
    clear c27_T_0 c27_T_1
    have HB_32 := Lib.hid (HB0.out.trans (l31.mono HB0.out.size))
    have T_32 := Lib.hid (HX_T.out.below l31 HX_T.out.lt)
    clear l31
    have c33_T_0 := T_32.out.at 0 (v := .int .i64 x) rfl
    have c33_T_1 := T_32.out.at 1 (v := .slice a q.length cap) rfl
    go_wp2_with fail
    go_loop [5, 6] (fun c i => ∃ k : Nat, k ≤ q.length ∧ i = .int .i64 k ∧ c = .int .i64 (cntH (q.take k) : Nat)) (fun _ i => q.length - (RowKit.intOf i).toNat)
    case atStart => exact ⟨0, Nat.zero_le _, rfl, rfl⟩
    case round =>
      obtain ⟨k, hk, rfl, rfl⟩ := hrel
      by_cases hkn : k < q.length
      · obtain ⟨b, off, rfl, hb, d0, _⟩ := row_sl HP.out hkn
        have e0 := (HB_32.out.cell (p := ⟨b, off + k * 2, none⟩) hb).trans d0
        have hn : cntH (q.take (k + 1)) = cntH (q.take k) + (if q[k].h = true then 1 else 0) := by
          unfold cntH
          rw [List.take_succ_eq_append_getElem hkn, List.countP_append, List.countP_singleton]
        have HN := Lib.hid hn
        have hc := cntH_le (q.take k)
        rw [List.length_take] at hc
        clear d0 hn
        generalize cntH (q.take k) = c1 at HN hc ⊢
        generalize q[k].h = hv at e0 HN
        cases hv with
        | true =>
          go_wp2_with fail
          go_round
          case rel => exact ⟨k + 1, by omega, by go_num, vint (by have h := HN.out; simp at h; omega)⟩
          case measure => (simp [RowKit.intOf]; omega)
        | false =>
          go_wp2_with fail
          go_round
          case rel => exact ⟨k + 1, by omega, by go_num, vint (by have h := HN.out; simp at h; omega)⟩
          case measure => (simp [RowKit.intOf]; omega)
      · obtain rfl : k = q.length := by omega
        rw [List.take_of_length_le (Nat.le_refl _)]
        have hcl := HCl.out
        have hsub : ((q.length - cntH q : Nat) : Int) = (q.length : Int) - (cntH q : Int) := by omega
        go_wp2_with fail
        go_quiet (fail)
        all_goals go_wp2_with fail
        all_goals go_ret3
        all_goals exact ⟨by rw [hsub]; rfl, HB_32.out.trans ((bdrew _ _).mono HB_32.out.size)⟩
end Go.Proofs.Ytpmjdppipalfcaa
