/-
  Windows of the source: answers and held serials (the specification's).
-/
import Derived.Test.YtkijfneaglogmaaSnd3
import Derived.Test.YtkijfneaglogmaaSpan
import Derived.Deep.QuietTactic
import Derived.BigQuiet
import Derived.IntWalk
import Derived.Deep.CutRange
import Derived.WalkLawsBesides
import Derived.Lib.SmallJoins
import Derived.Deep.RegionHeld3
namespace Go.Proofs.Ytkijfneaglogmaa
open Go.RowKit Go.Lib Go.Joins
set_option linter.unusedVariables false

set_option maxRecDepth 100000 in
set_option maxHeartbeats 8000000 in
theorem specAns_any (v : Value) (l : Sw) (p : Pk) (w : World) (hrow : Row w v l.q.length (l.q.map Value.string)) (hs : ∀ s ∈ l.q, s.size ≤ maxLen) (hd : p.d.size ≤ maxLen) :
    Calls Try.prog 33 #[.agg #[.int .i64 l.t, .int .i64 l.z, v], .agg #[.int .i64 p.k, .int .i64 p.n, .int .i64 p.t, .int .i64 p.l, .string p.d]] w fun e w' => e = .returned (.tuple #[.agg #[.int .i64 (ansP l p).k, .int .i64 (ansP l p).n, .int .i64 (ansP l p).t, .int .i64 (ansP l p).l, .string (ansP l p).d], .bool (ansOk l p.k p.n p.t p.l p.d)]) ∧ Below w.heap.size w w' := by
  obtain ⟨pk, pn, pt, pl, pd⟩ := p
  obtain ⟨t, z, q⟩ := l
  dsimp only at hrow hs ⊢
  obtain ⟨a, cap, rfl, hc1, hm1, _⟩ := row_open hrow
  unfold maxLen at hm1
  have HP := Lib.hid hrow
  clear hrow
  have HS := Lib.hid hs
  clear hs
  dsimp only at hd ⊢
  obtain ⟨W0, R_T, R_Q, R_B, hW0, hR_T, hR_Q, hR_B, hX_T, hX_Q, hX_B, hB0⟩ := entry3 w #[.int .i64 t, .int .i64 z, .slice a q.length cap] #[.int .i64 pk, .int .i64 pn, .int .i64 pt, .int .i64 pl, .string pd] #[.int .i64 0, .int .i64 0, .int .i64 0, .int .i64 0, .string ⟨#[]⟩] 26 30 30
  have HW0 := Lib.hid hW0
  have HB0 := Lib.hid hB0
  have HR_T := Lib.hid hR_T
  have HX_T := Lib.hid hX_T
  have HR_Q := Lib.hid hR_Q
  have HX_Q := Lib.hid hX_Q
  have HR_B := Lib.hid hR_B
  have HX_B := Lib.hid hX_B
  clear hW0 hB0 hR_T hX_T hR_Q hX_Q hR_B hX_B
  have HO : Hid (ansOk ⟨t, z, q⟩ pk pn pt pl pd = (swOk ⟨t, z, q⟩ && (pktOk pk pn pt pl pd && (decide (pk = 3) && heldB ⟨t, z, q⟩ pn)))) := Lib.hid rfl
  have HN := Lib.hid (@ans_no ⟨t, z, q⟩ ⟨pk, pn, pt, pl, pd⟩)
  dsimp only at HN
  have HPkt := Lib.hid (fun (W1 : World) => l4Good_any pk pn pt pl pd W1 hd)
  unfold pv at HPkt
  have HG := Lib.hid (fun (W1 : World) (hr : Row W1 (.slice a q.length cap) q.length (q.map Value.string)) => l9Good_any (.slice a q.length cap) ⟨t, z, q⟩ W1 hr HS.out)
  cases hok : swOk ⟨t, z, q⟩ with
  | false =>
    rw [hok] at HG
    have hno : ansOk ⟨t, z, q⟩ pk pn pt pl pd = false := by rw [HO.out, hok]; simp
    have e1 := HN.out hno
    rw [hno, e1]
    dsimp only [pk0]
    clear hno e1 HN HO
    have c2_T_0 := HX_T.out.at 0 (v := .int .i64 t) rfl
    have c2_T_1 := HX_T.out.at 1 (v := .int .i64 z) rfl
    have c2_T_2 := HX_T.out.at 2 (v := .slice a q.length cap) rfl
    have c3_Q_0 := HX_Q.out.at 0 (v := .int .i64 pk) rfl
    have c3_Q_1 := HX_Q.out.at 1 (v := .int .i64 pn) rfl
    have c3_Q_2 := HX_Q.out.at 2 (v := .int .i64 pt) rfl
    have c3_Q_3 := HX_Q.out.at 3 (v := .int .i64 pl) rfl
    have c3_Q_4 := HX_Q.out.at 4 (v := .string pd) rfl
    have c4_B_0 := HX_B.out.at 0 (v := .int .i64 0) rfl
    have c4_B_1 := HX_B.out.at 1 (v := .int .i64 0) rfl
    have c4_B_2 := HX_B.out.at 2 (v := .int .i64 0) rfl
    have c4_B_3 := HX_B.out.at 3 (v := .int .i64 0) rfl
    have c4_B_4 := HX_B.out.at 4 (v := .string ⟨#[]⟩) rfl
    go_enter Try.func33, Try.ntmps33
    go_upto_region 1 with fail
    rw [← HW0.out, ← HR_B.out, ← HR_Q.out, ← HR_T.out]
    go_wp2_with fail
    refine (HG.out _ (HP.out.below HB0.out (Nat.le_refl _))).mono ?_
    rintro e W5 ⟨rfl, l5⟩
    clear c2_T_0 c2_T_1 c2_T_2
    clear c3_Q_0 c3_Q_1 c3_Q_2 c3_Q_3 c3_Q_4
    clear c4_B_0 c4_B_1 c4_B_2 c4_B_3 c4_B_4
    have HB_6 := Lib.hid (HB0.out.trans (l5.mono HB0.out.size))
    have T_6 := Lib.hid (HX_T.out.below l5 HX_T.out.lt)
    have Q_6 := Lib.hid (HX_Q.out.below l5 HX_Q.out.lt)
    have B_6 := Lib.hid (HX_B.out.below l5 HX_B.out.lt)
    clear l5
    have c7_T_0 := T_6.out.at 0 (v := .int .i64 t) rfl
    have c7_T_1 := T_6.out.at 1 (v := .int .i64 z) rfl
    have c7_T_2 := T_6.out.at 2 (v := .slice a q.length cap) rfl
    have c8_Q_0 := Q_6.out.at 0 (v := .int .i64 pk) rfl
    have c8_Q_1 := Q_6.out.at 1 (v := .int .i64 pn) rfl
    have c8_Q_2 := Q_6.out.at 2 (v := .int .i64 pt) rfl
    have c8_Q_3 := Q_6.out.at 3 (v := .int .i64 pl) rfl
    have c8_Q_4 := Q_6.out.at 4 (v := .string pd) rfl
    have c9_B_0 := B_6.out.at 0 (v := .int .i64 0) rfl
    have c9_B_1 := B_6.out.at 1 (v := .int .i64 0) rfl
    have c9_B_2 := B_6.out.at 2 (v := .int .i64 0) rfl
    have c9_B_3 := B_6.out.at 3 (v := .int .i64 0) rfl
    have c9_B_4 := B_6.out.at 4 (v := .string ⟨#[]⟩) rfl
    have fr10_B_0 := B_6.out.free 0
    have fr10_B_1 := B_6.out.free 1
    have fr10_B_2 := B_6.out.free 2
    have fr10_B_3 := B_6.out.free 3
    have fr10_B_4 := B_6.out.free 4
    go_wp2_with fail
    obtain ⟨p1, q1⟩ := B_6.out.store5 (.int .i64 0) (.int .i64 0) (.int .i64 0) (.int .i64 0) (.string ⟨#[]⟩)
    refine bodyPost_ret (results_bx1 rfl isPk _ _ R_B rfl rfl rfl p1) rfl ⟨rfl, (HB_6.out.grown q1 HB_6.out.size (fun k hk => by have e2 : R_B = k := Option.some.inj hk; have := HR_B.out; omega))⟩
  | true =>
    rw [hok] at HG
    cases hp : pktOk pk pn pt pl pd with
    | false =>
      rw [hp] at HPkt
      have hno : ansOk ⟨t, z, q⟩ pk pn pt pl pd = false := by rw [HO.out, hok, hp]; simp
      have e1 := HN.out hno
      rw [hno, e1]
      dsimp only [pk0]
      clear hno e1 HN HO
      have c11_T_0 := HX_T.out.at 0 (v := .int .i64 t) rfl
      have c11_T_1 := HX_T.out.at 1 (v := .int .i64 z) rfl
      have c11_T_2 := HX_T.out.at 2 (v := .slice a q.length cap) rfl
      have c12_Q_0 := HX_Q.out.at 0 (v := .int .i64 pk) rfl
      have c12_Q_1 := HX_Q.out.at 1 (v := .int .i64 pn) rfl
      have c12_Q_2 := HX_Q.out.at 2 (v := .int .i64 pt) rfl
      have c12_Q_3 := HX_Q.out.at 3 (v := .int .i64 pl) rfl
      have c12_Q_4 := HX_Q.out.at 4 (v := .string pd) rfl
      have c13_B_0 := HX_B.out.at 0 (v := .int .i64 0) rfl
      have c13_B_1 := HX_B.out.at 1 (v := .int .i64 0) rfl
      have c13_B_2 := HX_B.out.at 2 (v := .int .i64 0) rfl
      have c13_B_3 := HX_B.out.at 3 (v := .int .i64 0) rfl
      have c13_B_4 := HX_B.out.at 4 (v := .string ⟨#[]⟩) rfl
      go_enter Try.func33, Try.ntmps33
      go_upto_region 1 with fail
      rw [← HW0.out, ← HR_B.out, ← HR_Q.out, ← HR_T.out]
      go_wp2_with fail
      refine (HG.out _ (HP.out.below HB0.out (Nat.le_refl _))).mono ?_
      rintro e W14 ⟨rfl, l14⟩
      clear c11_T_0 c11_T_1 c11_T_2
      clear c12_Q_0 c12_Q_1 c12_Q_2 c12_Q_3 c12_Q_4
      clear c13_B_0 c13_B_1 c13_B_2 c13_B_3 c13_B_4
      have HB_15 := Lib.hid (HB0.out.trans (l14.mono HB0.out.size))
      have T_15 := Lib.hid (HX_T.out.below l14 HX_T.out.lt)
      have Q_15 := Lib.hid (HX_Q.out.below l14 HX_Q.out.lt)
      have B_15 := Lib.hid (HX_B.out.below l14 HX_B.out.lt)
      clear l14
      have c16_T_0 := T_15.out.at 0 (v := .int .i64 t) rfl
      have c16_T_1 := T_15.out.at 1 (v := .int .i64 z) rfl
      have c16_T_2 := T_15.out.at 2 (v := .slice a q.length cap) rfl
      have c17_Q_0 := Q_15.out.at 0 (v := .int .i64 pk) rfl
      have c17_Q_1 := Q_15.out.at 1 (v := .int .i64 pn) rfl
      have c17_Q_2 := Q_15.out.at 2 (v := .int .i64 pt) rfl
      have c17_Q_3 := Q_15.out.at 3 (v := .int .i64 pl) rfl
      have c17_Q_4 := Q_15.out.at 4 (v := .string pd) rfl
      have c18_B_0 := B_15.out.at 0 (v := .int .i64 0) rfl
      have c18_B_1 := B_15.out.at 1 (v := .int .i64 0) rfl
      have c18_B_2 := B_15.out.at 2 (v := .int .i64 0) rfl
      have c18_B_3 := B_15.out.at 3 (v := .int .i64 0) rfl
      have c18_B_4 := B_15.out.at 4 (v := .string ⟨#[]⟩) rfl
      go_wp2_with fail
      refine (HPkt.out _).mono ?_
      rintro e W19 ⟨rfl, l19⟩
      clear c16_T_0 c16_T_1 c16_T_2
      clear c17_Q_0 c17_Q_1 c17_Q_2 c17_Q_3 c17_Q_4
      clear c18_B_0 c18_B_1 c18_B_2 c18_B_3 c18_B_4
      have HB_20 := Lib.hid (HB_15.out.trans (l19.mono HB_15.out.size))
      have T_20 := Lib.hid (T_15.out.below l19 T_15.out.lt)
      clear T_15
      have Q_20 := Lib.hid (Q_15.out.below l19 Q_15.out.lt)
      clear Q_15
      have B_20 := Lib.hid (B_15.out.below l19 B_15.out.lt)
      clear B_15
      clear l19
      have c21_T_0 := T_20.out.at 0 (v := .int .i64 t) rfl
      have c21_T_1 := T_20.out.at 1 (v := .int .i64 z) rfl
      have c21_T_2 := T_20.out.at 2 (v := .slice a q.length cap) rfl
      have c22_Q_0 := Q_20.out.at 0 (v := .int .i64 pk) rfl
      have c22_Q_1 := Q_20.out.at 1 (v := .int .i64 pn) rfl
      have c22_Q_2 := Q_20.out.at 2 (v := .int .i64 pt) rfl
      have c22_Q_3 := Q_20.out.at 3 (v := .int .i64 pl) rfl
      have c22_Q_4 := Q_20.out.at 4 (v := .string pd) rfl
      have c23_B_0 := B_20.out.at 0 (v := .int .i64 0) rfl
      have c23_B_1 := B_20.out.at 1 (v := .int .i64 0) rfl
      have c23_B_2 := B_20.out.at 2 (v := .int .i64 0) rfl
      have c23_B_3 := B_20.out.at 3 (v := .int .i64 0) rfl
      have c23_B_4 := B_20.out.at 4 (v := .string ⟨#[]⟩) rfl
      have fr24_B_0 := B_20.out.free 0
      have fr24_B_1 := B_20.out.free 1
      have fr24_B_2 := B_20.out.free 2
      have fr24_B_3 := B_20.out.free 3
      have fr24_B_4 := B_20.out.free 4
      go_wp2_with fail
      obtain ⟨p1, q1⟩ := B_20.out.store5 (.int .i64 0) (.int .i64 0) (.int .i64 0) (.int .i64 0) (.string ⟨#[]⟩)
      refine bodyPost_ret (results_bx1 rfl isPk _ _ R_B rfl rfl rfl p1) rfl ⟨rfl, (HB_20.out.grown q1 HB_20.out.size (fun k hk => by have e2 : R_B = k := Option.some.inj hk; have := HR_B.out; omega))⟩
    | true =>
      rw [hp] at HPkt
      by_cases h3 : pk = 3
      rotate_left
      · have h3' : (pk == 3) = false := by simp; exact h3
        have hno : ansOk ⟨t, z, q⟩ pk pn pt pl pd = false := by rw [HO.out, hok, hp, decide_eq_false h3]; simp
        have e1 := HN.out hno
        rw [hno, e1]
        dsimp only [pk0]
        clear hno e1 HN HO
        have c25_T_0 := HX_T.out.at 0 (v := .int .i64 t) rfl
        have c25_T_1 := HX_T.out.at 1 (v := .int .i64 z) rfl
        have c25_T_2 := HX_T.out.at 2 (v := .slice a q.length cap) rfl
        have c26_Q_0 := HX_Q.out.at 0 (v := .int .i64 pk) rfl
        have c26_Q_1 := HX_Q.out.at 1 (v := .int .i64 pn) rfl
        have c26_Q_2 := HX_Q.out.at 2 (v := .int .i64 pt) rfl
        have c26_Q_3 := HX_Q.out.at 3 (v := .int .i64 pl) rfl
        have c26_Q_4 := HX_Q.out.at 4 (v := .string pd) rfl
        have c27_B_0 := HX_B.out.at 0 (v := .int .i64 0) rfl
        have c27_B_1 := HX_B.out.at 1 (v := .int .i64 0) rfl
        have c27_B_2 := HX_B.out.at 2 (v := .int .i64 0) rfl
        have c27_B_3 := HX_B.out.at 3 (v := .int .i64 0) rfl
        have c27_B_4 := HX_B.out.at 4 (v := .string ⟨#[]⟩) rfl
        go_enter Try.func33, Try.ntmps33
        go_upto_region 1 with fail
        rw [← HW0.out, ← HR_B.out, ← HR_Q.out, ← HR_T.out]
        go_wp2_with fail
        refine (HG.out _ (HP.out.below HB0.out (Nat.le_refl _))).mono ?_
        rintro e W28 ⟨rfl, l28⟩
        clear c25_T_0 c25_T_1 c25_T_2
        clear c26_Q_0 c26_Q_1 c26_Q_2 c26_Q_3 c26_Q_4
        clear c27_B_0 c27_B_1 c27_B_2 c27_B_3 c27_B_4
        have HB_29 := Lib.hid (HB0.out.trans (l28.mono HB0.out.size))
        have T_29 := Lib.hid (HX_T.out.below l28 HX_T.out.lt)
        have Q_29 := Lib.hid (HX_Q.out.below l28 HX_Q.out.lt)
        have B_29 := Lib.hid (HX_B.out.below l28 HX_B.out.lt)
        clear l28
        have c30_T_0 := T_29.out.at 0 (v := .int .i64 t) rfl
        have c30_T_1 := T_29.out.at 1 (v := .int .i64 z) rfl
        have c30_T_2 := T_29.out.at 2 (v := .slice a q.length cap) rfl
        have c31_Q_0 := Q_29.out.at 0 (v := .int .i64 pk) rfl
        have c31_Q_1 := Q_29.out.at 1 (v := .int .i64 pn) rfl
        have c31_Q_2 := Q_29.out.at 2 (v := .int .i64 pt) rfl
        have c31_Q_3 := Q_29.out.at 3 (v := .int .i64 pl) rfl
        have c31_Q_4 := Q_29.out.at 4 (v := .string pd) rfl
        have c32_B_0 := B_29.out.at 0 (v := .int .i64 0) rfl
        have c32_B_1 := B_29.out.at 1 (v := .int .i64 0) rfl
        have c32_B_2 := B_29.out.at 2 (v := .int .i64 0) rfl
        have c32_B_3 := B_29.out.at 3 (v := .int .i64 0) rfl
        have c32_B_4 := B_29.out.at 4 (v := .string ⟨#[]⟩) rfl
        go_wp2_with fail
        refine (HPkt.out _).mono ?_
        rintro e W33 ⟨rfl, l33⟩
        clear c30_T_0 c30_T_1 c30_T_2
        clear c31_Q_0 c31_Q_1 c31_Q_2 c31_Q_3 c31_Q_4
        clear c32_B_0 c32_B_1 c32_B_2 c32_B_3 c32_B_4
        have HB_34 := Lib.hid (HB_29.out.trans (l33.mono HB_29.out.size))
        have T_34 := Lib.hid (T_29.out.below l33 T_29.out.lt)
        clear T_29
        have Q_34 := Lib.hid (Q_29.out.below l33 Q_29.out.lt)
        clear Q_29
        have B_34 := Lib.hid (B_29.out.below l33 B_29.out.lt)
        clear B_29
        clear l33
        have c35_T_0 := T_34.out.at 0 (v := .int .i64 t) rfl
        have c35_T_1 := T_34.out.at 1 (v := .int .i64 z) rfl
        have c35_T_2 := T_34.out.at 2 (v := .slice a q.length cap) rfl
        have c36_Q_0 := Q_34.out.at 0 (v := .int .i64 pk) rfl
        have c36_Q_1 := Q_34.out.at 1 (v := .int .i64 pn) rfl
        have c36_Q_2 := Q_34.out.at 2 (v := .int .i64 pt) rfl
        have c36_Q_3 := Q_34.out.at 3 (v := .int .i64 pl) rfl
        have c36_Q_4 := Q_34.out.at 4 (v := .string pd) rfl
        have c37_B_0 := B_34.out.at 0 (v := .int .i64 0) rfl
        have c37_B_1 := B_34.out.at 1 (v := .int .i64 0) rfl
        have c37_B_2 := B_34.out.at 2 (v := .int .i64 0) rfl
        have c37_B_3 := B_34.out.at 3 (v := .int .i64 0) rfl
        have c37_B_4 := B_34.out.at 4 (v := .string ⟨#[]⟩) rfl
        have fr38_B_0 := B_34.out.free 0
        have fr38_B_1 := B_34.out.free 1
        have fr38_B_2 := B_34.out.free 2
        have fr38_B_3 := B_34.out.free 3
        have fr38_B_4 := B_34.out.free 4
        go_wp2_with fail
        obtain ⟨p1, q1⟩ := B_34.out.store5 (.int .i64 0) (.int .i64 0) (.int .i64 0) (.int .i64 0) (.string ⟨#[]⟩)
        refine bodyPost_ret (results_bx1 rfl isPk _ _ R_B rfl rfl rfl p1) rfl ⟨rfl, (HB_34.out.grown q1 HB_34.out.size (fun k hk => by have e2 : R_B = k := Option.some.inj hk; have := HR_B.out; omega))⟩
      subst h3
      have ht := (swOk_iff.1 hok).1
      dsimp only at ht
      have hx := (pktOk_bd hp).2.1
      have hgb := gapI_bd t pn
      obtain ⟨k, hk⟩ : ∃ k : Nat, gapI t pn = (k : Int) := ⟨(gapI t pn).toNat, by omega⟩
      have HI := Lib.hid (@item_at ⟨t, z, q⟩ pn k hk)
      dsimp only at HI
      have hhb : heldB ⟨t, z, q⟩ pn = decide ((k : Int) < (q.length : Int)) := by unfold heldB; rw [hk]
      have HH := Lib.hid (fun (W1 : World) (hr : Row W1 (.slice a q.length cap) q.length (q.map Value.string)) => l9Held_any (.slice a q.length cap) ⟨t, z, q⟩ pn W1 hr ht hx)
      have HC := Lib.hid (fun (W1 : World) => l2Gap_any t pn W1 ht.1 ht.2 hx.1 hx.2)
      rw [hk] at HC
      rw [hhb] at HH
      have HL := Lib.hid (fun (W1 : World) (hr : Row W1 (.slice a q.length cap) q.length (q.map Value.string)) => l9Lead_any (.slice a q.length cap) ⟨t, z, q⟩ W1 hr ht (by have h1 := (swOk_iff.1 hok).2.1.2; have h2 := (swOk_iff.1 hok).2.2.1; dsimp only at h1 h2 ⊢; omega))
      dsimp only at HL
      by_cases hkq : k < q.length
      rotate_left
      · have hkI : ¬ (k : Int) < (q.length : Int) := by omega
        rw [decide_eq_false hkI] at hhb HH
        clear hk hgb ht hx HI
        have hno : ansOk ⟨t, z, q⟩ 3 pn pt pl pd = false := by rw [HO.out, hok, hp, hhb]; rfl
        have e1 := HN.out hno
        rw [hno, e1]
        dsimp only [pk0]
        clear hno e1 HN HO HL
        have c39_T_0 := HX_T.out.at 0 (v := .int .i64 t) rfl
        have c39_T_1 := HX_T.out.at 1 (v := .int .i64 z) rfl
        have c39_T_2 := HX_T.out.at 2 (v := .slice a q.length cap) rfl
        have c40_Q_0 := HX_Q.out.at 0 (v := .int .i64 3) rfl
        have c40_Q_1 := HX_Q.out.at 1 (v := .int .i64 pn) rfl
        have c40_Q_2 := HX_Q.out.at 2 (v := .int .i64 pt) rfl
        have c40_Q_3 := HX_Q.out.at 3 (v := .int .i64 pl) rfl
        have c40_Q_4 := HX_Q.out.at 4 (v := .string pd) rfl
        have c41_B_0 := HX_B.out.at 0 (v := .int .i64 0) rfl
        have c41_B_1 := HX_B.out.at 1 (v := .int .i64 0) rfl
        have c41_B_2 := HX_B.out.at 2 (v := .int .i64 0) rfl
        have c41_B_3 := HX_B.out.at 3 (v := .int .i64 0) rfl
        have c41_B_4 := HX_B.out.at 4 (v := .string ⟨#[]⟩) rfl
        go_enter Try.func33, Try.ntmps33
        go_upto_region 1 with fail
        rw [← HW0.out, ← HR_B.out, ← HR_Q.out, ← HR_T.out]
        go_wp2_with fail
        refine (HG.out _ (HP.out.below HB0.out (Nat.le_refl _))).mono ?_
        rintro e W42 ⟨rfl, l42⟩
        clear c39_T_0 c39_T_1 c39_T_2
        clear c40_Q_0 c40_Q_1 c40_Q_2 c40_Q_3 c40_Q_4
        clear c41_B_0 c41_B_1 c41_B_2 c41_B_3 c41_B_4
        have HB_43 := Lib.hid (HB0.out.trans (l42.mono HB0.out.size))
        have T_43 := Lib.hid (HX_T.out.below l42 HX_T.out.lt)
        have Q_43 := Lib.hid (HX_Q.out.below l42 HX_Q.out.lt)
        have B_43 := Lib.hid (HX_B.out.below l42 HX_B.out.lt)
        clear l42
        have c44_T_0 := T_43.out.at 0 (v := .int .i64 t) rfl
        have c44_T_1 := T_43.out.at 1 (v := .int .i64 z) rfl
        have c44_T_2 := T_43.out.at 2 (v := .slice a q.length cap) rfl
        have c45_Q_0 := Q_43.out.at 0 (v := .int .i64 3) rfl
        have c45_Q_1 := Q_43.out.at 1 (v := .int .i64 pn) rfl
        have c45_Q_2 := Q_43.out.at 2 (v := .int .i64 pt) rfl
        have c45_Q_3 := Q_43.out.at 3 (v := .int .i64 pl) rfl
        have c45_Q_4 := Q_43.out.at 4 (v := .string pd) rfl
        have c46_B_0 := B_43.out.at 0 (v := .int .i64 0) rfl
        have c46_B_1 := B_43.out.at 1 (v := .int .i64 0) rfl
        have c46_B_2 := B_43.out.at 2 (v := .int .i64 0) rfl
        have c46_B_3 := B_43.out.at 3 (v := .int .i64 0) rfl
        have c46_B_4 := B_43.out.at 4 (v := .string ⟨#[]⟩) rfl
        go_wp2_with fail
        refine (HPkt.out _).mono ?_
        rintro e W47 ⟨rfl, l47⟩
        clear c44_T_0 c44_T_1 c44_T_2
        clear c45_Q_0 c45_Q_1 c45_Q_2 c45_Q_3 c45_Q_4
        clear c46_B_0 c46_B_1 c46_B_2 c46_B_3 c46_B_4
        have HB_48 := Lib.hid (HB_43.out.trans (l47.mono HB_43.out.size))
        have T_48 := Lib.hid (T_43.out.below l47 T_43.out.lt)
        clear T_43
        have Q_48 := Lib.hid (Q_43.out.below l47 Q_43.out.lt)
        clear Q_43
        have B_48 := Lib.hid (B_43.out.below l47 B_43.out.lt)
        clear B_43
        clear l47
        have c49_T_0 := T_48.out.at 0 (v := .int .i64 t) rfl
        have c49_T_1 := T_48.out.at 1 (v := .int .i64 z) rfl
        have c49_T_2 := T_48.out.at 2 (v := .slice a q.length cap) rfl
        have c50_Q_0 := Q_48.out.at 0 (v := .int .i64 3) rfl
        have c50_Q_1 := Q_48.out.at 1 (v := .int .i64 pn) rfl
        have c50_Q_2 := Q_48.out.at 2 (v := .int .i64 pt) rfl
        have c50_Q_3 := Q_48.out.at 3 (v := .int .i64 pl) rfl
        have c50_Q_4 := Q_48.out.at 4 (v := .string pd) rfl
        have c51_B_0 := B_48.out.at 0 (v := .int .i64 0) rfl
        have c51_B_1 := B_48.out.at 1 (v := .int .i64 0) rfl
        have c51_B_2 := B_48.out.at 2 (v := .int .i64 0) rfl
        have c51_B_3 := B_48.out.at 3 (v := .int .i64 0) rfl
        have c51_B_4 := B_48.out.at 4 (v := .string ⟨#[]⟩) rfl
        go_wp2_with fail
        refine (HH.out _ (HP.out.below HB_48.out (Nat.le_refl _))).mono ?_
        rintro e W52 ⟨rfl, l52⟩
        clear c49_T_0 c49_T_1 c49_T_2
        clear c50_Q_0 c50_Q_1 c50_Q_2 c50_Q_3 c50_Q_4
        clear c51_B_0 c51_B_1 c51_B_2 c51_B_3 c51_B_4
        have HB_53 := Lib.hid (HB_48.out.trans (l52.mono HB_48.out.size))
        have T_53 := Lib.hid (T_48.out.below l52 T_48.out.lt)
        clear T_48
        have Q_53 := Lib.hid (Q_48.out.below l52 Q_48.out.lt)
        clear Q_48
        have B_53 := Lib.hid (B_48.out.below l52 B_48.out.lt)
        clear B_48
        clear l52
        have c54_T_0 := T_53.out.at 0 (v := .int .i64 t) rfl
        have c54_T_1 := T_53.out.at 1 (v := .int .i64 z) rfl
        have c54_T_2 := T_53.out.at 2 (v := .slice a q.length cap) rfl
        have c55_Q_0 := Q_53.out.at 0 (v := .int .i64 3) rfl
        have c55_Q_1 := Q_53.out.at 1 (v := .int .i64 pn) rfl
        have c55_Q_2 := Q_53.out.at 2 (v := .int .i64 pt) rfl
        have c55_Q_3 := Q_53.out.at 3 (v := .int .i64 pl) rfl
        have c55_Q_4 := Q_53.out.at 4 (v := .string pd) rfl
        have c56_B_0 := B_53.out.at 0 (v := .int .i64 0) rfl
        have c56_B_1 := B_53.out.at 1 (v := .int .i64 0) rfl
        have c56_B_2 := B_53.out.at 2 (v := .int .i64 0) rfl
        have c56_B_3 := B_53.out.at 3 (v := .int .i64 0) rfl
        have c56_B_4 := B_53.out.at 4 (v := .string ⟨#[]⟩) rfl
        have fr57_B_0 := B_53.out.free 0
        have fr57_B_1 := B_53.out.free 1
        have fr57_B_2 := B_53.out.free 2
        have fr57_B_3 := B_53.out.free 3
        have fr57_B_4 := B_53.out.free 4
        go_wp2_with fail
        obtain ⟨p1, q1⟩ := B_53.out.store5 (.int .i64 0) (.int .i64 0) (.int .i64 0) (.int .i64 0) (.string ⟨#[]⟩)
        refine bodyPost_ret (results_bx1 rfl isPk _ _ R_B rfl rfl rfl p1) rfl ⟨rfl, (HB_53.out.grown q1 HB_53.out.size (fun k hk => by have e2 : R_B = k := Option.some.inj hk; have := HR_B.out; omega))⟩
      have hkI : (k : Int) < (q.length : Int) := by omega
      rw [decide_eq_true hkI] at hhb HH
      have hyes : ansOk ⟨t, z, q⟩ 3 pn pt pl pd = true := by rw [HO.out, hok, hp, hhb]; rfl
      have hyes2 : ansP ⟨t, z, q⟩ ⟨3, pn, pt, pl, pd⟩ = ⟨2, pn, t, leadI ⟨t, z, q⟩, q[k]⟩ := by unfold ansP; rw [if_pos hyes, HI.out hkq]
      rw [hyes, hyes2]
      dsimp only
      obtain ⟨b, off, rfl, hb, hc0⟩ := row_string HP.out hkq
      generalize q[k] = s at hc0 ⊢
      generalize leadI ⟨t, z, q⟩ = le at HL ⊢
      have HC0 := Lib.hid hc0
      have h0k : (0 : Int) ≤ (k : Int) := by omega
      clear hc0 hyes hyes2 HN HO hhb hk hgb ht hx HI hok hp
      have c58_T_0 := HX_T.out.at 0 (v := .int .i64 t) rfl
      have c58_T_1 := HX_T.out.at 1 (v := .int .i64 z) rfl
      have c58_T_2 := HX_T.out.at 2 (v := .slice (some ⟨b, off, none⟩) q.length cap) rfl
      have c59_Q_0 := HX_Q.out.at 0 (v := .int .i64 3) rfl
      have c59_Q_1 := HX_Q.out.at 1 (v := .int .i64 pn) rfl
      have c59_Q_2 := HX_Q.out.at 2 (v := .int .i64 pt) rfl
      have c59_Q_3 := HX_Q.out.at 3 (v := .int .i64 pl) rfl
      have c59_Q_4 := HX_Q.out.at 4 (v := .string pd) rfl
      have c60_B_0 := HX_B.out.at 0 (v := .int .i64 0) rfl
      have c60_B_1 := HX_B.out.at 1 (v := .int .i64 0) rfl
      have c60_B_2 := HX_B.out.at 2 (v := .int .i64 0) rfl
      have c60_B_3 := HX_B.out.at 3 (v := .int .i64 0) rfl
      have c60_B_4 := HX_B.out.at 4 (v := .string ⟨#[]⟩) rfl
      go_enter Try.func33, Try.ntmps33
      go_upto_region 1 with fail
      rw [← HW0.out, ← HR_B.out, ← HR_Q.out, ← HR_T.out]
      go_wp2_with fail
      refine (HG.out _ (HP.out.below HB0.out (Nat.le_refl _))).mono ?_
      rintro e W61 ⟨rfl, l61⟩
      clear c58_T_0 c58_T_1 c58_T_2
      clear c59_Q_0 c59_Q_1 c59_Q_2 c59_Q_3 c59_Q_4
      clear c60_B_0 c60_B_1 c60_B_2 c60_B_3 c60_B_4
      have HB_62 := Lib.hid (HB0.out.trans (l61.mono HB0.out.size))
      have T_62 := Lib.hid (HX_T.out.below l61 HX_T.out.lt)
      have Q_62 := Lib.hid (HX_Q.out.below l61 HX_Q.out.lt)
      have B_62 := Lib.hid (HX_B.out.below l61 HX_B.out.lt)
      clear l61
      have c63_T_0 := T_62.out.at 0 (v := .int .i64 t) rfl
      have c63_T_1 := T_62.out.at 1 (v := .int .i64 z) rfl
      have c63_T_2 := T_62.out.at 2 (v := .slice (some ⟨b, off, none⟩) q.length cap) rfl
      have c64_Q_0 := Q_62.out.at 0 (v := .int .i64 3) rfl
      have c64_Q_1 := Q_62.out.at 1 (v := .int .i64 pn) rfl
      have c64_Q_2 := Q_62.out.at 2 (v := .int .i64 pt) rfl
      have c64_Q_3 := Q_62.out.at 3 (v := .int .i64 pl) rfl
      have c64_Q_4 := Q_62.out.at 4 (v := .string pd) rfl
      have c65_B_0 := B_62.out.at 0 (v := .int .i64 0) rfl
      have c65_B_1 := B_62.out.at 1 (v := .int .i64 0) rfl
      have c65_B_2 := B_62.out.at 2 (v := .int .i64 0) rfl
      have c65_B_3 := B_62.out.at 3 (v := .int .i64 0) rfl
      have c65_B_4 := B_62.out.at 4 (v := .string ⟨#[]⟩) rfl
      go_wp2_with fail
      refine (HPkt.out _).mono ?_
      rintro e W66 ⟨rfl, l66⟩
      clear c63_T_0 c63_T_1 c63_T_2
      clear c64_Q_0 c64_Q_1 c64_Q_2 c64_Q_3 c64_Q_4
      clear c65_B_0 c65_B_1 c65_B_2 c65_B_3 c65_B_4
      have HB_67 := Lib.hid (HB_62.out.trans (l66.mono HB_62.out.size))
      have T_67 := Lib.hid (T_62.out.below l66 T_62.out.lt)
      clear T_62
      have Q_67 := Lib.hid (Q_62.out.below l66 Q_62.out.lt)
      clear Q_62
      have B_67 := Lib.hid (B_62.out.below l66 B_62.out.lt)
      clear B_62
      clear l66
      have c68_T_0 := T_67.out.at 0 (v := .int .i64 t) rfl
      have c68_T_1 := T_67.out.at 1 (v := .int .i64 z) rfl
      have c68_T_2 := T_67.out.at 2 (v := .slice (some ⟨b, off, none⟩) q.length cap) rfl
      have c69_Q_0 := Q_67.out.at 0 (v := .int .i64 3) rfl
      have c69_Q_1 := Q_67.out.at 1 (v := .int .i64 pn) rfl
      have c69_Q_2 := Q_67.out.at 2 (v := .int .i64 pt) rfl
      have c69_Q_3 := Q_67.out.at 3 (v := .int .i64 pl) rfl
      have c69_Q_4 := Q_67.out.at 4 (v := .string pd) rfl
      have c70_B_0 := B_67.out.at 0 (v := .int .i64 0) rfl
      have c70_B_1 := B_67.out.at 1 (v := .int .i64 0) rfl
      have c70_B_2 := B_67.out.at 2 (v := .int .i64 0) rfl
      have c70_B_3 := B_67.out.at 3 (v := .int .i64 0) rfl
      have c70_B_4 := B_67.out.at 4 (v := .string ⟨#[]⟩) rfl
      go_wp2_with fail
      refine (HH.out _ (HP.out.below HB_67.out (Nat.le_refl _))).mono ?_
      rintro e W71 ⟨rfl, l71⟩
      clear c68_T_0 c68_T_1 c68_T_2
      clear c69_Q_0 c69_Q_1 c69_Q_2 c69_Q_3 c69_Q_4
      clear c70_B_0 c70_B_1 c70_B_2 c70_B_3 c70_B_4
      have HB_72 := Lib.hid (HB_67.out.trans (l71.mono HB_67.out.size))
      have T_72 := Lib.hid (T_67.out.below l71 T_67.out.lt)
      clear T_67
      have Q_72 := Lib.hid (Q_67.out.below l71 Q_67.out.lt)
      clear Q_67
      have B_72 := Lib.hid (B_67.out.below l71 B_67.out.lt)
      clear B_67
      clear l71
      have c73_T_0 := T_72.out.at 0 (v := .int .i64 t) rfl
      have c73_T_1 := T_72.out.at 1 (v := .int .i64 z) rfl
      have c73_T_2 := T_72.out.at 2 (v := .slice (some ⟨b, off, none⟩) q.length cap) rfl
      have c74_Q_0 := Q_72.out.at 0 (v := .int .i64 3) rfl
      have c74_Q_1 := Q_72.out.at 1 (v := .int .i64 pn) rfl
      have c74_Q_2 := Q_72.out.at 2 (v := .int .i64 pt) rfl
      have c74_Q_3 := Q_72.out.at 3 (v := .int .i64 pl) rfl
      have c74_Q_4 := Q_72.out.at 4 (v := .string pd) rfl
      have c75_B_0 := B_72.out.at 0 (v := .int .i64 0) rfl
      have c75_B_1 := B_72.out.at 1 (v := .int .i64 0) rfl
      have c75_B_2 := B_72.out.at 2 (v := .int .i64 0) rfl
      have c75_B_3 := B_72.out.at 3 (v := .int .i64 0) rfl
      have c75_B_4 := B_72.out.at 4 (v := .string ⟨#[]⟩) rfl
      go_upto_region 3 with fail
      have hb7' : b < W71.heap.size := Nat.lt_of_lt_of_le hb HB_72.out.size
      have hck := (HB_72.out.cell (p := ⟨b, off + k, none⟩) hb).trans HC0.out
      have HK1 := Lib.hid (fun (w' : World) (hb : Below W71.heap.size W71 w') => (show w'.cell? ⟨R_T, 0, none⟩ = some (.int .i64 t) ∧ w'.cell? ⟨R_T, 1, none⟩ = some (.int .i64 z) ∧ w'.cell? ⟨R_T, 2, none⟩ = some (.slice (some ⟨b, off, none⟩) q.length cap) ∧ w'.cell? ⟨R_Q, 0, none⟩ = some (.int .i64 3) ∧ w'.cell? ⟨R_Q, 1, none⟩ = some (.int .i64 pn) ∧ w'.cell? ⟨R_Q, 2, none⟩ = some (.int .i64 pt) ∧ w'.cell? ⟨R_Q, 3, none⟩ = some (.int .i64 pl) ∧ w'.cell? ⟨R_Q, 4, none⟩ = some (.string pd) ∧ w'.cell? ⟨b, off + k, none⟩ = some (.string s) ∧ Below w.heap.size w w' from ⟨(hb.cell (p := ⟨R_T, 0, none⟩) T_72.out.lt).trans (T_72.out.at 0 (v := .int .i64 t) rfl), (hb.cell (p := ⟨R_T, 1, none⟩) T_72.out.lt).trans (T_72.out.at 1 (v := .int .i64 z) rfl), (hb.cell (p := ⟨R_T, 2, none⟩) T_72.out.lt).trans (T_72.out.at 2 (v := .slice (some ⟨b, off, none⟩) q.length cap) rfl), (hb.cell (p := ⟨R_Q, 0, none⟩) Q_72.out.lt).trans (Q_72.out.at 0 (v := .int .i64 3) rfl), (hb.cell (p := ⟨R_Q, 1, none⟩) Q_72.out.lt).trans (Q_72.out.at 1 (v := .int .i64 pn) rfl), (hb.cell (p := ⟨R_Q, 2, none⟩) Q_72.out.lt).trans (Q_72.out.at 2 (v := .int .i64 pt) rfl), (hb.cell (p := ⟨R_Q, 3, none⟩) Q_72.out.lt).trans (Q_72.out.at 3 (v := .int .i64 pl) rfl), (hb.cell (p := ⟨R_Q, 4, none⟩) Q_72.out.lt).trans (Q_72.out.at 4 (v := .string pd) rfl), (hb.cell (p := ⟨b, off + k, none⟩) hb7').trans hck, HB_72.out.trans (hb.mono HB_72.out.size)⟩))
      have HA1_B := Lib.hid (fun (w' : World) (hb : Below W71.heap.size W71 w') => B_72.out.below hb B_72.out.lt)
      have HK1_0 := Lib.hid (fun (w' : World) (y0_0 y0_1 y0_2 y0_3 y0_4 : Value) (hb : Below W71.heap.size W71 w') => (show ((((((w'.setCell ⟨R_B, 0, none⟩ (y0_0)).setCell ⟨R_B, 1, none⟩ (y0_1)).setCell ⟨R_B, 2, none⟩ (y0_2)).setCell ⟨R_B, 3, none⟩ (y0_3)).setCell ⟨R_B, 4, none⟩ (y0_4))).cell? ⟨R_T, 0, none⟩ = some (.int .i64 t) ∧ ((((((w'.setCell ⟨R_B, 0, none⟩ (y0_0)).setCell ⟨R_B, 1, none⟩ (y0_1)).setCell ⟨R_B, 2, none⟩ (y0_2)).setCell ⟨R_B, 3, none⟩ (y0_3)).setCell ⟨R_B, 4, none⟩ (y0_4))).cell? ⟨R_T, 1, none⟩ = some (.int .i64 z) ∧ ((((((w'.setCell ⟨R_B, 0, none⟩ (y0_0)).setCell ⟨R_B, 1, none⟩ (y0_1)).setCell ⟨R_B, 2, none⟩ (y0_2)).setCell ⟨R_B, 3, none⟩ (y0_3)).setCell ⟨R_B, 4, none⟩ (y0_4))).cell? ⟨R_T, 2, none⟩ = some (.slice (some ⟨b, off, none⟩) q.length cap) ∧ ((((((w'.setCell ⟨R_B, 0, none⟩ (y0_0)).setCell ⟨R_B, 1, none⟩ (y0_1)).setCell ⟨R_B, 2, none⟩ (y0_2)).setCell ⟨R_B, 3, none⟩ (y0_3)).setCell ⟨R_B, 4, none⟩ (y0_4))).cell? ⟨R_Q, 0, none⟩ = some (.int .i64 3) ∧ ((((((w'.setCell ⟨R_B, 0, none⟩ (y0_0)).setCell ⟨R_B, 1, none⟩ (y0_1)).setCell ⟨R_B, 2, none⟩ (y0_2)).setCell ⟨R_B, 3, none⟩ (y0_3)).setCell ⟨R_B, 4, none⟩ (y0_4))).cell? ⟨R_Q, 1, none⟩ = some (.int .i64 pn) ∧ ((((((w'.setCell ⟨R_B, 0, none⟩ (y0_0)).setCell ⟨R_B, 1, none⟩ (y0_1)).setCell ⟨R_B, 2, none⟩ (y0_2)).setCell ⟨R_B, 3, none⟩ (y0_3)).setCell ⟨R_B, 4, none⟩ (y0_4))).cell? ⟨R_Q, 2, none⟩ = some (.int .i64 pt) ∧ ((((((w'.setCell ⟨R_B, 0, none⟩ (y0_0)).setCell ⟨R_B, 1, none⟩ (y0_1)).setCell ⟨R_B, 2, none⟩ (y0_2)).setCell ⟨R_B, 3, none⟩ (y0_3)).setCell ⟨R_B, 4, none⟩ (y0_4))).cell? ⟨R_Q, 3, none⟩ = some (.int .i64 pl) ∧ ((((((w'.setCell ⟨R_B, 0, none⟩ (y0_0)).setCell ⟨R_B, 1, none⟩ (y0_1)).setCell ⟨R_B, 2, none⟩ (y0_2)).setCell ⟨R_B, 3, none⟩ (y0_3)).setCell ⟨R_B, 4, none⟩ (y0_4))).cell? ⟨R_Q, 4, none⟩ = some (.string pd) ∧ ((((((w'.setCell ⟨R_B, 0, none⟩ (y0_0)).setCell ⟨R_B, 1, none⟩ (y0_1)).setCell ⟨R_B, 2, none⟩ (y0_2)).setCell ⟨R_B, 3, none⟩ (y0_3)).setCell ⟨R_B, 4, none⟩ (y0_4))).cell? ⟨b, off + k, none⟩ = some (.string s) ∧ Below w.heap.size w ((((((w'.setCell ⟨R_B, 0, none⟩ (y0_0)).setCell ⟨R_B, 1, none⟩ (y0_1)).setCell ⟨R_B, 2, none⟩ (y0_2)).setCell ⟨R_B, 3, none⟩ (y0_3)).setCell ⟨R_B, 4, none⟩ (y0_4))) by
        obtain ⟨z0, z1, z2, z3, z4, z5, z6, z7, z8, z9⟩ := HK1.out w' hb
        obtain ⟨_, q1⟩ := (HA1_B.out w' hb).store5 y0_0 y0_1 y0_2 y0_3 y0_4
        exact ⟨q1.cell z0 (by intro e; have e2 : R_T = R_B := Option.some.inj e; have h1 := HR_T.out; have h2 := HR_B.out; omega), q1.cell z1 (by intro e; have e2 : R_T = R_B := Option.some.inj e; have h1 := HR_T.out; have h2 := HR_B.out; omega), q1.cell z2 (by intro e; have e2 : R_T = R_B := Option.some.inj e; have h1 := HR_T.out; have h2 := HR_B.out; omega), q1.cell z3 (by intro e; have e2 : R_Q = R_B := Option.some.inj e; have h1 := HR_Q.out; have h2 := HR_B.out; omega), q1.cell z4 (by intro e; have e2 : R_Q = R_B := Option.some.inj e; have h1 := HR_Q.out; have h2 := HR_B.out; omega), q1.cell z5 (by intro e; have e2 : R_Q = R_B := Option.some.inj e; have h1 := HR_Q.out; have h2 := HR_B.out; omega), q1.cell z6 (by intro e; have e2 : R_Q = R_B := Option.some.inj e; have h1 := HR_Q.out; have h2 := HR_B.out; omega), q1.cell z7 (by intro e; have e2 : R_Q = R_B := Option.some.inj e; have h1 := HR_Q.out; have h2 := HR_B.out; omega), q1.cell z8 (by intro e; have e2 : b = R_B := Option.some.inj e; have h0 := hb7'; have h1 := HR_B.out; omega), z9.grown q1 z9.size (fun k hk => by have e2 : R_B = k := Option.some.inj hk; have := HR_B.out; omega)⟩))
      go_region_held3 (fun w' => w'.cell? ⟨R_T, 0, none⟩ = some (.int .i64 t) ∧ w'.cell? ⟨R_T, 1, none⟩ = some (.int .i64 z) ∧ w'.cell? ⟨R_T, 2, none⟩ = some (.slice (some ⟨b, off, none⟩) q.length cap) ∧ w'.cell? ⟨R_Q, 0, none⟩ = some (.int .i64 3) ∧ w'.cell? ⟨R_Q, 1, none⟩ = some (.int .i64 pn) ∧ w'.cell? ⟨R_Q, 2, none⟩ = some (.int .i64 pt) ∧ w'.cell? ⟨R_Q, 3, none⟩ = some (.int .i64 pl) ∧ w'.cell? ⟨R_Q, 4, none⟩ = some (.string pd) ∧ w'.cell? ⟨b, off + k, none⟩ = some (.string s) ∧ Below w.heap.size w w')
        ((first | (with_reducible refine HK1_0.out _ _ _ _ _ _ ?_; (repeat (first | with_reducible assumption | with_reducible exact Below.refl _ _ | with_reducible refine Below.drew ?_ | with_reducible refine below_alloc' ?_)); done) | (with_reducible refine HK1.out _ ?_; (repeat (first | with_reducible assumption | with_reducible exact Below.refl _ _ | with_reducible refine Below.drew ?_ | with_reducible refine below_alloc' ?_)); done)))
        (first
          | (go_at_call 76; refine (HL.out _ (HP.out.below (HB_72.out.trans ((by repeat (first | with_reducible assumption | with_reducible exact Below.refl _ _ | with_reducible refine Below.drew ?_ | with_reducible refine below_alloc' ?_) : Below W71.heap.size W71 _).mono HB_72.out.size)) (Nat.le_refl _))).mono ?_; rintro e w7 ⟨rfl, l7⟩; have hb7 := below_call7 (by repeat (first | with_reducible assumption | with_reducible exact Below.refl _ _ | with_reducible refine Below.drew ?_ | with_reducible refine below_alloc' ?_) : Below W71.heap.size W71 _) l7; have h7B := HA1_B.out w7 hb7; have yB0 := h7B.at 0 (v := .int .i64 0) rfl; have fB0 := h7B.free 0; have yB1 := h7B.at 1 (v := .int .i64 0) rfl; have fB1 := h7B.free 1; have yB2 := h7B.at 2 (v := .int .i64 0) rfl; have fB2 := h7B.free 2; have yB3 := h7B.at 3 (v := .int .i64 0) rfl; have fB3 := h7B.free 3; have yB4 := h7B.at 4 (v := .string ⟨#[]⟩) rfl; have fB4 := h7B.free 4; clear l7)
          | (go_at_call 73; refine (HC.out _).mono ?_; rintro e _ ⟨rfl, rfl⟩))
      all_goals go_wp2_with fail
      all_goals
        obtain ⟨p1, q1⟩ := h7B.store5 (.int .i64 2) (.int .i64 pn) (.int .i64 t) (.int .i64 le) (.string s)
        have hB8 := HB_72.out.trans (hb7.mono HB_72.out.size)
        refine bodyPost_ret (results_bx1 rfl isPk _ _ R_B rfl rfl rfl p1) rfl ⟨rfl, hB8.grown q1 hB8.size (fun k hk => by have e2 : R_B = k := Option.some.inj hk; have := HR_B.out; omega)⟩
set_option maxRecDepth 100000 in
set_option maxHeartbeats 4000000 in
theorem specHs_any (v : Value) (l : Sw) (w : World) (hrow : Row w v l.q.length (l.q.map Value.string)) (hs : ∀ s ∈ l.q, s.size ≤ maxLen) :
    Calls Try.prog 27 #[.agg #[.int .i64 l.t, .int .i64 l.z, v]] w fun e w' => ∃ v', e = .returned (.tuple #[v', .bool (swOk l)]) ∧ w'.ownsRow w.heap.size 3 1 v' (hsV l).length ((hsV l).map (Value.int .i64)) ∧ Below w.heap.size w w' := by
  obtain ⟨i0, hi, hz0, hz1, hz2⟩ := info_parts infoInt2
  obtain ⟨t, z, q⟩ := l
  dsimp only at hrow hs ⊢
  obtain ⟨a, cap, rfl, hc1, hm1, _⟩ := row_open hrow
  unfold maxLen at hm1
  have HP := Lib.hid hrow
  clear hrow
  have HS := Lib.hid hs
  clear hs
  obtain ⟨W0, R_T, hW0, hR_T, hX_T, hB0⟩ := entry1 w #[.int .i64 t, .int .i64 z, .slice a q.length cap] 26
  have HW0 := Lib.hid hW0
  have HB0 := Lib.hid hB0
  have HR_T := Lib.hid hR_T
  have HX_T := Lib.hid hX_T
  clear hW0 hB0 hR_T hX_T
  have HG := Lib.hid (fun (W1 : World) (hr : Row W1 (.slice a q.length cap) q.length (q.map Value.string)) => l9Good_any (.slice a q.length cap) ⟨t, z, q⟩ W1 hr HS.out)
  cases hok : swOk ⟨t, z, q⟩ with
  | false =>
    rw [hok] at HG
    rw [show hsV ⟨t, z, q⟩ = [] from by unfold hsV; rw [hok]; rfl]
    clear hok
    have c76_T_0 := HX_T.out.at 0 (v := .int .i64 t) rfl
    have c76_T_1 := HX_T.out.at 1 (v := .int .i64 z) rfl
    have c76_T_2 := HX_T.out.at 2 (v := .slice a q.length cap) rfl
    go_enter Try.func27, Try.ntmps27
    go_upto_region 1 with fail
    rw [← HW0.out, ← HR_T.out]
    go_upto_region 2 with fail
    have lL : Below W0.heap.size W0 (W0.alloc (.cells #[] 3)) := (Below.refl _ _).alloc (Nat.le_refl _) _
    have HOl := Lib.hid (own_lit (heap_alloc_new W0 (.cells #[] 3)) (Nat.le_refl W0.heap.size))
    obtain ⟨WL, hWL⟩ : ∃ W, W = W0.alloc (.cells #[] 3) := ⟨_, rfl⟩
    rw [← hWL] at lL HOl ⊢
    have HLL := Lib.hid lL
    clear hWL
    clear c76_T_0 c76_T_1 c76_T_2
    have HB_77 := Lib.hid (HB0.out.trans (lL.mono HB0.out.size))
    have T_77 := Lib.hid (HX_T.out.below lL HX_T.out.lt)
    clear lL
    have c78_T_0 := T_77.out.at 0 (v := .int .i64 t) rfl
    have c78_T_1 := T_77.out.at 1 (v := .int .i64 z) rfl
    have c78_T_2 := T_77.out.at 2 (v := .slice a q.length cap) rfl
    go_wp2_with fail
    refine (HG.out _ (HP.out.below HB_77.out (Nat.le_refl _))).mono ?_
    rintro e W79 ⟨rfl, l79⟩
    have HOl2 := Lib.hid (own_below HOl.out l79 (Nat.le_refl _))
    have HL2 := Lib.hid (HLL.out.trans (l79.mono HLL.out.size))
    clear c78_T_0 c78_T_1 c78_T_2
    have HB_80 := Lib.hid (HB_77.out.trans (l79.mono HB_77.out.size))
    have T_80 := Lib.hid (T_77.out.below l79 T_77.out.lt)
    clear T_77
    clear l79
    have c81_T_0 := T_80.out.at 0 (v := .int .i64 t) rfl
    have c81_T_1 := T_80.out.at 1 (v := .int .i64 z) rfl
    have c81_T_2 := T_80.out.at 2 (v := .slice a q.length cap) rfl
    go_wp2_with fail
    go_ret2
    exact ⟨_, rfl, own_base HOl2.out HB0.out.size, HB_80.out⟩
  | true =>
    rw [hok] at HG
    rw [show hsV ⟨t, z, q⟩ = spanL t q.length from if_pos hok]
    have ht := (swOk_iff.1 hok).1
    dsimp only at ht
    have hl6 : q.length ≤ 6 := by have h1 := (swOk_iff.1 hok).2.1.2; have h2 := (swOk_iff.1 hok).2.2.1; dsimp only at h1 h2; omega
    clear hok
    have c82_T_0 := HX_T.out.at 0 (v := .int .i64 t) rfl
    have c82_T_1 := HX_T.out.at 1 (v := .int .i64 z) rfl
    have c82_T_2 := HX_T.out.at 2 (v := .slice a q.length cap) rfl
    go_enter Try.func27, Try.ntmps27
    go_upto_region 1 with fail
    rw [← HW0.out, ← HR_T.out]
    go_upto_region 2 with fail
    have lL : Below W0.heap.size W0 (W0.alloc (.cells #[] 3)) := (Below.refl _ _).alloc (Nat.le_refl _) _
    have HOl := Lib.hid (own_lit (heap_alloc_new W0 (.cells #[] 3)) (Nat.le_refl W0.heap.size))
    obtain ⟨WL, hWL⟩ : ∃ W, W = W0.alloc (.cells #[] 3) := ⟨_, rfl⟩
    rw [← hWL] at lL HOl ⊢
    have HLL := Lib.hid lL
    clear hWL
    clear c82_T_0 c82_T_1 c82_T_2
    have HB_83 := Lib.hid (HB0.out.trans (lL.mono HB0.out.size))
    have T_83 := Lib.hid (HX_T.out.below lL HX_T.out.lt)
    clear lL
    have c84_T_0 := T_83.out.at 0 (v := .int .i64 t) rfl
    have c84_T_1 := T_83.out.at 1 (v := .int .i64 z) rfl
    have c84_T_2 := T_83.out.at 2 (v := .slice a q.length cap) rfl
    go_wp2_with fail
    refine (HG.out _ (HP.out.below HB_83.out (Nat.le_refl _))).mono ?_
    rintro e W85 ⟨rfl, l85⟩
    have HOl2 := Lib.hid (own_below HOl.out l85 (Nat.le_refl _))
    have HL2 := Lib.hid (HLL.out.trans (l85.mono HLL.out.size))
    clear c84_T_0 c84_T_1 c84_T_2
    have HB_86 := Lib.hid (HB_83.out.trans (l85.mono HB_83.out.size))
    have T_86 := Lib.hid (T_83.out.below l85 T_83.out.lt)
    clear T_83
    clear l85
    have c87_T_0 := T_86.out.at 0 (v := .int .i64 t) rfl
    have c87_T_1 := T_86.out.at 1 (v := .int .i64 z) rfl
    have c87_T_2 := T_86.out.at 2 (v := .slice a q.length cap) rfl
    go_wp2_with fail
    go_loopw [4, 5] (fun v i wr => ∃ k : Nat, k ≤ q.length ∧ i = .int .i64 k ∧ Hid (wr.ownsRow W0.heap.size 3 1 v (spanL t k).length ((spanL t k).map (Value.int .i64))) ∧ Hid (Below W0.heap.size W0 wr)) (fun _ i _ => q.length - (RowKit.intOf i).toNat)
    case atStart => exact ⟨0, Nat.zero_le _, rfl, HOl2, HL2⟩
    case round =>
      clear c87_T_0 c87_T_1 c87_T_2
      obtain ⟨k, hk, rfl, HO, HL⟩ := hrel
      have hT := HX_T.out.below HL.out HX_T.out.lt
      have t0 := hT.at 0 (v := .int .i64 t) rfl
      have t1 := hT.at 1 (v := .int .i64 z) rfl
      have t2 := hT.at 2 (v := .slice a q.length cap) rfl
      clear hT
      have hsl := spanL_len t k
      by_cases hkq : k < q.length
      · have hll : (spanL t k).length + 1 ≤ 100 := by omega
        have HST := Lib.hid (fun w => l2After_any t (k : Int) w ht.1 ht.2 (by omega) (by omega))
        obtain ⟨y, hy⟩ : ∃ y, y = aftI t k := ⟨_, rfl⟩
        rw [← hy] at HST
        have HY := Lib.hid hy
        have HSL := Lib.hid hsl
        have hszr := HL.out.size
        clear hy hsl
        go_wp2_with (first | (at_builtin; refine wpList_append_own _ rfl _ _ 42 rfl W0.heap.size 3 i0 (.int .i64 0) 1 8 Try.underlying42 hi hz0 hz1 hz2 rfl (by decide) _ _ _ rfl (HO.out.alloc _) ⟨wr.heap.size, 0, none⟩ 1 1 [.int .i64 y] rfl rfl (cell_one_new _ _ _) (by intro u hu; simp at hu; subst hu; rfl) (by unfold maxLen; omega) (by omega) (by simp; omega) ?_; intro v' w1 hown' hgrow _) | (go_at_call 75; refine (HST.out _).mono ?_; rintro e w' ⟨rfl, rfl⟩))
        go_roundw
        case rel => exact ⟨k + 1, by omega, by go_num, Lib.hid (spanV_own (by rw [← HY.out]; exact hown')), Lib.hid (below_own_i HL.out hszr HO.out hgrow)⟩
        case measure => (simp [RowKit.intOf]; omega)
      · obtain rfl : k = q.length := by omega
        have HO2 := Lib.hid HO.out
        clear HO hsl
        go_wp2_with fail
        go_ret2
        exact ⟨_, rfl, own_base HO2.out HB0.out.size, HB0.out.trans (HL.out.mono HB0.out.size)⟩
end Go.Proofs.Ytkijfneaglogmaa
