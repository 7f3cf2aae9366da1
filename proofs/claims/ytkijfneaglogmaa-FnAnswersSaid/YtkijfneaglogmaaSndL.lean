/-
  The laws' comparison of windows, and what the laws ask.
-/
import Derived.Test.YtkijfneaglogmaaVTexts
import Derived.Test.YtkijfneaglogmaaSnd
namespace Go.Proofs.Ytkijfneaglogmaa
open Go.RowKit Go.Lib Go.Joins
set_option linter.unusedVariables false

/-- What the law asks of a push. -/
theorem push_law9 {l : Sw} {s : ByteArray} (hs9 : s.size ≤ 9) (hl9 : ∀ u ∈ l.q, u.size ≤ 9) (h : pushOk l s = true) :
    heldOk (pushV l s) (pushP l s).n = true ∧ heldV (pushV l s) (pushP l s).n = s ∧ swOk l = true ∧ swOk (pushV l s) = true ∧ (pushP l s).n = leadV l ∧ gapOk (leadV l) (leadV (pushV l s)) = true ∧ gapV (leadV l) (leadV (pushV l s)) = 1 ∧
    (pushP l s).l = leadV (pushV l s) ∧ (pushP l s).t = (pushV l s).t ∧ ∀ u ∈ (pushV l s).q, u.size ≤ maxLen := by
  obtain ⟨a1, a2, a3, a4, a5, a6, a7, a8, a9⟩ := push_law h
  have en : (pushP l s).n = pushN l s := by rw [pushP_yes h]; exact (if_pos h).symm
  have el : (pushP l s).l = pushL l s := by rw [pushP_yes h]; exact (if_pos h).symm
  have et : (pushP l s).t = pushT l s := by
    rw [pushP_yes h]
    unfold pushT
    rw [if_pos h]
    rfl
  rw [en, el, et]
  refine ⟨a1, a2, a3, a4, a5, a6, a7, a8, a9, fun u hu => ?_⟩
  rw [pushV_yes h] at hu
  unfold maxLen
  rcases List.mem_append.1 hu with hu | hu
  · have : u ∈ l.q := by
      unfold roomW at hu
      split at hu
      · exact List.mem_of_mem_drop hu
      · exact hu
    have := hl9 u this
    omega
  · rw [List.mem_singleton.1 hu]; omega
theorem le_maxLen9 {n : Nat} (h : n ≤ 9) : n ≤ maxLen := by unfold maxLen; omega
set_option maxRecDepth 100000 in
set_option maxHeartbeats 1000000 in
theorem vWin_same (v1 v2 : Value) (l : Sw) (w : World) (h1 : Row w v1 l.q.length (l.q.map Value.string)) (h2 : Row w v2 l.q.length (l.q.map Value.string)) :
    Calls Try.prog 18 #[.agg #[.int .i64 l.t, .int .i64 l.z, v1], .agg #[.int .i64 l.t, .int .i64 l.z, v2]] w fun e w' => e = .returned (.bool true) ∧ Below w.heap.size w w' := by
  obtain ⟨t, z, q⟩ := l
  dsimp only at h1 h2 ⊢
  obtain ⟨W0, R_T, R_U, hW0, hR_T, hR_U, hX_T, hX_U, hB0⟩ := entry2 w #[.int .i64 t, .int .i64 z, v1] #[.int .i64 t, .int .i64 z, v2] 26 26
  have HW0 := Lib.hid hW0
  have HB0 := Lib.hid hB0
  have HR_T := Lib.hid hR_T
  have HX_T := Lib.hid hX_T
  have HR_U := Lib.hid hR_U
  have HX_U := Lib.hid hX_U
  clear hW0 hB0 hR_T hX_T hR_U hX_U
  have HE := Lib.hid (vTexts_any v1 v2 q q W0 (h1.below HB0.out (Nat.le_refl _)) (h2.below HB0.out (Nat.le_refl _)))
  rw [decide_eq_true (rfl : q = q)] at HE
  clear h1 h2
  have c1_T_0 := HX_T.out.at 0 (v := .int .i64 t) rfl
  have c1_T_1 := HX_T.out.at 1 (v := .int .i64 z) rfl
  have c1_T_2 := HX_T.out.at 2 (v := v1) rfl
  have c2_U_0 := HX_U.out.at 0 (v := .int .i64 t) rfl
  have c2_U_1 := HX_U.out.at 1 (v := .int .i64 z) rfl
  have c2_U_2 := HX_U.out.at 2 (v := v2) rfl
  go_enter Try.func18, Try.ntmps18
  go_upto_region 1 with fail
  rw [← HW0.out, ← HR_U.out, ← HR_T.out]
  go_wp2_with fail
  refine (HE.out).mono ?_
  rintro e W3 ⟨rfl, k9, hk9⟩
  have l3 : Below W0.heap.size W0 W3 := by rw [hk9]; exact bdrewN _ _ _
  clear hk9
  clear c1_T_0 c1_T_1 c1_T_2
  clear c2_U_0 c2_U_1 c2_U_2
  have HB_4 := Lib.hid (HB0.out.trans (l3.mono HB0.out.size))
  have T_4 := Lib.hid (HX_T.out.below l3 HX_T.out.lt)
  have U_4 := Lib.hid (HX_U.out.below l3 HX_U.out.lt)
  clear l3
  have c5_T_0 := T_4.out.at 0 (v := .int .i64 t) rfl
  have c5_T_1 := T_4.out.at 1 (v := .int .i64 z) rfl
  have c5_T_2 := T_4.out.at 2 (v := v1) rfl
  have c6_U_0 := U_4.out.at 0 (v := .int .i64 t) rfl
  have c6_U_1 := U_4.out.at 1 (v := .int .i64 z) rfl
  have c6_U_2 := U_4.out.at 2 (v := v2) rfl
  go_wp2_with fail
  go_ret
  exact ⟨rfl, HB_4.out⟩
end Go.Proofs.Ytkijfneaglogmaa
