/-
  The law of the window of the source: a pushed item is held under the number of its packet.
-/
import Derived.Test.YtkijfneaglogmaaSndL
import Derived.Test.YtkijfneaglogmaaDrawSnd2
import Derived.Test.YtkijfneaglogmaaSndI3
import Derived.Test.YtkijfneaglogmaaSnd4
import Derived.Test.YtkijfneaglogmaaSnd6
import Derived.Test.YtkijfneaglogmaaVHas
import Derived.Test.YtkijfneaglogmaaBig
import Derived.Test.YtkijfneaglogmaaSer3
import Derived.Deep.CutRange
import Derived.BigQuiet
import Derived.WalkLawsBesides
import Derived.Deep.RegionHeld3
namespace Go.Proofs.Ytkijfneaglogmaa
open Go.RowKit Go.Lib Go.Joins
set_option linter.unusedVariables false

set_option maxRecDepth 100000 in
set_option maxHeartbeats 16000000 in
theorem fnSendWindow_walk (w : World) (v0 : Value) (z0 : List Int) (w0 : Row w v0 z0.length (z0.map (Value.int .u8))) (b0 : ∀ z ∈ z0, (Lit.int .u8 z).wf = true) (_hsh : w.ShapedOpen Try.prog) :
    Calls Try.prog 3 #[v0] w fun e w' => e = .returned (.bool true) ∧ Below w.heap.size w w' := by
  clear _hsh
  have hz : ∀ x ∈ z0, 0 ≤ x ∧ x < 256 := fun x hx => by have := bounds_u8 (b0 x hx); omega
  by_cases hbig : (65536 : Int) < z0.length
  · have HV := Lib.hid (vBig_row v0 _ _ true w0 (decide_eq_true hbig))
    clear w0 b0 hz
    go_enter Try.func3, Try.ntmps3
    go_wp2_with fail
    refine (HV.out _).mono ?_
    rintro e _ ⟨rfl, rfl⟩
    go_wp2_with fail
    go_ret
    exact ⟨rfl, Below.refl _ _⟩
  have HV := Lib.hid (vBig_row v0 _ _ false w0 (decide_eq_false hbig))
  have HR := Lib.hid w0
  have HD1 := Lib.hid (fun w hr => drawPush9_any v0 z0 w hr hz)
  have HD2 := Lib.hid (fun w hr => drawHeld_any v0 z0 w hr hz)
  clear w0 b0 hz hbig
  go_enter Try.func3, Try.ntmps3
  go_wp2_with fail
  refine (HV.out _).mono ?_
  rintro e _ ⟨rfl, rfl⟩
  clear HV
  go_wp2_with fail
  refine (HD1.out _ (HR.out.below (Below.refl _ _) (Nat.le_refl _))).mono ?_
  rintro e W7 ⟨v_l, l, s, rfl, o_l, hq1, hs1, l7⟩
  obtain ⟨a_l, c_l, rfl, _, _⟩ := own_someS0 o_l
  have O_l := Lib.hid o_l
  clear o_l
  have HB_8 := Lib.hid l7
  clear l7
  clear HD1
  go_upto_region 4 with fail
  obtain ⟨W9, hW9⟩ : ∃ W9, W9 = W7.alloc (.cells #[.int .i64 l.t, .int .i64 l.z, .slice a_l l.q.length c_l] 26) := ⟨_, rfl⟩
  have l9 : Below W7.heap.size W7 W9 := by rw [hW9]; exact (Below.refl _ _).alloc (Nat.le_refl _) _
  have X9_T3 : Hid (Bx W9 W7.heap.size #[.int .i64 l.t, .int .i64 l.z, .slice a_l l.q.length c_l] 26) := Lib.hid (by rw [hW9]; exact Bx.new _ _ _)
  rw [← hW9]
  clear hW9
  have BX_T3_l : Hid (∀ k, (.slice a_l l.q.length c_l : Value).ownBlock = some k → k ≠ W7.heap.size) := Lib.hid (fun k h1 h2 => absurd (O_l.out.lt k h1).2 (by omega))
  have HG_T3 : Hid (w.heap.size ≤ W7.heap.size) := Lib.hid HB_8.out.size
  obtain ⟨R_T3, hR_T3⟩ : ∃ X, X = W7.heap.size := ⟨_, rfl⟩
  rw [← hR_T3] at X9_T3 HG_T3 BX_T3_l ⊢
  clear hR_T3
  have HB_10 := Lib.hid (HB_8.out.trans (l9.mono HB_8.out.size))
  have l_10 := Lib.hid (own_below O_l.out l9 (Nat.le_refl _))
  clear O_l
  clear l9
  have c11_T3_0 := X9_T3.out.at 0 (v := .int .i64 l.t) rfl
  have c11_T3_1 := X9_T3.out.at 1 (v := .int .i64 l.z) rfl
  have c11_T3_2 := X9_T3.out.at 2 (v := .slice a_l l.q.length c_l) rfl
  have HM1 : Hid (∀ u ∈ l.q, u.size ≤ maxLen) := Lib.hid (fun u hu => le_maxLen9 (hq1.2 u hu))
  have HPi := Lib.hid (fun W h hfa => implPush_any (.slice a_l l.q.length c_l) l s W h HM1.out (le_maxLen9 hs1) hfa)
  have HPs := Lib.hid (fun W h hfa => specPush_any (.slice a_l l.q.length c_l) l s W h HM1.out (le_maxLen9 hs1) hfa)
  have HVi := Lib.hid (fun W h => implIsSw_any (.slice a_l l.q.length c_l) l W h HM1.out)
  have HVs := Lib.hid (fun W h => specIsSw_any (.slice a_l l.q.length c_l) l W h HM1.out)
  have HLi := Lib.hid (fun W h => implLead_any (.slice a_l l.q.length c_l) l W h HM1.out)
  have HF := Lib.hid (@push_law9 l s hs1 hq1.2)
  generalize pushV l s = m at HPi HPs HF
  generalize pushP l s = p at HPi HPs HF
  generalize pushOk l s = ok at HPi HPs HF
  generalize swOk l = fine at HVi HVs HLi HF
  generalize leadV l = ld at HLi HF
  go_wp2_with fail
  refine (HPi.out _ (row_own l_10.out) (fitA_own l_10.out)).mono ?_
  rintro e W12 ⟨v_m, rfl, o_m, l12⟩
  obtain ⟨a_m, c_m, rfl, _, _⟩ := own_someS0 o_m
  have O_m := Lib.hid (own_base o_m HB_10.out.size)
  have BX_T3_m : Hid (∀ k, (.slice a_m m.q.length c_m : Value).ownBlock = some k → k ≠ R_T3) := Lib.hid (fun k h1 h2 => absurd X9_T3.out.lt (Nat.not_lt.2 (by rw [← h2]; exact (o_m.lt k h1).1)))
  clear o_m
  clear c11_T3_0 c11_T3_1 c11_T3_2
  have HB_13 := Lib.hid (HB_10.out.trans (l12.mono HB_10.out.size))
  have l_13 := Lib.hid (own_below l_10.out l12 (Nat.le_refl _))
  clear l_10
  have T3_13 := Lib.hid (X9_T3.out.below l12 X9_T3.out.lt)
  clear X9_T3
  clear l12
  have c14_T3_0 := T3_13.out.at 0 (v := .int .i64 l.t) rfl
  have c14_T3_1 := T3_13.out.at 1 (v := .int .i64 l.z) rfl
  have c14_T3_2 := T3_13.out.at 2 (v := .slice a_l l.q.length c_l) rfl
  clear HPi
  go_upto_region 5 with fail
  obtain ⟨W15, hW15⟩ : ∃ W15, W15 = (W12.alloc (.cells #[.int .i64 m.t, .int .i64 m.z, .slice a_m m.q.length c_m] 26)).alloc (.cells #[.int .i64 p.k, .int .i64 p.n, .int .i64 p.t, .int .i64 p.l, .string p.d] 30) := ⟨_, rfl⟩
  have l15 : Below W12.heap.size W12 W15 := by rw [hW15]; exact ((Below.refl _ _).alloc (Nat.le_refl _) _).alloc (by simp) _
  have X15_T5 : Hid (Bx W15 W12.heap.size #[.int .i64 m.t, .int .i64 m.z, .slice a_m m.q.length c_m] 26) := Lib.hid (by rw [hW15]; exact (Bx.new2 _ _ _ _ _).1)
  have X15_P6 : Hid (Bx W15 (W12.heap.size + 1) #[.int .i64 p.k, .int .i64 p.n, .int .i64 p.t, .int .i64 p.l, .string p.d] 30) := Lib.hid (by rw [hW15]; exact (Bx.new2 _ _ _ _ _).2)
  rw [← hW15]
  clear hW15
  have BX_T5_l : Hid (∀ k, (.slice a_l l.q.length c_l : Value).ownBlock = some k → k ≠ W12.heap.size) := Lib.hid (fun k h1 h2 => absurd (l_13.out.lt k h1).2 (by omega))
  have BX_T5_m : Hid (∀ k, (.slice a_m m.q.length c_m : Value).ownBlock = some k → k ≠ W12.heap.size) := Lib.hid (fun k h1 h2 => absurd (O_m.out.lt k h1).2 (by omega))
  have HG_T5 : Hid (w.heap.size ≤ W12.heap.size) := Lib.hid (HB_13.out.size)
  have HN_T5_T3 : Hid (R_T3 < W12.heap.size) := Lib.hid (T3_13.out.lt)
  have BX_P6_l : Hid (∀ k, (.slice a_l l.q.length c_l : Value).ownBlock = some k → k ≠ (W12.heap.size + 1)) := Lib.hid (fun k h1 h2 => absurd (l_13.out.lt k h1).2 (by omega))
  have BX_P6_m : Hid (∀ k, (.slice a_m m.q.length c_m : Value).ownBlock = some k → k ≠ (W12.heap.size + 1)) := Lib.hid (fun k h1 h2 => absurd (O_m.out.lt k h1).2 (by omega))
  have HG_P6 : Hid (w.heap.size ≤ (W12.heap.size + 1)) := Lib.hid (Nat.le_succ_of_le HB_13.out.size)
  have HN_P6_T3 : Hid (R_T3 < (W12.heap.size + 1)) := Lib.hid (Nat.lt_succ_of_lt T3_13.out.lt)
  have HN_P6_T5 : Hid (W12.heap.size < W12.heap.size + 1) := Lib.hid (Nat.lt_succ_self _)
  obtain ⟨R_P6, hR_P6⟩ : ∃ X, X = W12.heap.size + 1 := ⟨_, rfl⟩
  rw [← hR_P6] at X15_P6 HG_P6 HN_P6_T5 BX_P6_l BX_P6_m HN_P6_T3 ⊢
  clear hR_P6
  obtain ⟨R_T5, hR_T5⟩ : ∃ X, X = W12.heap.size := ⟨_, rfl⟩
  rw [← hR_T5] at X15_T5 HG_T5 HN_P6_T5 BX_T5_l BX_T5_m HN_T5_T3 ⊢
  clear hR_T5
  clear c14_T3_0 c14_T3_1 c14_T3_2
  have HB_16 := Lib.hid (HB_13.out.trans (l15.mono HB_13.out.size))
  have l_16 := Lib.hid (own_below l_13.out l15 (Nat.le_refl _))
  clear l_13
  have m_16 := Lib.hid (own_below O_m.out l15 (Nat.le_refl _))
  clear O_m
  have T3_16 := Lib.hid (T3_13.out.below l15 T3_13.out.lt)
  clear T3_13
  clear l15
  have c17_T3_0 := T3_16.out.at 0 (v := .int .i64 l.t) rfl
  have c17_T3_1 := T3_16.out.at 1 (v := .int .i64 l.z) rfl
  have c17_T3_2 := T3_16.out.at 2 (v := .slice a_l l.q.length c_l) rfl
  have c18_T5_0 := X15_T5.out.at 0 (v := .int .i64 m.t) rfl
  have c18_T5_1 := X15_T5.out.at 1 (v := .int .i64 m.z) rfl
  have c18_T5_2 := X15_T5.out.at 2 (v := .slice a_m m.q.length c_m) rfl
  have c19_P6_0 := X15_P6.out.at 0 (v := .int .i64 p.k) rfl
  have c19_P6_1 := X15_P6.out.at 1 (v := .int .i64 p.n) rfl
  have c19_P6_2 := X15_P6.out.at 2 (v := .int .i64 p.t) rfl
  have c19_P6_3 := X15_P6.out.at 3 (v := .int .i64 p.l) rfl
  have c19_P6_4 := X15_P6.out.at 4 (v := .string p.d) rfl
  go_wp2_with fail
  refine (HPs.out _ (row_own l_16.out) (fitA_own l_16.out)).mono ?_
  rintro e W20 ⟨v_u, rfl, o_u, l20⟩
  obtain ⟨a_u, c_u, rfl, _, _⟩ := own_someS0 o_u
  have O_u := Lib.hid (own_base o_u HB_16.out.size)
  have BX_T3_u : Hid (∀ k, (.slice a_u m.q.length c_u : Value).ownBlock = some k → k ≠ R_T3) := Lib.hid (fun k h1 h2 => absurd T3_16.out.lt (Nat.not_lt.2 (by rw [← h2]; exact (o_u.lt k h1).1)))
  have BX_T5_u : Hid (∀ k, (.slice a_u m.q.length c_u : Value).ownBlock = some k → k ≠ R_T5) := Lib.hid (fun k h1 h2 => absurd X15_T5.out.lt (Nat.not_lt.2 (by rw [← h2]; exact (o_u.lt k h1).1)))
  have BX_P6_u : Hid (∀ k, (.slice a_u m.q.length c_u : Value).ownBlock = some k → k ≠ R_P6) := Lib.hid (fun k h1 h2 => absurd X15_P6.out.lt (Nat.not_lt.2 (by rw [← h2]; exact (o_u.lt k h1).1)))
  clear o_u
  clear c17_T3_0 c17_T3_1 c17_T3_2
  clear c18_T5_0 c18_T5_1 c18_T5_2
  clear c19_P6_0 c19_P6_1 c19_P6_2 c19_P6_3 c19_P6_4
  have HB_21 := Lib.hid (HB_16.out.trans (l20.mono HB_16.out.size))
  have l_21 := Lib.hid (own_below l_16.out l20 (Nat.le_refl _))
  clear l_16
  have m_21 := Lib.hid (own_below m_16.out l20 (Nat.le_refl _))
  clear m_16
  have T3_21 := Lib.hid (T3_16.out.below l20 T3_16.out.lt)
  clear T3_16
  have T5_21 := Lib.hid (X15_T5.out.below l20 X15_T5.out.lt)
  clear X15_T5
  have P6_21 := Lib.hid (X15_P6.out.below l20 X15_P6.out.lt)
  clear X15_P6
  clear l20
  have c22_T3_0 := T3_21.out.at 0 (v := .int .i64 l.t) rfl
  have c22_T3_1 := T3_21.out.at 1 (v := .int .i64 l.z) rfl
  have c22_T3_2 := T3_21.out.at 2 (v := .slice a_l l.q.length c_l) rfl
  have c23_T5_0 := T5_21.out.at 0 (v := .int .i64 m.t) rfl
  have c23_T5_1 := T5_21.out.at 1 (v := .int .i64 m.z) rfl
  have c23_T5_2 := T5_21.out.at 2 (v := .slice a_m m.q.length c_m) rfl
  have c24_P6_0 := P6_21.out.at 0 (v := .int .i64 p.k) rfl
  have c24_P6_1 := P6_21.out.at 1 (v := .int .i64 p.n) rfl
  have c24_P6_2 := P6_21.out.at 2 (v := .int .i64 p.t) rfl
  have c24_P6_3 := P6_21.out.at 3 (v := .int .i64 p.l) rfl
  have c24_P6_4 := P6_21.out.at 4 (v := .string p.d) rfl
  clear HPs
  go_upto_region 6 with fail
  obtain ⟨W25, hW25⟩ : ∃ W25, W25 = (W20.alloc (.cells #[.int .i64 m.t, .int .i64 m.z, .slice a_u m.q.length c_u] 26)).alloc (.cells #[.int .i64 p.k, .int .i64 p.n, .int .i64 p.t, .int .i64 p.l, .string p.d] 30) := ⟨_, rfl⟩
  have l25 : Below W20.heap.size W20 W25 := by rw [hW25]; exact ((Below.refl _ _).alloc (Nat.le_refl _) _).alloc (by simp) _
  have X25_T8 : Hid (Bx W25 W20.heap.size #[.int .i64 m.t, .int .i64 m.z, .slice a_u m.q.length c_u] 26) := Lib.hid (by rw [hW25]; exact (Bx.new2 _ _ _ _ _).1)
  have X25_P9 : Hid (Bx W25 (W20.heap.size + 1) #[.int .i64 p.k, .int .i64 p.n, .int .i64 p.t, .int .i64 p.l, .string p.d] 30) := Lib.hid (by rw [hW25]; exact (Bx.new2 _ _ _ _ _).2)
  rw [← hW25]
  clear hW25
  have BX_T8_l : Hid (∀ k, (.slice a_l l.q.length c_l : Value).ownBlock = some k → k ≠ W20.heap.size) := Lib.hid (fun k h1 h2 => absurd (l_21.out.lt k h1).2 (by omega))
  have BX_T8_m : Hid (∀ k, (.slice a_m m.q.length c_m : Value).ownBlock = some k → k ≠ W20.heap.size) := Lib.hid (fun k h1 h2 => absurd (m_21.out.lt k h1).2 (by omega))
  have BX_T8_u : Hid (∀ k, (.slice a_u m.q.length c_u : Value).ownBlock = some k → k ≠ W20.heap.size) := Lib.hid (fun k h1 h2 => absurd (O_u.out.lt k h1).2 (by omega))
  have HG_T8 : Hid (w.heap.size ≤ W20.heap.size) := Lib.hid (HB_21.out.size)
  have HN_T8_T3 : Hid (R_T3 < W20.heap.size) := Lib.hid (T3_21.out.lt)
  have HN_T8_T5 : Hid (R_T5 < W20.heap.size) := Lib.hid (T5_21.out.lt)
  have HN_T8_P6 : Hid (R_P6 < W20.heap.size) := Lib.hid (P6_21.out.lt)
  have BX_P9_l : Hid (∀ k, (.slice a_l l.q.length c_l : Value).ownBlock = some k → k ≠ (W20.heap.size + 1)) := Lib.hid (fun k h1 h2 => absurd (l_21.out.lt k h1).2 (by omega))
  have BX_P9_m : Hid (∀ k, (.slice a_m m.q.length c_m : Value).ownBlock = some k → k ≠ (W20.heap.size + 1)) := Lib.hid (fun k h1 h2 => absurd (m_21.out.lt k h1).2 (by omega))
  have BX_P9_u : Hid (∀ k, (.slice a_u m.q.length c_u : Value).ownBlock = some k → k ≠ (W20.heap.size + 1)) := Lib.hid (fun k h1 h2 => absurd (O_u.out.lt k h1).2 (by omega))
  have HG_P9 : Hid (w.heap.size ≤ (W20.heap.size + 1)) := Lib.hid (Nat.le_succ_of_le HB_21.out.size)
  have HN_P9_T3 : Hid (R_T3 < (W20.heap.size + 1)) := Lib.hid (Nat.lt_succ_of_lt T3_21.out.lt)
  have HN_P9_T5 : Hid (R_T5 < (W20.heap.size + 1)) := Lib.hid (Nat.lt_succ_of_lt T5_21.out.lt)
  have HN_P9_P6 : Hid (R_P6 < (W20.heap.size + 1)) := Lib.hid (Nat.lt_succ_of_lt P6_21.out.lt)
  have HN_P9_T8 : Hid (W20.heap.size < W20.heap.size + 1) := Lib.hid (Nat.lt_succ_self _)
  obtain ⟨R_P9, hR_P9⟩ : ∃ X, X = W20.heap.size + 1 := ⟨_, rfl⟩
  rw [← hR_P9] at X25_P9 HG_P9 HN_P9_T8 BX_P9_l BX_P9_m BX_P9_u HN_P9_T3 HN_P9_T5 HN_P9_P6 ⊢
  clear hR_P9
  obtain ⟨R_T8, hR_T8⟩ : ∃ X, X = W20.heap.size := ⟨_, rfl⟩
  rw [← hR_T8] at X25_T8 HG_T8 HN_P9_T8 BX_T8_l BX_T8_m BX_T8_u HN_T8_T3 HN_T8_T5 HN_T8_P6 ⊢
  clear hR_T8
  clear c22_T3_0 c22_T3_1 c22_T3_2
  clear c23_T5_0 c23_T5_1 c23_T5_2
  clear c24_P6_0 c24_P6_1 c24_P6_2 c24_P6_3 c24_P6_4
  have HB_26 := Lib.hid (HB_21.out.trans (l25.mono HB_21.out.size))
  have l_26 := Lib.hid (own_below l_21.out l25 (Nat.le_refl _))
  clear l_21
  have m_26 := Lib.hid (own_below m_21.out l25 (Nat.le_refl _))
  clear m_21
  have u_26 := Lib.hid (own_below O_u.out l25 (Nat.le_refl _))
  clear O_u
  have T3_26 := Lib.hid (T3_21.out.below l25 T3_21.out.lt)
  clear T3_21
  have T5_26 := Lib.hid (T5_21.out.below l25 T5_21.out.lt)
  clear T5_21
  have P6_26 := Lib.hid (P6_21.out.below l25 P6_21.out.lt)
  clear P6_21
  clear l25
  have c27_T3_0 := T3_26.out.at 0 (v := .int .i64 l.t) rfl
  have c27_T3_1 := T3_26.out.at 1 (v := .int .i64 l.z) rfl
  have c27_T3_2 := T3_26.out.at 2 (v := .slice a_l l.q.length c_l) rfl
  have c28_T5_0 := T5_26.out.at 0 (v := .int .i64 m.t) rfl
  have c28_T5_1 := T5_26.out.at 1 (v := .int .i64 m.z) rfl
  have c28_T5_2 := T5_26.out.at 2 (v := .slice a_m m.q.length c_m) rfl
  have c29_P6_0 := P6_26.out.at 0 (v := .int .i64 p.k) rfl
  have c29_P6_1 := P6_26.out.at 1 (v := .int .i64 p.n) rfl
  have c29_P6_2 := P6_26.out.at 2 (v := .int .i64 p.t) rfl
  have c29_P6_3 := P6_26.out.at 3 (v := .int .i64 p.l) rfl
  have c29_P6_4 := P6_26.out.at 4 (v := .string p.d) rfl
  have c30_T8_0 := X25_T8.out.at 0 (v := .int .i64 m.t) rfl
  have c30_T8_1 := X25_T8.out.at 1 (v := .int .i64 m.z) rfl
  have c30_T8_2 := X25_T8.out.at 2 (v := .slice a_u m.q.length c_u) rfl
  have c31_P9_0 := X25_P9.out.at 0 (v := .int .i64 p.k) rfl
  have c31_P9_1 := X25_P9.out.at 1 (v := .int .i64 p.n) rfl
  have c31_P9_2 := X25_P9.out.at 2 (v := .int .i64 p.t) rfl
  have c31_P9_3 := X25_P9.out.at 3 (v := .int .i64 p.l) rfl
  have c31_P9_4 := X25_P9.out.at 4 (v := .string p.d) rfl
  go_upto_region 6 with fail
  go_cut [74] from 54 to 74 (fun b wx => b = .bool false ∧ Hid (Below W25.heap.size W25 wx))
  case first => as_aux_lemma =>
    have HK1 := Lib.hid (fun (w' : World) (hb : Below W25.heap.size W25 w') => (show w'.cell? ⟨R_T3, 0, none⟩ = some (.int .i64 l.t) ∧ w'.cell? ⟨R_T3, 1, none⟩ = some (.int .i64 l.z) ∧ w'.cell? ⟨R_T3, 2, none⟩ = some (.slice a_l l.q.length c_l) ∧ w'.cell? ⟨R_T5, 0, none⟩ = some (.int .i64 m.t) ∧ w'.cell? ⟨R_T5, 1, none⟩ = some (.int .i64 m.z) ∧ w'.cell? ⟨R_T5, 2, none⟩ = some (.slice a_m m.q.length c_m) ∧ w'.cell? ⟨R_T8, 0, none⟩ = some (.int .i64 m.t) ∧ w'.cell? ⟨R_T8, 1, none⟩ = some (.int .i64 m.z) ∧ w'.cell? ⟨R_T8, 2, none⟩ = some (.slice a_u m.q.length c_u) ∧ w'.cell? ⟨R_P6, 0, none⟩ = some (.int .i64 p.k) ∧ w'.cell? ⟨R_P6, 1, none⟩ = some (.int .i64 p.n) ∧ w'.cell? ⟨R_P6, 2, none⟩ = some (.int .i64 p.t) ∧ w'.cell? ⟨R_P6, 3, none⟩ = some (.int .i64 p.l) ∧ w'.cell? ⟨R_P6, 4, none⟩ = some (.string p.d) ∧ w'.cell? ⟨R_P9, 0, none⟩ = some (.int .i64 p.k) ∧ w'.cell? ⟨R_P9, 1, none⟩ = some (.int .i64 p.n) ∧ w'.cell? ⟨R_P9, 2, none⟩ = some (.int .i64 p.t) ∧ w'.cell? ⟨R_P9, 3, none⟩ = some (.int .i64 p.l) ∧ w'.cell? ⟨R_P9, 4, none⟩ = some (.string p.d) ∧ Below w.heap.size w w' from ⟨(hb.cell (p := ⟨R_T3, 0, none⟩) T3_26.out.lt).trans (T3_26.out.at 0 (v := .int .i64 l.t) rfl), (hb.cell (p := ⟨R_T3, 1, none⟩) T3_26.out.lt).trans (T3_26.out.at 1 (v := .int .i64 l.z) rfl), (hb.cell (p := ⟨R_T3, 2, none⟩) T3_26.out.lt).trans (T3_26.out.at 2 (v := .slice a_l l.q.length c_l) rfl), (hb.cell (p := ⟨R_T5, 0, none⟩) T5_26.out.lt).trans (T5_26.out.at 0 (v := .int .i64 m.t) rfl), (hb.cell (p := ⟨R_T5, 1, none⟩) T5_26.out.lt).trans (T5_26.out.at 1 (v := .int .i64 m.z) rfl), (hb.cell (p := ⟨R_T5, 2, none⟩) T5_26.out.lt).trans (T5_26.out.at 2 (v := .slice a_m m.q.length c_m) rfl), (hb.cell (p := ⟨R_T8, 0, none⟩) X25_T8.out.lt).trans (X25_T8.out.at 0 (v := .int .i64 m.t) rfl), (hb.cell (p := ⟨R_T8, 1, none⟩) X25_T8.out.lt).trans (X25_T8.out.at 1 (v := .int .i64 m.z) rfl), (hb.cell (p := ⟨R_T8, 2, none⟩) X25_T8.out.lt).trans (X25_T8.out.at 2 (v := .slice a_u m.q.length c_u) rfl), (hb.cell (p := ⟨R_P6, 0, none⟩) P6_26.out.lt).trans (P6_26.out.at 0 (v := .int .i64 p.k) rfl), (hb.cell (p := ⟨R_P6, 1, none⟩) P6_26.out.lt).trans (P6_26.out.at 1 (v := .int .i64 p.n) rfl), (hb.cell (p := ⟨R_P6, 2, none⟩) P6_26.out.lt).trans (P6_26.out.at 2 (v := .int .i64 p.t) rfl), (hb.cell (p := ⟨R_P6, 3, none⟩) P6_26.out.lt).trans (P6_26.out.at 3 (v := .int .i64 p.l) rfl), (hb.cell (p := ⟨R_P6, 4, none⟩) P6_26.out.lt).trans (P6_26.out.at 4 (v := .string p.d) rfl), (hb.cell (p := ⟨R_P9, 0, none⟩) X25_P9.out.lt).trans (X25_P9.out.at 0 (v := .int .i64 p.k) rfl), (hb.cell (p := ⟨R_P9, 1, none⟩) X25_P9.out.lt).trans (X25_P9.out.at 1 (v := .int .i64 p.n) rfl), (hb.cell (p := ⟨R_P9, 2, none⟩) X25_P9.out.lt).trans (X25_P9.out.at 2 (v := .int .i64 p.t) rfl), (hb.cell (p := ⟨R_P9, 3, none⟩) X25_P9.out.lt).trans (X25_P9.out.at 3 (v := .int .i64 p.l) rfl), (hb.cell (p := ⟨R_P9, 4, none⟩) X25_P9.out.lt).trans (X25_P9.out.at 4 (v := .string p.d) rfl), HB_26.out.trans (hb.mono HB_26.out.size)⟩))
    go_region_held3 (fun w' => w'.cell? ⟨R_T3, 0, none⟩ = some (.int .i64 l.t) ∧ w'.cell? ⟨R_T3, 1, none⟩ = some (.int .i64 l.z) ∧ w'.cell? ⟨R_T3, 2, none⟩ = some (.slice a_l l.q.length c_l) ∧ w'.cell? ⟨R_T5, 0, none⟩ = some (.int .i64 m.t) ∧ w'.cell? ⟨R_T5, 1, none⟩ = some (.int .i64 m.z) ∧ w'.cell? ⟨R_T5, 2, none⟩ = some (.slice a_m m.q.length c_m) ∧ w'.cell? ⟨R_T8, 0, none⟩ = some (.int .i64 m.t) ∧ w'.cell? ⟨R_T8, 1, none⟩ = some (.int .i64 m.z) ∧ w'.cell? ⟨R_T8, 2, none⟩ = some (.slice a_u m.q.length c_u) ∧ w'.cell? ⟨R_P6, 0, none⟩ = some (.int .i64 p.k) ∧ w'.cell? ⟨R_P6, 1, none⟩ = some (.int .i64 p.n) ∧ w'.cell? ⟨R_P6, 2, none⟩ = some (.int .i64 p.t) ∧ w'.cell? ⟨R_P6, 3, none⟩ = some (.int .i64 p.l) ∧ w'.cell? ⟨R_P6, 4, none⟩ = some (.string p.d) ∧ w'.cell? ⟨R_P9, 0, none⟩ = some (.int .i64 p.k) ∧ w'.cell? ⟨R_P9, 1, none⟩ = some (.int .i64 p.n) ∧ w'.cell? ⟨R_P9, 2, none⟩ = some (.int .i64 p.t) ∧ w'.cell? ⟨R_P9, 3, none⟩ = some (.int .i64 p.l) ∧ w'.cell? ⟨R_P9, 4, none⟩ = some (.string p.d) ∧ Below w.heap.size w w')
      ((first | (with_reducible refine HK1.out _ ?_; (repeat (first | with_reducible assumption | with_reducible exact Below.refl _ _ | with_reducible refine Below.drew ?_ | with_reducible refine below_alloc' ?_)); done)))
      (first
        | (go_at_call 18; refine (vWin_same _ _ m _ (row_own (own_below m_26.out (by repeat (first | with_reducible assumption | with_reducible exact Below.refl _ _ | with_reducible refine Below.drew ?_ | with_reducible refine below_alloc' ?_) : Below W25.heap.size W25 _) (Nat.le_refl _))) (row_own (own_below u_26.out (by repeat (first | with_reducible assumption | with_reducible exact Below.refl _ _ | with_reducible refine Below.drew ?_ | with_reducible refine below_alloc' ?_) : Below W25.heap.size W25 _) (Nat.le_refl _)))).mono ?_; rintro e w5 ⟨rfl, l5⟩; have hb5 := below_call7 (by repeat (first | with_reducible assumption | with_reducible exact Below.refl _ _ | with_reducible refine Below.drew ?_ | with_reducible refine below_alloc' ?_) : Below W25.heap.size W25 _) l5; clear l5)
        | (go_at_call 19; refine (HVi.out _ (row_own (own_below l_26.out (by repeat (first | with_reducible assumption | with_reducible exact Below.refl _ _ | with_reducible refine Below.drew ?_ | with_reducible refine below_alloc' ?_) : Below W25.heap.size W25 _) (Nat.le_refl _)))).mono ?_; rintro e w6 ⟨rfl, l6⟩; have hb6 := below_call7 (by repeat (first | with_reducible assumption | with_reducible exact Below.refl _ _ | with_reducible refine Below.drew ?_ | with_reducible refine below_alloc' ?_) : Below W25.heap.size W25 _) l6; clear l6)
        | (go_at_call 20; refine (HVs.out _ (row_own (own_below l_26.out (by repeat (first | with_reducible assumption | with_reducible exact Below.refl _ _ | with_reducible refine Below.drew ?_ | with_reducible refine below_alloc' ?_) : Below W25.heap.size W25 _) (Nat.le_refl _)))).mono ?_; rintro e w7 ⟨rfl, l7⟩; have hb7 := below_call7 (by repeat (first | with_reducible assumption | with_reducible exact Below.refl _ _ | with_reducible refine Below.drew ?_ | with_reducible refine below_alloc' ?_) : Below W25.heap.size W25 _) l7; clear l7))
    all_goals go_wp2_with fail
    all_goals go_meet
    all_goals
      case rel => exact ⟨by simp, Lib.hid (by repeat (first | with_reducible assumption | with_reducible exact Below.refl _ _ | with_reducible refine Below.drew ?_ | with_reducible refine below_alloc' ?_))⟩
  case rest => as_aux_lemma =>
    obtain ⟨rfl, HCut⟩ := hcut
    rename World => W32
    have l32 := HCut.out
    clear HCut
    clear c27_T3_0 c27_T3_1 c27_T3_2
    clear c28_T5_0 c28_T5_1 c28_T5_2
    clear c29_P6_0 c29_P6_1 c29_P6_2 c29_P6_3 c29_P6_4
    clear c30_T8_0 c30_T8_1 c30_T8_2
    clear c31_P9_0 c31_P9_1 c31_P9_2 c31_P9_3 c31_P9_4
    have HB_33 := Lib.hid (HB_26.out.trans (l32.mono HB_26.out.size))
    have l_33 := Lib.hid (own_below l_26.out l32 (Nat.le_refl _))
    clear l_26
    have m_33 := Lib.hid (own_below m_26.out l32 (Nat.le_refl _))
    clear m_26
    have u_33 := Lib.hid (own_below u_26.out l32 (Nat.le_refl _))
    clear u_26
    have T3_33 := Lib.hid (T3_26.out.below l32 T3_26.out.lt)
    clear T3_26
    have T5_33 := Lib.hid (T5_26.out.below l32 T5_26.out.lt)
    clear T5_26
    have P6_33 := Lib.hid (P6_26.out.below l32 P6_26.out.lt)
    clear P6_26
    have T8_33 := Lib.hid (X25_T8.out.below l32 X25_T8.out.lt)
    clear X25_T8
    have P9_33 := Lib.hid (X25_P9.out.below l32 X25_P9.out.lt)
    clear X25_P9
    clear l32
    have c34_T3_0 := T3_33.out.at 0 (v := .int .i64 l.t) rfl
    have c34_T3_1 := T3_33.out.at 1 (v := .int .i64 l.z) rfl
    have c34_T3_2 := T3_33.out.at 2 (v := .slice a_l l.q.length c_l) rfl
    have c35_T5_0 := T5_33.out.at 0 (v := .int .i64 m.t) rfl
    have c35_T5_1 := T5_33.out.at 1 (v := .int .i64 m.z) rfl
    have c35_T5_2 := T5_33.out.at 2 (v := .slice a_m m.q.length c_m) rfl
    have c36_P6_0 := P6_33.out.at 0 (v := .int .i64 p.k) rfl
    have c36_P6_1 := P6_33.out.at 1 (v := .int .i64 p.n) rfl
    have c36_P6_2 := P6_33.out.at 2 (v := .int .i64 p.t) rfl
    have c36_P6_3 := P6_33.out.at 3 (v := .int .i64 p.l) rfl
    have c36_P6_4 := P6_33.out.at 4 (v := .string p.d) rfl
    have c37_T8_0 := T8_33.out.at 0 (v := .int .i64 m.t) rfl
    have c37_T8_1 := T8_33.out.at 1 (v := .int .i64 m.z) rfl
    have c37_T8_2 := T8_33.out.at 2 (v := .slice a_u m.q.length c_u) rfl
    have c38_P9_0 := P9_33.out.at 0 (v := .int .i64 p.k) rfl
    have c38_P9_1 := P9_33.out.at 1 (v := .int .i64 p.n) rfl
    have c38_P9_2 := P9_33.out.at 2 (v := .int .i64 p.t) rfl
    have c38_P9_3 := P9_33.out.at 3 (v := .int .i64 p.l) rfl
    have c38_P9_4 := P9_33.out.at 4 (v := .string p.d) rfl
    clear u_33
    clear c37_T8_0 c37_T8_1 c37_T8_2
    clear T8_33
    clear c38_P9_0 c38_P9_1 c38_P9_2 c38_P9_3 c38_P9_4
    clear P9_33
    clear HVi HVs
    go_upto_if 75 with fail
    go_cut [] from 11 to 145 (fun wx => Hid (Below W32.heap.size W32 wx))
    case first => as_aux_lemma =>
      cases ok with
      | false =>
        have HZ := Lib.hid (Below.refl W32.heap.size W32)
        clear HF HLi
        go_wp2_with fail
        go_meet
        case rel => exact HZ
      | true =>
        obtain ⟨e1, e2, e3, e4, e5, e6, e7, e8, e9, hm9⟩ := HF.out rfl
        clear HF
        have HHm := Lib.hid (fun W h => implHeld_any (.slice a_m m.q.length c_m) m p.n W h hm9)
        have HLm := Lib.hid (fun W h => implLead_any (.slice a_m m.q.length c_m) m W h hm9)
        have HVm := Lib.hid (fun W h => implIsSw_any (.slice a_m m.q.length c_m) m W h hm9)
        have HGp := Lib.hid (fun W => implGap_any ld (leadV m) W)
        rw [e1, e2, e5] at HHm
        rw [e3] at HLi
        rw [e4] at HLm HVm
        rw [e6, e7] at HGp
        clear c36_P6_0 c36_P6_1 c36_P6_2 c36_P6_3 c36_P6_4
        have P6n := P6_33.out
        rw [e5, e8, e9] at P6n
        clear e1 e2 e3 e4 e5 e6 e7 e8 e9 hm9
        generalize leadV m = lm at HLm HGp P6n
        have P6h := Lib.hid P6n
        clear P6n
        clear c34_T3_0 c34_T3_1 c34_T3_2
        have c39_T3_0 := T3_33.out.at 0 (v := .int .i64 l.t) rfl
        have c39_T3_1 := T3_33.out.at 1 (v := .int .i64 l.z) rfl
        have c39_T3_2 := T3_33.out.at 2 (v := .slice a_l l.q.length c_l) rfl
        clear c35_T5_0 c35_T5_1 c35_T5_2
        have c40_T5_0 := T5_33.out.at 0 (v := .int .i64 m.t) rfl
        have c40_T5_1 := T5_33.out.at 1 (v := .int .i64 m.z) rfl
        have c40_T5_2 := T5_33.out.at 2 (v := .slice a_m m.q.length c_m) rfl
        have c41_P6_0 := P6h.out.at 0 (v := .int .i64 p.k) rfl
        have c41_P6_1 := P6h.out.at 1 (v := .int .i64 ld) rfl
        have c41_P6_2 := P6h.out.at 2 (v := .int .i64 m.t) rfl
        have c41_P6_3 := P6h.out.at 3 (v := .int .i64 lm) rfl
        have c41_P6_4 := P6h.out.at 4 (v := .string p.d) rfl
        have HZ := Lib.hid (Below.refl W32.heap.size W32)
        go_wp2_with fail
        refine (HHm.out _ (row_own m_33.out)).mono ?_
        rintro e W42 ⟨rfl, l42⟩
        clear c39_T3_0 c39_T3_1 c39_T3_2
        clear c40_T5_0 c40_T5_1 c40_T5_2
        clear c41_P6_0 c41_P6_1 c41_P6_2 c41_P6_3 c41_P6_4
        have HB_43 := Lib.hid (HZ.out.trans (l42.mono HZ.out.size))
        have l_43 := Lib.hid (own_below l_33.out l42 (Nat.le_refl _))
        clear l_33
        have m_43 := Lib.hid (own_below m_33.out l42 (Nat.le_refl _))
        clear m_33
        have T3_43 := Lib.hid (T3_33.out.below l42 T3_33.out.lt)
        clear T3_33
        have T5_43 := Lib.hid (T5_33.out.below l42 T5_33.out.lt)
        clear T5_33
        have P6_43 := Lib.hid (P6h.out.below l42 P6h.out.lt)
        clear l42
        have c44_T3_0 := T3_43.out.at 0 (v := .int .i64 l.t) rfl
        have c44_T3_1 := T3_43.out.at 1 (v := .int .i64 l.z) rfl
        have c44_T3_2 := T3_43.out.at 2 (v := .slice a_l l.q.length c_l) rfl
        have c45_T5_0 := T5_43.out.at 0 (v := .int .i64 m.t) rfl
        have c45_T5_1 := T5_43.out.at 1 (v := .int .i64 m.z) rfl
        have c45_T5_2 := T5_43.out.at 2 (v := .slice a_m m.q.length c_m) rfl
        have c46_P6_0 := P6_43.out.at 0 (v := .int .i64 p.k) rfl
        have c46_P6_1 := P6_43.out.at 1 (v := .int .i64 ld) rfl
        have c46_P6_2 := P6_43.out.at 2 (v := .int .i64 m.t) rfl
        have c46_P6_3 := P6_43.out.at 3 (v := .int .i64 lm) rfl
        have c46_P6_4 := P6_43.out.at 4 (v := .string p.d) rfl
        go_wp2_with fail
        refine (HLi.out _ (row_own l_43.out)).mono ?_
        rintro e W47 ⟨rfl, l47⟩
        clear c44_T3_0 c44_T3_1 c44_T3_2
        clear c45_T5_0 c45_T5_1 c45_T5_2
        clear c46_P6_0 c46_P6_1 c46_P6_2 c46_P6_3 c46_P6_4
        have HB_48 := Lib.hid (HB_43.out.trans (l47.mono HB_43.out.size))
        have l_48 := Lib.hid (own_below l_43.out l47 (Nat.le_refl _))
        clear l_43
        have m_48 := Lib.hid (own_below m_43.out l47 (Nat.le_refl _))
        clear m_43
        have T3_48 := Lib.hid (T3_43.out.below l47 T3_43.out.lt)
        clear T3_43
        have T5_48 := Lib.hid (T5_43.out.below l47 T5_43.out.lt)
        clear T5_43
        have P6_48 := Lib.hid (P6_43.out.below l47 P6_43.out.lt)
        clear P6_43
        clear l47
        have c49_T3_0 := T3_48.out.at 0 (v := .int .i64 l.t) rfl
        have c49_T3_1 := T3_48.out.at 1 (v := .int .i64 l.z) rfl
        have c49_T3_2 := T3_48.out.at 2 (v := .slice a_l l.q.length c_l) rfl
        have c50_T5_0 := T5_48.out.at 0 (v := .int .i64 m.t) rfl
        have c50_T5_1 := T5_48.out.at 1 (v := .int .i64 m.z) rfl
        have c50_T5_2 := T5_48.out.at 2 (v := .slice a_m m.q.length c_m) rfl
        have c51_P6_0 := P6_48.out.at 0 (v := .int .i64 p.k) rfl
        have c51_P6_1 := P6_48.out.at 1 (v := .int .i64 ld) rfl
        have c51_P6_2 := P6_48.out.at 2 (v := .int .i64 m.t) rfl
        have c51_P6_3 := P6_48.out.at 3 (v := .int .i64 lm) rfl
        have c51_P6_4 := P6_48.out.at 4 (v := .string p.d) rfl
        go_wp2_with fail
        refine (HLm.out _ (row_own m_48.out)).mono ?_
        rintro e W52 ⟨rfl, l52⟩
        clear c49_T3_0 c49_T3_1 c49_T3_2
        clear c50_T5_0 c50_T5_1 c50_T5_2
        clear c51_P6_0 c51_P6_1 c51_P6_2 c51_P6_3 c51_P6_4
        have HB_53 := Lib.hid (HB_48.out.trans (l52.mono HB_48.out.size))
        have l_53 := Lib.hid (own_below l_48.out l52 (Nat.le_refl _))
        clear l_48
        have m_53 := Lib.hid (own_below m_48.out l52 (Nat.le_refl _))
        clear m_48
        have T3_53 := Lib.hid (T3_48.out.below l52 T3_48.out.lt)
        clear T3_48
        have T5_53 := Lib.hid (T5_48.out.below l52 T5_48.out.lt)
        clear T5_48
        have P6_53 := Lib.hid (P6_48.out.below l52 P6_48.out.lt)
        clear P6_48
        clear l52
        have c54_T3_0 := T3_53.out.at 0 (v := .int .i64 l.t) rfl
        have c54_T3_1 := T3_53.out.at 1 (v := .int .i64 l.z) rfl
        have c54_T3_2 := T3_53.out.at 2 (v := .slice a_l l.q.length c_l) rfl
        have c55_T5_0 := T5_53.out.at 0 (v := .int .i64 m.t) rfl
        have c55_T5_1 := T5_53.out.at 1 (v := .int .i64 m.z) rfl
        have c55_T5_2 := T5_53.out.at 2 (v := .slice a_m m.q.length c_m) rfl
        have c56_P6_0 := P6_53.out.at 0 (v := .int .i64 p.k) rfl
        have c56_P6_1 := P6_53.out.at 1 (v := .int .i64 ld) rfl
        have c56_P6_2 := P6_53.out.at 2 (v := .int .i64 m.t) rfl
        have c56_P6_3 := P6_53.out.at 3 (v := .int .i64 lm) rfl
        have c56_P6_4 := P6_53.out.at 4 (v := .string p.d) rfl
        go_wp2_with fail
        refine (HGp.out _).mono ?_
        rintro e W57 ⟨rfl, l57⟩
        clear c54_T3_0 c54_T3_1 c54_T3_2
        clear c55_T5_0 c55_T5_1 c55_T5_2
        clear c56_P6_0 c56_P6_1 c56_P6_2 c56_P6_3 c56_P6_4
        have HB_58 := Lib.hid (HB_53.out.trans (l57.mono HB_53.out.size))
        have l_58 := Lib.hid (own_below l_53.out l57 (Nat.le_refl _))
        clear l_53
        have m_58 := Lib.hid (own_below m_53.out l57 (Nat.le_refl _))
        clear m_53
        have T3_58 := Lib.hid (T3_53.out.below l57 T3_53.out.lt)
        clear T3_53
        have T5_58 := Lib.hid (T5_53.out.below l57 T5_53.out.lt)
        clear T5_53
        have P6_58 := Lib.hid (P6_53.out.below l57 P6_53.out.lt)
        clear P6_53
        clear l57
        have c59_T3_0 := T3_58.out.at 0 (v := .int .i64 l.t) rfl
        have c59_T3_1 := T3_58.out.at 1 (v := .int .i64 l.z) rfl
        have c59_T3_2 := T3_58.out.at 2 (v := .slice a_l l.q.length c_l) rfl
        have c60_T5_0 := T5_58.out.at 0 (v := .int .i64 m.t) rfl
        have c60_T5_1 := T5_58.out.at 1 (v := .int .i64 m.z) rfl
        have c60_T5_2 := T5_58.out.at 2 (v := .slice a_m m.q.length c_m) rfl
        have c61_P6_0 := P6_58.out.at 0 (v := .int .i64 p.k) rfl
        have c61_P6_1 := P6_58.out.at 1 (v := .int .i64 ld) rfl
        have c61_P6_2 := P6_58.out.at 2 (v := .int .i64 m.t) rfl
        have c61_P6_3 := P6_58.out.at 3 (v := .int .i64 lm) rfl
        have c61_P6_4 := P6_58.out.at 4 (v := .string p.d) rfl
        go_wp2_with fail
        refine (HVm.out _ (row_own m_58.out)).mono ?_
        rintro e W62 ⟨rfl, l62⟩
        clear c59_T3_0 c59_T3_1 c59_T3_2
        clear c60_T5_0 c60_T5_1 c60_T5_2
        clear c61_P6_0 c61_P6_1 c61_P6_2 c61_P6_3 c61_P6_4
        have HB_63 := Lib.hid (HB_58.out.trans (l62.mono HB_58.out.size))
        have l_63 := Lib.hid (own_below l_58.out l62 (Nat.le_refl _))
        clear l_58
        have m_63 := Lib.hid (own_below m_58.out l62 (Nat.le_refl _))
        clear m_58
        have T3_63 := Lib.hid (T3_58.out.below l62 T3_58.out.lt)
        clear T3_58
        have T5_63 := Lib.hid (T5_58.out.below l62 T5_58.out.lt)
        clear T5_58
        have P6_63 := Lib.hid (P6_58.out.below l62 P6_58.out.lt)
        clear P6_58
        clear l62
        have c64_T3_0 := T3_63.out.at 0 (v := .int .i64 l.t) rfl
        have c64_T3_1 := T3_63.out.at 1 (v := .int .i64 l.z) rfl
        have c64_T3_2 := T3_63.out.at 2 (v := .slice a_l l.q.length c_l) rfl
        have c65_T5_0 := T5_63.out.at 0 (v := .int .i64 m.t) rfl
        have c65_T5_1 := T5_63.out.at 1 (v := .int .i64 m.z) rfl
        have c65_T5_2 := T5_63.out.at 2 (v := .slice a_m m.q.length c_m) rfl
        have c66_P6_0 := P6_63.out.at 0 (v := .int .i64 p.k) rfl
        have c66_P6_1 := P6_63.out.at 1 (v := .int .i64 ld) rfl
        have c66_P6_2 := P6_63.out.at 2 (v := .int .i64 m.t) rfl
        have c66_P6_3 := P6_63.out.at 3 (v := .int .i64 lm) rfl
        have c66_P6_4 := P6_63.out.at 4 (v := .string p.d) rfl
        go_wp2_with fail
        go_meet
        case rel => exact HB_63
    case rest => as_aux_lemma =>
      rename World => W67
      have l67 := hcut.out
      clear hcut HF HLi HM1 hq1 hs1
      clear l_33
      clear m_33
      clear c34_T3_0 c34_T3_1 c34_T3_2
      clear T3_33
      clear c35_T5_0 c35_T5_1 c35_T5_2
      clear T5_33
      clear c36_P6_0 c36_P6_1 c36_P6_2 c36_P6_3 c36_P6_4
      clear P6_33
      have HB_68 := Lib.hid (HB_33.out.trans (l67.mono HB_33.out.size))
      clear l67
      go_wp2_with fail
      refine (HD2.out _ (HR.out.below HB_68.out (Nat.le_refl _))).mono ?_
      rintro e W69 ⟨v_x, x, nu, rfl, o_x, hq2, hx2, l69⟩
      obtain ⟨a_x, c_x, rfl, _, _⟩ := own_someS0 o_x
      have O_x := Lib.hid (own_base o_x HB_68.out.size)
      clear o_x
      have HB_70 := Lib.hid (HB_68.out.trans (l69.mono HB_68.out.size))
      clear l69
      clear HD2
      go_upto_region 16 with fail
      obtain ⟨W71, hW71⟩ : ∃ W71, W71 = W69.alloc (.cells #[.int .i64 x.t, .int .i64 x.z, .slice a_x x.q.length c_x] 26) := ⟨_, rfl⟩
      have l71 : Below W69.heap.size W69 W71 := by rw [hW71]; exact (Below.refl _ _).alloc (Nat.le_refl _) _
      have X71_T19 : Hid (Bx W71 W69.heap.size #[.int .i64 x.t, .int .i64 x.z, .slice a_x x.q.length c_x] 26) := Lib.hid (by rw [hW71]; exact Bx.new _ _ _)
      rw [← hW71]
      clear hW71
      have BX_T19_x : Hid (∀ k, (.slice a_x x.q.length c_x : Value).ownBlock = some k → k ≠ W69.heap.size) := Lib.hid (fun k h1 h2 => absurd (O_x.out.lt k h1).2 (by omega))
      have HG_T19 : Hid (w.heap.size ≤ W69.heap.size) := Lib.hid HB_70.out.size
      obtain ⟨R_T19, hR_T19⟩ : ∃ X, X = W69.heap.size := ⟨_, rfl⟩
      rw [← hR_T19] at X71_T19 HG_T19 BX_T19_x ⊢
      clear hR_T19
      have HB_72 := Lib.hid (HB_70.out.trans (l71.mono HB_70.out.size))
      have x_72 := Lib.hid (own_below O_x.out l71 (Nat.le_refl _))
      clear O_x
      clear l71
      have c73_T19_0 := X71_T19.out.at 0 (v := .int .i64 x.t) rfl
      have c73_T19_1 := X71_T19.out.at 1 (v := .int .i64 x.z) rfl
      have c73_T19_2 := X71_T19.out.at 2 (v := .slice a_x x.q.length c_x) rfl
      have HM2 : Hid (∀ u ∈ x.q, u.size ≤ maxLen) := Lib.hid (fun u hu => le_maxLen9 (hq2.2 u hu))
      have HHi := Lib.hid (fun W h => implHeld_any (.slice a_x x.q.length c_x) x nu W h HM2.out)
      have HHs := Lib.hid (fun W h => specHeld_any (.slice a_x x.q.length c_x) x nu W h HM2.out)
      have HSi := Lib.hid (fun W h => implHs_any (.slice a_x x.q.length c_x) x W h HM2.out)
      have HSs := Lib.hid (fun W h => specHs_any (.slice a_x x.q.length c_x) x W h HM2.out)
      have HLi := Lib.hid (fun W h => implLead_any (.slice a_x x.q.length c_x) x W h HM2.out)
      have HLs := Lib.hid (fun W h => specLead_any (.slice a_x x.q.length c_x) x W h HM2.out)
      have HF := Lib.hid (@held_mem x nu)
      have hlen := hsV_len x (by omega)
      generalize heldV x nu = hv at HHi HHs
      generalize heldOk x nu = told at HHi HHs HF
      generalize hsV x = hs at HSi HSs HF hlen
      generalize leadV x = ld at HLi HLs
      generalize swOk x = fine at HSi HSs HLi HLs HF
      clear hx2 hq2
      go_wp2_with fail
      refine (HHi.out _ (row_own x_72.out)).mono ?_
      rintro e W74 ⟨rfl, l74⟩
      clear c73_T19_0 c73_T19_1 c73_T19_2
      have HB_75 := Lib.hid (HB_72.out.trans (l74.mono HB_72.out.size))
      have x_75 := Lib.hid (own_below x_72.out l74 (Nat.le_refl _))
      clear x_72
      have T19_75 := Lib.hid (X71_T19.out.below l74 X71_T19.out.lt)
      clear X71_T19
      clear l74
      have c76_T19_0 := T19_75.out.at 0 (v := .int .i64 x.t) rfl
      have c76_T19_1 := T19_75.out.at 1 (v := .int .i64 x.z) rfl
      have c76_T19_2 := T19_75.out.at 2 (v := .slice a_x x.q.length c_x) rfl
      go_wp2_with fail
      refine (HHs.out _ (row_own x_75.out)).mono ?_
      rintro e W77 ⟨rfl, l77⟩
      clear c76_T19_0 c76_T19_1 c76_T19_2
      have HB_78 := Lib.hid (HB_75.out.trans (l77.mono HB_75.out.size))
      have x_78 := Lib.hid (own_below x_75.out l77 (Nat.le_refl _))
      clear x_75
      have T19_78 := Lib.hid (T19_75.out.below l77 T19_75.out.lt)
      clear T19_75
      clear l77
      have c79_T19_0 := T19_78.out.at 0 (v := .int .i64 x.t) rfl
      have c79_T19_1 := T19_78.out.at 1 (v := .int .i64 x.z) rfl
      have c79_T19_2 := T19_78.out.at 2 (v := .slice a_x x.q.length c_x) rfl
      clear HHi HHs
      go_wp2_with fail
      refine (HSi.out _ (row_own x_78.out)).mono ?_
      rintro e W80 ⟨v_i, rfl, o_i, l80⟩
      obtain ⟨a_i, c_i, rfl, _, _⟩ := own_someS0 o_i
      have O_i := Lib.hid (own_base o_i HB_78.out.size)
      have BX_T19_i : Hid (∀ k, (.slice a_i hs.length c_i : Value).ownBlock = some k → k ≠ R_T19) := Lib.hid (fun k h1 h2 => absurd T19_78.out.lt (Nat.not_lt.2 (by rw [← h2]; exact (o_i.lt k h1).1)))
      clear o_i
      clear c79_T19_0 c79_T19_1 c79_T19_2
      have HB_81 := Lib.hid (HB_78.out.trans (l80.mono HB_78.out.size))
      have x_81 := Lib.hid (own_below x_78.out l80 (Nat.le_refl _))
      clear x_78
      have T19_81 := Lib.hid (T19_78.out.below l80 T19_78.out.lt)
      clear T19_78
      clear l80
      have c82_T19_0 := T19_81.out.at 0 (v := .int .i64 x.t) rfl
      have c82_T19_1 := T19_81.out.at 1 (v := .int .i64 x.z) rfl
      have c82_T19_2 := T19_81.out.at 2 (v := .slice a_x x.q.length c_x) rfl
      go_wp2_with fail
      refine (HSs.out _ (row_own x_81.out)).mono ?_
      rintro e W83 ⟨v_j, rfl, o_j, l83⟩
      obtain ⟨a_j, c_j, rfl, _, _⟩ := own_someS0 o_j
      have O_j := Lib.hid (own_base o_j HB_81.out.size)
      have BX_T19_j : Hid (∀ k, (.slice a_j hs.length c_j : Value).ownBlock = some k → k ≠ R_T19) := Lib.hid (fun k h1 h2 => absurd T19_81.out.lt (Nat.not_lt.2 (by rw [← h2]; exact (o_j.lt k h1).1)))
      clear o_j
      clear c82_T19_0 c82_T19_1 c82_T19_2
      have HB_84 := Lib.hid (HB_81.out.trans (l83.mono HB_81.out.size))
      have x_84 := Lib.hid (own_below x_81.out l83 (Nat.le_refl _))
      clear x_81
      have i_84 := Lib.hid (own_below O_i.out l83 (Nat.le_refl _))
      clear O_i
      have T19_84 := Lib.hid (T19_81.out.below l83 T19_81.out.lt)
      clear T19_81
      clear l83
      have c85_T19_0 := T19_84.out.at 0 (v := .int .i64 x.t) rfl
      have c85_T19_1 := T19_84.out.at 1 (v := .int .i64 x.z) rfl
      have c85_T19_2 := T19_84.out.at 2 (v := .slice a_x x.q.length c_x) rfl
      clear HSi HSs
      go_wp2_with fail
      refine (vInts_any _ _ hs hs _ (row_own i_84.out) (row_own O_j.out)).mono ?_
      rintro e W86 ⟨rfl, k9, hk9⟩
      have l86 : Below W83.heap.size W83 W86 := by rw [hk9]; exact bdrewN _ _ _
      clear hk9
      clear c85_T19_0 c85_T19_1 c85_T19_2
      have HB_87 := Lib.hid (HB_84.out.trans (l86.mono HB_84.out.size))
      have x_87 := Lib.hid (own_below x_84.out l86 (Nat.le_refl _))
      clear x_84
      have i_87 := Lib.hid (own_below i_84.out l86 (Nat.le_refl _))
      clear i_84
      have j_87 := Lib.hid (own_below O_j.out l86 (Nat.le_refl _))
      clear O_j
      have T19_87 := Lib.hid (T19_84.out.below l86 T19_84.out.lt)
      clear T19_84
      clear l86
      have c88_T19_0 := T19_87.out.at 0 (v := .int .i64 x.t) rfl
      have c88_T19_1 := T19_87.out.at 1 (v := .int .i64 x.z) rfl
      have c88_T19_2 := T19_87.out.at 2 (v := .slice a_x x.q.length c_x) rfl
      rw [decide_eq_true (rfl : hs = hs)]
      cases fine with
      | false =>
        clear HF
        go_wp2_with fail
        refine (HLi.out _ (row_own x_87.out)).mono ?_
        rintro e W89 ⟨rfl, l89⟩
        clear c88_T19_0 c88_T19_1 c88_T19_2
        have HB_90 := Lib.hid (HB_87.out.trans (l89.mono HB_87.out.size))
        have x_90 := Lib.hid (own_below x_87.out l89 (Nat.le_refl _))
        clear x_87
        have i_90 := Lib.hid (own_below i_87.out l89 (Nat.le_refl _))
        clear i_87
        have j_90 := Lib.hid (own_below j_87.out l89 (Nat.le_refl _))
        clear j_87
        have T19_90 := Lib.hid (T19_87.out.below l89 T19_87.out.lt)
        clear T19_87
        clear l89
        have c91_T19_0 := T19_90.out.at 0 (v := .int .i64 x.t) rfl
        have c91_T19_1 := T19_90.out.at 1 (v := .int .i64 x.z) rfl
        have c91_T19_2 := T19_90.out.at 2 (v := .slice a_x x.q.length c_x) rfl
        go_wp2_with fail
        refine (HLs.out _ (row_own x_90.out)).mono ?_
        rintro e W92 ⟨rfl, l92⟩
        clear c91_T19_0 c91_T19_1 c91_T19_2
        have HB_93 := Lib.hid (HB_90.out.trans (l92.mono HB_90.out.size))
        have x_93 := Lib.hid (own_below x_90.out l92 (Nat.le_refl _))
        clear x_90
        have i_93 := Lib.hid (own_below i_90.out l92 (Nat.le_refl _))
        clear i_90
        have j_93 := Lib.hid (own_below j_90.out l92 (Nat.le_refl _))
        clear j_90
        have T19_93 := Lib.hid (T19_90.out.below l92 T19_90.out.lt)
        clear T19_90
        clear l92
        have c94_T19_0 := T19_93.out.at 0 (v := .int .i64 x.t) rfl
        have c94_T19_1 := T19_93.out.at 1 (v := .int .i64 x.z) rfl
        have c94_T19_2 := T19_93.out.at 2 (v := .slice a_x x.q.length c_x) rfl
        go_wp2_with fail
        go_ret
        exact ⟨by simp, HB_93.out⟩
      | true =>
        have hmem := HF.out rfl
        have HVh := Lib.hid (fun W h => vHas_any (.slice a_i hs.length c_i) hs nu W h)
        rw [hmem] at HVh
        clear HF hmem
        go_wp2_with fail
        refine (HVh.out _ (row_own i_87.out)).mono ?_
        rintro e _ ⟨rfl, rfl⟩
        go_wp2_with fail
        refine (HLi.out _ (row_own x_87.out)).mono ?_
        rintro e W95 ⟨rfl, l95⟩
        clear c88_T19_0 c88_T19_1 c88_T19_2
        have HB_96 := Lib.hid (HB_87.out.trans (l95.mono HB_87.out.size))
        have x_96 := Lib.hid (own_below x_87.out l95 (Nat.le_refl _))
        clear x_87
        have i_96 := Lib.hid (own_below i_87.out l95 (Nat.le_refl _))
        clear i_87
        have j_96 := Lib.hid (own_below j_87.out l95 (Nat.le_refl _))
        clear j_87
        have T19_96 := Lib.hid (T19_87.out.below l95 T19_87.out.lt)
        clear T19_87
        clear l95
        have c97_T19_0 := T19_96.out.at 0 (v := .int .i64 x.t) rfl
        have c97_T19_1 := T19_96.out.at 1 (v := .int .i64 x.z) rfl
        have c97_T19_2 := T19_96.out.at 2 (v := .slice a_x x.q.length c_x) rfl
        go_wp2_with fail
        refine (HLs.out _ (row_own x_96.out)).mono ?_
        rintro e W98 ⟨rfl, l98⟩
        clear c97_T19_0 c97_T19_1 c97_T19_2
        have HB_99 := Lib.hid (HB_96.out.trans (l98.mono HB_96.out.size))
        have x_99 := Lib.hid (own_below x_96.out l98 (Nat.le_refl _))
        clear x_96
        have i_99 := Lib.hid (own_below i_96.out l98 (Nat.le_refl _))
        clear i_96
        have j_99 := Lib.hid (own_below j_96.out l98 (Nat.le_refl _))
        clear j_96
        have T19_99 := Lib.hid (T19_96.out.below l98 T19_96.out.lt)
        clear T19_96
        clear l98
        have c100_T19_0 := T19_99.out.at 0 (v := .int .i64 x.t) rfl
        have c100_T19_1 := T19_99.out.at 1 (v := .int .i64 x.z) rfl
        have c100_T19_2 := T19_99.out.at 2 (v := .slice a_x x.q.length c_x) rfl
        go_wp2_with fail
        go_ret
        exact ⟨by simp, HB_99.out⟩
end Go.Proofs.Ytkijfneaglogmaa
