/-
  Sources: the laws' helpers.
-/
import Derived.Test.YtlendmiolhgecaaSrcB
import Derived.Test.YtlendmiolhgecaaHldS
import Derived.Test.YtlendmiolhgecaaSndS
import Derived.Deep.QuietTactic
import Derived.BigQuiet
import Derived.IntWalk
import Derived.Deep.CutRange
import Derived.WalkLawsBesides
import Derived.Lib.SmallJoins
import Derived.Deep.RegionHeld3
namespace Go.Proofs.Ytlendmiolhgecaa
open Go.RowKit Go.Lib Go.Joins
set_option linter.unusedVariables false

set_option maxRecDepth 100000 in
set_option maxHeartbeats 2000000 in
theorem szSo_any (v hv : Value) (s : So) (w : World) (hrow : Row w v s.w.q.length (s.w.q.map Value.string)) (hhr : Row w hv s.h.length (hdF s.h)) (hs : ∀ x ∈ s.w.q, x.size ≤ maxLen) (left : Nat) (hl : left ≤ 1048576) :
    Calls Try.prog 33 #[.agg #[.int .i64 s.w.t, .int .i64 s.w.z, v, .int .i64 s.c, .int .i64 s.u, hv], .int .i64 left] w fun e w' => Below w.heap.size w w' ∧ ∃ r : Int, e = .returned (.int .i64 r) ∧ r ≤ 1048576 ∧ (r < 0 ∨ (s.w.q.length ≤ left ∧ s.h.length ≤ left ∧ 0 ≤ r ∧ r ≤ left)) := by
  obtain ⟨⟨t, z, q⟩, c, u, h⟩ := s
  dsimp only at hrow hhr hs ⊢
  obtain ⟨a, cap, rfl, hc1, hm1, -⟩ := row_open hrow
  obtain ⟨b, caph, rfl, hc2, hm2, -⟩ := hd_open hhr
  unfold maxLen at hm1 hm2
  have HP := Lib.hid hrow
  have HH := Lib.hid hhr
  clear hrow hhr
  have HS := Lib.hid hs
  clear hs
  obtain ⟨W0, R_T, hW0, hR_T, hX_T, hB0⟩ := entry1 w #[.int .i64 t, .int .i64 z, .slice a q.length cap, .int .i64 c, .int .i64 u, .slice b h.length caph] 59
  have HW0 := Lib.hid hW0
  have HB0 := Lib.hid hB0
  have HR_T := Lib.hid hR_T
  have HX_T := Lib.hid hX_T
  clear hW0 hB0 hR_T hX_T
  have HZ := Lib.hid (fun (W1 : World) (hr : Row W1 (.slice a q.length cap) q.length (q.map Value.string)) => szSw_any (.slice a q.length cap) ⟨t, z, q⟩ W1 hr HS.out left hl)
  have c1_T_0 := HX_T.out.at 0 (v := .int .i64 t) rfl
  have c1_T_1 := HX_T.out.at 1 (v := .int .i64 z) rfl
  have c1_T_2 := HX_T.out.at 2 (v := .slice a q.length cap) rfl
  have c1_T_3 := HX_T.out.at 3 (v := .int .i64 c) rfl
  have c1_T_4 := HX_T.out.at 4 (v := .int .i64 u) rfl
  have c1_T_5 := HX_T.out.at 5 (v := .slice b h.length caph) rfl
  go_enter Try.func33, Try.ntmps33
  go_upto_region 1 with fail
  rw [← HW0.out, ← HR_T.out]
  go_wp2_with fail
  refine (HZ.out _ (HP.out.below HB0.out (Nat.le_refl _))).mono ?_
  rintro e W2 ⟨l2, r, rfl, hr1, hr⟩
  clear c1_T_0 c1_T_1 c1_T_2 c1_T_3 c1_T_4 c1_T_5
  have HB_2 := Lib.hid (HB0.out.trans (l2.mono HB0.out.size))
  have T_2 := Lib.hid (HX_T.out.below l2 HX_T.out.lt)
  clear l2
  have c3_T_0 := T_2.out.at 0 (v := .int .i64 t) rfl
  have c3_T_1 := T_2.out.at 1 (v := .int .i64 z) rfl
  have c3_T_2 := T_2.out.at 2 (v := .slice a q.length cap) rfl
  have c3_T_3 := T_2.out.at 3 (v := .int .i64 c) rfl
  have c3_T_4 := T_2.out.at 4 (v := .int .i64 u) rfl
  have c3_T_5 := T_2.out.at 5 (v := .slice b h.length caph) rfl
  by_cases h0 : r < 0
  · clear hr
    go_wp2_with fail
    go_ret
    exact ⟨HB_2.out, -1, rfl, by omega, .inl (by omega)⟩
  · obtain ⟨h1, h2, h3, h4⟩ := hr.resolve_left h0
    have H2 := Lib.hid h2
    (try dsimp only at h1)
    clear hr h2
    by_cases hh : (h.length : Int) ≤ r
    · have HY := Lib.hid (fun (W1 : World) => szHd_yes b h.length caph r W1 hh (by omega))
      have hr5 : ¬ (r - (h.length : Int) < 0) := by omega
      go_wp2_with fail
      refine (HY.out _).mono ?_
      rintro e _ ⟨rfl, rfl⟩
      go_wp2_with fail
      go_ret
      exact ⟨HB_2.out, _, rfl, by omega, .inr ⟨h1, by omega, by omega, by omega⟩⟩
    · have HN := Lib.hid (fun (W1 : World) => szHd_no b h.length caph r W1 (by omega) (by omega) (by omega))
      go_wp2_with fail
      refine (HN.out _).mono ?_
      rintro e _ ⟨rfl, rfl⟩
      go_wp2_with fail
      go_ret
      exact ⟨HB_2.out, -1, rfl, by omega, .inl (by omega)⟩
set_option maxRecDepth 100000 in
set_option maxHeartbeats 2000000 in
theorem eqSo_same (v1 g1 v2 g2 : Value) (s : So) (w : World) (h1 : Row w v1 s.w.q.length (s.w.q.map Value.string)) (k1 : Row w g1 s.h.length (hdF s.h)) (h2 : Row w v2 s.w.q.length (s.w.q.map Value.string)) (k2 : Row w g2 s.h.length (hdF s.h)) :
    Calls Try.prog 30 #[.agg #[.int .i64 s.w.t, .int .i64 s.w.z, v1, .int .i64 s.c, .int .i64 s.u, g1], .agg #[.int .i64 s.w.t, .int .i64 s.w.z, v2, .int .i64 s.c, .int .i64 s.u, g2]] w fun e w' => e = .returned (.bool true) ∧ Below w.heap.size w w' := by
  obtain ⟨⟨t, z, q⟩, c, u, h⟩ := s
  dsimp only at h1 k1 h2 k2 ⊢
  have HP1 := Lib.hid h1
  have HP2 := Lib.hid h2
  have HH1 := Lib.hid k1
  have HH2 := Lib.hid k2
  clear h1 h2 k1 k2
  obtain ⟨W0, R_T, R_U, hW0, hR_T, hR_U, hX_T, hX_U, hB0⟩ := entry2 w #[.int .i64 t, .int .i64 z, v1, .int .i64 c, .int .i64 u, g1] #[.int .i64 t, .int .i64 z, v2, .int .i64 c, .int .i64 u, g2] 29 29
  have HW0 := Lib.hid hW0
  have HB0 := Lib.hid hB0
  have HR_T := Lib.hid hR_T
  have HX_T := Lib.hid hX_T
  have HR_U := Lib.hid hR_U
  have HX_U := Lib.hid hX_U
  clear hW0 hB0 hR_T hX_T hR_U hX_U
  have HE := Lib.hid (fun (W1 : World) (a : Row W1 v1 q.length (q.map Value.string)) (b : Row W1 v2 q.length (q.map Value.string)) => eqSw_same v1 v2 ⟨t, z, q⟩ W1 a b)
  have HF := Lib.hid (fun (W1 : World) (a : Row W1 g1 h.length (hdF h)) (b : Row W1 g2 h.length (hdF h)) => eqHdS_same g1 g2 h W1 a b)
  dsimp only at HE
  have c4_T_0 := HX_T.out.at 0 (v := .int .i64 t) rfl
  have c4_T_1 := HX_T.out.at 1 (v := .int .i64 z) rfl
  have c4_T_2 := HX_T.out.at 2 (v := v1) rfl
  have c4_T_3 := HX_T.out.at 3 (v := .int .i64 c) rfl
  have c4_T_4 := HX_T.out.at 4 (v := .int .i64 u) rfl
  have c4_T_5 := HX_T.out.at 5 (v := g1) rfl
  have c5_U_0 := HX_U.out.at 0 (v := .int .i64 t) rfl
  have c5_U_1 := HX_U.out.at 1 (v := .int .i64 z) rfl
  have c5_U_2 := HX_U.out.at 2 (v := v2) rfl
  have c5_U_3 := HX_U.out.at 3 (v := .int .i64 c) rfl
  have c5_U_4 := HX_U.out.at 4 (v := .int .i64 u) rfl
  have c5_U_5 := HX_U.out.at 5 (v := g2) rfl
  go_enter Try.func30, Try.ntmps30
  go_upto_region 1 with fail
  rw [← HW0.out, ← HR_U.out, ← HR_T.out]
  go_wp2_with fail
  refine (HE.out _ (HP1.out.below HB0.out (Nat.le_refl _)) (HP2.out.below HB0.out (Nat.le_refl _))).mono ?_
  rintro e W6 ⟨rfl, l6⟩
  clear c4_T_0 c4_T_1 c4_T_2 c4_T_3 c4_T_4 c4_T_5
  clear c5_U_0 c5_U_1 c5_U_2 c5_U_3 c5_U_4 c5_U_5
  have HB_7 := Lib.hid (HB0.out.trans (l6.mono HB0.out.size))
  have T_7 := Lib.hid (HX_T.out.below l6 HX_T.out.lt)
  have U_7 := Lib.hid (HX_U.out.below l6 HX_U.out.lt)
  clear l6
  have c8_T_0 := T_7.out.at 0 (v := .int .i64 t) rfl
  have c8_T_1 := T_7.out.at 1 (v := .int .i64 z) rfl
  have c8_T_2 := T_7.out.at 2 (v := v1) rfl
  have c8_T_3 := T_7.out.at 3 (v := .int .i64 c) rfl
  have c8_T_4 := T_7.out.at 4 (v := .int .i64 u) rfl
  have c8_T_5 := T_7.out.at 5 (v := g1) rfl
  have c9_U_0 := U_7.out.at 0 (v := .int .i64 t) rfl
  have c9_U_1 := U_7.out.at 1 (v := .int .i64 z) rfl
  have c9_U_2 := U_7.out.at 2 (v := v2) rfl
  have c9_U_3 := U_7.out.at 3 (v := .int .i64 c) rfl
  have c9_U_4 := U_7.out.at 4 (v := .int .i64 u) rfl
  have c9_U_5 := U_7.out.at 5 (v := g2) rfl
  go_wp2_with fail
  refine (HF.out _ (HH1.out.below HB_7.out (Nat.le_refl _)) (HH2.out.below HB_7.out (Nat.le_refl _))).mono ?_
  rintro e W10 ⟨rfl, l10⟩
  clear c8_T_0 c8_T_1 c8_T_2 c8_T_3 c8_T_4 c8_T_5
  clear c9_U_0 c9_U_1 c9_U_2 c9_U_3 c9_U_4 c9_U_5
  have HB_11 := Lib.hid (HB_7.out.trans (l10.mono HB_7.out.size))
  have T_11 := Lib.hid (T_7.out.below l10 T_7.out.lt)
  clear T_7
  have U_11 := Lib.hid (U_7.out.below l10 U_7.out.lt)
  clear U_7
  clear l10
  have c12_T_0 := T_11.out.at 0 (v := .int .i64 t) rfl
  have c12_T_1 := T_11.out.at 1 (v := .int .i64 z) rfl
  have c12_T_2 := T_11.out.at 2 (v := v1) rfl
  have c12_T_3 := T_11.out.at 3 (v := .int .i64 c) rfl
  have c12_T_4 := T_11.out.at 4 (v := .int .i64 u) rfl
  have c12_T_5 := T_11.out.at 5 (v := g1) rfl
  have c13_U_0 := U_11.out.at 0 (v := .int .i64 t) rfl
  have c13_U_1 := U_11.out.at 1 (v := .int .i64 z) rfl
  have c13_U_2 := U_11.out.at 2 (v := v2) rfl
  have c13_U_3 := U_11.out.at 3 (v := .int .i64 c) rfl
  have c13_U_4 := U_11.out.at 4 (v := .int .i64 u) rfl
  have c13_U_5 := U_11.out.at 5 (v := g2) rfl
  go_wp2_with fail
  go_ret
  exact ⟨rfl, HB_11.out⟩
set_option maxRecDepth 100000 in
set_option maxHeartbeats 4000000 in
theorem markSo_own (v hv : Value) (t z c u : Int) (n m k base : Nat) (xs ys : List Value) (w : World) (h1 : w.ownsRow base 9 1 v n xs) (h2 : w.ownsRow base 82 2 hv m ys) (ap : ∀ k, v.ownBlock = some k → hv.ownBlock ≠ some k) (h0 : 1 ≤ k) (hk : k + n + 2 * m ≤ 100000000) :
    Calls Try.prog 31 #[.agg #[.int .i64 t, .int .i64 z, v, .int .i64 c, .int .i64 u, hv], .int .i64 k] w fun e w' => e = .returned (.int .i64 (k + n + 2 * m : Nat)) ∧ w'.ownsRow base 9 1 v n (marks k n) ∧ w'.ownsRow base 82 2 hv m (marksR (k + n) (2 * m)) ∧ ∃ wm, w.grownBy wm v.ownBlock ∧ wm.grownBy w' hv.ownBlock := by
  obtain ⟨W0, R_T, hW0, hR_T, hX_T, hB0⟩ := entry1 w #[.int .i64 t, .int .i64 z, v, .int .i64 c, .int .i64 u, hv] 29
  have HW0 := Lib.hid hW0
  have HB0 := Lib.hid hB0
  have HR_T := Lib.hid hR_T
  have HX_T := Lib.hid hX_T
  clear hW0 hB0 hR_T hX_T
  have HO1 := Lib.hid (ownz_below h1 HB0.out (Nat.le_refl _))
  have HO2 := Lib.hid (ownz_below h2 HB0.out (Nat.le_refl _))
  have hbv : ∀ j, v.ownBlock = some j → j ≠ R_T := fun j h e => by have := (h1.lt j h).2; have := HR_T.out; omega
  have HBv := Lib.hid hbv
  have HAp := Lib.hid ap
  clear h1 h2 hbv ap
  have c14_T_0 := HX_T.out.at 0 (v := .int .i64 t) rfl
  have c14_T_1 := HX_T.out.at 1 (v := .int .i64 z) rfl
  have c14_T_2 := HX_T.out.at 2 (v := v) rfl
  have c14_T_3 := HX_T.out.at 3 (v := .int .i64 c) rfl
  have c14_T_4 := HX_T.out.at 4 (v := .int .i64 u) rfl
  have c14_T_5 := HX_T.out.at 5 (v := hv) rfl
  have HM1 := Lib.hid (markSw_own v t z n k base xs W0 HO1.out h0 (by omega))
  go_enter Try.func31, Try.ntmps31
  go_upto_region 1 with fail
  rw [← HW0.out, ← HR_T.out]
  go_wp2_with fail
  refine HM1.out.mono ?_
  rintro e W1 ⟨rfl, o1, g1⟩
  clear c14_T_0 c14_T_1 c14_T_2 c14_T_3 c14_T_4 c14_T_5
  have HX1 := Lib.hid (HX_T.out.grown g1 (fun e => HBv.out _ e.symm rfl))
  have HQ1 := Lib.hid o1
  have HQ2 := Lib.hid (ownz_apart HO2.out g1 (fun j h e => HAp.out j e h))
  have HG1 := Lib.hid g1
  clear o1 g1
  have c15_T_0 := HX1.out.at 0 (v := .int .i64 t) rfl
  have c15_T_1 := HX1.out.at 1 (v := .int .i64 z) rfl
  have c15_T_2 := HX1.out.at 2 (v := v) rfl
  have c15_T_3 := HX1.out.at 3 (v := .int .i64 c) rfl
  have c15_T_4 := HX1.out.at 4 (v := .int .i64 u) rfl
  have c15_T_5 := HX1.out.at 5 (v := hv) rfl
  obtain ⟨k2, hk2⟩ : ∃ k2, k2 = k + n := ⟨_, rfl⟩
  rw [← hk2]
  have HK2 := Lib.hid hk2
  have HM2 := Lib.hid (markHd_own hv m k2 base ys W1 HQ2.out (by omega))
  clear hk2
  go_wp2_with fail
  refine HM2.out.mono ?_
  rintro e W2 ⟨rfl, o2, g2⟩
  clear c15_T_0 c15_T_1 c15_T_2 c15_T_3 c15_T_4 c15_T_5
  have HQ3 := Lib.hid o2
  have HQ4 := Lib.hid (ownz_apart HQ1.out g2 HAp.out)
  have HG2 := Lib.hid g2
  clear o2 g2
  go_wp2_with fail
  go_ret
  exact ⟨by rw [← HK2.out]; rfl, HQ4.out, by rw [← HK2.out]; exact HQ3.out, W1, grown_trans (by rw [HW0.out]; exact World.grownBy_alloc w _ _) HG1.out, HG2.out⟩
set_option maxRecDepth 100000 in
set_option maxHeartbeats 4000000 in
theorem heldSo_own (v hv : Value) (t z c u : Int) (n m k base : Nat) (w : World) (h1 : w.ownsRow base 9 1 v n (marks k n)) (h2 : w.ownsRow base 82 2 hv m (marksR (k + n) (2 * m))) (ap : ∀ k, v.ownBlock = some k → hv.ownBlock ≠ some k) (h0 : 1 ≤ k) (hk : k + n + 2 * m ≤ 100000000) :
    Calls Try.prog 32 #[.agg #[.int .i64 t, .int .i64 z, v, .int .i64 c, .int .i64 u, hv], .int .i64 k] w fun e w' => e = .returned (.int .i64 (k + n + 2 * m : Nat)) ∧ Below w.heap.size w w' := by
  obtain ⟨W0, R_T, hW0, hR_T, hX_T, hB0⟩ := entry1 w #[.int .i64 t, .int .i64 z, v, .int .i64 c, .int .i64 u, hv] 29
  have HW0 := Lib.hid hW0
  have HB0 := Lib.hid hB0
  have HR_T := Lib.hid hR_T
  have HX_T := Lib.hid hX_T
  clear hW0 hB0 hR_T hX_T
  have HO1 := Lib.hid (ownz_below h1 HB0.out (Nat.le_refl _))
  have HO2 := Lib.hid (ownz_below h2 HB0.out (Nat.le_refl _))
  have h2_ := Lib.hid h2
  have hbv : ∀ j, v.ownBlock = some j → j ≠ R_T := fun j h e => by have := (h1.lt j h).2; have := HR_T.out; omega
  have HBv := Lib.hid hbv
  have HAp := Lib.hid ap
  clear h1 h2 hbv ap
  have c16_T_0 := HX_T.out.at 0 (v := .int .i64 t) rfl
  have c16_T_1 := HX_T.out.at 1 (v := .int .i64 z) rfl
  have c16_T_2 := HX_T.out.at 2 (v := v) rfl
  have c16_T_3 := HX_T.out.at 3 (v := .int .i64 c) rfl
  have c16_T_4 := HX_T.out.at 4 (v := .int .i64 u) rfl
  have c16_T_5 := HX_T.out.at 5 (v := hv) rfl
  have HM1 := Lib.hid (heldSw_own v t z n k base W0 HO1.out h0 (by omega))
  have hd1 : ¬ ((k + n : Nat) : Int) < 0 := by omega
  go_enter Try.func32, Try.ntmps32
  go_upto_region 1 with fail
  rw [← HW0.out, ← HR_T.out]
  go_wp2_with fail
  refine (HM1.out).mono ?_
  rintro e W17 ⟨rfl, l17⟩
  clear c16_T_0 c16_T_1 c16_T_2 c16_T_3 c16_T_4 c16_T_5
  have HB_18 := Lib.hid (HB0.out.trans (l17.mono HB0.out.size))
  have T_18 := Lib.hid (HX_T.out.below l17 HX_T.out.lt)
  clear l17
  have c19_T_0 := T_18.out.at 0 (v := .int .i64 t) rfl
  have c19_T_1 := T_18.out.at 1 (v := .int .i64 z) rfl
  have c19_T_2 := T_18.out.at 2 (v := v) rfl
  have c19_T_3 := T_18.out.at 3 (v := .int .i64 c) rfl
  have c19_T_4 := T_18.out.at 4 (v := .int .i64 u) rfl
  have c19_T_5 := T_18.out.at 5 (v := hv) rfl
  obtain ⟨k2, hk2⟩ : ∃ k2, k2 = k + n := ⟨_, rfl⟩
  rw [← hk2] at hd1 ⊢
  have HK2 := Lib.hid hk2
  have hd2 : ¬ ((k2 + 2 * m : Nat) : Int) < 0 := by omega
  have HM2 := Lib.hid (fun (h : W17.ownsRow base 82 2 hv m (marksR k2 (2 * m))) => heldHd_own hv m k2 base W17 h (by omega))
  clear hk2
  have HO3 : Hid (W17.ownsRow base 82 2 hv m (marksR k2 (2 * m))) := Lib.hid (by rw [HK2.out]; exact ownz_below h2_.out (HB_18.out) (Nat.le_refl _))
  go_wp2_with fail
  refine ((HM2.out HO3.out)).mono ?_
  rintro e _ ⟨rfl, rfl⟩
  go_wp2_with fail
  go_ret
  exact ⟨by rw [← HK2.out]; rfl, HB_18.out⟩
set_option maxRecDepth 100000 in
set_option maxHeartbeats 4000000 in
theorem toSo_lit (v hv : Value) (s : So) (w : World) (hrow : Row w v s.w.q.length (s.w.q.map Value.string)) (hhr : Row w hv s.h.length (hdF s.h)) (hn : s.w.q.length ≤ 1048576) (hn2 : s.h.length ≤ 1048576) :
    Calls Try.prog 35 #[.agg #[.int .i64 s.w.t, .int .i64 s.w.z, v, .int .i64 s.c, .int .i64 s.u, hv]] w fun e w' => ∃ x y : Nat, e = .returned (.agg #[.int .i64 s.w.t, .int .i64 s.w.z, .slice (some ⟨x, 0, none⟩) s.w.q.length s.w.q.length, .int .i64 s.c, .int .i64 s.u, .slice (some ⟨y, 0, none⟩) s.h.length s.h.length]) ∧ w'.ownsRow w.heap.size 9 1 (.slice (some ⟨x, 0, none⟩) s.w.q.length s.w.q.length) s.w.q.length (s.w.q.map Value.string) ∧ w'.ownsRow w.heap.size 82 2 (.slice (some ⟨y, 0, none⟩) s.h.length s.h.length) s.h.length (hdF s.h) ∧ x ≠ y ∧ Below w.heap.size w w' := by
  obtain ⟨⟨t, z, q⟩, c, u, h⟩ := s
  dsimp only at hrow hhr ⊢
  obtain ⟨a, cap, rfl, hc1, hm1, -⟩ := row_open hrow
  obtain ⟨b, caph, rfl, hc2, hm2, -⟩ := hd_open hhr
  unfold maxLen at hm1 hm2
  have HP := Lib.hid hrow
  have HH := Lib.hid hhr
  clear hrow hhr
  dsimp only at hn hn2
  obtain ⟨W0, R_T, R_A, R_O, hW0, hR_T, hR_A, hR_O, hX_T, hX_A, hX_O, hB0⟩ := entry3 w #[.int .i64 t, .int .i64 z, .slice a q.length cap, .int .i64 c, .int .i64 u, .slice b h.length caph] #[.int .i64 0, .int .i64 0, .slice none 0 0, .int .i64 0, .int .i64 0, .slice none 0 0] #[.int .i64 0, .int .i64 0, .slice none 0 0, .int .i64 0, .int .i64 0, .slice none 0 0] 59 29 29
  have HW0 := Lib.hid hW0
  have HB0 := Lib.hid hB0
  have HR_T := Lib.hid hR_T
  have HX_T := Lib.hid hX_T
  have HR_A := Lib.hid hR_A
  have HX_A := Lib.hid hX_A
  have HR_O := Lib.hid hR_O
  have HX_O := Lib.hid hX_O
  clear hW0 hB0 hR_T hX_T hR_A hX_A hR_O hX_O
  have HT1 := Lib.hid (fun (W1 : World) (hr : Row W1 (.slice a q.length cap) q.length (q.map Value.string)) => toSw_lit (.slice a q.length cap) ⟨t, z, q⟩ W1 hr hn)
  dsimp only at HT1
  have HT2 := Lib.hid (fun (W1 : World) (hh : Row W1 (.slice b h.length caph) h.length (hdF h)) => toHdS_lit (.slice b h.length caph) h W1 hh hn2)
  have c20_T_0 := HX_T.out.at 0 (v := .int .i64 t) rfl
  have c20_T_1 := HX_T.out.at 1 (v := .int .i64 z) rfl
  have c20_T_2 := HX_T.out.at 2 (v := .slice a q.length cap) rfl
  have c20_T_3 := HX_T.out.at 3 (v := .int .i64 c) rfl
  have c20_T_4 := HX_T.out.at 4 (v := .int .i64 u) rfl
  have c20_T_5 := HX_T.out.at 5 (v := .slice b h.length caph) rfl
  have c21_A_0 := HX_A.out.at 0 (v := .int .i64 0) rfl
  have c21_A_1 := HX_A.out.at 1 (v := .int .i64 0) rfl
  have c21_A_2 := HX_A.out.at 2 (v := .slice none 0 0) rfl
  have c21_A_3 := HX_A.out.at 3 (v := .int .i64 0) rfl
  have c21_A_4 := HX_A.out.at 4 (v := .int .i64 0) rfl
  have c21_A_5 := HX_A.out.at 5 (v := .slice none 0 0) rfl
  have c22_O_0 := HX_O.out.at 0 (v := .int .i64 0) rfl
  have c22_O_1 := HX_O.out.at 1 (v := .int .i64 0) rfl
  have c22_O_2 := HX_O.out.at 2 (v := .slice none 0 0) rfl
  have c22_O_3 := HX_O.out.at 3 (v := .int .i64 0) rfl
  have c22_O_4 := HX_O.out.at 4 (v := .int .i64 0) rfl
  have c22_O_5 := HX_O.out.at 5 (v := .slice none 0 0) rfl
  go_enter Try.func35, Try.ntmps35
  go_upto_region 2 with fail
  rw [← HW0.out, ← HR_O.out, ← HR_A.out, ← HR_T.out]
  go_wp2_with fail
  refine (HT1.out _ (HP.out.below HB0.out (Nat.le_refl _))).mono ?_
  rintro e W23 ⟨g_y, rfl, o_y, l23⟩
  have O_y := Lib.hid (ownz_base o_y HB0.out.size)
  have BX_T_y : Hid (∀ k, (.slice (some ⟨g_y, 0, none⟩) q.length q.length : Value).ownBlock = some k → k ≠ R_T) := Lib.hid (fun k h1 h2 => absurd HX_T.out.lt (Nat.not_lt.2 (by rw [← h2]; exact (o_y.lt k h1).1)))
  have BX_A_y : Hid (∀ k, (.slice (some ⟨g_y, 0, none⟩) q.length q.length : Value).ownBlock = some k → k ≠ R_A) := Lib.hid (fun k h1 h2 => absurd HX_A.out.lt (Nat.not_lt.2 (by rw [← h2]; exact (o_y.lt k h1).1)))
  have BX_O_y : Hid (∀ k, (.slice (some ⟨g_y, 0, none⟩) q.length q.length : Value).ownBlock = some k → k ≠ R_O) := Lib.hid (fun k h1 h2 => absurd HX_O.out.lt (Nat.not_lt.2 (by rw [← h2]; exact (o_y.lt k h1).1)))
  clear o_y
  clear c20_T_0 c20_T_1 c20_T_2 c20_T_3 c20_T_4 c20_T_5
  clear c21_A_0 c21_A_1 c21_A_2 c21_A_3 c21_A_4 c21_A_5
  clear c22_O_0 c22_O_1 c22_O_2 c22_O_3 c22_O_4 c22_O_5
  have HB_24 := Lib.hid (HB0.out.trans (l23.mono HB0.out.size))
  have T_24 := Lib.hid (HX_T.out.below l23 HX_T.out.lt)
  have A_24 := Lib.hid (HX_A.out.below l23 HX_A.out.lt)
  have O_24 := Lib.hid (HX_O.out.below l23 HX_O.out.lt)
  clear l23
  have c25_T_0 := T_24.out.at 0 (v := .int .i64 t) rfl
  have c25_T_1 := T_24.out.at 1 (v := .int .i64 z) rfl
  have c25_T_2 := T_24.out.at 2 (v := .slice a q.length cap) rfl
  have c25_T_3 := T_24.out.at 3 (v := .int .i64 c) rfl
  have c25_T_4 := T_24.out.at 4 (v := .int .i64 u) rfl
  have c25_T_5 := T_24.out.at 5 (v := .slice b h.length caph) rfl
  have c26_A_0 := A_24.out.at 0 (v := .int .i64 0) rfl
  have c26_A_1 := A_24.out.at 1 (v := .int .i64 0) rfl
  have c26_A_2 := A_24.out.at 2 (v := .slice none 0 0) rfl
  have c26_A_3 := A_24.out.at 3 (v := .int .i64 0) rfl
  have c26_A_4 := A_24.out.at 4 (v := .int .i64 0) rfl
  have c26_A_5 := A_24.out.at 5 (v := .slice none 0 0) rfl
  have c27_O_0 := O_24.out.at 0 (v := .int .i64 0) rfl
  have c27_O_1 := O_24.out.at 1 (v := .int .i64 0) rfl
  have c27_O_2 := O_24.out.at 2 (v := .slice none 0 0) rfl
  have c27_O_3 := O_24.out.at 3 (v := .int .i64 0) rfl
  have c27_O_4 := O_24.out.at 4 (v := .int .i64 0) rfl
  have c27_O_5 := O_24.out.at 5 (v := .slice none 0 0) rfl
  have fr28_O_0 := O_24.out.free 0
  have fr28_O_1 := O_24.out.free 1
  have fr28_O_2 := O_24.out.free 2
  have fr28_O_3 := O_24.out.free 3
  have fr28_O_4 := O_24.out.free 4
  have fr28_O_5 := O_24.out.free 5
  go_upto_region 3 with fail
  clear c25_T_0 c25_T_1 c25_T_2 c25_T_3 c25_T_4 c25_T_5
  clear c26_A_0 c26_A_1 c26_A_2 c26_A_3 c26_A_4 c26_A_5
  clear c27_O_0 c27_O_1 c27_O_2 c27_O_3 c27_O_4 c27_O_5
  clear fr28_O_0 fr28_O_1 fr28_O_2 fr28_O_3 fr28_O_4 fr28_O_5
  obtain ⟨ps29_0, qs29_0⟩ := O_24.out.set 0 (.int .i64 t)
  obtain ⟨ps29_1, qs29_1⟩ := ps29_0.set 1 (.int .i64 z)
  obtain ⟨ps29_2, qs29_2⟩ := ps29_1.set 2 (.slice (some ⟨g_y, 0, none⟩) q.length q.length)
  have p29 := ps29_2
  have q29 := grown_trans (grown_trans (qs29_0) qs29_1) qs29_2
  clear ps29_0 qs29_0 ps29_1 qs29_1 ps29_2 qs29_2
  obtain ⟨W29, hW29⟩ : ∃ W29, W29 = (((W23.setCell ⟨R_O, 0, none⟩ (.int .i64 t)).setCell ⟨R_O, 1, none⟩ (.int .i64 z)).setCell ⟨R_O, 2, none⟩ (.slice (some ⟨g_y, 0, none⟩) q.length q.length)) := ⟨_, rfl⟩
  rw [← hW29] at p29 q29 ⊢
  have X29_O : Hid (Bx W29 R_O #[.int .i64 t, .int .i64 z, .slice (some ⟨g_y, 0, none⟩) q.length q.length, .int .i64 0, .int .i64 0, .slice none 0 0] 29) := Lib.hid p29
  have HB_30 := Lib.hid (HB_24.out.grown q29 HB_24.out.size (fun k hk => by have e2 : R_O = k := Option.some.inj hk; have := HR_O.out; omega))
  have y_30 := Lib.hid (O_y.out.kept q29 (by
    cases hv : (.slice (some ⟨g_y, 0, none⟩) q.length q.length : Value).ownBlock with
    | none => exact .inl rfl
    | some k => exact .inr (fun e => BX_O_y.out k hv (Option.some.inj e))))
  clear O_y
  have T_30 := Lib.hid (T_24.out.grown q29 (by intro e; have e2 : R_T = R_O := Option.some.inj e; have h1 := HR_T.out; have h2 := HR_O.out; omega))
  clear T_24
  have A_30 := Lib.hid (A_24.out.grown q29 (by intro e; have e2 : R_A = R_O := Option.some.inj e; have h1 := HR_A.out; have h2 := HR_O.out; omega))
  clear A_24
  clear O_24
  clear hW29 p29 q29
  have c31_T_0 := T_30.out.at 0 (v := .int .i64 t) rfl
  have c31_T_1 := T_30.out.at 1 (v := .int .i64 z) rfl
  have c31_T_2 := T_30.out.at 2 (v := .slice a q.length cap) rfl
  have c31_T_3 := T_30.out.at 3 (v := .int .i64 c) rfl
  have c31_T_4 := T_30.out.at 4 (v := .int .i64 u) rfl
  have c31_T_5 := T_30.out.at 5 (v := .slice b h.length caph) rfl
  have c32_A_0 := A_30.out.at 0 (v := .int .i64 0) rfl
  have c32_A_1 := A_30.out.at 1 (v := .int .i64 0) rfl
  have c32_A_2 := A_30.out.at 2 (v := .slice none 0 0) rfl
  have c32_A_3 := A_30.out.at 3 (v := .int .i64 0) rfl
  have c32_A_4 := A_30.out.at 4 (v := .int .i64 0) rfl
  have c32_A_5 := A_30.out.at 5 (v := .slice none 0 0) rfl
  have c33_O_0 := X29_O.out.at 0 (v := .int .i64 t) rfl
  have c33_O_1 := X29_O.out.at 1 (v := .int .i64 z) rfl
  have c33_O_2 := X29_O.out.at 2 (v := .slice (some ⟨g_y, 0, none⟩) q.length q.length) rfl
  have c33_O_3 := X29_O.out.at 3 (v := .int .i64 0) rfl
  have c33_O_4 := X29_O.out.at 4 (v := .int .i64 0) rfl
  have c33_O_5 := X29_O.out.at 5 (v := .slice none 0 0) rfl
  have fr34_O_0 := X29_O.out.free 0
  have fr34_O_1 := X29_O.out.free 1
  have fr34_O_2 := X29_O.out.free 2
  have fr34_O_3 := X29_O.out.free 3
  have fr34_O_4 := X29_O.out.free 4
  have fr34_O_5 := X29_O.out.free 5
  go_upto_region 4 with fail
  clear c31_T_0 c31_T_1 c31_T_2 c31_T_3 c31_T_4 c31_T_5
  clear c32_A_0 c32_A_1 c32_A_2 c32_A_3 c32_A_4 c32_A_5
  clear c33_O_0 c33_O_1 c33_O_2 c33_O_3 c33_O_4 c33_O_5
  clear fr34_O_0 fr34_O_1 fr34_O_2 fr34_O_3 fr34_O_4 fr34_O_5
  obtain ⟨p35, q35⟩ := X29_O.out.set 3 (.int .i64 c)
  obtain ⟨W35, hW35⟩ : ∃ W35, W35 = (W29.setCell ⟨R_O, 3, none⟩ (.int .i64 c)) := ⟨_, rfl⟩
  rw [← hW35] at p35 q35 ⊢
  have X35_O : Hid (Bx W35 R_O #[.int .i64 t, .int .i64 z, .slice (some ⟨g_y, 0, none⟩) q.length q.length, .int .i64 c, .int .i64 0, .slice none 0 0] 29) := Lib.hid p35
  have HB_36 := Lib.hid (HB_30.out.grown q35 HB_30.out.size (fun k hk => by have e2 : R_O = k := Option.some.inj hk; have := HR_O.out; omega))
  have y_36 := Lib.hid (y_30.out.kept q35 (by
    cases hv : (.slice (some ⟨g_y, 0, none⟩) q.length q.length : Value).ownBlock with
    | none => exact .inl rfl
    | some k => exact .inr (fun e => BX_O_y.out k hv (Option.some.inj e))))
  clear y_30
  have T_36 := Lib.hid (T_30.out.grown q35 (by intro e; have e2 : R_T = R_O := Option.some.inj e; have h1 := HR_T.out; have h2 := HR_O.out; omega))
  clear T_30
  have A_36 := Lib.hid (A_30.out.grown q35 (by intro e; have e2 : R_A = R_O := Option.some.inj e; have h1 := HR_A.out; have h2 := HR_O.out; omega))
  clear A_30
  clear X29_O
  clear hW35 p35 q35
  have c37_T_0 := T_36.out.at 0 (v := .int .i64 t) rfl
  have c37_T_1 := T_36.out.at 1 (v := .int .i64 z) rfl
  have c37_T_2 := T_36.out.at 2 (v := .slice a q.length cap) rfl
  have c37_T_3 := T_36.out.at 3 (v := .int .i64 c) rfl
  have c37_T_4 := T_36.out.at 4 (v := .int .i64 u) rfl
  have c37_T_5 := T_36.out.at 5 (v := .slice b h.length caph) rfl
  have c38_A_0 := A_36.out.at 0 (v := .int .i64 0) rfl
  have c38_A_1 := A_36.out.at 1 (v := .int .i64 0) rfl
  have c38_A_2 := A_36.out.at 2 (v := .slice none 0 0) rfl
  have c38_A_3 := A_36.out.at 3 (v := .int .i64 0) rfl
  have c38_A_4 := A_36.out.at 4 (v := .int .i64 0) rfl
  have c38_A_5 := A_36.out.at 5 (v := .slice none 0 0) rfl
  have c39_O_0 := X35_O.out.at 0 (v := .int .i64 t) rfl
  have c39_O_1 := X35_O.out.at 1 (v := .int .i64 z) rfl
  have c39_O_2 := X35_O.out.at 2 (v := .slice (some ⟨g_y, 0, none⟩) q.length q.length) rfl
  have c39_O_3 := X35_O.out.at 3 (v := .int .i64 c) rfl
  have c39_O_4 := X35_O.out.at 4 (v := .int .i64 0) rfl
  have c39_O_5 := X35_O.out.at 5 (v := .slice none 0 0) rfl
  have fr40_O_0 := X35_O.out.free 0
  have fr40_O_1 := X35_O.out.free 1
  have fr40_O_2 := X35_O.out.free 2
  have fr40_O_3 := X35_O.out.free 3
  have fr40_O_4 := X35_O.out.free 4
  have fr40_O_5 := X35_O.out.free 5
  go_upto_region 5 with fail
  clear c37_T_0 c37_T_1 c37_T_2 c37_T_3 c37_T_4 c37_T_5
  clear c38_A_0 c38_A_1 c38_A_2 c38_A_3 c38_A_4 c38_A_5
  clear c39_O_0 c39_O_1 c39_O_2 c39_O_3 c39_O_4 c39_O_5
  clear fr40_O_0 fr40_O_1 fr40_O_2 fr40_O_3 fr40_O_4 fr40_O_5
  obtain ⟨p41, q41⟩ := X35_O.out.set 4 (.int .i64 u)
  obtain ⟨W41, hW41⟩ : ∃ W41, W41 = (W35.setCell ⟨R_O, 4, none⟩ (.int .i64 u)) := ⟨_, rfl⟩
  rw [← hW41] at p41 q41 ⊢
  have X41_O : Hid (Bx W41 R_O #[.int .i64 t, .int .i64 z, .slice (some ⟨g_y, 0, none⟩) q.length q.length, .int .i64 c, .int .i64 u, .slice none 0 0] 29) := Lib.hid p41
  have HB_42 := Lib.hid (HB_36.out.grown q41 HB_36.out.size (fun k hk => by have e2 : R_O = k := Option.some.inj hk; have := HR_O.out; omega))
  have y_42 := Lib.hid (y_36.out.kept q41 (by
    cases hv : (.slice (some ⟨g_y, 0, none⟩) q.length q.length : Value).ownBlock with
    | none => exact .inl rfl
    | some k => exact .inr (fun e => BX_O_y.out k hv (Option.some.inj e))))
  clear y_36
  have T_42 := Lib.hid (T_36.out.grown q41 (by intro e; have e2 : R_T = R_O := Option.some.inj e; have h1 := HR_T.out; have h2 := HR_O.out; omega))
  clear T_36
  have A_42 := Lib.hid (A_36.out.grown q41 (by intro e; have e2 : R_A = R_O := Option.some.inj e; have h1 := HR_A.out; have h2 := HR_O.out; omega))
  clear A_36
  clear X35_O
  clear hW41 p41 q41
  have c43_T_0 := T_42.out.at 0 (v := .int .i64 t) rfl
  have c43_T_1 := T_42.out.at 1 (v := .int .i64 z) rfl
  have c43_T_2 := T_42.out.at 2 (v := .slice a q.length cap) rfl
  have c43_T_3 := T_42.out.at 3 (v := .int .i64 c) rfl
  have c43_T_4 := T_42.out.at 4 (v := .int .i64 u) rfl
  have c43_T_5 := T_42.out.at 5 (v := .slice b h.length caph) rfl
  have c44_A_0 := A_42.out.at 0 (v := .int .i64 0) rfl
  have c44_A_1 := A_42.out.at 1 (v := .int .i64 0) rfl
  have c44_A_2 := A_42.out.at 2 (v := .slice none 0 0) rfl
  have c44_A_3 := A_42.out.at 3 (v := .int .i64 0) rfl
  have c44_A_4 := A_42.out.at 4 (v := .int .i64 0) rfl
  have c44_A_5 := A_42.out.at 5 (v := .slice none 0 0) rfl
  have c45_O_0 := X41_O.out.at 0 (v := .int .i64 t) rfl
  have c45_O_1 := X41_O.out.at 1 (v := .int .i64 z) rfl
  have c45_O_2 := X41_O.out.at 2 (v := .slice (some ⟨g_y, 0, none⟩) q.length q.length) rfl
  have c45_O_3 := X41_O.out.at 3 (v := .int .i64 c) rfl
  have c45_O_4 := X41_O.out.at 4 (v := .int .i64 u) rfl
  have c45_O_5 := X41_O.out.at 5 (v := .slice none 0 0) rfl
  go_wp2_with fail
  refine (HT2.out _ (HH.out.below HB_42.out (Nat.le_refl _))).mono ?_
  rintro e W46 ⟨g_k, rfl, o_k, l46⟩
  have AP_y_k : Hid (∀ k, (.slice (some ⟨g_y, 0, none⟩) q.length q.length : Value).ownBlock = some k → (.slice (some ⟨g_k, 0, none⟩) h.length h.length : Value).ownBlock ≠ some k) := Lib.hid (fun k h1 h2 => absurd (y_42.out.lt k h1).2 (Nat.not_lt.2 (o_k.lt k h2).1))
  have O_k := Lib.hid (ownz_base o_k HB_42.out.size)
  have BX_T_k : Hid (∀ k, (.slice (some ⟨g_k, 0, none⟩) h.length h.length : Value).ownBlock = some k → k ≠ R_T) := Lib.hid (fun k h1 h2 => absurd T_42.out.lt (Nat.not_lt.2 (by rw [← h2]; exact (o_k.lt k h1).1)))
  have BX_A_k : Hid (∀ k, (.slice (some ⟨g_k, 0, none⟩) h.length h.length : Value).ownBlock = some k → k ≠ R_A) := Lib.hid (fun k h1 h2 => absurd A_42.out.lt (Nat.not_lt.2 (by rw [← h2]; exact (o_k.lt k h1).1)))
  have BX_O_k : Hid (∀ k, (.slice (some ⟨g_k, 0, none⟩) h.length h.length : Value).ownBlock = some k → k ≠ R_O) := Lib.hid (fun k h1 h2 => absurd X41_O.out.lt (Nat.not_lt.2 (by rw [← h2]; exact (o_k.lt k h1).1)))
  clear o_k
  clear c43_T_0 c43_T_1 c43_T_2 c43_T_3 c43_T_4 c43_T_5
  clear c44_A_0 c44_A_1 c44_A_2 c44_A_3 c44_A_4 c44_A_5
  clear c45_O_0 c45_O_1 c45_O_2 c45_O_3 c45_O_4 c45_O_5
  have HB_47 := Lib.hid (HB_42.out.trans (l46.mono HB_42.out.size))
  have y_47 := Lib.hid (ownz_below y_42.out l46 (Nat.le_refl _))
  clear y_42
  have T_47 := Lib.hid (T_42.out.below l46 T_42.out.lt)
  clear T_42
  have A_47 := Lib.hid (A_42.out.below l46 A_42.out.lt)
  clear A_42
  have O_47 := Lib.hid (X41_O.out.below l46 X41_O.out.lt)
  clear X41_O
  clear l46
  have c48_T_0 := T_47.out.at 0 (v := .int .i64 t) rfl
  have c48_T_1 := T_47.out.at 1 (v := .int .i64 z) rfl
  have c48_T_2 := T_47.out.at 2 (v := .slice a q.length cap) rfl
  have c48_T_3 := T_47.out.at 3 (v := .int .i64 c) rfl
  have c48_T_4 := T_47.out.at 4 (v := .int .i64 u) rfl
  have c48_T_5 := T_47.out.at 5 (v := .slice b h.length caph) rfl
  have c49_A_0 := A_47.out.at 0 (v := .int .i64 0) rfl
  have c49_A_1 := A_47.out.at 1 (v := .int .i64 0) rfl
  have c49_A_2 := A_47.out.at 2 (v := .slice none 0 0) rfl
  have c49_A_3 := A_47.out.at 3 (v := .int .i64 0) rfl
  have c49_A_4 := A_47.out.at 4 (v := .int .i64 0) rfl
  have c49_A_5 := A_47.out.at 5 (v := .slice none 0 0) rfl
  have c50_O_0 := O_47.out.at 0 (v := .int .i64 t) rfl
  have c50_O_1 := O_47.out.at 1 (v := .int .i64 z) rfl
  have c50_O_2 := O_47.out.at 2 (v := .slice (some ⟨g_y, 0, none⟩) q.length q.length) rfl
  have c50_O_3 := O_47.out.at 3 (v := .int .i64 c) rfl
  have c50_O_4 := O_47.out.at 4 (v := .int .i64 u) rfl
  have c50_O_5 := O_47.out.at 5 (v := .slice none 0 0) rfl
  have fr51_O_0 := O_47.out.free 0
  have fr51_O_1 := O_47.out.free 1
  have fr51_O_2 := O_47.out.free 2
  have fr51_O_3 := O_47.out.free 3
  have fr51_O_4 := O_47.out.free 4
  have fr51_O_5 := O_47.out.free 5
  go_upto_region 6 with fail
  clear c48_T_0 c48_T_1 c48_T_2 c48_T_3 c48_T_4 c48_T_5
  clear c49_A_0 c49_A_1 c49_A_2 c49_A_3 c49_A_4 c49_A_5
  clear c50_O_0 c50_O_1 c50_O_2 c50_O_3 c50_O_4 c50_O_5
  clear fr51_O_0 fr51_O_1 fr51_O_2 fr51_O_3 fr51_O_4 fr51_O_5
  obtain ⟨p52, q52⟩ := O_47.out.set 5 (.slice (some ⟨g_k, 0, none⟩) h.length h.length)
  obtain ⟨W52, hW52⟩ : ∃ W52, W52 = (W46.setCell ⟨R_O, 5, none⟩ (.slice (some ⟨g_k, 0, none⟩) h.length h.length)) := ⟨_, rfl⟩
  rw [← hW52] at p52 q52 ⊢
  have X52_O : Hid (Bx W52 R_O #[.int .i64 t, .int .i64 z, .slice (some ⟨g_y, 0, none⟩) q.length q.length, .int .i64 c, .int .i64 u, .slice (some ⟨g_k, 0, none⟩) h.length h.length] 29) := Lib.hid p52
  have HB_53 := Lib.hid (HB_47.out.grown q52 HB_47.out.size (fun k hk => by have e2 : R_O = k := Option.some.inj hk; have := HR_O.out; omega))
  have y_53 := Lib.hid (y_47.out.kept q52 (by
    cases hv : (.slice (some ⟨g_y, 0, none⟩) q.length q.length : Value).ownBlock with
    | none => exact .inl rfl
    | some k => exact .inr (fun e => BX_O_y.out k hv (Option.some.inj e))))
  clear y_47
  have k_53 := Lib.hid (O_k.out.kept q52 (by
    cases hv : (.slice (some ⟨g_k, 0, none⟩) h.length h.length : Value).ownBlock with
    | none => exact .inl rfl
    | some k => exact .inr (fun e => BX_O_k.out k hv (Option.some.inj e))))
  clear O_k
  have T_53 := Lib.hid (T_47.out.grown q52 (by intro e; have e2 : R_T = R_O := Option.some.inj e; have h1 := HR_T.out; have h2 := HR_O.out; omega))
  clear T_47
  have A_53 := Lib.hid (A_47.out.grown q52 (by intro e; have e2 : R_A = R_O := Option.some.inj e; have h1 := HR_A.out; have h2 := HR_O.out; omega))
  clear A_47
  clear O_47
  clear hW52 p52 q52
  have c54_T_0 := T_53.out.at 0 (v := .int .i64 t) rfl
  have c54_T_1 := T_53.out.at 1 (v := .int .i64 z) rfl
  have c54_T_2 := T_53.out.at 2 (v := .slice a q.length cap) rfl
  have c54_T_3 := T_53.out.at 3 (v := .int .i64 c) rfl
  have c54_T_4 := T_53.out.at 4 (v := .int .i64 u) rfl
  have c54_T_5 := T_53.out.at 5 (v := .slice b h.length caph) rfl
  have c55_A_0 := A_53.out.at 0 (v := .int .i64 0) rfl
  have c55_A_1 := A_53.out.at 1 (v := .int .i64 0) rfl
  have c55_A_2 := A_53.out.at 2 (v := .slice none 0 0) rfl
  have c55_A_3 := A_53.out.at 3 (v := .int .i64 0) rfl
  have c55_A_4 := A_53.out.at 4 (v := .int .i64 0) rfl
  have c55_A_5 := A_53.out.at 5 (v := .slice none 0 0) rfl
  have c56_O_0 := X52_O.out.at 0 (v := .int .i64 t) rfl
  have c56_O_1 := X52_O.out.at 1 (v := .int .i64 z) rfl
  have c56_O_2 := X52_O.out.at 2 (v := .slice (some ⟨g_y, 0, none⟩) q.length q.length) rfl
  have c56_O_3 := X52_O.out.at 3 (v := .int .i64 c) rfl
  have c56_O_4 := X52_O.out.at 4 (v := .int .i64 u) rfl
  have c56_O_5 := X52_O.out.at 5 (v := .slice (some ⟨g_k, 0, none⟩) h.length h.length) rfl
  have fr57_A_0 := A_53.out.free 0
  have fr57_A_1 := A_53.out.free 1
  have fr57_A_2 := A_53.out.free 2
  have fr57_A_3 := A_53.out.free 3
  have fr57_A_4 := A_53.out.free 4
  have fr57_A_5 := A_53.out.free 5
  go_wp2_with fail
  obtain ⟨p1, q1⟩ := A_53.out.store6 (.int .i64 t) (.int .i64 z) (.slice (some ⟨g_y, 0, none⟩) q.length q.length) (.int .i64 c) (.int .i64 u) (.slice (some ⟨g_k, 0, none⟩) h.length h.length)
  exact bodyPost_ret (results_bx rfl isSo _ _ R_A rfl rfl p1) rfl ⟨g_y, g_k, rfl, (y_53.out.kept q1 (by
    cases hv : (.slice (some ⟨g_y, 0, none⟩) q.length q.length : Value).ownBlock with
    | none => exact .inl rfl
    | some k => exact .inr (fun e => BX_A_y.out k hv (Option.some.inj e)))), (k_53.out.kept q1 (by
    cases hv : (.slice (some ⟨g_k, 0, none⟩) h.length h.length : Value).ownBlock with
    | none => exact .inl rfl
    | some k => exact .inr (fun e => BX_A_k.out k hv (Option.some.inj e)))), fun e => AP_y_k.out g_y rfl (by rw [e]; rfl), (HB_53.out.grown q1 HB_53.out.size (fun k hk => by have e2 : R_A = k := Option.some.inj hk; have := HR_A.out; omega))⟩
end Go.Proofs.Ytlendmiolhgecaa
