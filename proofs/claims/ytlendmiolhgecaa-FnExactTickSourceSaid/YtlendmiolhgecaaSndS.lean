/-
  Windows of the source: the laws' helpers.
-/
import Derived.Test.YtlendmiolhgecaaSnd
import Derived.Test.YtlendmiolhgecaaStrS
import Derived.Deep.QuietTactic
import Derived.BigQuiet
import Derived.IntWalk
import Derived.Deep.CutRange
import Derived.WalkLawsBesides
import Derived.Lib.SmallJoins
import Derived.Deep.RegionHeld3
namespace Go.Proofs.Ytlendmiolhgecaa
open Go.RowKit Go.Lib Go.Joins
set_option linter.unusedVariables false

set_option maxRecDepth 100000 in
set_option maxHeartbeats 1000000 in
theorem szSw_any (v : Value) (l : Sw) (w : World) (hrow : Row w v l.q.length (l.q.map Value.string)) (hs : ∀ s ∈ l.q, s.size ≤ maxLen) (left : Nat) (hl : left ≤ 1048576) :
    Calls Try.prog 74 #[.agg #[.int .i64 l.t, .int .i64 l.z, v], .int .i64 left] w fun e w' => Below w.heap.size w w' ∧ ∃ r : Int, e = .returned (.int .i64 r) ∧ r ≤ 1048576 ∧ (r < 0 ∨ (l.q.length ≤ left ∧ (∀ s ∈ l.q, s.size ≤ left) ∧ 0 ≤ r ∧ r ≤ left)) := by
  obtain ⟨t, z, q⟩ := l
  dsimp only at hrow hs ⊢
  obtain ⟨a, cap, rfl, hc1, hm1, _⟩ := row_open hrow
  unfold maxLen at hm1
  have HP := Lib.hid hrow
  clear hrow
  have HS := Lib.hid hs
  clear hs
  obtain ⟨W0, R_T, hW0, hR_T, hX_T, hB0⟩ := entry1 w #[.int .i64 t, .int .i64 z, .slice a q.length cap] 56
  have HW0 := Lib.hid hW0
  have HB0 := Lib.hid hB0
  have HR_T := Lib.hid hR_T
  have HX_T := Lib.hid hX_T
  clear hW0 hB0 hR_T hX_T
  have HZ := Lib.hid (szStringS_le (.slice a q.length cap) q W0 (HP.out.below HB0.out (Nat.le_refl _)) HS.out left hl)
  have c1_T_0 := HX_T.out.at 0 (v := .int .i64 t) rfl
  have c1_T_1 := HX_T.out.at 1 (v := .int .i64 z) rfl
  have c1_T_2 := HX_T.out.at 2 (v := .slice a q.length cap) rfl
  go_enter Try.func74, Try.ntmps74
  go_upto_region 1 with fail
  rw [← HW0.out, ← HR_T.out]
  go_wp2_with fail
  refine HZ.out.mono ?_
  rintro e W2 ⟨rfl, r, rfl, hr⟩
  by_cases h0 : r < 0
  · clear hr
    go_wp2_with fail
    go_ret
    exact ⟨HB0.out, -1, rfl, by omega, .inl (by omega)⟩
  · obtain ⟨h1, h2, h3, h4⟩ := hr.resolve_left h0
    have H2 := Lib.hid h2
    clear hr h2
    go_wp2_with fail
    go_ret
    exact ⟨HB0.out, r, rfl, by omega, .inr ⟨h1, H2.out, h3, h4⟩⟩
set_option maxRecDepth 100000 in
set_option maxHeartbeats 1000000 in
theorem eqSw_same (v1 v2 : Value) (l : Sw) (w : World) (h1 : Row w v1 l.q.length (l.q.map Value.string)) (h2 : Row w v2 l.q.length (l.q.map Value.string)) :
    Calls Try.prog 68 #[.agg #[.int .i64 l.t, .int .i64 l.z, v1], .agg #[.int .i64 l.t, .int .i64 l.z, v2]] w fun e w' => e = .returned (.bool true) ∧ Below w.heap.size w w' := by
  obtain ⟨t, z, q⟩ := l
  dsimp only at h1 h2 ⊢
  obtain ⟨W0, R_T, R_U, hW0, hR_T, hR_U, hX_T, hX_U, hB0⟩ := entry2 w #[.int .i64 t, .int .i64 z, v1] #[.int .i64 t, .int .i64 z, v2] 26 26
  have HW0 := Lib.hid hW0
  have HB0 := Lib.hid hB0
  have HR_T := Lib.hid hR_T
  have HX_T := Lib.hid hX_T
  have HR_U := Lib.hid hR_U
  have HX_U := Lib.hid hX_U
  clear hW0 hB0 hR_T hX_T hR_U hX_U
  have HE := Lib.hid (eqStringS_any v1 v2 q q W0 (h1.below HB0.out (Nat.le_refl _)) (h2.below HB0.out (Nat.le_refl _)))
  rw [decide_eq_true (rfl : q = q)] at HE
  clear h1 h2
  have c2_T_0 := HX_T.out.at 0 (v := .int .i64 t) rfl
  have c2_T_1 := HX_T.out.at 1 (v := .int .i64 z) rfl
  have c2_T_2 := HX_T.out.at 2 (v := v1) rfl
  have c3_U_0 := HX_U.out.at 0 (v := .int .i64 t) rfl
  have c3_U_1 := HX_U.out.at 1 (v := .int .i64 z) rfl
  have c3_U_2 := HX_U.out.at 2 (v := v2) rfl
  go_enter Try.func68, Try.ntmps68
  go_upto_region 1 with fail
  rw [← HW0.out, ← HR_U.out, ← HR_T.out]
  go_wp2_with fail
  refine (HE.out).mono ?_
  rintro e W4 ⟨rfl, k9, hk9⟩
  have l4 : Below W0.heap.size W0 W4 := by rw [hk9]; exact bdrew _ _
  clear hk9
  clear c2_T_0 c2_T_1 c2_T_2
  clear c3_U_0 c3_U_1 c3_U_2
  have HB_5 := Lib.hid (HB0.out.trans (l4.mono HB0.out.size))
  have T_5 := Lib.hid (HX_T.out.below l4 HX_T.out.lt)
  have U_5 := Lib.hid (HX_U.out.below l4 HX_U.out.lt)
  clear l4
  have c6_T_0 := T_5.out.at 0 (v := .int .i64 t) rfl
  have c6_T_1 := T_5.out.at 1 (v := .int .i64 z) rfl
  have c6_T_2 := T_5.out.at 2 (v := v1) rfl
  have c7_U_0 := U_5.out.at 0 (v := .int .i64 t) rfl
  have c7_U_1 := U_5.out.at 1 (v := .int .i64 z) rfl
  have c7_U_2 := U_5.out.at 2 (v := v2) rfl
  go_wp2_with fail
  go_ret
  exact ⟨rfl, HB_5.out⟩
set_option maxRecDepth 100000 in
set_option maxHeartbeats 1000000 in
theorem markSw_own (v : Value) (t z : Int) (n k base : Nat) (xs : List Value) (w : World) (hown : w.ownsRow base 9 1 v n xs) (h0 : 1 ≤ k) (hk : k + n ≤ 100000000) :
    Calls Try.prog 70 #[.agg #[.int .i64 t, .int .i64 z, v], .int .i64 k] w fun e w' => e = .returned (.int .i64 (k + n : Nat)) ∧ w'.ownsRow base 9 1 v n (marks k n) ∧ w.grownBy w' v.ownBlock := by
  obtain ⟨W0, R_T, hW0, hR_T, hX_T, hB0⟩ := entry1 w #[.int .i64 t, .int .i64 z, v] 26
  have HW0 := Lib.hid hW0
  have HB0 := Lib.hid hB0
  have HR_T := Lib.hid hR_T
  have HX_T := Lib.hid hX_T
  clear hW0 hB0 hR_T hX_T
  have HG0 : Hid (w.grownBy W0 v.ownBlock) := Lib.hid (by rw [HW0.out]; exact World.grownBy_alloc w _ v.ownBlock)
  have HM := Lib.hid (markS_own v n k base xs W0 (by rw [HW0.out]; exact own_grown hown (World.grownBy_alloc _ _ none)) h0 hk)
  have hd : ¬ ((k + n : Nat) : Int) < 0 := by omega
  clear hown
  have c8_T_0 := HX_T.out.at 0 (v := .int .i64 t) rfl
  have c8_T_1 := HX_T.out.at 1 (v := .int .i64 z) rfl
  have c8_T_2 := HX_T.out.at 2 (v := v) rfl
  go_enter Try.func70, Try.ntmps70
  go_upto_region 1 with fail
  rw [← HW0.out, ← HR_T.out]
  go_wp2_with fail
  refine HM.out.mono ?_
  rintro e W1 ⟨rfl, o1, g1⟩
  have HO := Lib.hid o1
  have HG2 := Lib.hid (grown_trans HG0.out g1)
  clear o1 g1
  go_wp2_with fail
  go_ret
  exact ⟨rfl, HO.out, HG2.out⟩
set_option maxRecDepth 100000 in
set_option maxHeartbeats 1000000 in
theorem heldSw_own (v : Value) (t z : Int) (n k base : Nat)  (w : World) (hown : w.ownsRow base 9 1 v n (marks k n)) (h0 : 1 ≤ k) (hk : k + n ≤ 100000000) :
    Calls Try.prog 72 #[.agg #[.int .i64 t, .int .i64 z, v], .int .i64 k] w fun e w' => e = .returned (.int .i64 (k + n : Nat)) ∧ Below w.heap.size w w' := by
  obtain ⟨W0, R_T, hW0, hR_T, hX_T, hB0⟩ := entry1 w #[.int .i64 t, .int .i64 z, v] 26
  have HW0 := Lib.hid hW0
  have HB0 := Lib.hid hB0
  have HR_T := Lib.hid hR_T
  have HX_T := Lib.hid hX_T
  clear hW0 hB0 hR_T hX_T
  have HG0 : Hid (w.grownBy W0 v.ownBlock) := Lib.hid (by rw [HW0.out]; exact World.grownBy_alloc w _ v.ownBlock)
  have HM := Lib.hid (heldS_own v n k base W0 (by rw [HW0.out]; exact own_grown hown (World.grownBy_alloc _ _ none)) h0 hk)
  have hd : ¬ ((k + n : Nat) : Int) < 0 := by omega
  clear hown
  have c9_T_0 := HX_T.out.at 0 (v := .int .i64 t) rfl
  have c9_T_1 := HX_T.out.at 1 (v := .int .i64 z) rfl
  have c9_T_2 := HX_T.out.at 2 (v := v) rfl
  go_enter Try.func72, Try.ntmps72
  go_upto_region 1 with fail
  rw [← HW0.out, ← HR_T.out]
  go_wp2_with fail
  refine HM.out.mono ?_
  rintro e W1 ⟨rfl, g1⟩
  have HB2 := Lib.hid (HB0.out.trans ((below_none g1).mono HB0.out.size))
  clear g1
  go_wp2_with fail
  go_ret
  exact ⟨rfl, HB2.out⟩
set_option maxRecDepth 100000 in
set_option maxHeartbeats 2000000 in
theorem toSw_lit (v : Value) (l : Sw) (w : World) (hrow : Row w v l.q.length (l.q.map Value.string)) (hn : l.q.length ≤ 1048576) :
    Calls Try.prog 76 #[.agg #[.int .i64 l.t, .int .i64 l.z, v]] w fun e w' => ∃ g : Nat, e = .returned (.agg #[.int .i64 l.t, .int .i64 l.z, .slice (some ⟨g, 0, none⟩) l.q.length l.q.length]) ∧ w'.ownsRow w.heap.size 9 1 (.slice (some ⟨g, 0, none⟩) l.q.length l.q.length) l.q.length (l.q.map Value.string) ∧ Below w.heap.size w w' := by
  obtain ⟨t, z, q⟩ := l
  dsimp only at hrow ⊢
  obtain ⟨a, cap, rfl, hc1, hm1, _⟩ := row_open hrow
  unfold maxLen at hm1
  have HP := Lib.hid hrow
  clear hrow
  dsimp only at hn
  obtain ⟨W0, R_T, R_A, R_O, hW0, hR_T, hR_A, hR_O, hX_T, hX_A, hX_O, hB0⟩ := entry3 w #[.int .i64 t, .int .i64 z, .slice a q.length cap] #[.int .i64 0, .int .i64 0, .slice none 0 0] #[.int .i64 0, .int .i64 0, .slice none 0 0] 56 26 26
  have HW0 := Lib.hid hW0
  have HB0 := Lib.hid hB0
  have HR_T := Lib.hid hR_T
  have HX_T := Lib.hid hX_T
  have HR_A := Lib.hid hR_A
  have HX_A := Lib.hid hX_A
  have HR_O := Lib.hid hR_O
  have HX_O := Lib.hid hX_O
  clear hW0 hB0 hR_T hX_T hR_A hX_A hR_O hX_O
  have HTo := Lib.hid (fun (W1 : World) (hr : Row W1 (.slice a q.length cap) q.length (q.map Value.string)) => toStringS_lit (.slice a q.length cap) q W1 hr hn)
  have c10_T_0 := HX_T.out.at 0 (v := .int .i64 t) rfl
  have c10_T_1 := HX_T.out.at 1 (v := .int .i64 z) rfl
  have c10_T_2 := HX_T.out.at 2 (v := .slice a q.length cap) rfl
  have c11_A_0 := HX_A.out.at 0 (v := .int .i64 0) rfl
  have c11_A_1 := HX_A.out.at 1 (v := .int .i64 0) rfl
  have c11_A_2 := HX_A.out.at 2 (v := .slice none 0 0) rfl
  have c12_O_0 := HX_O.out.at 0 (v := .int .i64 0) rfl
  have c12_O_1 := HX_O.out.at 1 (v := .int .i64 0) rfl
  have c12_O_2 := HX_O.out.at 2 (v := .slice none 0 0) rfl
  go_enter Try.func76, Try.ntmps76
  go_upto_region 2 with fail
  rw [← HW0.out, ← HR_O.out, ← HR_A.out, ← HR_T.out]
  have fr13_O_0 := HX_O.out.free 0
  have fr13_O_1 := HX_O.out.free 1
  have fr13_O_2 := HX_O.out.free 2
  go_upto_region 3 with fail
  clear c10_T_0 c10_T_1 c10_T_2
  clear c11_A_0 c11_A_1 c11_A_2
  clear c12_O_0 c12_O_1 c12_O_2
  clear fr13_O_0 fr13_O_1 fr13_O_2
  obtain ⟨p14, q14⟩ := HX_O.out.set 0 (.int .i64 t)
  obtain ⟨W14, hW14⟩ : ∃ W14, W14 = (W0.setCell ⟨R_O, 0, none⟩ (.int .i64 t)) := ⟨_, rfl⟩
  rw [← hW14] at p14 q14 ⊢
  have X14_O : Hid (Bx W14 R_O #[.int .i64 t, .int .i64 0, .slice none 0 0] 26) := Lib.hid p14
  have HB_15 := Lib.hid (HB0.out.grown q14 HB0.out.size (fun k hk => by have e2 : R_O = k := Option.some.inj hk; have := HR_O.out; omega))
  have T_15 := Lib.hid (HX_T.out.grown q14 (by intro e; have e2 : R_T = R_O := Option.some.inj e; have h1 := HR_T.out; have h2 := HR_O.out; omega))
  have A_15 := Lib.hid (HX_A.out.grown q14 (by intro e; have e2 : R_A = R_O := Option.some.inj e; have h1 := HR_A.out; have h2 := HR_O.out; omega))
  clear hW14 p14 q14
  have c16_T_0 := T_15.out.at 0 (v := .int .i64 t) rfl
  have c16_T_1 := T_15.out.at 1 (v := .int .i64 z) rfl
  have c16_T_2 := T_15.out.at 2 (v := .slice a q.length cap) rfl
  have c17_A_0 := A_15.out.at 0 (v := .int .i64 0) rfl
  have c17_A_1 := A_15.out.at 1 (v := .int .i64 0) rfl
  have c17_A_2 := A_15.out.at 2 (v := .slice none 0 0) rfl
  have c18_O_0 := X14_O.out.at 0 (v := .int .i64 t) rfl
  have c18_O_1 := X14_O.out.at 1 (v := .int .i64 0) rfl
  have c18_O_2 := X14_O.out.at 2 (v := .slice none 0 0) rfl
  have fr19_O_0 := X14_O.out.free 0
  have fr19_O_1 := X14_O.out.free 1
  have fr19_O_2 := X14_O.out.free 2
  go_upto_region 4 with fail
  clear c16_T_0 c16_T_1 c16_T_2
  clear c17_A_0 c17_A_1 c17_A_2
  clear c18_O_0 c18_O_1 c18_O_2
  clear fr19_O_0 fr19_O_1 fr19_O_2
  obtain ⟨p20, q20⟩ := X14_O.out.set 1 (.int .i64 z)
  obtain ⟨W20, hW20⟩ : ∃ W20, W20 = (W14.setCell ⟨R_O, 1, none⟩ (.int .i64 z)) := ⟨_, rfl⟩
  rw [← hW20] at p20 q20 ⊢
  have X20_O : Hid (Bx W20 R_O #[.int .i64 t, .int .i64 z, .slice none 0 0] 26) := Lib.hid p20
  have HB_21 := Lib.hid (HB_15.out.grown q20 HB_15.out.size (fun k hk => by have e2 : R_O = k := Option.some.inj hk; have := HR_O.out; omega))
  have T_21 := Lib.hid (T_15.out.grown q20 (by intro e; have e2 : R_T = R_O := Option.some.inj e; have h1 := HR_T.out; have h2 := HR_O.out; omega))
  clear T_15
  have A_21 := Lib.hid (A_15.out.grown q20 (by intro e; have e2 : R_A = R_O := Option.some.inj e; have h1 := HR_A.out; have h2 := HR_O.out; omega))
  clear A_15
  clear X14_O
  clear hW20 p20 q20
  have c22_T_0 := T_21.out.at 0 (v := .int .i64 t) rfl
  have c22_T_1 := T_21.out.at 1 (v := .int .i64 z) rfl
  have c22_T_2 := T_21.out.at 2 (v := .slice a q.length cap) rfl
  have c23_A_0 := A_21.out.at 0 (v := .int .i64 0) rfl
  have c23_A_1 := A_21.out.at 1 (v := .int .i64 0) rfl
  have c23_A_2 := A_21.out.at 2 (v := .slice none 0 0) rfl
  have c24_O_0 := X20_O.out.at 0 (v := .int .i64 t) rfl
  have c24_O_1 := X20_O.out.at 1 (v := .int .i64 z) rfl
  have c24_O_2 := X20_O.out.at 2 (v := .slice none 0 0) rfl
  go_wp2_with fail
  refine (HTo.out _ (HP.out.below HB_21.out (Nat.le_refl _))).mono ?_
  rintro e W25 ⟨gq, rfl, o_q, l25⟩
  have O_q := Lib.hid (own_base o_q HB_21.out.size)
  have BX_T_q : Hid (∀ k, (.slice (some ⟨gq, 0, none⟩) q.length q.length : Value).ownBlock = some k → k ≠ R_T) := Lib.hid (fun k h1 h2 => absurd T_21.out.lt (Nat.not_lt.2 (by rw [← h2]; exact (o_q.lt k h1).1)))
  have BX_A_q : Hid (∀ k, (.slice (some ⟨gq, 0, none⟩) q.length q.length : Value).ownBlock = some k → k ≠ R_A) := Lib.hid (fun k h1 h2 => absurd A_21.out.lt (Nat.not_lt.2 (by rw [← h2]; exact (o_q.lt k h1).1)))
  have BX_O_q : Hid (∀ k, (.slice (some ⟨gq, 0, none⟩) q.length q.length : Value).ownBlock = some k → k ≠ R_O) := Lib.hid (fun k h1 h2 => absurd X20_O.out.lt (Nat.not_lt.2 (by rw [← h2]; exact (o_q.lt k h1).1)))
  clear o_q
  clear c22_T_0 c22_T_1 c22_T_2
  clear c23_A_0 c23_A_1 c23_A_2
  clear c24_O_0 c24_O_1 c24_O_2
  have HB_26 := Lib.hid (HB_21.out.trans (l25.mono HB_21.out.size))
  have T_26 := Lib.hid (T_21.out.below l25 T_21.out.lt)
  clear T_21
  have A_26 := Lib.hid (A_21.out.below l25 A_21.out.lt)
  clear A_21
  have O_26 := Lib.hid (X20_O.out.below l25 X20_O.out.lt)
  clear X20_O
  clear l25
  have c27_T_0 := T_26.out.at 0 (v := .int .i64 t) rfl
  have c27_T_1 := T_26.out.at 1 (v := .int .i64 z) rfl
  have c27_T_2 := T_26.out.at 2 (v := .slice a q.length cap) rfl
  have c28_A_0 := A_26.out.at 0 (v := .int .i64 0) rfl
  have c28_A_1 := A_26.out.at 1 (v := .int .i64 0) rfl
  have c28_A_2 := A_26.out.at 2 (v := .slice none 0 0) rfl
  have c29_O_0 := O_26.out.at 0 (v := .int .i64 t) rfl
  have c29_O_1 := O_26.out.at 1 (v := .int .i64 z) rfl
  have c29_O_2 := O_26.out.at 2 (v := .slice none 0 0) rfl
  have fr30_O_0 := O_26.out.free 0
  have fr30_O_1 := O_26.out.free 1
  have fr30_O_2 := O_26.out.free 2
  go_upto_region 5 with fail
  clear c27_T_0 c27_T_1 c27_T_2
  clear c28_A_0 c28_A_1 c28_A_2
  clear c29_O_0 c29_O_1 c29_O_2
  clear fr30_O_0 fr30_O_1 fr30_O_2
  obtain ⟨p31, q31⟩ := O_26.out.set 2 (.slice (some ⟨gq, 0, none⟩) q.length q.length)
  obtain ⟨W31, hW31⟩ : ∃ W31, W31 = (W25.setCell ⟨R_O, 2, none⟩ (.slice (some ⟨gq, 0, none⟩) q.length q.length)) := ⟨_, rfl⟩
  rw [← hW31] at p31 q31 ⊢
  have X31_O : Hid (Bx W31 R_O #[.int .i64 t, .int .i64 z, .slice (some ⟨gq, 0, none⟩) q.length q.length] 26) := Lib.hid p31
  have HB_32 := Lib.hid (HB_26.out.grown q31 HB_26.out.size (fun k hk => by have e2 : R_O = k := Option.some.inj hk; have := HR_O.out; omega))
  have q_32 := Lib.hid (O_q.out.kept q31 (by
    cases hv : (.slice (some ⟨gq, 0, none⟩) q.length q.length : Value).ownBlock with
    | none => exact .inl rfl
    | some k => exact .inr (fun e => BX_O_q.out k hv (Option.some.inj e))))
  clear O_q
  have T_32 := Lib.hid (T_26.out.grown q31 (by intro e; have e2 : R_T = R_O := Option.some.inj e; have h1 := HR_T.out; have h2 := HR_O.out; omega))
  clear T_26
  have A_32 := Lib.hid (A_26.out.grown q31 (by intro e; have e2 : R_A = R_O := Option.some.inj e; have h1 := HR_A.out; have h2 := HR_O.out; omega))
  clear A_26
  clear O_26
  clear hW31 p31 q31
  have c33_T_0 := T_32.out.at 0 (v := .int .i64 t) rfl
  have c33_T_1 := T_32.out.at 1 (v := .int .i64 z) rfl
  have c33_T_2 := T_32.out.at 2 (v := .slice a q.length cap) rfl
  have c34_A_0 := A_32.out.at 0 (v := .int .i64 0) rfl
  have c34_A_1 := A_32.out.at 1 (v := .int .i64 0) rfl
  have c34_A_2 := A_32.out.at 2 (v := .slice none 0 0) rfl
  have c35_O_0 := X31_O.out.at 0 (v := .int .i64 t) rfl
  have c35_O_1 := X31_O.out.at 1 (v := .int .i64 z) rfl
  have c35_O_2 := X31_O.out.at 2 (v := .slice (some ⟨gq, 0, none⟩) q.length q.length) rfl
  have fr36_A_0 := A_32.out.free 0
  have fr36_A_1 := A_32.out.free 1
  have fr36_A_2 := A_32.out.free 2
  go_wp2_with fail
  obtain ⟨p1, q1⟩ := A_32.out.store3 (.int .i64 t) (.int .i64 z) (.slice (some ⟨gq, 0, none⟩) q.length q.length)
  refine bodyPost_ret (results_bx rfl isSw _ _ R_A rfl rfl p1) rfl ⟨gq, rfl, (q_32.out.kept q1 (by
    cases hv : (.slice (some ⟨gq, 0, none⟩) q.length q.length : Value).ownBlock with
    | none => exact .inl rfl
    | some k => exact .inr (fun e => BX_A_q.out k hv (Option.some.inj e)))), (HB_32.out.grown q1 HB_32.out.size (fun k hk => by have e2 : R_A = k := Option.some.inj hk; have := HR_A.out; omega))⟩
end Go.Proofs.Ytlendmiolhgecaa
