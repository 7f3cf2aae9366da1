/-
  Receive windows: the laws' helpers.
-/
import Derived.Test.YtpmjdppipalfcaaDoorRcvB
import Derived.Test.YtpmjdppipalfcaaDoorSltM
import Derived.Test.YtpmjdppipalfcaaDoorStrS
import Derived.Deep.QuietTactic
import Derived.BigQuiet
import Derived.IntWalk
import Derived.Deep.CutRange
import Derived.WalkLawsBesides
import Derived.Lib.SmallJoins
import Derived.Deep.RegionHeld3
namespace Go.Proofs.YtpmjdppipalfcaaDoor
open Go.RowKit Go.Lib Go.Joins
set_option linter.unusedVariables false

set_option maxRecDepth 100000 in
set_option maxHeartbeats 1000000 in
theorem szRw_any (v : Value) (l : Rw) (w : World) (hrow : Row w v l.q.length (slF l.q)) (hs : ∀ s ∈ l.q, s.s.size ≤ maxLen) (left : Nat) (hl : left ≤ 1048576) :
    Calls Tryd.prog 25 #[.agg #[.int .i64 l.x, v], .int .i64 left] w fun e w' => Below w.heap.size w w' ∧ ∃ r : Int, e = .returned (.int .i64 r) ∧ r ≤ 1048576 ∧ (r < 0 ∨ (l.q.length ≤ left ∧ 0 ≤ r ∧ r ≤ left)) := by
  obtain ⟨x, q⟩ := l
  dsimp only at hrow hs ⊢
  obtain ⟨a, cap, rfl, hc1, hm1, _⟩ := sl_open hrow
  unfold maxLen at hm1
  have HP := Lib.hid hrow
  clear hrow
  have HS := Lib.hid hs
  clear hs
  obtain ⟨W0, R_T, hW0, hR_T, hX_T, hB0⟩ := entry1 w #[.int .i64 x, .slice a q.length cap] 53
  have HW0 := Lib.hid hW0
  have HB0 := Lib.hid hB0
  have HR_T := Lib.hid hR_T
  have HX_T := Lib.hid hX_T
  clear hW0 hB0 hR_T hX_T
  have HZ := Lib.hid (szSlS_le (.slice a q.length cap) q W0 (HP.out.below HB0.out (Nat.le_refl _)) HS.out left hl)
  have c1_T_0 := HX_T.out.at 0 (v := .int .i64 x) rfl
  have c1_T_1 := HX_T.out.at 1 (v := .slice a q.length cap) rfl
  go_enter Tryd.func25, Tryd.ntmps25
  go_upto_region 1 with fail
  rw [← HW0.out, ← HR_T.out]
  go_wp2_with fail
  refine HZ.out.mono ?_
  rintro e W2 ⟨l2, r, rfl, hr⟩
  clear c1_T_0 c1_T_1
  have HB_2 := Lib.hid (HB0.out.trans (l2.mono HB0.out.size))
  have T_2 := Lib.hid (HX_T.out.below l2 HX_T.out.lt)
  clear l2
  have c3_T_0 := T_2.out.at 0 (v := .int .i64 x) rfl
  have c3_T_1 := T_2.out.at 1 (v := .slice a q.length cap) rfl
  by_cases h0 : r < 0
  · clear hr
    go_wp2_with fail
    go_ret
    exact ⟨HB_2.out, -1, rfl, by omega, .inl (by omega)⟩
  · obtain ⟨h1, h3, h4⟩ := hr.resolve_left h0
    clear hr
    go_wp2_with fail
    go_ret
    exact ⟨HB_2.out, r, rfl, by omega, .inr ⟨h1, h3, h4⟩⟩
set_option maxRecDepth 100000 in
set_option maxHeartbeats 1000000 in
theorem eqRw_same (v1 v2 : Value) (l : Rw) (w : World) (h1 : Row w v1 l.q.length (slF l.q)) (h2 : Row w v2 l.q.length (slF l.q)) :
    Calls Tryd.prog 27 #[.agg #[.int .i64 l.x, v1], .agg #[.int .i64 l.x, v2]] w fun e w' => e = .returned (.bool true) ∧ Below w.heap.size w w' := by
  obtain ⟨x, q⟩ := l
  dsimp only at h1 h2 ⊢
  obtain ⟨W0, R_T, R_U, hW0, hR_T, hR_U, hX_T, hX_U, hB0⟩ := entry2 w #[.int .i64 x, v1] #[.int .i64 x, v2] 26 26
  have HW0 := Lib.hid hW0
  have HB0 := Lib.hid hB0
  have HR_T := Lib.hid hR_T
  have HX_T := Lib.hid hX_T
  have HR_U := Lib.hid hR_U
  have HX_U := Lib.hid hX_U
  clear hW0 hB0 hR_T hX_T hR_U hX_U
  have HE := Lib.hid (eqSlS_same v1 v2 q W0 (h1.below HB0.out (Nat.le_refl _)) (h2.below HB0.out (Nat.le_refl _)))
  clear h1 h2
  have c4_T_0 := HX_T.out.at 0 (v := .int .i64 x) rfl
  have c4_T_1 := HX_T.out.at 1 (v := v1) rfl
  have c5_U_0 := HX_U.out.at 0 (v := .int .i64 x) rfl
  have c5_U_1 := HX_U.out.at 1 (v := v2) rfl
  go_enter Tryd.func27, Tryd.ntmps27
  go_upto_region 1 with fail
  rw [← HW0.out, ← HR_U.out, ← HR_T.out]
  go_wp2_with fail
  refine (HE.out).mono ?_
  rintro e W6 ⟨rfl, l6⟩
  clear c4_T_0 c4_T_1
  clear c5_U_0 c5_U_1
  have HB_7 := Lib.hid (HB0.out.trans (l6.mono HB0.out.size))
  have T_7 := Lib.hid (HX_T.out.below l6 HX_T.out.lt)
  have U_7 := Lib.hid (HX_U.out.below l6 HX_U.out.lt)
  clear l6
  have c8_T_0 := T_7.out.at 0 (v := .int .i64 x) rfl
  have c8_T_1 := T_7.out.at 1 (v := v1) rfl
  have c9_U_0 := U_7.out.at 0 (v := .int .i64 x) rfl
  have c9_U_1 := U_7.out.at 1 (v := v2) rfl
  go_wp2_with fail
  go_ret
  exact ⟨rfl, HB_7.out⟩
set_option maxRecDepth 100000 in
set_option maxHeartbeats 1000000 in
theorem markRw_own (v : Value) (x : Int) (n k base : Nat) (xs : List Value) (w : World) (hown : w.ownsRow base 75 2 v n xs) (h0 : 1 ≤ k) (hk : k + 2 * n ≤ 100000000) :
    Calls Tryd.prog 29 #[.agg #[.int .i64 x, v], .int .i64 k] w fun e w' => e = .returned (.int .i64 (k + 2 * n : Nat)) ∧ w'.ownsRow base 75 2 v n (mkSl k n) ∧ w.grownBy w' v.ownBlock := by
  obtain ⟨W0, R_T, hW0, hR_T, hX_T, hB0⟩ := entry1 w #[.int .i64 x, v] 26
  have HW0 := Lib.hid hW0
  have HB0 := Lib.hid hB0
  have HR_T := Lib.hid hR_T
  have HX_T := Lib.hid hX_T
  clear hW0 hB0 hR_T hX_T
  have HG0 : Hid (w.grownBy W0 v.ownBlock) := Lib.hid (by rw [HW0.out]; exact World.grownBy_alloc w _ v.ownBlock)
  have HM := Lib.hid (markSl_own v n k base xs W0 (by rw [HW0.out]; exact ownz_none hown (World.grownBy_alloc _ _ none)) h0 hk)
  have hd : ¬ ((k + 2 * n : Nat) : Int) < 0 := by omega
  clear hown
  have c10_T_0 := HX_T.out.at 0 (v := .int .i64 x) rfl
  have c10_T_1 := HX_T.out.at 1 (v := v) rfl
  go_enter Tryd.func29, Tryd.ntmps29
  go_upto_region 1 with fail
  rw [← HW0.out, ← HR_T.out]
  go_wp2_with fail
  refine HM.out.mono ?_
  rintro e W1 ⟨rfl, o1, g1⟩
  have HO := Lib.hid o1
  have HG2 := Lib.hid (grown_trans HG0.out g1)
  clear o1 g1
  go_wp2_with fail
  go_ret
  exact ⟨rfl, HO.out, HG2.out⟩
set_option maxRecDepth 100000 in
set_option maxHeartbeats 1000000 in
theorem heldRw_own (v : Value) (x : Int) (n k base : Nat)  (w : World) (hown : w.ownsRow base 75 2 v n (mkSl k n)) (h0 : 1 ≤ k) (hk : k + 2 * n ≤ 100000000) :
    Calls Tryd.prog 30 #[.agg #[.int .i64 x, v], .int .i64 k] w fun e w' => e = .returned (.int .i64 (k + 2 * n : Nat)) ∧ Below w.heap.size w w' := by
  obtain ⟨W0, R_T, hW0, hR_T, hX_T, hB0⟩ := entry1 w #[.int .i64 x, v] 26
  have HW0 := Lib.hid hW0
  have HB0 := Lib.hid hB0
  have HR_T := Lib.hid hR_T
  have HX_T := Lib.hid hX_T
  clear hW0 hB0 hR_T hX_T
  have HG0 : Hid (w.grownBy W0 v.ownBlock) := Lib.hid (by rw [HW0.out]; exact World.grownBy_alloc w _ v.ownBlock)
  have HM := Lib.hid (heldSl_own v n k base W0 (by rw [HW0.out]; exact ownz_none hown (World.grownBy_alloc _ _ none)) h0 hk)
  have hd : ¬ ((k + 2 * n : Nat) : Int) < 0 := by omega
  clear hown
  have c11_T_0 := HX_T.out.at 0 (v := .int .i64 x) rfl
  have c11_T_1 := HX_T.out.at 1 (v := v) rfl
  go_enter Tryd.func30, Tryd.ntmps30
  go_upto_region 1 with fail
  rw [← HW0.out, ← HR_T.out]
  go_wp2_with fail
  refine HM.out.mono ?_
  rintro e W1 ⟨rfl, g1⟩
  have HB2 := Lib.hid (HB0.out.trans ((below_none g1).mono HB0.out.size))
  clear g1
  go_wp2_with fail
  go_ret
  exact ⟨rfl, HB2.out⟩
set_option maxRecDepth 100000 in
set_option maxHeartbeats 2000000 in
theorem toRw_lit (v : Value) (l : Rw) (w : World) (hrow : Row w v l.q.length (slF l.q)) (hn : l.q.length ≤ 1048576) :
    Calls Tryd.prog 26 #[.agg #[.int .i64 l.x, v]] w fun e w' => ∃ g : Nat, e = .returned (.agg #[.int .i64 l.x, .slice (some ⟨g, 0, none⟩) l.q.length l.q.length]) ∧ w'.ownsRow w.heap.size 75 2 (.slice (some ⟨g, 0, none⟩) l.q.length l.q.length) l.q.length (slF l.q) ∧ Below w.heap.size w w' := by
  obtain ⟨x, q⟩ := l
  dsimp only at hrow ⊢
  obtain ⟨a, cap, rfl, hc1, hm1, _⟩ := sl_open hrow
  unfold maxLen at hm1
  have HP := Lib.hid hrow
  clear hrow
  dsimp only at hn
  obtain ⟨W0, R_T, R_A, R_O, hW0, hR_T, hR_A, hR_O, hX_T, hX_A, hX_O, hB0⟩ := entry3 w #[.int .i64 x, .slice a q.length cap] #[.int .i64 0, .slice none 0 0] #[.int .i64 0, .slice none 0 0] 53 26 26
  have HW0 := Lib.hid hW0
  have HB0 := Lib.hid hB0
  have HR_T := Lib.hid hR_T
  have HX_T := Lib.hid hX_T
  have HR_A := Lib.hid hR_A
  have HX_A := Lib.hid hX_A
  have HR_O := Lib.hid hR_O
  have HX_O := Lib.hid hX_O
  clear hW0 hB0 hR_T hX_T hR_A hX_A hR_O hX_O
  have HTo := Lib.hid (fun (W1 : World) (hr : Row W1 (.slice a q.length cap) q.length (slF q)) => toSlS_lit (.slice a q.length cap) q W1 hr hn)
  have c12_T_0 := HX_T.out.at 0 (v := .int .i64 x) rfl
  have c12_T_1 := HX_T.out.at 1 (v := .slice a q.length cap) rfl
  have c13_A_0 := HX_A.out.at 0 (v := .int .i64 0) rfl
  have c13_A_1 := HX_A.out.at 1 (v := .slice none 0 0) rfl
  have c14_O_0 := HX_O.out.at 0 (v := .int .i64 0) rfl
  have c14_O_1 := HX_O.out.at 1 (v := .slice none 0 0) rfl
  go_enter Tryd.func26, Tryd.ntmps26
  go_upto_region 2 with fail
  rw [← HW0.out, ← HR_O.out, ← HR_A.out, ← HR_T.out]
  have fr15_O_0 := HX_O.out.free 0
  have fr15_O_1 := HX_O.out.free 1
  go_upto_region 3 with fail
  clear c12_T_0 c12_T_1
  clear c13_A_0 c13_A_1
  clear c14_O_0 c14_O_1
  clear fr15_O_0 fr15_O_1
  obtain ⟨p16, q16⟩ := HX_O.out.set 0 (.int .i64 x)
  obtain ⟨W16, hW16⟩ : ∃ W16, W16 = (W0.setCell ⟨R_O, 0, none⟩ (.int .i64 x)) := ⟨_, rfl⟩
  rw [← hW16] at p16 q16 ⊢
  have X16_O : Hid (Bx W16 R_O #[.int .i64 x, .slice none 0 0] 26) := Lib.hid p16
  have HB_17 := Lib.hid (HB0.out.grown q16 HB0.out.size (fun k hk => by have e2 : R_O = k := Option.some.inj hk; have := HR_O.out; omega))
  have T_17 := Lib.hid (HX_T.out.grown q16 (by intro e; have e2 : R_T = R_O := Option.some.inj e; have h1 := HR_T.out; have h2 := HR_O.out; omega))
  have A_17 := Lib.hid (HX_A.out.grown q16 (by intro e; have e2 : R_A = R_O := Option.some.inj e; have h1 := HR_A.out; have h2 := HR_O.out; omega))
  clear hW16 p16 q16
  have c18_T_0 := T_17.out.at 0 (v := .int .i64 x) rfl
  have c18_T_1 := T_17.out.at 1 (v := .slice a q.length cap) rfl
  have c19_A_0 := A_17.out.at 0 (v := .int .i64 0) rfl
  have c19_A_1 := A_17.out.at 1 (v := .slice none 0 0) rfl
  have c20_O_0 := X16_O.out.at 0 (v := .int .i64 x) rfl
  have c20_O_1 := X16_O.out.at 1 (v := .slice none 0 0) rfl
  go_wp2_with fail
  refine (HTo.out _ (HP.out.below HB_17.out (Nat.le_refl _))).mono ?_
  rintro e W21 ⟨gq, rfl, o_q, l21⟩
  have O_q := Lib.hid (ownz_base o_q HB_17.out.size)
  have BX_T_q : Hid (∀ k, (.slice (some ⟨gq, 0, none⟩) q.length q.length : Value).ownBlock = some k → k ≠ R_T) := Lib.hid (fun k h1 h2 => absurd T_17.out.lt (Nat.not_lt.2 (by rw [← h2]; exact (o_q.lt k h1).1)))
  have BX_A_q : Hid (∀ k, (.slice (some ⟨gq, 0, none⟩) q.length q.length : Value).ownBlock = some k → k ≠ R_A) := Lib.hid (fun k h1 h2 => absurd A_17.out.lt (Nat.not_lt.2 (by rw [← h2]; exact (o_q.lt k h1).1)))
  have BX_O_q : Hid (∀ k, (.slice (some ⟨gq, 0, none⟩) q.length q.length : Value).ownBlock = some k → k ≠ R_O) := Lib.hid (fun k h1 h2 => absurd X16_O.out.lt (Nat.not_lt.2 (by rw [← h2]; exact (o_q.lt k h1).1)))
  clear o_q
  clear c18_T_0 c18_T_1
  clear c19_A_0 c19_A_1
  clear c20_O_0 c20_O_1
  have HB_22 := Lib.hid (HB_17.out.trans (l21.mono HB_17.out.size))
  have T_22 := Lib.hid (T_17.out.below l21 T_17.out.lt)
  clear T_17
  have A_22 := Lib.hid (A_17.out.below l21 A_17.out.lt)
  clear A_17
  have O_22 := Lib.hid (X16_O.out.below l21 X16_O.out.lt)
  clear X16_O
  clear l21
  have c23_T_0 := T_22.out.at 0 (v := .int .i64 x) rfl
  have c23_T_1 := T_22.out.at 1 (v := .slice a q.length cap) rfl
  have c24_A_0 := A_22.out.at 0 (v := .int .i64 0) rfl
  have c24_A_1 := A_22.out.at 1 (v := .slice none 0 0) rfl
  have c25_O_0 := O_22.out.at 0 (v := .int .i64 x) rfl
  have c25_O_1 := O_22.out.at 1 (v := .slice none 0 0) rfl
  have fr26_O_0 := O_22.out.free 0
  have fr26_O_1 := O_22.out.free 1
  go_upto_region 4 with fail
  clear c23_T_0 c23_T_1
  clear c24_A_0 c24_A_1
  clear c25_O_0 c25_O_1
  clear fr26_O_0 fr26_O_1
  obtain ⟨p27, q27⟩ := O_22.out.set 1 (.slice (some ⟨gq, 0, none⟩) q.length q.length)
  obtain ⟨W27, hW27⟩ : ∃ W27, W27 = (W21.setCell ⟨R_O, 1, none⟩ (.slice (some ⟨gq, 0, none⟩) q.length q.length)) := ⟨_, rfl⟩
  rw [← hW27] at p27 q27 ⊢
  have X27_O : Hid (Bx W27 R_O #[.int .i64 x, .slice (some ⟨gq, 0, none⟩) q.length q.length] 26) := Lib.hid p27
  have HB_28 := Lib.hid (HB_22.out.grown q27 HB_22.out.size (fun k hk => by have e2 : R_O = k := Option.some.inj hk; have := HR_O.out; omega))
  have q_28 := Lib.hid (O_q.out.kept q27 (by
    cases hv : (.slice (some ⟨gq, 0, none⟩) q.length q.length : Value).ownBlock with
    | none => exact .inl rfl
    | some k => exact .inr (fun e => BX_O_q.out k hv (Option.some.inj e))))
  clear O_q
  have T_28 := Lib.hid (T_22.out.grown q27 (by intro e; have e2 : R_T = R_O := Option.some.inj e; have h1 := HR_T.out; have h2 := HR_O.out; omega))
  clear T_22
  have A_28 := Lib.hid (A_22.out.grown q27 (by intro e; have e2 : R_A = R_O := Option.some.inj e; have h1 := HR_A.out; have h2 := HR_O.out; omega))
  clear A_22
  clear O_22
  clear hW27 p27 q27
  have c29_T_0 := T_28.out.at 0 (v := .int .i64 x) rfl
  have c29_T_1 := T_28.out.at 1 (v := .slice a q.length cap) rfl
  have c30_A_0 := A_28.out.at 0 (v := .int .i64 0) rfl
  have c30_A_1 := A_28.out.at 1 (v := .slice none 0 0) rfl
  have c31_O_0 := X27_O.out.at 0 (v := .int .i64 x) rfl
  have c31_O_1 := X27_O.out.at 1 (v := .slice (some ⟨gq, 0, none⟩) q.length q.length) rfl
  have fr32_A_0 := A_28.out.free 0
  have fr32_A_1 := A_28.out.free 1
  go_wp2_with fail
  obtain ⟨p1, q1⟩ := A_28.out.store2 (.int .i64 x) (.slice (some ⟨gq, 0, none⟩) q.length q.length)
  refine bodyPost_ret (results_bx rfl isRw _ _ R_A rfl rfl p1) rfl ⟨gq, rfl, (q_28.out.kept q1 (by
    cases hv : (.slice (some ⟨gq, 0, none⟩) q.length q.length : Value).ownBlock with
    | none => exact .inl rfl
    | some k => exact .inr (fun e => BX_A_q.out k hv (Option.some.inj e)))), (HB_28.out.grown q1 HB_28.out.size (fun k hk => by have e2 : R_A = k := Option.some.inj hk; have := HR_A.out; omega))⟩
end Go.Proofs.YtpmjdppipalfcaaDoor
