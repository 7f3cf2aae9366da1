/-
  Sources: items that are sent, trimming (the specification's).
-/
import Derived.Test.YtlendmiolhgecaaSrc2
import Derived.Test.YtlendmiolhgecaaSnd6
import Derived.Deep.QuietTactic
import Derived.BigQuiet
import Derived.IntWalk
import Derived.Deep.CutRange
import Derived.WalkLawsBesides
import Derived.Lib.SmallJoins
import Derived.Deep.RegionHeld3
namespace Go.Proofs.Ytlendmiolhgecaa
open Go.RowKit Go.Lib Go.Joins
set_option linter.unusedVariables false

set_option maxRecDepth 100000 in
set_option maxHeartbeats 8000000 in
theorem l11Send_any (v hv : Value) (s : So) (d : ByteArray) (w : World) (hrow : Row w v s.w.q.length (s.w.q.map Value.string)) (hhr : Row w hv s.h.length (hdF s.h)) (hfit : FitA v s.w.q.length) (hok : soOk s = true) :
    Calls Try.prog 79 #[.agg #[.int .i64 s.w.t, .int .i64 s.w.z, v, .int .i64 s.c, .int .i64 s.u, hv], .string d] w fun e w' => ∃ v' hv', e = .returned (.tuple #[.agg #[.int .i64 (sendW s d).w.t, .int .i64 (sendW s d).w.z, v', .int .i64 (sendW s d).c, .int .i64 (sendW s d).u, hv'], .agg #[.int .i64 1, .int .i64 (leadI (roomW s.w)), .int .i64 (sendW s d).w.t, .int .i64 (leadI (pushW s.w d)), .string d]]) ∧ w'.ownsRow w.heap.size 9 1 v' (sendW s d).w.q.length ((sendW s d).w.q.map Value.string) ∧ w'.ownsRow w.heap.size 82 2 hv' (sendW s d).h.length (hdF (sendW s d).h) ∧ (∀ k, v'.ownBlock = some k → hv'.ownBlock ≠ some k) ∧ Below w.heap.size w w' := by
  obtain ⟨⟨t, z, q⟩, c, u, h⟩ := s
  dsimp only at hrow hhr ⊢
  obtain ⟨a, cap, rfl, hc1, hm1, -⟩ := row_open hrow
  obtain ⟨b, caph, rfl, hc2, hm2, -⟩ := hd_open hhr
  unfold maxLen at hm1 hm2
  have HP := Lib.hid hrow
  have HH := Lib.hid hhr
  clear hrow hhr
  obtain ⟨k1, k2, k3, k4, k5⟩ := soOk_iff.1 hok
  have hl := (soOk_len hok).1
  dsimp only at k1 k4 hl hfit ⊢
  have hs : ∀ x ∈ h, serB x.n = true := fun x hx => (hd1_iff.1 (k4 x hx)).1
  have HS := Lib.hid hs
  have HFit := Lib.hid hfit
  obtain ⟨g1, hg1, hgt⟩ := pushW_t (d := d) k1
  have hpt : 0 ≤ (pushW ⟨t, z, q⟩ d).t ∧ (pushW ⟨t, z, q⟩ d).t ≤ 65535 := by rw [hgt]; exact aftI_bd _ _
  have HPu := Lib.hid (fun (W1 : World) (hr : Row W1 (.slice a q.length cap) q.length (q.map Value.string)) => l9Push_any (.slice a q.length cap) ⟨t, z, q⟩ d W1 hr HFit.out k1)
  have hsw : sendW ⟨⟨t, z, q⟩, c, u, h⟩ d = ⟨pushW ⟨t, z, q⟩ d, c, 0, keepH (pushW ⟨t, z, q⟩ d) c h⟩ := rfl
  rw [hsw]
  dsimp only
  generalize leadI (roomW ⟨t, z, q⟩) = nu at HPu ⊢
  generalize leadI (pushW ⟨t, z, q⟩ d) = le at HPu ⊢
  generalize pushW ⟨t, z, q⟩ d = y at HPu hpt ⊢
  obtain ⟨yt, yz, yq⟩ := y
  dsimp only at HPu hpt ⊢
  have HPt := Lib.hid hpt
  clear hsw hgt hpt hg1 k1 k2 k3 k4 k5 hs hfit hok
  have HWi := Lib.hid (fun (W1 : World) (v2 : Value) (hr : Row W1 (.slice a q.length cap) q.length (q.map Value.string)) (hh : Row W1 (.slice b h.length caph) h.length (hdF h)) (h2 : Row W1 v2 yq.length (yq.map Value.string)) => l11With_any (.slice a q.length cap) (.slice b h.length caph) ⟨⟨t, z, q⟩, c, u, h⟩ v2 ⟨yt, yz, yq⟩ W1 hr hh h2 HPt.out HS.out (by dsimp only; omega))
  dsimp only at HWi
  generalize keepH ⟨yt, yz, yq⟩ c h = kp at HWi ⊢
  obtain ⟨W0, R_T, R_A, R_B, hW0, hR_T, hR_A, hR_B, hX_T, hX_A, hX_B, hB0⟩ := entry3 w #[.int .i64 t, .int .i64 z, .slice a q.length cap, .int .i64 c, .int .i64 u, .slice b h.length caph] #[.int .i64 0, .int .i64 0, .slice none 0 0, .int .i64 0, .int .i64 0, .slice none 0 0] #[.int .i64 0, .int .i64 0, .int .i64 0, .int .i64 0, .string ⟨#[]⟩] 29 29 64
  have HW0 := Lib.hid hW0
  have HB0 := Lib.hid hB0
  have HR_T := Lib.hid hR_T
  have HX_T := Lib.hid hX_T
  have HR_A := Lib.hid hR_A
  have HX_A := Lib.hid hX_A
  have HR_B := Lib.hid hR_B
  have HX_B := Lib.hid hX_B
  clear hW0 hB0 hR_T hX_T hR_A hX_A hR_B hX_B
  have hne_A_B : R_A ≠ R_B := fun e => absurd (congrArg some e) (by intro e; have e2 : R_A = R_B := Option.some.inj e; have h1 := HR_A.out; have h2 := HR_B.out; omega)
  have hne_B_A : R_B ≠ R_A := fun e => absurd (congrArg some e) (by intro e; have e2 : R_B = R_A := Option.some.inj e; have h1 := HR_B.out; have h2 := HR_A.out; omega)
  have c1_T_0 := HX_T.out.at 0 (v := .int .i64 t) rfl
  have c1_T_1 := HX_T.out.at 1 (v := .int .i64 z) rfl
  have c1_T_2 := HX_T.out.at 2 (v := .slice a q.length cap) rfl
  have c1_T_3 := HX_T.out.at 3 (v := .int .i64 c) rfl
  have c1_T_4 := HX_T.out.at 4 (v := .int .i64 u) rfl
  have c1_T_5 := HX_T.out.at 5 (v := .slice b h.length caph) rfl
  have c2_A_0 := HX_A.out.at 0 (v := .int .i64 0) rfl
  have c2_A_1 := HX_A.out.at 1 (v := .int .i64 0) rfl
  have c2_A_2 := HX_A.out.at 2 (v := .slice none 0 0) rfl
  have c2_A_3 := HX_A.out.at 3 (v := .int .i64 0) rfl
  have c2_A_4 := HX_A.out.at 4 (v := .int .i64 0) rfl
  have c2_A_5 := HX_A.out.at 5 (v := .slice none 0 0) rfl
  have c3_B_0 := HX_B.out.at 0 (v := .int .i64 0) rfl
  have c3_B_1 := HX_B.out.at 1 (v := .int .i64 0) rfl
  have c3_B_2 := HX_B.out.at 2 (v := .int .i64 0) rfl
  have c3_B_3 := HX_B.out.at 3 (v := .int .i64 0) rfl
  have c3_B_4 := HX_B.out.at 4 (v := .string ⟨#[]⟩) rfl
  go_enter Try.func79, Try.ntmps79
  go_upto_region 1 with fail
  rw [← HW0.out, ← HR_B.out, ← HR_A.out, ← HR_T.out]
  go_wp2_with fail
  refine (HPu.out _ (HP.out.below HB0.out (Nat.le_refl _))).mono ?_
  rintro e W4 ⟨v_y, rfl, o_y, l4⟩
  obtain ⟨a_y, c_y, rfl, _, _⟩ := ownz_slice o_y
  have O_y := Lib.hid (ownz_base o_y HB0.out.size)
  have BX_T_y : Hid (∀ k, (.slice a_y yq.length c_y : Value).ownBlock = some k → k ≠ R_T) := Lib.hid (fun k h1 h2 => absurd HX_T.out.lt (Nat.not_lt.2 (by rw [← h2]; exact (o_y.lt k h1).1)))
  have BX_A_y : Hid (∀ k, (.slice a_y yq.length c_y : Value).ownBlock = some k → k ≠ R_A) := Lib.hid (fun k h1 h2 => absurd HX_A.out.lt (Nat.not_lt.2 (by rw [← h2]; exact (o_y.lt k h1).1)))
  have BX_B_y : Hid (∀ k, (.slice a_y yq.length c_y : Value).ownBlock = some k → k ≠ R_B) := Lib.hid (fun k h1 h2 => absurd HX_B.out.lt (Nat.not_lt.2 (by rw [← h2]; exact (o_y.lt k h1).1)))
  clear o_y
  clear c1_T_0 c1_T_1 c1_T_2 c1_T_3 c1_T_4 c1_T_5
  clear c2_A_0 c2_A_1 c2_A_2 c2_A_3 c2_A_4 c2_A_5
  clear c3_B_0 c3_B_1 c3_B_2 c3_B_3 c3_B_4
  have HB_5 := Lib.hid (HB0.out.trans (l4.mono HB0.out.size))
  have T_5 := Lib.hid (HX_T.out.below l4 HX_T.out.lt)
  have A_5 := Lib.hid (HX_A.out.below l4 HX_A.out.lt)
  have B_5 := Lib.hid (HX_B.out.below l4 HX_B.out.lt)
  clear l4
  have c6_T_0 := T_5.out.at 0 (v := .int .i64 t) rfl
  have c6_T_1 := T_5.out.at 1 (v := .int .i64 z) rfl
  have c6_T_2 := T_5.out.at 2 (v := .slice a q.length cap) rfl
  have c6_T_3 := T_5.out.at 3 (v := .int .i64 c) rfl
  have c6_T_4 := T_5.out.at 4 (v := .int .i64 u) rfl
  have c6_T_5 := T_5.out.at 5 (v := .slice b h.length caph) rfl
  have c7_A_0 := A_5.out.at 0 (v := .int .i64 0) rfl
  have c7_A_1 := A_5.out.at 1 (v := .int .i64 0) rfl
  have c7_A_2 := A_5.out.at 2 (v := .slice none 0 0) rfl
  have c7_A_3 := A_5.out.at 3 (v := .int .i64 0) rfl
  have c7_A_4 := A_5.out.at 4 (v := .int .i64 0) rfl
  have c7_A_5 := A_5.out.at 5 (v := .slice none 0 0) rfl
  have c8_B_0 := B_5.out.at 0 (v := .int .i64 0) rfl
  have c8_B_1 := B_5.out.at 1 (v := .int .i64 0) rfl
  have c8_B_2 := B_5.out.at 2 (v := .int .i64 0) rfl
  have c8_B_3 := B_5.out.at 3 (v := .int .i64 0) rfl
  have c8_B_4 := B_5.out.at 4 (v := .string ⟨#[]⟩) rfl
  go_upto_region 2 with fail
  obtain ⟨W9, hW9⟩ : ∃ W9, W9 = (W4.alloc (.cells #[.int .i64 yt, .int .i64 yz, .slice a_y yq.length c_y] 26)).alloc (.cells #[.int .i64 1, .int .i64 nu, .int .i64 yt, .int .i64 le, .string d] 64) := ⟨_, rfl⟩
  have l9 : Below W4.heap.size W4 W9 := by rw [hW9]; exact ((Below.refl _ _).alloc (Nat.le_refl _) _).alloc (by simp) _
  have X9_U : Hid (Bx W9 W4.heap.size #[.int .i64 yt, .int .i64 yz, .slice a_y yq.length c_y] 26) := Lib.hid (by rw [hW9]; exact (Bx.new2 _ _ _ _ _).1)
  have X9_P : Hid (Bx W9 (W4.heap.size + 1) #[.int .i64 1, .int .i64 nu, .int .i64 yt, .int .i64 le, .string d] 64) := Lib.hid (by rw [hW9]; exact (Bx.new2 _ _ _ _ _).2)
  rw [← hW9]
  clear hW9
  have BX_U_y : Hid (∀ k, (.slice a_y yq.length c_y : Value).ownBlock = some k → k ≠ W4.heap.size) := Lib.hid (fun k h1 h2 => absurd (O_y.out.lt k h1).2 (by omega))
  have HG_U : Hid (w.heap.size ≤ W4.heap.size) := Lib.hid (HB_5.out.size)
  have HN_U_T : Hid (R_T < W4.heap.size) := Lib.hid (T_5.out.lt)
  have HN_U_A : Hid (R_A < W4.heap.size) := Lib.hid (A_5.out.lt)
  have HN_U_B : Hid (R_B < W4.heap.size) := Lib.hid (B_5.out.lt)
  have BX_P_y : Hid (∀ k, (.slice a_y yq.length c_y : Value).ownBlock = some k → k ≠ (W4.heap.size + 1)) := Lib.hid (fun k h1 h2 => absurd (O_y.out.lt k h1).2 (by omega))
  have HG_P : Hid (w.heap.size ≤ (W4.heap.size + 1)) := Lib.hid (Nat.le_succ_of_le HB_5.out.size)
  have HN_P_T : Hid (R_T < (W4.heap.size + 1)) := Lib.hid (Nat.lt_succ_of_lt T_5.out.lt)
  have HN_P_A : Hid (R_A < (W4.heap.size + 1)) := Lib.hid (Nat.lt_succ_of_lt A_5.out.lt)
  have HN_P_B : Hid (R_B < (W4.heap.size + 1)) := Lib.hid (Nat.lt_succ_of_lt B_5.out.lt)
  have HN_P_U : Hid (W4.heap.size < W4.heap.size + 1) := Lib.hid (Nat.lt_succ_self _)
  obtain ⟨R_P, hR_P⟩ : ∃ X, X = W4.heap.size + 1 := ⟨_, rfl⟩
  rw [← hR_P] at X9_P HG_P HN_P_U BX_P_y HN_P_T HN_P_A HN_P_B ⊢
  clear hR_P
  obtain ⟨R_U, hR_U⟩ : ∃ X, X = W4.heap.size := ⟨_, rfl⟩
  rw [← hR_U] at X9_U HG_U HN_P_U BX_U_y HN_U_T HN_U_A HN_U_B ⊢
  clear hR_U
  clear c6_T_0 c6_T_1 c6_T_2 c6_T_3 c6_T_4 c6_T_5
  clear c7_A_0 c7_A_1 c7_A_2 c7_A_3 c7_A_4 c7_A_5
  clear c8_B_0 c8_B_1 c8_B_2 c8_B_3 c8_B_4
  have HB_10 := Lib.hid (HB_5.out.trans (l9.mono HB_5.out.size))
  have y_10 := Lib.hid (ownz_below O_y.out l9 (Nat.le_refl _))
  clear O_y
  have T_10 := Lib.hid (T_5.out.below l9 T_5.out.lt)
  clear T_5
  have A_10 := Lib.hid (A_5.out.below l9 A_5.out.lt)
  clear A_5
  have B_10 := Lib.hid (B_5.out.below l9 B_5.out.lt)
  clear B_5
  clear l9
  have c11_T_0 := T_10.out.at 0 (v := .int .i64 t) rfl
  have c11_T_1 := T_10.out.at 1 (v := .int .i64 z) rfl
  have c11_T_2 := T_10.out.at 2 (v := .slice a q.length cap) rfl
  have c11_T_3 := T_10.out.at 3 (v := .int .i64 c) rfl
  have c11_T_4 := T_10.out.at 4 (v := .int .i64 u) rfl
  have c11_T_5 := T_10.out.at 5 (v := .slice b h.length caph) rfl
  have c12_A_0 := A_10.out.at 0 (v := .int .i64 0) rfl
  have c12_A_1 := A_10.out.at 1 (v := .int .i64 0) rfl
  have c12_A_2 := A_10.out.at 2 (v := .slice none 0 0) rfl
  have c12_A_3 := A_10.out.at 3 (v := .int .i64 0) rfl
  have c12_A_4 := A_10.out.at 4 (v := .int .i64 0) rfl
  have c12_A_5 := A_10.out.at 5 (v := .slice none 0 0) rfl
  have c13_B_0 := B_10.out.at 0 (v := .int .i64 0) rfl
  have c13_B_1 := B_10.out.at 1 (v := .int .i64 0) rfl
  have c13_B_2 := B_10.out.at 2 (v := .int .i64 0) rfl
  have c13_B_3 := B_10.out.at 3 (v := .int .i64 0) rfl
  have c13_B_4 := B_10.out.at 4 (v := .string ⟨#[]⟩) rfl
  have c14_U_0 := X9_U.out.at 0 (v := .int .i64 yt) rfl
  have c14_U_1 := X9_U.out.at 1 (v := .int .i64 yz) rfl
  have c14_U_2 := X9_U.out.at 2 (v := .slice a_y yq.length c_y) rfl
  have c15_P_0 := X9_P.out.at 0 (v := .int .i64 1) rfl
  have c15_P_1 := X9_P.out.at 1 (v := .int .i64 nu) rfl
  have c15_P_2 := X9_P.out.at 2 (v := .int .i64 yt) rfl
  have c15_P_3 := X9_P.out.at 3 (v := .int .i64 le) rfl
  have c15_P_4 := X9_P.out.at 4 (v := .string d) rfl
  go_wp2_with fail
  refine (HWi.out _ _ (HP.out.below HB_10.out (Nat.le_refl _)) (HH.out.below HB_10.out (Nat.le_refl _)) (rowz_own y_10.out)).mono ?_
  rintro e W16 ⟨v_k, rfl, o_k, l16⟩
  obtain ⟨a_k, c_k, rfl, _, _⟩ := ownz_slice o_k
  have AP_y_k : Hid (∀ k, (.slice a_y yq.length c_y : Value).ownBlock = some k → (.slice a_k kp.length c_k : Value).ownBlock ≠ some k) := Lib.hid (fun k h1 h2 => absurd (y_10.out.lt k h1).2 (Nat.not_lt.2 (o_k.lt k h2).1))
  have O_k := Lib.hid (ownz_base o_k HB_10.out.size)
  have BX_T_k : Hid (∀ k, (.slice a_k kp.length c_k : Value).ownBlock = some k → k ≠ R_T) := Lib.hid (fun k h1 h2 => absurd T_10.out.lt (Nat.not_lt.2 (by rw [← h2]; exact (o_k.lt k h1).1)))
  have BX_A_k : Hid (∀ k, (.slice a_k kp.length c_k : Value).ownBlock = some k → k ≠ R_A) := Lib.hid (fun k h1 h2 => absurd A_10.out.lt (Nat.not_lt.2 (by rw [← h2]; exact (o_k.lt k h1).1)))
  have BX_B_k : Hid (∀ k, (.slice a_k kp.length c_k : Value).ownBlock = some k → k ≠ R_B) := Lib.hid (fun k h1 h2 => absurd B_10.out.lt (Nat.not_lt.2 (by rw [← h2]; exact (o_k.lt k h1).1)))
  have BX_U_k : Hid (∀ k, (.slice a_k kp.length c_k : Value).ownBlock = some k → k ≠ R_U) := Lib.hid (fun k h1 h2 => absurd X9_U.out.lt (Nat.not_lt.2 (by rw [← h2]; exact (o_k.lt k h1).1)))
  have BX_P_k : Hid (∀ k, (.slice a_k kp.length c_k : Value).ownBlock = some k → k ≠ R_P) := Lib.hid (fun k h1 h2 => absurd X9_P.out.lt (Nat.not_lt.2 (by rw [← h2]; exact (o_k.lt k h1).1)))
  clear o_k
  clear c11_T_0 c11_T_1 c11_T_2 c11_T_3 c11_T_4 c11_T_5
  clear c12_A_0 c12_A_1 c12_A_2 c12_A_3 c12_A_4 c12_A_5
  clear c13_B_0 c13_B_1 c13_B_2 c13_B_3 c13_B_4
  clear c14_U_0 c14_U_1 c14_U_2
  clear c15_P_0 c15_P_1 c15_P_2 c15_P_3 c15_P_4
  have HB_17 := Lib.hid (HB_10.out.trans (l16.mono HB_10.out.size))
  have y_17 := Lib.hid (ownz_below y_10.out l16 (Nat.le_refl _))
  clear y_10
  have T_17 := Lib.hid (T_10.out.below l16 T_10.out.lt)
  clear T_10
  have A_17 := Lib.hid (A_10.out.below l16 A_10.out.lt)
  clear A_10
  have B_17 := Lib.hid (B_10.out.below l16 B_10.out.lt)
  clear B_10
  have U_17 := Lib.hid (X9_U.out.below l16 X9_U.out.lt)
  clear X9_U
  have P_17 := Lib.hid (X9_P.out.below l16 X9_P.out.lt)
  clear X9_P
  clear l16
  have c18_T_0 := T_17.out.at 0 (v := .int .i64 t) rfl
  have c18_T_1 := T_17.out.at 1 (v := .int .i64 z) rfl
  have c18_T_2 := T_17.out.at 2 (v := .slice a q.length cap) rfl
  have c18_T_3 := T_17.out.at 3 (v := .int .i64 c) rfl
  have c18_T_4 := T_17.out.at 4 (v := .int .i64 u) rfl
  have c18_T_5 := T_17.out.at 5 (v := .slice b h.length caph) rfl
  have c19_A_0 := A_17.out.at 0 (v := .int .i64 0) rfl
  have c19_A_1 := A_17.out.at 1 (v := .int .i64 0) rfl
  have c19_A_2 := A_17.out.at 2 (v := .slice none 0 0) rfl
  have c19_A_3 := A_17.out.at 3 (v := .int .i64 0) rfl
  have c19_A_4 := A_17.out.at 4 (v := .int .i64 0) rfl
  have c19_A_5 := A_17.out.at 5 (v := .slice none 0 0) rfl
  have c20_B_0 := B_17.out.at 0 (v := .int .i64 0) rfl
  have c20_B_1 := B_17.out.at 1 (v := .int .i64 0) rfl
  have c20_B_2 := B_17.out.at 2 (v := .int .i64 0) rfl
  have c20_B_3 := B_17.out.at 3 (v := .int .i64 0) rfl
  have c20_B_4 := B_17.out.at 4 (v := .string ⟨#[]⟩) rfl
  have c21_U_0 := U_17.out.at 0 (v := .int .i64 yt) rfl
  have c21_U_1 := U_17.out.at 1 (v := .int .i64 yz) rfl
  have c21_U_2 := U_17.out.at 2 (v := .slice a_y yq.length c_y) rfl
  have c22_P_0 := P_17.out.at 0 (v := .int .i64 1) rfl
  have c22_P_1 := P_17.out.at 1 (v := .int .i64 nu) rfl
  have c22_P_2 := P_17.out.at 2 (v := .int .i64 yt) rfl
  have c22_P_3 := P_17.out.at 3 (v := .int .i64 le) rfl
  have c22_P_4 := P_17.out.at 4 (v := .string d) rfl
  go_upto_region 3 with fail
  obtain ⟨W23, hW23⟩ : ∃ W23, W23 = W16.alloc (.cells #[.int .i64 yt, .int .i64 yz, .slice a_y yq.length c_y, .int .i64 c, .int .i64 u, .slice a_k kp.length c_k] 29) := ⟨_, rfl⟩
  have l23 : Below W16.heap.size W16 W23 := by rw [hW23]; exact (Below.refl _ _).alloc (Nat.le_refl _) _
  have X23_X : Hid (Bx W23 W16.heap.size #[.int .i64 yt, .int .i64 yz, .slice a_y yq.length c_y, .int .i64 c, .int .i64 u, .slice a_k kp.length c_k] 29) := Lib.hid (by rw [hW23]; exact Bx.new _ _ _)
  rw [← hW23]
  clear hW23
  have BX_X_y : Hid (∀ k, (.slice a_y yq.length c_y : Value).ownBlock = some k → k ≠ W16.heap.size) := Lib.hid (fun k h1 h2 => absurd (y_17.out.lt k h1).2 (by omega))
  have BX_X_k : Hid (∀ k, (.slice a_k kp.length c_k : Value).ownBlock = some k → k ≠ W16.heap.size) := Lib.hid (fun k h1 h2 => absurd (O_k.out.lt k h1).2 (by omega))
  have HG_X : Hid (w.heap.size ≤ W16.heap.size) := Lib.hid HB_17.out.size
  have HN_X_T : Hid (R_T < W16.heap.size) := Lib.hid T_17.out.lt
  have HN_X_A : Hid (R_A < W16.heap.size) := Lib.hid A_17.out.lt
  have HN_X_B : Hid (R_B < W16.heap.size) := Lib.hid B_17.out.lt
  have HN_X_U : Hid (R_U < W16.heap.size) := Lib.hid U_17.out.lt
  have HN_X_P : Hid (R_P < W16.heap.size) := Lib.hid P_17.out.lt
  obtain ⟨R_X, hR_X⟩ : ∃ X, X = W16.heap.size := ⟨_, rfl⟩
  rw [← hR_X] at X23_X HG_X BX_X_y BX_X_k HN_X_T HN_X_A HN_X_B HN_X_U HN_X_P ⊢
  clear hR_X
  clear c18_T_0 c18_T_1 c18_T_2 c18_T_3 c18_T_4 c18_T_5
  clear c19_A_0 c19_A_1 c19_A_2 c19_A_3 c19_A_4 c19_A_5
  clear c20_B_0 c20_B_1 c20_B_2 c20_B_3 c20_B_4
  clear c21_U_0 c21_U_1 c21_U_2
  clear c22_P_0 c22_P_1 c22_P_2 c22_P_3 c22_P_4
  have HB_24 := Lib.hid (HB_17.out.trans (l23.mono HB_17.out.size))
  have y_24 := Lib.hid (ownz_below y_17.out l23 (Nat.le_refl _))
  clear y_17
  have k_24 := Lib.hid (ownz_below O_k.out l23 (Nat.le_refl _))
  clear O_k
  have T_24 := Lib.hid (T_17.out.below l23 T_17.out.lt)
  clear T_17
  have A_24 := Lib.hid (A_17.out.below l23 A_17.out.lt)
  clear A_17
  have B_24 := Lib.hid (B_17.out.below l23 B_17.out.lt)
  clear B_17
  have U_24 := Lib.hid (U_17.out.below l23 U_17.out.lt)
  clear U_17
  have P_24 := Lib.hid (P_17.out.below l23 P_17.out.lt)
  clear P_17
  clear l23
  have c25_T_0 := T_24.out.at 0 (v := .int .i64 t) rfl
  have c25_T_1 := T_24.out.at 1 (v := .int .i64 z) rfl
  have c25_T_2 := T_24.out.at 2 (v := .slice a q.length cap) rfl
  have c25_T_3 := T_24.out.at 3 (v := .int .i64 c) rfl
  have c25_T_4 := T_24.out.at 4 (v := .int .i64 u) rfl
  have c25_T_5 := T_24.out.at 5 (v := .slice b h.length caph) rfl
  have c26_A_0 := A_24.out.at 0 (v := .int .i64 0) rfl
  have c26_A_1 := A_24.out.at 1 (v := .int .i64 0) rfl
  have c26_A_2 := A_24.out.at 2 (v := .slice none 0 0) rfl
  have c26_A_3 := A_24.out.at 3 (v := .int .i64 0) rfl
  have c26_A_4 := A_24.out.at 4 (v := .int .i64 0) rfl
  have c26_A_5 := A_24.out.at 5 (v := .slice none 0 0) rfl
  have c27_B_0 := B_24.out.at 0 (v := .int .i64 0) rfl
  have c27_B_1 := B_24.out.at 1 (v := .int .i64 0) rfl
  have c27_B_2 := B_24.out.at 2 (v := .int .i64 0) rfl
  have c27_B_3 := B_24.out.at 3 (v := .int .i64 0) rfl
  have c27_B_4 := B_24.out.at 4 (v := .string ⟨#[]⟩) rfl
  have c28_U_0 := U_24.out.at 0 (v := .int .i64 yt) rfl
  have c28_U_1 := U_24.out.at 1 (v := .int .i64 yz) rfl
  have c28_U_2 := U_24.out.at 2 (v := .slice a_y yq.length c_y) rfl
  have c29_P_0 := P_24.out.at 0 (v := .int .i64 1) rfl
  have c29_P_1 := P_24.out.at 1 (v := .int .i64 nu) rfl
  have c29_P_2 := P_24.out.at 2 (v := .int .i64 yt) rfl
  have c29_P_3 := P_24.out.at 3 (v := .int .i64 le) rfl
  have c29_P_4 := P_24.out.at 4 (v := .string d) rfl
  have c30_X_0 := X23_X.out.at 0 (v := .int .i64 yt) rfl
  have c30_X_1 := X23_X.out.at 1 (v := .int .i64 yz) rfl
  have c30_X_2 := X23_X.out.at 2 (v := .slice a_y yq.length c_y) rfl
  have c30_X_3 := X23_X.out.at 3 (v := .int .i64 c) rfl
  have c30_X_4 := X23_X.out.at 4 (v := .int .i64 u) rfl
  have c30_X_5 := X23_X.out.at 5 (v := .slice a_k kp.length c_k) rfl
  have fr31_X_0 := X23_X.out.free 0
  have fr31_X_1 := X23_X.out.free 1
  have fr31_X_2 := X23_X.out.free 2
  have fr31_X_3 := X23_X.out.free 3
  have fr31_X_4 := X23_X.out.free 4
  have fr31_X_5 := X23_X.out.free 5
  go_upto_region 4 with fail
  clear c25_T_0 c25_T_1 c25_T_2 c25_T_3 c25_T_4 c25_T_5
  clear c26_A_0 c26_A_1 c26_A_2 c26_A_3 c26_A_4 c26_A_5
  clear c27_B_0 c27_B_1 c27_B_2 c27_B_3 c27_B_4
  clear c28_U_0 c28_U_1 c28_U_2
  clear c29_P_0 c29_P_1 c29_P_2 c29_P_3 c29_P_4
  clear c30_X_0 c30_X_1 c30_X_2 c30_X_3 c30_X_4 c30_X_5
  clear fr31_X_0 fr31_X_1 fr31_X_2 fr31_X_3 fr31_X_4 fr31_X_5
  obtain ⟨p32, q32⟩ := X23_X.out.set 4 (.int .i64 0)
  obtain ⟨W32, hW32⟩ : ∃ W32, W32 = (W23.setCell ⟨R_X, 4, none⟩ (.int .i64 0)) := ⟨_, rfl⟩
  rw [← hW32] at p32 q32 ⊢
  have X32_X : Hid (Bx W32 R_X #[.int .i64 yt, .int .i64 yz, .slice a_y yq.length c_y, .int .i64 c, .int .i64 0, .slice a_k kp.length c_k] 29) := Lib.hid p32
  have HB_33 := Lib.hid (HB_24.out.grown q32 HB_24.out.size (fun k hk => by have e2 : R_X = k := Option.some.inj hk; have := HG_X.out; omega))
  have y_33 := Lib.hid (y_24.out.kept q32 (by
    cases hv : (.slice a_y yq.length c_y : Value).ownBlock with
    | none => exact .inl rfl
    | some k => exact .inr (fun e => BX_X_y.out k hv (Option.some.inj e))))
  clear y_24
  have k_33 := Lib.hid (k_24.out.kept q32 (by
    cases hv : (.slice a_k kp.length c_k : Value).ownBlock with
    | none => exact .inl rfl
    | some k => exact .inr (fun e => BX_X_k.out k hv (Option.some.inj e))))
  clear k_24
  have T_33 := Lib.hid (T_24.out.grown q32 (by intro e; have e2 : R_T = R_X := Option.some.inj e; have h1 := HN_X_T.out; omega))
  clear T_24
  have A_33 := Lib.hid (A_24.out.grown q32 (by intro e; have e2 : R_A = R_X := Option.some.inj e; have h1 := HN_X_A.out; omega))
  clear A_24
  have B_33 := Lib.hid (B_24.out.grown q32 (by intro e; have e2 : R_B = R_X := Option.some.inj e; have h1 := HN_X_B.out; omega))
  clear B_24
  have U_33 := Lib.hid (U_24.out.grown q32 (by intro e; have e2 : R_U = R_X := Option.some.inj e; have h1 := HN_X_U.out; omega))
  clear U_24
  have P_33 := Lib.hid (P_24.out.grown q32 (by intro e; have e2 : R_P = R_X := Option.some.inj e; have h1 := HN_X_P.out; omega))
  clear P_24
  clear X23_X
  clear hW32 p32 q32
  have c34_T_0 := T_33.out.at 0 (v := .int .i64 t) rfl
  have c34_T_1 := T_33.out.at 1 (v := .int .i64 z) rfl
  have c34_T_2 := T_33.out.at 2 (v := .slice a q.length cap) rfl
  have c34_T_3 := T_33.out.at 3 (v := .int .i64 c) rfl
  have c34_T_4 := T_33.out.at 4 (v := .int .i64 u) rfl
  have c34_T_5 := T_33.out.at 5 (v := .slice b h.length caph) rfl
  have c35_A_0 := A_33.out.at 0 (v := .int .i64 0) rfl
  have c35_A_1 := A_33.out.at 1 (v := .int .i64 0) rfl
  have c35_A_2 := A_33.out.at 2 (v := .slice none 0 0) rfl
  have c35_A_3 := A_33.out.at 3 (v := .int .i64 0) rfl
  have c35_A_4 := A_33.out.at 4 (v := .int .i64 0) rfl
  have c35_A_5 := A_33.out.at 5 (v := .slice none 0 0) rfl
  have c36_B_0 := B_33.out.at 0 (v := .int .i64 0) rfl
  have c36_B_1 := B_33.out.at 1 (v := .int .i64 0) rfl
  have c36_B_2 := B_33.out.at 2 (v := .int .i64 0) rfl
  have c36_B_3 := B_33.out.at 3 (v := .int .i64 0) rfl
  have c36_B_4 := B_33.out.at 4 (v := .string ⟨#[]⟩) rfl
  have c37_U_0 := U_33.out.at 0 (v := .int .i64 yt) rfl
  have c37_U_1 := U_33.out.at 1 (v := .int .i64 yz) rfl
  have c37_U_2 := U_33.out.at 2 (v := .slice a_y yq.length c_y) rfl
  have c38_P_0 := P_33.out.at 0 (v := .int .i64 1) rfl
  have c38_P_1 := P_33.out.at 1 (v := .int .i64 nu) rfl
  have c38_P_2 := P_33.out.at 2 (v := .int .i64 yt) rfl
  have c38_P_3 := P_33.out.at 3 (v := .int .i64 le) rfl
  have c38_P_4 := P_33.out.at 4 (v := .string d) rfl
  have c39_X_0 := X32_X.out.at 0 (v := .int .i64 yt) rfl
  have c39_X_1 := X32_X.out.at 1 (v := .int .i64 yz) rfl
  have c39_X_2 := X32_X.out.at 2 (v := .slice a_y yq.length c_y) rfl
  have c39_X_3 := X32_X.out.at 3 (v := .int .i64 c) rfl
  have c39_X_4 := X32_X.out.at 4 (v := .int .i64 0) rfl
  have c39_X_5 := X32_X.out.at 5 (v := .slice a_k kp.length c_k) rfl
  clear hne_A_B hne_B_A
  have hne_X_P : R_X ≠ R_P := fun e => absurd (congrArg some e) (by intro e; have e2 : R_X = R_P := Option.some.inj e; have h1 := HN_X_P.out; omega)
  have hne_X_A : R_X ≠ R_A := fun e => absurd (congrArg some e) (by intro e; have e2 : R_X = R_A := Option.some.inj e; have h1 := HN_X_A.out; omega)
  have hne_X_B : R_X ≠ R_B := fun e => absurd (congrArg some e) (by intro e; have e2 : R_X = R_B := Option.some.inj e; have h1 := HN_X_B.out; omega)
  have hne_P_X : R_P ≠ R_X := fun e => absurd (congrArg some e) (by intro e; have e2 : R_P = R_X := Option.some.inj e; have h1 := HN_X_P.out; omega)
  have hne_P_A : R_P ≠ R_A := fun e => absurd (congrArg some e) (by intro e; have e2 : R_P = R_A := Option.some.inj e; have h1 := HN_P_A.out; omega)
  have hne_P_B : R_P ≠ R_B := fun e => absurd (congrArg some e) (by intro e; have e2 : R_P = R_B := Option.some.inj e; have h1 := HN_P_B.out; omega)
  have hne_A_X : R_A ≠ R_X := fun e => absurd (congrArg some e) (by intro e; have e2 : R_A = R_X := Option.some.inj e; have h1 := HN_X_A.out; omega)
  have hne_A_P : R_A ≠ R_P := fun e => absurd (congrArg some e) (by intro e; have e2 : R_A = R_P := Option.some.inj e; have h1 := HN_P_A.out; omega)
  have hne_A_B : R_A ≠ R_B := fun e => absurd (congrArg some e) (by intro e; have e2 : R_A = R_B := Option.some.inj e; have h1 := HR_A.out; have h2 := HR_B.out; omega)
  have hne_B_X : R_B ≠ R_X := fun e => absurd (congrArg some e) (by intro e; have e2 : R_B = R_X := Option.some.inj e; have h1 := HN_X_B.out; omega)
  have hne_B_P : R_B ≠ R_P := fun e => absurd (congrArg some e) (by intro e; have e2 : R_B = R_P := Option.some.inj e; have h1 := HN_P_B.out; omega)
  have hne_B_A : R_B ≠ R_A := fun e => absurd (congrArg some e) (by intro e; have e2 : R_B = R_A := Option.some.inj e; have h1 := HR_B.out; have h2 := HR_A.out; omega)
  have fr40_A_0 := A_33.out.free 0
  have fr40_A_1 := A_33.out.free 1
  have fr40_A_2 := A_33.out.free 2
  have fr40_A_3 := A_33.out.free 3
  have fr40_A_4 := A_33.out.free 4
  have fr40_A_5 := A_33.out.free 5
  have fr41_B_0 := B_33.out.free 0
  have fr41_B_1 := B_33.out.free 1
  have fr41_B_2 := B_33.out.free 2
  have fr41_B_3 := B_33.out.free 3
  have fr41_B_4 := B_33.out.free 4
  go_region
  go_wp2_with fail
  obtain ⟨p1, q1⟩ := A_33.out.store6 (.int .i64 yt) (.int .i64 yz) (.slice a_y yq.length c_y) (.int .i64 c) (.int .i64 0) (.slice a_k kp.length c_k)
  obtain ⟨p2, q2⟩ := (B_33.out.grown q1 (by intro e; have e2 : R_B = R_A := Option.some.inj e; have h1 := HR_B.out; have h2 := HR_A.out; omega)).store5 (.int .i64 1) (.int .i64 nu) (.int .i64 yt) (.int .i64 le) (.string d)
  have hB9 := (HB_33.out.grown q1 HB_33.out.size (fun k hk => by have e2 : R_A = k := Option.some.inj hk; have := HR_A.out; omega))
  have hB10 := hB9.grown q2 hB9.size (fun k hk => by have e2 : R_B = k := Option.some.inj hk; have := HR_B.out; omega)
  obtain ⟨W9, hW9⟩ : ∃ W9, W9 = (((((((((((W32.setCell ⟨R_A, 0, none⟩ (.int .i64 yt)).setCell ⟨R_A, 1, none⟩ (.int .i64 yz)).setCell ⟨R_A, 2, none⟩ (.slice a_y yq.length c_y)).setCell ⟨R_A, 3, none⟩ (.int .i64 c)).setCell ⟨R_A, 4, none⟩ (.int .i64 0)).setCell ⟨R_A, 5, none⟩ (.slice a_k kp.length c_k)).setCell ⟨R_B, 0, none⟩ (.int .i64 1)).setCell ⟨R_B, 1, none⟩ (.int .i64 nu)).setCell ⟨R_B, 2, none⟩ (.int .i64 yt)).setCell ⟨R_B, 3, none⟩ (.int .i64 le)).setCell ⟨R_B, 4, none⟩ (.string d)) := ⟨_, rfl⟩
  rw [← hW9] at p2 q2 hB10 ⊢
  clear hW9
  refine bodyPost_ret (results_bxx rfl isSo isPk _ _ R_A R_B rfl rfl rfl rfl (Bx.drew (p1.grown q2 (by intro e; have e2 : R_A = R_B := Option.some.inj e; have h1 := HR_A.out; have h2 := HR_B.out; omega))) (Bx.drew p2)) rfl ⟨_, _, rfl, ?_, ?_, AP_y_k.out, Below.drew hB10⟩
  · exact (World.ownsRow.drew ((y_33.out.kept q1 (by
    cases hv : (.slice a_y yq.length c_y : Value).ownBlock with
    | none => exact .inl rfl
    | some k => exact .inr (fun e => BX_A_y.out k hv (Option.some.inj e)))).kept q2 (by
    cases hv : (.slice a_y yq.length c_y : Value).ownBlock with
    | none => exact .inl rfl
    | some k => exact .inr (fun e => BX_B_y.out k hv (Option.some.inj e)))))
  · exact (World.ownsRow.drew ((k_33.out.kept q1 (by
    cases hv : (.slice a_k kp.length c_k : Value).ownBlock with
    | none => exact .inl rfl
    | some k => exact .inr (fun e => BX_A_k.out k hv (Option.some.inj e)))).kept q2 (by
    cases hv : (.slice a_k kp.length c_k : Value).ownBlock with
    | none => exact .inl rfl
    | some k => exact .inr (fun e => BX_B_k.out k hv (Option.some.inj e)))))
set_option maxRecDepth 100000 in
set_option maxHeartbeats 8000000 in
theorem specSend11_any (v hv : Value) (s : So) (d : ByteArray) (w : World) (hrow : Row w v s.w.q.length (s.w.q.map Value.string)) (hhr : Row w hv s.h.length (hdF s.h)) (hs : ∀ x ∈ s.w.q, x.size ≤ maxLen) (hd : d.size ≤ maxLen) (hfit : FitA v s.w.q.length) :
    Calls Try.prog 36 #[.agg #[.int .i64 s.w.t, .int .i64 s.w.z, v, .int .i64 s.c, .int .i64 s.u, hv], .string d] w fun e w' => ∃ v' hv', e = .returned (.tuple #[.agg #[.int .i64 (sendV11 s d).w.t, .int .i64 (sendV11 s d).w.z, v', .int .i64 (sendV11 s d).c, .int .i64 (sendV11 s d).u, hv'], .agg #[.int .i64 (sendP11 s d).k, .int .i64 (sendP11 s d).n, .int .i64 (sendP11 s d).t, .int .i64 (sendP11 s d).l, .string (sendP11 s d).d], .bool (sendOk s d)]) ∧ w'.ownsRow w.heap.size 9 1 v' (sendV11 s d).w.q.length ((sendV11 s d).w.q.map Value.string) ∧ w'.ownsRow w.heap.size 82 2 hv' (sendV11 s d).h.length (hdF (sendV11 s d).h) ∧ (∀ k, v'.ownBlock = some k → hv'.ownBlock ≠ some k) ∧ Below w.heap.size w w' := by
  obtain ⟨⟨t, z, q⟩, c, u, h⟩ := s
  dsimp only at hrow hhr hs ⊢
  obtain ⟨a, cap, rfl, hc1, hm1, -⟩ := row_open hrow
  obtain ⟨b, caph, rfl, hc2, hm2, -⟩ := hd_open hhr
  unfold maxLen at hm1 hm2
  have HP := Lib.hid hrow
  have HH := Lib.hid hhr
  clear hrow hhr
  have HS := Lib.hid hs
  clear hs
  have HFit := Lib.hid hfit
  clear hfit
  dsimp only at HFit
  obtain ⟨W0, R_T, R_A, R_B, hW0, hR_T, hR_A, hR_B, hX_T, hX_A, hX_B, hB0⟩ := entry3 w #[.int .i64 t, .int .i64 z, .slice a q.length cap, .int .i64 c, .int .i64 u, .slice b h.length caph] #[.int .i64 0, .int .i64 0, .slice none 0 0, .int .i64 0, .int .i64 0, .slice none 0 0] #[.int .i64 0, .int .i64 0, .int .i64 0, .int .i64 0, .string ⟨#[]⟩] 29 29 64
  have HW0 := Lib.hid hW0
  have HB0 := Lib.hid hB0
  have HR_T := Lib.hid hR_T
  have HX_T := Lib.hid hX_T
  have HR_A := Lib.hid hR_A
  have HX_A := Lib.hid hX_A
  have HR_B := Lib.hid hR_B
  have HX_B := Lib.hid hX_B
  clear hW0 hB0 hR_T hX_T hR_A hX_A hR_B hX_B
  have hne_A_B : R_A ≠ R_B := fun e => absurd (congrArg some e) (by intro e; have e2 : R_A = R_B := Option.some.inj e; have h1 := HR_A.out; have h2 := HR_B.out; omega)
  have hne_B_A : R_B ≠ R_A := fun e => absurd (congrArg some e) (by intro e; have e2 : R_B = R_A := Option.some.inj e; have h1 := HR_B.out; have h2 := HR_A.out; omega)
  have HG := Lib.hid (fun (W1 : World) (hr : Row W1 (.slice a q.length cap) q.length (q.map Value.string)) (hh : Row W1 (.slice b h.length caph) h.length (hdF h)) => l11Good_any (.slice a q.length cap) (.slice b h.length caph) ⟨⟨t, z, q⟩, c, u, h⟩ W1 hr hh HS.out)
  have HI := Lib.hid (fun (W1 : World) => l4Letters_any d 8 W1 hd (by omega))
  have hit : (ltrB d && decide (d.size ≤ 8)) = itB d := rfl
  rw [hit] at HI
  clear hit
  cases ok : soOk ⟨⟨t, z, q⟩, c, u, h⟩ with
  | false =>
    rw [ok] at HG
    have ho : sendOk ⟨⟨t, z, q⟩, c, u, h⟩ d = false := by unfold sendOk; rw [ok]; rfl
    have hv : sendV11 ⟨⟨t, z, q⟩, c, u, h⟩ d = so0 := by unfold sendV11; rw [ho]; rfl
    have hp : sendP11 ⟨⟨t, z, q⟩, c, u, h⟩ d = pk0 := by unfold sendP11; rw [ho]; rfl
    rw [hv, ho, hp]
    clear hv ho hp
    dsimp only [so0, sw0, pk0]
    have c42_T_0 := HX_T.out.at 0 (v := .int .i64 t) rfl
    have c42_T_1 := HX_T.out.at 1 (v := .int .i64 z) rfl
    have c42_T_2 := HX_T.out.at 2 (v := .slice a q.length cap) rfl
    have c42_T_3 := HX_T.out.at 3 (v := .int .i64 c) rfl
    have c42_T_4 := HX_T.out.at 4 (v := .int .i64 u) rfl
    have c42_T_5 := HX_T.out.at 5 (v := .slice b h.length caph) rfl
    have c43_A_0 := HX_A.out.at 0 (v := .int .i64 0) rfl
    have c43_A_1 := HX_A.out.at 1 (v := .int .i64 0) rfl
    have c43_A_2 := HX_A.out.at 2 (v := .slice none 0 0) rfl
    have c43_A_3 := HX_A.out.at 3 (v := .int .i64 0) rfl
    have c43_A_4 := HX_A.out.at 4 (v := .int .i64 0) rfl
    have c43_A_5 := HX_A.out.at 5 (v := .slice none 0 0) rfl
    have c44_B_0 := HX_B.out.at 0 (v := .int .i64 0) rfl
    have c44_B_1 := HX_B.out.at 1 (v := .int .i64 0) rfl
    have c44_B_2 := HX_B.out.at 2 (v := .int .i64 0) rfl
    have c44_B_3 := HX_B.out.at 3 (v := .int .i64 0) rfl
    have c44_B_4 := HX_B.out.at 4 (v := .string ⟨#[]⟩) rfl
    go_enter Try.func36, Try.ntmps36
    go_upto_region 1 with fail
    rw [← HW0.out, ← HR_B.out, ← HR_A.out, ← HR_T.out]
    go_wp2_with fail
    refine (HG.out _ (HP.out.below HB0.out (Nat.le_refl _)) (HH.out.below HB0.out (Nat.le_refl _))).mono ?_
    rintro e W45 ⟨rfl, l45⟩
    clear c42_T_0 c42_T_1 c42_T_2 c42_T_3 c42_T_4 c42_T_5
    clear c43_A_0 c43_A_1 c43_A_2 c43_A_3 c43_A_4 c43_A_5
    clear c44_B_0 c44_B_1 c44_B_2 c44_B_3 c44_B_4
    have HB_46 := Lib.hid (HB0.out.trans (l45.mono HB0.out.size))
    have T_46 := Lib.hid (HX_T.out.below l45 HX_T.out.lt)
    have A_46 := Lib.hid (HX_A.out.below l45 HX_A.out.lt)
    have B_46 := Lib.hid (HX_B.out.below l45 HX_B.out.lt)
    clear l45
    have c47_T_0 := T_46.out.at 0 (v := .int .i64 t) rfl
    have c47_T_1 := T_46.out.at 1 (v := .int .i64 z) rfl
    have c47_T_2 := T_46.out.at 2 (v := .slice a q.length cap) rfl
    have c47_T_3 := T_46.out.at 3 (v := .int .i64 c) rfl
    have c47_T_4 := T_46.out.at 4 (v := .int .i64 u) rfl
    have c47_T_5 := T_46.out.at 5 (v := .slice b h.length caph) rfl
    have c48_A_0 := A_46.out.at 0 (v := .int .i64 0) rfl
    have c48_A_1 := A_46.out.at 1 (v := .int .i64 0) rfl
    have c48_A_2 := A_46.out.at 2 (v := .slice none 0 0) rfl
    have c48_A_3 := A_46.out.at 3 (v := .int .i64 0) rfl
    have c48_A_4 := A_46.out.at 4 (v := .int .i64 0) rfl
    have c48_A_5 := A_46.out.at 5 (v := .slice none 0 0) rfl
    have c49_B_0 := B_46.out.at 0 (v := .int .i64 0) rfl
    have c49_B_1 := B_46.out.at 1 (v := .int .i64 0) rfl
    have c49_B_2 := B_46.out.at 2 (v := .int .i64 0) rfl
    have c49_B_3 := B_46.out.at 3 (v := .int .i64 0) rfl
    have c49_B_4 := B_46.out.at 4 (v := .string ⟨#[]⟩) rfl
    have fr50_A_0 := A_46.out.free 0
    have fr50_A_1 := A_46.out.free 1
    have fr50_A_2 := A_46.out.free 2
    have fr50_A_3 := A_46.out.free 3
    have fr50_A_4 := A_46.out.free 4
    have fr50_A_5 := A_46.out.free 5
    have fr51_B_0 := B_46.out.free 0
    have fr51_B_1 := B_46.out.free 1
    have fr51_B_2 := B_46.out.free 2
    have fr51_B_3 := B_46.out.free 3
    have fr51_B_4 := B_46.out.free 4
    go_wp2_with fail
    obtain ⟨p1, q1⟩ := A_46.out.store6 (.int .i64 0) (.int .i64 0) (.slice none 0 0) (.int .i64 0) (.int .i64 0) (.slice none 0 0)
    obtain ⟨p2, q2⟩ := (B_46.out.grown q1 (by intro e; have e2 : R_B = R_A := Option.some.inj e; have h1 := HR_B.out; have h2 := HR_A.out; omega)).store5 (.int .i64 0) (.int .i64 0) (.int .i64 0) (.int .i64 0) (.string ⟨#[]⟩)
    have hB9 := (HB_46.out.grown q1 HB_46.out.size (fun k hk => by have e2 : R_A = k := Option.some.inj hk; have := HR_A.out; omega))
    have hB10 := hB9.grown q2 hB9.size (fun k hk => by have e2 : R_B = k := Option.some.inj hk; have := HR_B.out; omega)
    refine bodyPost_ret (results_bxx1 rfl isSo isPk _ _ R_A R_B rfl rfl rfl rfl rfl (p1.grown q2 (by intro e; have e2 : R_A = R_B := Option.some.inj e; have h1 := HR_A.out; have h2 := HR_B.out; omega)) p2) rfl ⟨_, _, rfl, World.ownsRow_nil _ _ _ _, World.ownsRow_nil _ _ _ _, (fun k h => by cases h), hB10⟩
  | true =>
    rw [ok] at HG
    cases oi : itB d with
    | false =>
      rw [oi] at HI
      have ho : sendOk ⟨⟨t, z, q⟩, c, u, h⟩ d = false := by unfold sendOk; rw [ok, oi]; rfl
      have hv : sendV11 ⟨⟨t, z, q⟩, c, u, h⟩ d = so0 := by unfold sendV11; rw [ho]; rfl
      have hp : sendP11 ⟨⟨t, z, q⟩, c, u, h⟩ d = pk0 := by unfold sendP11; rw [ho]; rfl
      rw [hv, ho, hp]
      clear hv ho hp
      dsimp only [so0, sw0, pk0]
      have c52_T_0 := HX_T.out.at 0 (v := .int .i64 t) rfl
      have c52_T_1 := HX_T.out.at 1 (v := .int .i64 z) rfl
      have c52_T_2 := HX_T.out.at 2 (v := .slice a q.length cap) rfl
      have c52_T_3 := HX_T.out.at 3 (v := .int .i64 c) rfl
      have c52_T_4 := HX_T.out.at 4 (v := .int .i64 u) rfl
      have c52_T_5 := HX_T.out.at 5 (v := .slice b h.length caph) rfl
      have c53_A_0 := HX_A.out.at 0 (v := .int .i64 0) rfl
      have c53_A_1 := HX_A.out.at 1 (v := .int .i64 0) rfl
      have c53_A_2 := HX_A.out.at 2 (v := .slice none 0 0) rfl
      have c53_A_3 := HX_A.out.at 3 (v := .int .i64 0) rfl
      have c53_A_4 := HX_A.out.at 4 (v := .int .i64 0) rfl
      have c53_A_5 := HX_A.out.at 5 (v := .slice none 0 0) rfl
      have c54_B_0 := HX_B.out.at 0 (v := .int .i64 0) rfl
      have c54_B_1 := HX_B.out.at 1 (v := .int .i64 0) rfl
      have c54_B_2 := HX_B.out.at 2 (v := .int .i64 0) rfl
      have c54_B_3 := HX_B.out.at 3 (v := .int .i64 0) rfl
      have c54_B_4 := HX_B.out.at 4 (v := .string ⟨#[]⟩) rfl
      go_enter Try.func36, Try.ntmps36
      go_upto_region 1 with fail
      rw [← HW0.out, ← HR_B.out, ← HR_A.out, ← HR_T.out]
      go_wp2_with fail
      refine (HG.out _ (HP.out.below HB0.out (Nat.le_refl _)) (HH.out.below HB0.out (Nat.le_refl _))).mono ?_
      rintro e W55 ⟨rfl, l55⟩
      clear c52_T_0 c52_T_1 c52_T_2 c52_T_3 c52_T_4 c52_T_5
      clear c53_A_0 c53_A_1 c53_A_2 c53_A_3 c53_A_4 c53_A_5
      clear c54_B_0 c54_B_1 c54_B_2 c54_B_3 c54_B_4
      have HB_56 := Lib.hid (HB0.out.trans (l55.mono HB0.out.size))
      have T_56 := Lib.hid (HX_T.out.below l55 HX_T.out.lt)
      have A_56 := Lib.hid (HX_A.out.below l55 HX_A.out.lt)
      have B_56 := Lib.hid (HX_B.out.below l55 HX_B.out.lt)
      clear l55
      have c57_T_0 := T_56.out.at 0 (v := .int .i64 t) rfl
      have c57_T_1 := T_56.out.at 1 (v := .int .i64 z) rfl
      have c57_T_2 := T_56.out.at 2 (v := .slice a q.length cap) rfl
      have c57_T_3 := T_56.out.at 3 (v := .int .i64 c) rfl
      have c57_T_4 := T_56.out.at 4 (v := .int .i64 u) rfl
      have c57_T_5 := T_56.out.at 5 (v := .slice b h.length caph) rfl
      have c58_A_0 := A_56.out.at 0 (v := .int .i64 0) rfl
      have c58_A_1 := A_56.out.at 1 (v := .int .i64 0) rfl
      have c58_A_2 := A_56.out.at 2 (v := .slice none 0 0) rfl
      have c58_A_3 := A_56.out.at 3 (v := .int .i64 0) rfl
      have c58_A_4 := A_56.out.at 4 (v := .int .i64 0) rfl
      have c58_A_5 := A_56.out.at 5 (v := .slice none 0 0) rfl
      have c59_B_0 := B_56.out.at 0 (v := .int .i64 0) rfl
      have c59_B_1 := B_56.out.at 1 (v := .int .i64 0) rfl
      have c59_B_2 := B_56.out.at 2 (v := .int .i64 0) rfl
      have c59_B_3 := B_56.out.at 3 (v := .int .i64 0) rfl
      have c59_B_4 := B_56.out.at 4 (v := .string ⟨#[]⟩) rfl
      go_wp2_with fail
      refine (HI.out _).mono ?_
      rintro e _ ⟨rfl, rfl⟩
      have fr60_A_0 := A_56.out.free 0
      have fr60_A_1 := A_56.out.free 1
      have fr60_A_2 := A_56.out.free 2
      have fr60_A_3 := A_56.out.free 3
      have fr60_A_4 := A_56.out.free 4
      have fr60_A_5 := A_56.out.free 5
      have fr61_B_0 := B_56.out.free 0
      have fr61_B_1 := B_56.out.free 1
      have fr61_B_2 := B_56.out.free 2
      have fr61_B_3 := B_56.out.free 3
      have fr61_B_4 := B_56.out.free 4
      go_wp2_with fail
      obtain ⟨p1, q1⟩ := A_56.out.store6 (.int .i64 0) (.int .i64 0) (.slice none 0 0) (.int .i64 0) (.int .i64 0) (.slice none 0 0)
      obtain ⟨p2, q2⟩ := (B_56.out.grown q1 (by intro e; have e2 : R_B = R_A := Option.some.inj e; have h1 := HR_B.out; have h2 := HR_A.out; omega)).store5 (.int .i64 0) (.int .i64 0) (.int .i64 0) (.int .i64 0) (.string ⟨#[]⟩)
      have hB9 := (HB_56.out.grown q1 HB_56.out.size (fun k hk => by have e2 : R_A = k := Option.some.inj hk; have := HR_A.out; omega))
      have hB10 := hB9.grown q2 hB9.size (fun k hk => by have e2 : R_B = k := Option.some.inj hk; have := HR_B.out; omega)
      refine bodyPost_ret (results_bxx1 rfl isSo isPk _ _ R_A R_B rfl rfl rfl rfl rfl (p1.grown q2 (by intro e; have e2 : R_A = R_B := Option.some.inj e; have h1 := HR_A.out; have h2 := HR_B.out; omega)) p2) rfl ⟨_, _, rfl, World.ownsRow_nil _ _ _ _, World.ownsRow_nil _ _ _ _, (fun k h => by cases h), hB10⟩
    | true =>
      rw [oi] at HI
      have ho : sendOk ⟨⟨t, z, q⟩, c, u, h⟩ d = true := by unfold sendOk; rw [ok, oi]; rfl
      have hv : sendV11 ⟨⟨t, z, q⟩, c, u, h⟩ d = sendW ⟨⟨t, z, q⟩, c, u, h⟩ d := if_pos ho
      have hp : sendP11 ⟨⟨t, z, q⟩, c, u, h⟩ d = ⟨1, leadI (roomW ⟨t, z, q⟩), (pushW ⟨t, z, q⟩ d).t, leadI (pushW ⟨t, z, q⟩ d), d⟩ := if_pos ho
      rw [hv, ho, hp]
      dsimp only
      have HSe := Lib.hid (fun (W1 : World) (hr : Row W1 (.slice a q.length cap) q.length (q.map Value.string)) (hh : Row W1 (.slice b h.length caph) h.length (hdF h)) => l11Send_any (.slice a q.length cap) (.slice b h.length caph) ⟨⟨t, z, q⟩, c, u, h⟩ d W1 hr hh HFit.out ok)
      have hst : (sendW ⟨⟨t, z, q⟩, c, u, h⟩ d).w.t = (pushW ⟨t, z, q⟩ d).t := rfl
      dsimp only at HSe
      rw [hst] at HSe ⊢
      clear hst hv ho hp ok oi
      generalize leadI (roomW ⟨t, z, q⟩) = nu at HSe ⊢
      generalize leadI (pushW ⟨t, z, q⟩ d) = le at HSe ⊢
      generalize (pushW ⟨t, z, q⟩ d).t = pt at HSe ⊢
      generalize sendW ⟨⟨t, z, q⟩, c, u, h⟩ d = y at HSe ⊢
      obtain ⟨⟨yt, yz, yq⟩, yc, yu, yh⟩ := y
      dsimp only at HSe ⊢
      have c62_T_0 := HX_T.out.at 0 (v := .int .i64 t) rfl
      have c62_T_1 := HX_T.out.at 1 (v := .int .i64 z) rfl
      have c62_T_2 := HX_T.out.at 2 (v := .slice a q.length cap) rfl
      have c62_T_3 := HX_T.out.at 3 (v := .int .i64 c) rfl
      have c62_T_4 := HX_T.out.at 4 (v := .int .i64 u) rfl
      have c62_T_5 := HX_T.out.at 5 (v := .slice b h.length caph) rfl
      have c63_A_0 := HX_A.out.at 0 (v := .int .i64 0) rfl
      have c63_A_1 := HX_A.out.at 1 (v := .int .i64 0) rfl
      have c63_A_2 := HX_A.out.at 2 (v := .slice none 0 0) rfl
      have c63_A_3 := HX_A.out.at 3 (v := .int .i64 0) rfl
      have c63_A_4 := HX_A.out.at 4 (v := .int .i64 0) rfl
      have c63_A_5 := HX_A.out.at 5 (v := .slice none 0 0) rfl
      have c64_B_0 := HX_B.out.at 0 (v := .int .i64 0) rfl
      have c64_B_1 := HX_B.out.at 1 (v := .int .i64 0) rfl
      have c64_B_2 := HX_B.out.at 2 (v := .int .i64 0) rfl
      have c64_B_3 := HX_B.out.at 3 (v := .int .i64 0) rfl
      have c64_B_4 := HX_B.out.at 4 (v := .string ⟨#[]⟩) rfl
      go_enter Try.func36, Try.ntmps36
      go_upto_region 1 with fail
      rw [← HW0.out, ← HR_B.out, ← HR_A.out, ← HR_T.out]
      go_wp2_with fail
      refine (HG.out _ (HP.out.below HB0.out (Nat.le_refl _)) (HH.out.below HB0.out (Nat.le_refl _))).mono ?_
      rintro e W65 ⟨rfl, l65⟩
      clear c62_T_0 c62_T_1 c62_T_2 c62_T_3 c62_T_4 c62_T_5
      clear c63_A_0 c63_A_1 c63_A_2 c63_A_3 c63_A_4 c63_A_5
      clear c64_B_0 c64_B_1 c64_B_2 c64_B_3 c64_B_4
      have HB_66 := Lib.hid (HB0.out.trans (l65.mono HB0.out.size))
      have T_66 := Lib.hid (HX_T.out.below l65 HX_T.out.lt)
      have A_66 := Lib.hid (HX_A.out.below l65 HX_A.out.lt)
      have B_66 := Lib.hid (HX_B.out.below l65 HX_B.out.lt)
      clear l65
      have c67_T_0 := T_66.out.at 0 (v := .int .i64 t) rfl
      have c67_T_1 := T_66.out.at 1 (v := .int .i64 z) rfl
      have c67_T_2 := T_66.out.at 2 (v := .slice a q.length cap) rfl
      have c67_T_3 := T_66.out.at 3 (v := .int .i64 c) rfl
      have c67_T_4 := T_66.out.at 4 (v := .int .i64 u) rfl
      have c67_T_5 := T_66.out.at 5 (v := .slice b h.length caph) rfl
      have c68_A_0 := A_66.out.at 0 (v := .int .i64 0) rfl
      have c68_A_1 := A_66.out.at 1 (v := .int .i64 0) rfl
      have c68_A_2 := A_66.out.at 2 (v := .slice none 0 0) rfl
      have c68_A_3 := A_66.out.at 3 (v := .int .i64 0) rfl
      have c68_A_4 := A_66.out.at 4 (v := .int .i64 0) rfl
      have c68_A_5 := A_66.out.at 5 (v := .slice none 0 0) rfl
      have c69_B_0 := B_66.out.at 0 (v := .int .i64 0) rfl
      have c69_B_1 := B_66.out.at 1 (v := .int .i64 0) rfl
      have c69_B_2 := B_66.out.at 2 (v := .int .i64 0) rfl
      have c69_B_3 := B_66.out.at 3 (v := .int .i64 0) rfl
      have c69_B_4 := B_66.out.at 4 (v := .string ⟨#[]⟩) rfl
      go_wp2_with fail
      refine (HI.out _).mono ?_
      rintro e _ ⟨rfl, rfl⟩
      go_wp2_with fail
      refine (HSe.out _ (HP.out.below HB_66.out (Nat.le_refl _)) (HH.out.below HB_66.out (Nat.le_refl _))).mono ?_
      rintro e W70 ⟨v_y, v_k, rfl, o_y, o_k, ap_y_k, l70⟩
      obtain ⟨a_y, c_y, rfl, _, _⟩ := ownz_slice o_y
      have O_y := Lib.hid (ownz_base o_y HB_66.out.size)
      have BX_T_y : Hid (∀ k, (.slice a_y yq.length c_y : Value).ownBlock = some k → k ≠ R_T) := Lib.hid (fun k h1 h2 => absurd T_66.out.lt (Nat.not_lt.2 (by rw [← h2]; exact (o_y.lt k h1).1)))
      have BX_A_y : Hid (∀ k, (.slice a_y yq.length c_y : Value).ownBlock = some k → k ≠ R_A) := Lib.hid (fun k h1 h2 => absurd A_66.out.lt (Nat.not_lt.2 (by rw [← h2]; exact (o_y.lt k h1).1)))
      have BX_B_y : Hid (∀ k, (.slice a_y yq.length c_y : Value).ownBlock = some k → k ≠ R_B) := Lib.hid (fun k h1 h2 => absurd B_66.out.lt (Nat.not_lt.2 (by rw [← h2]; exact (o_y.lt k h1).1)))
      clear o_y
      obtain ⟨a_k, c_k, rfl, _, _⟩ := ownz_slice o_k
      have O_k := Lib.hid (ownz_base o_k HB_66.out.size)
      have BX_T_k : Hid (∀ k, (.slice a_k yh.length c_k : Value).ownBlock = some k → k ≠ R_T) := Lib.hid (fun k h1 h2 => absurd T_66.out.lt (Nat.not_lt.2 (by rw [← h2]; exact (o_k.lt k h1).1)))
      have BX_A_k : Hid (∀ k, (.slice a_k yh.length c_k : Value).ownBlock = some k → k ≠ R_A) := Lib.hid (fun k h1 h2 => absurd A_66.out.lt (Nat.not_lt.2 (by rw [← h2]; exact (o_k.lt k h1).1)))
      have BX_B_k : Hid (∀ k, (.slice a_k yh.length c_k : Value).ownBlock = some k → k ≠ R_B) := Lib.hid (fun k h1 h2 => absurd B_66.out.lt (Nat.not_lt.2 (by rw [← h2]; exact (o_k.lt k h1).1)))
      clear o_k
      have AP_y_k := Lib.hid ap_y_k
      clear ap_y_k
      clear c67_T_0 c67_T_1 c67_T_2 c67_T_3 c67_T_4 c67_T_5
      clear c68_A_0 c68_A_1 c68_A_2 c68_A_3 c68_A_4 c68_A_5
      clear c69_B_0 c69_B_1 c69_B_2 c69_B_3 c69_B_4
      have HB_71 := Lib.hid (HB_66.out.trans (l70.mono HB_66.out.size))
      have T_71 := Lib.hid (T_66.out.below l70 T_66.out.lt)
      clear T_66
      have A_71 := Lib.hid (A_66.out.below l70 A_66.out.lt)
      clear A_66
      have B_71 := Lib.hid (B_66.out.below l70 B_66.out.lt)
      clear B_66
      clear l70
      have c72_T_0 := T_71.out.at 0 (v := .int .i64 t) rfl
      have c72_T_1 := T_71.out.at 1 (v := .int .i64 z) rfl
      have c72_T_2 := T_71.out.at 2 (v := .slice a q.length cap) rfl
      have c72_T_3 := T_71.out.at 3 (v := .int .i64 c) rfl
      have c72_T_4 := T_71.out.at 4 (v := .int .i64 u) rfl
      have c72_T_5 := T_71.out.at 5 (v := .slice b h.length caph) rfl
      have c73_A_0 := A_71.out.at 0 (v := .int .i64 0) rfl
      have c73_A_1 := A_71.out.at 1 (v := .int .i64 0) rfl
      have c73_A_2 := A_71.out.at 2 (v := .slice none 0 0) rfl
      have c73_A_3 := A_71.out.at 3 (v := .int .i64 0) rfl
      have c73_A_4 := A_71.out.at 4 (v := .int .i64 0) rfl
      have c73_A_5 := A_71.out.at 5 (v := .slice none 0 0) rfl
      have c74_B_0 := B_71.out.at 0 (v := .int .i64 0) rfl
      have c74_B_1 := B_71.out.at 1 (v := .int .i64 0) rfl
      have c74_B_2 := B_71.out.at 2 (v := .int .i64 0) rfl
      have c74_B_3 := B_71.out.at 3 (v := .int .i64 0) rfl
      have c74_B_4 := B_71.out.at 4 (v := .string ⟨#[]⟩) rfl
      go_upto_region 4 with fail
      obtain ⟨W75, hW75⟩ : ∃ W75, W75 = (W70.alloc (.cells #[.int .i64 pt, .int .i64 yz, .slice a_y yq.length c_y, .int .i64 yc, .int .i64 yu, .slice a_k yh.length c_k] 29)).alloc (.cells #[.int .i64 1, .int .i64 nu, .int .i64 pt, .int .i64 le, .string d] 64) := ⟨_, rfl⟩
      have l75 : Below W70.heap.size W70 W75 := by rw [hW75]; exact ((Below.refl _ _).alloc (Nat.le_refl _) _).alloc (by simp) _
      have X75_X : Hid (Bx W75 W70.heap.size #[.int .i64 pt, .int .i64 yz, .slice a_y yq.length c_y, .int .i64 yc, .int .i64 yu, .slice a_k yh.length c_k] 29) := Lib.hid (by rw [hW75]; exact (Bx.new2 _ _ _ _ _).1)
      have X75_P : Hid (Bx W75 (W70.heap.size + 1) #[.int .i64 1, .int .i64 nu, .int .i64 pt, .int .i64 le, .string d] 64) := Lib.hid (by rw [hW75]; exact (Bx.new2 _ _ _ _ _).2)
      rw [← hW75]
      clear hW75
      have BX_X_y : Hid (∀ k, (.slice a_y yq.length c_y : Value).ownBlock = some k → k ≠ W70.heap.size) := Lib.hid (fun k h1 h2 => absurd (O_y.out.lt k h1).2 (by omega))
      have BX_X_k : Hid (∀ k, (.slice a_k yh.length c_k : Value).ownBlock = some k → k ≠ W70.heap.size) := Lib.hid (fun k h1 h2 => absurd (O_k.out.lt k h1).2 (by omega))
      have HG_X : Hid (w.heap.size ≤ W70.heap.size) := Lib.hid (HB_71.out.size)
      have HN_X_T : Hid (R_T < W70.heap.size) := Lib.hid (T_71.out.lt)
      have HN_X_A : Hid (R_A < W70.heap.size) := Lib.hid (A_71.out.lt)
      have HN_X_B : Hid (R_B < W70.heap.size) := Lib.hid (B_71.out.lt)
      have BX_P_y : Hid (∀ k, (.slice a_y yq.length c_y : Value).ownBlock = some k → k ≠ (W70.heap.size + 1)) := Lib.hid (fun k h1 h2 => absurd (O_y.out.lt k h1).2 (by omega))
      have BX_P_k : Hid (∀ k, (.slice a_k yh.length c_k : Value).ownBlock = some k → k ≠ (W70.heap.size + 1)) := Lib.hid (fun k h1 h2 => absurd (O_k.out.lt k h1).2 (by omega))
      have HG_P : Hid (w.heap.size ≤ (W70.heap.size + 1)) := Lib.hid (Nat.le_succ_of_le HB_71.out.size)
      have HN_P_T : Hid (R_T < (W70.heap.size + 1)) := Lib.hid (Nat.lt_succ_of_lt T_71.out.lt)
      have HN_P_A : Hid (R_A < (W70.heap.size + 1)) := Lib.hid (Nat.lt_succ_of_lt A_71.out.lt)
      have HN_P_B : Hid (R_B < (W70.heap.size + 1)) := Lib.hid (Nat.lt_succ_of_lt B_71.out.lt)
      have HN_P_X : Hid (W70.heap.size < W70.heap.size + 1) := Lib.hid (Nat.lt_succ_self _)
      obtain ⟨R_P, hR_P⟩ : ∃ X, X = W70.heap.size + 1 := ⟨_, rfl⟩
      rw [← hR_P] at X75_P HG_P HN_P_X BX_P_y BX_P_k HN_P_T HN_P_A HN_P_B ⊢
      clear hR_P
      obtain ⟨R_X, hR_X⟩ : ∃ X, X = W70.heap.size := ⟨_, rfl⟩
      rw [← hR_X] at X75_X HG_X HN_P_X BX_X_y BX_X_k HN_X_T HN_X_A HN_X_B ⊢
      clear hR_X
      clear c72_T_0 c72_T_1 c72_T_2 c72_T_3 c72_T_4 c72_T_5
      clear c73_A_0 c73_A_1 c73_A_2 c73_A_3 c73_A_4 c73_A_5
      clear c74_B_0 c74_B_1 c74_B_2 c74_B_3 c74_B_4
      have HB_76 := Lib.hid (HB_71.out.trans (l75.mono HB_71.out.size))
      have y_76 := Lib.hid (ownz_below O_y.out l75 (Nat.le_refl _))
      clear O_y
      have k_76 := Lib.hid (ownz_below O_k.out l75 (Nat.le_refl _))
      clear O_k
      have T_76 := Lib.hid (T_71.out.below l75 T_71.out.lt)
      clear T_71
      have A_76 := Lib.hid (A_71.out.below l75 A_71.out.lt)
      clear A_71
      have B_76 := Lib.hid (B_71.out.below l75 B_71.out.lt)
      clear B_71
      clear l75
      have c77_T_0 := T_76.out.at 0 (v := .int .i64 t) rfl
      have c77_T_1 := T_76.out.at 1 (v := .int .i64 z) rfl
      have c77_T_2 := T_76.out.at 2 (v := .slice a q.length cap) rfl
      have c77_T_3 := T_76.out.at 3 (v := .int .i64 c) rfl
      have c77_T_4 := T_76.out.at 4 (v := .int .i64 u) rfl
      have c77_T_5 := T_76.out.at 5 (v := .slice b h.length caph) rfl
      have c78_A_0 := A_76.out.at 0 (v := .int .i64 0) rfl
      have c78_A_1 := A_76.out.at 1 (v := .int .i64 0) rfl
      have c78_A_2 := A_76.out.at 2 (v := .slice none 0 0) rfl
      have c78_A_3 := A_76.out.at 3 (v := .int .i64 0) rfl
      have c78_A_4 := A_76.out.at 4 (v := .int .i64 0) rfl
      have c78_A_5 := A_76.out.at 5 (v := .slice none 0 0) rfl
      have c79_B_0 := B_76.out.at 0 (v := .int .i64 0) rfl
      have c79_B_1 := B_76.out.at 1 (v := .int .i64 0) rfl
      have c79_B_2 := B_76.out.at 2 (v := .int .i64 0) rfl
      have c79_B_3 := B_76.out.at 3 (v := .int .i64 0) rfl
      have c79_B_4 := B_76.out.at 4 (v := .string ⟨#[]⟩) rfl
      have c80_X_0 := X75_X.out.at 0 (v := .int .i64 pt) rfl
      have c80_X_1 := X75_X.out.at 1 (v := .int .i64 yz) rfl
      have c80_X_2 := X75_X.out.at 2 (v := .slice a_y yq.length c_y) rfl
      have c80_X_3 := X75_X.out.at 3 (v := .int .i64 yc) rfl
      have c80_X_4 := X75_X.out.at 4 (v := .int .i64 yu) rfl
      have c80_X_5 := X75_X.out.at 5 (v := .slice a_k yh.length c_k) rfl
      have c81_P_0 := X75_P.out.at 0 (v := .int .i64 1) rfl
      have c81_P_1 := X75_P.out.at 1 (v := .int .i64 nu) rfl
      have c81_P_2 := X75_P.out.at 2 (v := .int .i64 pt) rfl
      have c81_P_3 := X75_P.out.at 3 (v := .int .i64 le) rfl
      have c81_P_4 := X75_P.out.at 4 (v := .string d) rfl
      clear hne_A_B hne_B_A
      have hne_X_P : R_X ≠ R_P := fun e => absurd (congrArg some e) (by intro e; have e2 : R_X = R_P := Option.some.inj e; have h1 := HN_P_X.out; omega)
      have hne_X_A : R_X ≠ R_A := fun e => absurd (congrArg some e) (by intro e; have e2 : R_X = R_A := Option.some.inj e; have h1 := HN_X_A.out; omega)
      have hne_X_B : R_X ≠ R_B := fun e => absurd (congrArg some e) (by intro e; have e2 : R_X = R_B := Option.some.inj e; have h1 := HN_X_B.out; omega)
      have hne_P_X : R_P ≠ R_X := fun e => absurd (congrArg some e) (by intro e; have e2 : R_P = R_X := Option.some.inj e; have h1 := HN_P_X.out; omega)
      have hne_P_A : R_P ≠ R_A := fun e => absurd (congrArg some e) (by intro e; have e2 : R_P = R_A := Option.some.inj e; have h1 := HN_P_A.out; omega)
      have hne_P_B : R_P ≠ R_B := fun e => absurd (congrArg some e) (by intro e; have e2 : R_P = R_B := Option.some.inj e; have h1 := HN_P_B.out; omega)
      have hne_A_X : R_A ≠ R_X := fun e => absurd (congrArg some e) (by intro e; have e2 : R_A = R_X := Option.some.inj e; have h1 := HN_X_A.out; omega)
      have hne_A_P : R_A ≠ R_P := fun e => absurd (congrArg some e) (by intro e; have e2 : R_A = R_P := Option.some.inj e; have h1 := HN_P_A.out; omega)
      have hne_A_B : R_A ≠ R_B := fun e => absurd (congrArg some e) (by intro e; have e2 : R_A = R_B := Option.some.inj e; have h1 := HR_A.out; have h2 := HR_B.out; omega)
      have hne_B_X : R_B ≠ R_X := fun e => absurd (congrArg some e) (by intro e; have e2 : R_B = R_X := Option.some.inj e; have h1 := HN_X_B.out; omega)
      have hne_B_P : R_B ≠ R_P := fun e => absurd (congrArg some e) (by intro e; have e2 : R_B = R_P := Option.some.inj e; have h1 := HN_P_B.out; omega)
      have hne_B_A : R_B ≠ R_A := fun e => absurd (congrArg some e) (by intro e; have e2 : R_B = R_A := Option.some.inj e; have h1 := HR_B.out; have h2 := HR_A.out; omega)
      have fr82_A_0 := A_76.out.free 0
      have fr82_A_1 := A_76.out.free 1
      have fr82_A_2 := A_76.out.free 2
      have fr82_A_3 := A_76.out.free 3
      have fr82_A_4 := A_76.out.free 4
      have fr82_A_5 := A_76.out.free 5
      have fr83_B_0 := B_76.out.free 0
      have fr83_B_1 := B_76.out.free 1
      have fr83_B_2 := B_76.out.free 2
      have fr83_B_3 := B_76.out.free 3
      have fr83_B_4 := B_76.out.free 4
      go_region
      go_wp2_with fail
      obtain ⟨p1, q1⟩ := A_76.out.store6 (.int .i64 pt) (.int .i64 yz) (.slice a_y yq.length c_y) (.int .i64 yc) (.int .i64 yu) (.slice a_k yh.length c_k)
      obtain ⟨p2, q2⟩ := (B_76.out.grown q1 (by intro e; have e2 : R_B = R_A := Option.some.inj e; have h1 := HR_B.out; have h2 := HR_A.out; omega)).store5 (.int .i64 1) (.int .i64 nu) (.int .i64 pt) (.int .i64 le) (.string d)
      have hB9 := (HB_76.out.grown q1 HB_76.out.size (fun k hk => by have e2 : R_A = k := Option.some.inj hk; have := HR_A.out; omega))
      have hB10 := hB9.grown q2 hB9.size (fun k hk => by have e2 : R_B = k := Option.some.inj hk; have := HR_B.out; omega)
      obtain ⟨W9, hW9⟩ : ∃ W9, W9 = (((((((((((W75.setCell ⟨R_A, 0, none⟩ (.int .i64 pt)).setCell ⟨R_A, 1, none⟩ (.int .i64 yz)).setCell ⟨R_A, 2, none⟩ (.slice a_y yq.length c_y)).setCell ⟨R_A, 3, none⟩ (.int .i64 yc)).setCell ⟨R_A, 4, none⟩ (.int .i64 yu)).setCell ⟨R_A, 5, none⟩ (.slice a_k yh.length c_k)).setCell ⟨R_B, 0, none⟩ (.int .i64 1)).setCell ⟨R_B, 1, none⟩ (.int .i64 nu)).setCell ⟨R_B, 2, none⟩ (.int .i64 pt)).setCell ⟨R_B, 3, none⟩ (.int .i64 le)).setCell ⟨R_B, 4, none⟩ (.string d)) := ⟨_, rfl⟩
      rw [← hW9] at p2 q2 hB10 ⊢
      clear hW9
      refine bodyPost_ret (results_bxx1 rfl isSo isPk _ _ R_A R_B rfl rfl rfl rfl rfl (Bx.drew (p1.grown q2 (by intro e; have e2 : R_A = R_B := Option.some.inj e; have h1 := HR_A.out; have h2 := HR_B.out; omega))) (Bx.drew p2)) rfl ⟨_, _, rfl, ?_, ?_, AP_y_k.out, Below.drew hB10⟩
      · exact (World.ownsRow.drew ((y_76.out.kept q1 (by
        cases hv : (.slice a_y yq.length c_y : Value).ownBlock with
        | none => exact .inl rfl
        | some k => exact .inr (fun e => BX_A_y.out k hv (Option.some.inj e)))).kept q2 (by
        cases hv : (.slice a_y yq.length c_y : Value).ownBlock with
        | none => exact .inl rfl
        | some k => exact .inr (fun e => BX_B_y.out k hv (Option.some.inj e)))))
      · exact (World.ownsRow.drew ((k_76.out.kept q1 (by
        cases hv : (.slice a_k yh.length c_k : Value).ownBlock with
        | none => exact .inl rfl
        | some k => exact .inr (fun e => BX_A_k.out k hv (Option.some.inj e)))).kept q2 (by
        cases hv : (.slice a_k yh.length c_k : Value).ownBlock with
        | none => exact .inl rfl
        | some k => exact .inr (fun e => BX_B_k.out k hv (Option.some.inj e)))))
set_option maxRecDepth 100000 in
set_option maxHeartbeats 8000000 in
theorem specTrim_any (v hv : Value) (s : So) (x : Int) (w : World) (hrow : Row w v s.w.q.length (s.w.q.map Value.string)) (hhr : Row w hv s.h.length (hdF s.h)) (hs : ∀ x ∈ s.w.q, x.size ≤ maxLen) (hfit : FitA v s.w.q.length) :
    Calls Try.prog 14 #[.agg #[.int .i64 s.w.t, .int .i64 s.w.z, v, .int .i64 s.c, .int .i64 s.u, hv], .int .i64 x] w fun e w' => ∃ v' hv', e = .returned (.tuple #[.agg #[.int .i64 (trimV s x).w.t, .int .i64 (trimV s x).w.z, v', .int .i64 (trimV s x).c, .int .i64 (trimV s x).u, hv'], .int .i64 (trimC s x), .bool (trimOk s x)]) ∧ w'.ownsRow w.heap.size 9 1 v' (trimV s x).w.q.length ((trimV s x).w.q.map Value.string) ∧ w'.ownsRow w.heap.size 82 2 hv' (trimV s x).h.length (hdF (trimV s x).h) ∧ (∀ k, v'.ownBlock = some k → hv'.ownBlock ≠ some k) ∧ Below w.heap.size w w' := by
  obtain ⟨⟨t, z, q⟩, c, u, h⟩ := s
  dsimp only at hrow hhr hs ⊢
  obtain ⟨a, cap, rfl, hc1, hm1, -⟩ := row_open hrow
  obtain ⟨b, caph, rfl, hc2, hm2, -⟩ := hd_open hhr
  unfold maxLen at hm1 hm2
  have HP := Lib.hid hrow
  have HH := Lib.hid hhr
  clear hrow hhr
  have HS := Lib.hid hs
  clear hs
  have HFit := Lib.hid hfit
  clear hfit
  dsimp only at HFit
  obtain ⟨W0, R_T, R_A, hW0, hR_T, hR_A, hX_T, hX_A, hB0⟩ := entry2 w #[.int .i64 t, .int .i64 z, .slice a q.length cap, .int .i64 c, .int .i64 u, .slice b h.length caph] #[.int .i64 0, .int .i64 0, .slice none 0 0, .int .i64 0, .int .i64 0, .slice none 0 0] 29 29
  have HW0 := Lib.hid hW0
  have HB0 := Lib.hid hB0
  have HR_T := Lib.hid hR_T
  have HX_T := Lib.hid hX_T
  have HR_A := Lib.hid hR_A
  have HX_A := Lib.hid hX_A
  clear hW0 hB0 hR_T hX_T hR_A hX_A
  have HG := Lib.hid (fun (W1 : World) (hr : Row W1 (.slice a q.length cap) q.length (q.map Value.string)) (hh : Row W1 (.slice b h.length caph) h.length (hdF h)) => l11Good_any (.slice a q.length cap) (.slice b h.length caph) ⟨⟨t, z, q⟩, c, u, h⟩ W1 hr hh HS.out)
  have HD := Lib.hid (fun (W1 : World) (hr : Row W1 (.slice a q.length cap) q.length (q.map Value.string)) => specDrop9_any (.slice a q.length cap) ⟨t, z, q⟩ x W1 hr HS.out HFit.out)
  cases ok : soOk ⟨⟨t, z, q⟩, c, u, h⟩ with
  | false =>
    rw [ok] at HG
    generalize hod : dropOk ⟨t, z, q⟩ x = od at HD
    clear hod
    have ho : trimOk ⟨⟨t, z, q⟩, c, u, h⟩ x = false := by unfold trimOk; rw [ok]; rfl
    have hv : trimV ⟨⟨t, z, q⟩, c, u, h⟩ x = so0 := by unfold trimV; rw [ho]; rfl
    have hc : trimC ⟨⟨t, z, q⟩, c, u, h⟩ x = 0 := by unfold trimC; rw [ho]; rfl
    rw [hv, ho, hc]
    clear hv ho hc
    dsimp only [so0, sw0]
    generalize dropC ⟨t, z, q⟩ x = dc at HD
    generalize dropV ⟨t, z, q⟩ x = dv at HD
    obtain ⟨dt, dz, dq⟩ := dv
    dsimp only at HD
    have c84_T_0 := HX_T.out.at 0 (v := .int .i64 t) rfl
    have c84_T_1 := HX_T.out.at 1 (v := .int .i64 z) rfl
    have c84_T_2 := HX_T.out.at 2 (v := .slice a q.length cap) rfl
    have c84_T_3 := HX_T.out.at 3 (v := .int .i64 c) rfl
    have c84_T_4 := HX_T.out.at 4 (v := .int .i64 u) rfl
    have c84_T_5 := HX_T.out.at 5 (v := .slice b h.length caph) rfl
    have c85_A_0 := HX_A.out.at 0 (v := .int .i64 0) rfl
    have c85_A_1 := HX_A.out.at 1 (v := .int .i64 0) rfl
    have c85_A_2 := HX_A.out.at 2 (v := .slice none 0 0) rfl
    have c85_A_3 := HX_A.out.at 3 (v := .int .i64 0) rfl
    have c85_A_4 := HX_A.out.at 4 (v := .int .i64 0) rfl
    have c85_A_5 := HX_A.out.at 5 (v := .slice none 0 0) rfl
    go_enter Try.func14, Try.ntmps14
    go_upto_region 1 with fail
    rw [← HW0.out, ← HR_A.out, ← HR_T.out]
    go_wp2_with fail
    refine (HD.out _ (HP.out.below HB0.out (Nat.le_refl _))).mono ?_
    rintro e W86 ⟨v_y, rfl, o_y, l86⟩
    obtain ⟨a_y, c_y, rfl, _, _⟩ := ownz_slice o_y
    have O_y := Lib.hid (ownz_base o_y HB0.out.size)
    have BX_T_y : Hid (∀ k, (.slice a_y dq.length c_y : Value).ownBlock = some k → k ≠ R_T) := Lib.hid (fun k h1 h2 => absurd HX_T.out.lt (Nat.not_lt.2 (by rw [← h2]; exact (o_y.lt k h1).1)))
    have BX_A_y : Hid (∀ k, (.slice a_y dq.length c_y : Value).ownBlock = some k → k ≠ R_A) := Lib.hid (fun k h1 h2 => absurd HX_A.out.lt (Nat.not_lt.2 (by rw [← h2]; exact (o_y.lt k h1).1)))
    clear o_y
    clear c84_T_0 c84_T_1 c84_T_2 c84_T_3 c84_T_4 c84_T_5
    clear c85_A_0 c85_A_1 c85_A_2 c85_A_3 c85_A_4 c85_A_5
    have HB_87 := Lib.hid (HB0.out.trans (l86.mono HB0.out.size))
    have T_87 := Lib.hid (HX_T.out.below l86 HX_T.out.lt)
    have A_87 := Lib.hid (HX_A.out.below l86 HX_A.out.lt)
    clear l86
    have c88_T_0 := T_87.out.at 0 (v := .int .i64 t) rfl
    have c88_T_1 := T_87.out.at 1 (v := .int .i64 z) rfl
    have c88_T_2 := T_87.out.at 2 (v := .slice a q.length cap) rfl
    have c88_T_3 := T_87.out.at 3 (v := .int .i64 c) rfl
    have c88_T_4 := T_87.out.at 4 (v := .int .i64 u) rfl
    have c88_T_5 := T_87.out.at 5 (v := .slice b h.length caph) rfl
    have c89_A_0 := A_87.out.at 0 (v := .int .i64 0) rfl
    have c89_A_1 := A_87.out.at 1 (v := .int .i64 0) rfl
    have c89_A_2 := A_87.out.at 2 (v := .slice none 0 0) rfl
    have c89_A_3 := A_87.out.at 3 (v := .int .i64 0) rfl
    have c89_A_4 := A_87.out.at 4 (v := .int .i64 0) rfl
    have c89_A_5 := A_87.out.at 5 (v := .slice none 0 0) rfl
    go_upto_region 2 with fail
    obtain ⟨W90, hW90⟩ : ∃ W90, W90 = W86.alloc (.cells #[.int .i64 dt, .int .i64 dz, .slice a_y dq.length c_y] 26) := ⟨_, rfl⟩
    have l90 : Below W86.heap.size W86 W90 := by rw [hW90]; exact (Below.refl _ _).alloc (Nat.le_refl _) _
    have X90_U : Hid (Bx W90 W86.heap.size #[.int .i64 dt, .int .i64 dz, .slice a_y dq.length c_y] 26) := Lib.hid (by rw [hW90]; exact Bx.new _ _ _)
    rw [← hW90]
    clear hW90
    have BX_U_y : Hid (∀ k, (.slice a_y dq.length c_y : Value).ownBlock = some k → k ≠ W86.heap.size) := Lib.hid (fun k h1 h2 => absurd (O_y.out.lt k h1).2 (by omega))
    have HG_U : Hid (w.heap.size ≤ W86.heap.size) := Lib.hid HB_87.out.size
    have HN_U_T : Hid (R_T < W86.heap.size) := Lib.hid T_87.out.lt
    have HN_U_A : Hid (R_A < W86.heap.size) := Lib.hid A_87.out.lt
    obtain ⟨R_U, hR_U⟩ : ∃ X, X = W86.heap.size := ⟨_, rfl⟩
    rw [← hR_U] at X90_U HG_U BX_U_y HN_U_T HN_U_A ⊢
    clear hR_U
    clear c88_T_0 c88_T_1 c88_T_2 c88_T_3 c88_T_4 c88_T_5
    clear c89_A_0 c89_A_1 c89_A_2 c89_A_3 c89_A_4 c89_A_5
    have HB_91 := Lib.hid (HB_87.out.trans (l90.mono HB_87.out.size))
    have y_91 := Lib.hid (ownz_below O_y.out l90 (Nat.le_refl _))
    clear O_y
    have T_91 := Lib.hid (T_87.out.below l90 T_87.out.lt)
    clear T_87
    have A_91 := Lib.hid (A_87.out.below l90 A_87.out.lt)
    clear A_87
    clear l90
    have c92_T_0 := T_91.out.at 0 (v := .int .i64 t) rfl
    have c92_T_1 := T_91.out.at 1 (v := .int .i64 z) rfl
    have c92_T_2 := T_91.out.at 2 (v := .slice a q.length cap) rfl
    have c92_T_3 := T_91.out.at 3 (v := .int .i64 c) rfl
    have c92_T_4 := T_91.out.at 4 (v := .int .i64 u) rfl
    have c92_T_5 := T_91.out.at 5 (v := .slice b h.length caph) rfl
    have c93_A_0 := A_91.out.at 0 (v := .int .i64 0) rfl
    have c93_A_1 := A_91.out.at 1 (v := .int .i64 0) rfl
    have c93_A_2 := A_91.out.at 2 (v := .slice none 0 0) rfl
    have c93_A_3 := A_91.out.at 3 (v := .int .i64 0) rfl
    have c93_A_4 := A_91.out.at 4 (v := .int .i64 0) rfl
    have c93_A_5 := A_91.out.at 5 (v := .slice none 0 0) rfl
    have c94_U_0 := X90_U.out.at 0 (v := .int .i64 dt) rfl
    have c94_U_1 := X90_U.out.at 1 (v := .int .i64 dz) rfl
    have c94_U_2 := X90_U.out.at 2 (v := .slice a_y dq.length c_y) rfl
    go_wp2_with fail
    refine (HG.out _ (HP.out.below HB_91.out (Nat.le_refl _)) (HH.out.below HB_91.out (Nat.le_refl _))).mono ?_
    rintro e W95 ⟨rfl, l95⟩
    clear c92_T_0 c92_T_1 c92_T_2 c92_T_3 c92_T_4 c92_T_5
    clear c93_A_0 c93_A_1 c93_A_2 c93_A_3 c93_A_4 c93_A_5
    clear c94_U_0 c94_U_1 c94_U_2
    have HB_96 := Lib.hid (HB_91.out.trans (l95.mono HB_91.out.size))
    have y_96 := Lib.hid (ownz_below y_91.out l95 (Nat.le_refl _))
    clear y_91
    have T_96 := Lib.hid (T_91.out.below l95 T_91.out.lt)
    clear T_91
    have A_96 := Lib.hid (A_91.out.below l95 A_91.out.lt)
    clear A_91
    have U_96 := Lib.hid (X90_U.out.below l95 X90_U.out.lt)
    clear X90_U
    clear l95
    have c97_T_0 := T_96.out.at 0 (v := .int .i64 t) rfl
    have c97_T_1 := T_96.out.at 1 (v := .int .i64 z) rfl
    have c97_T_2 := T_96.out.at 2 (v := .slice a q.length cap) rfl
    have c97_T_3 := T_96.out.at 3 (v := .int .i64 c) rfl
    have c97_T_4 := T_96.out.at 4 (v := .int .i64 u) rfl
    have c97_T_5 := T_96.out.at 5 (v := .slice b h.length caph) rfl
    have c98_A_0 := A_96.out.at 0 (v := .int .i64 0) rfl
    have c98_A_1 := A_96.out.at 1 (v := .int .i64 0) rfl
    have c98_A_2 := A_96.out.at 2 (v := .slice none 0 0) rfl
    have c98_A_3 := A_96.out.at 3 (v := .int .i64 0) rfl
    have c98_A_4 := A_96.out.at 4 (v := .int .i64 0) rfl
    have c98_A_5 := A_96.out.at 5 (v := .slice none 0 0) rfl
    have c99_U_0 := U_96.out.at 0 (v := .int .i64 dt) rfl
    have c99_U_1 := U_96.out.at 1 (v := .int .i64 dz) rfl
    have c99_U_2 := U_96.out.at 2 (v := .slice a_y dq.length c_y) rfl
    have fr100_A_0 := A_96.out.free 0
    have fr100_A_1 := A_96.out.free 1
    have fr100_A_2 := A_96.out.free 2
    have fr100_A_3 := A_96.out.free 3
    have fr100_A_4 := A_96.out.free 4
    have fr100_A_5 := A_96.out.free 5
    go_wp2_with fail
    obtain ⟨p1, q1⟩ := A_96.out.store6 (.int .i64 0) (.int .i64 0) (.slice none 0 0) (.int .i64 0) (.int .i64 0) (.slice none 0 0)
    exact bodyPost_ret (results_bx2 rfl isSo _ _ R_A rfl rfl rfl rfl p1) rfl ⟨_, _, rfl, World.ownsRow_nil _ _ _ _, World.ownsRow_nil _ _ _ _, (fun k h => by cases h), (HB_96.out.grown q1 HB_96.out.size (fun k hk => by have e2 : R_A = k := Option.some.inj hk; have := HR_A.out; omega))⟩
  | true =>
    rw [ok] at HG
    cases od : dropOk ⟨t, z, q⟩ x with
    | false =>
      rw [od] at HD
      have ho : trimOk ⟨⟨t, z, q⟩, c, u, h⟩ x = false := by unfold trimOk; rw [ok]; exact od
      have hv : trimV ⟨⟨t, z, q⟩, c, u, h⟩ x = so0 := by unfold trimV; rw [ho]; rfl
      have hc : trimC ⟨⟨t, z, q⟩, c, u, h⟩ x = 0 := by unfold trimC; rw [ho]; rfl
      rw [hv, ho, hc]
      clear hv ho hc
      dsimp only [so0, sw0]
      generalize dropC ⟨t, z, q⟩ x = dc at HD
      generalize dropV ⟨t, z, q⟩ x = dv at HD
      obtain ⟨dt, dz, dq⟩ := dv
      dsimp only at HD
      have c101_T_0 := HX_T.out.at 0 (v := .int .i64 t) rfl
      have c101_T_1 := HX_T.out.at 1 (v := .int .i64 z) rfl
      have c101_T_2 := HX_T.out.at 2 (v := .slice a q.length cap) rfl
      have c101_T_3 := HX_T.out.at 3 (v := .int .i64 c) rfl
      have c101_T_4 := HX_T.out.at 4 (v := .int .i64 u) rfl
      have c101_T_5 := HX_T.out.at 5 (v := .slice b h.length caph) rfl
      have c102_A_0 := HX_A.out.at 0 (v := .int .i64 0) rfl
      have c102_A_1 := HX_A.out.at 1 (v := .int .i64 0) rfl
      have c102_A_2 := HX_A.out.at 2 (v := .slice none 0 0) rfl
      have c102_A_3 := HX_A.out.at 3 (v := .int .i64 0) rfl
      have c102_A_4 := HX_A.out.at 4 (v := .int .i64 0) rfl
      have c102_A_5 := HX_A.out.at 5 (v := .slice none 0 0) rfl
      go_enter Try.func14, Try.ntmps14
      go_upto_region 1 with fail
      rw [← HW0.out, ← HR_A.out, ← HR_T.out]
      go_wp2_with fail
      refine (HD.out _ (HP.out.below HB0.out (Nat.le_refl _))).mono ?_
      rintro e W103 ⟨v_y, rfl, o_y, l103⟩
      obtain ⟨a_y, c_y, rfl, _, _⟩ := ownz_slice o_y
      have O_y := Lib.hid (ownz_base o_y HB0.out.size)
      have BX_T_y : Hid (∀ k, (.slice a_y dq.length c_y : Value).ownBlock = some k → k ≠ R_T) := Lib.hid (fun k h1 h2 => absurd HX_T.out.lt (Nat.not_lt.2 (by rw [← h2]; exact (o_y.lt k h1).1)))
      have BX_A_y : Hid (∀ k, (.slice a_y dq.length c_y : Value).ownBlock = some k → k ≠ R_A) := Lib.hid (fun k h1 h2 => absurd HX_A.out.lt (Nat.not_lt.2 (by rw [← h2]; exact (o_y.lt k h1).1)))
      clear o_y
      clear c101_T_0 c101_T_1 c101_T_2 c101_T_3 c101_T_4 c101_T_5
      clear c102_A_0 c102_A_1 c102_A_2 c102_A_3 c102_A_4 c102_A_5
      have HB_104 := Lib.hid (HB0.out.trans (l103.mono HB0.out.size))
      have T_104 := Lib.hid (HX_T.out.below l103 HX_T.out.lt)
      have A_104 := Lib.hid (HX_A.out.below l103 HX_A.out.lt)
      clear l103
      have c105_T_0 := T_104.out.at 0 (v := .int .i64 t) rfl
      have c105_T_1 := T_104.out.at 1 (v := .int .i64 z) rfl
      have c105_T_2 := T_104.out.at 2 (v := .slice a q.length cap) rfl
      have c105_T_3 := T_104.out.at 3 (v := .int .i64 c) rfl
      have c105_T_4 := T_104.out.at 4 (v := .int .i64 u) rfl
      have c105_T_5 := T_104.out.at 5 (v := .slice b h.length caph) rfl
      have c106_A_0 := A_104.out.at 0 (v := .int .i64 0) rfl
      have c106_A_1 := A_104.out.at 1 (v := .int .i64 0) rfl
      have c106_A_2 := A_104.out.at 2 (v := .slice none 0 0) rfl
      have c106_A_3 := A_104.out.at 3 (v := .int .i64 0) rfl
      have c106_A_4 := A_104.out.at 4 (v := .int .i64 0) rfl
      have c106_A_5 := A_104.out.at 5 (v := .slice none 0 0) rfl
      go_upto_region 2 with fail
      obtain ⟨W107, hW107⟩ : ∃ W107, W107 = W103.alloc (.cells #[.int .i64 dt, .int .i64 dz, .slice a_y dq.length c_y] 26) := ⟨_, rfl⟩
      have l107 : Below W103.heap.size W103 W107 := by rw [hW107]; exact (Below.refl _ _).alloc (Nat.le_refl _) _
      have X107_U : Hid (Bx W107 W103.heap.size #[.int .i64 dt, .int .i64 dz, .slice a_y dq.length c_y] 26) := Lib.hid (by rw [hW107]; exact Bx.new _ _ _)
      rw [← hW107]
      clear hW107
      have BX_U_y : Hid (∀ k, (.slice a_y dq.length c_y : Value).ownBlock = some k → k ≠ W103.heap.size) := Lib.hid (fun k h1 h2 => absurd (O_y.out.lt k h1).2 (by omega))
      have HG_U : Hid (w.heap.size ≤ W103.heap.size) := Lib.hid HB_104.out.size
      have HN_U_T : Hid (R_T < W103.heap.size) := Lib.hid T_104.out.lt
      have HN_U_A : Hid (R_A < W103.heap.size) := Lib.hid A_104.out.lt
      obtain ⟨R_U, hR_U⟩ : ∃ X, X = W103.heap.size := ⟨_, rfl⟩
      rw [← hR_U] at X107_U HG_U BX_U_y HN_U_T HN_U_A ⊢
      clear hR_U
      clear c105_T_0 c105_T_1 c105_T_2 c105_T_3 c105_T_4 c105_T_5
      clear c106_A_0 c106_A_1 c106_A_2 c106_A_3 c106_A_4 c106_A_5
      have HB_108 := Lib.hid (HB_104.out.trans (l107.mono HB_104.out.size))
      have y_108 := Lib.hid (ownz_below O_y.out l107 (Nat.le_refl _))
      clear O_y
      have T_108 := Lib.hid (T_104.out.below l107 T_104.out.lt)
      clear T_104
      have A_108 := Lib.hid (A_104.out.below l107 A_104.out.lt)
      clear A_104
      clear l107
      have c109_T_0 := T_108.out.at 0 (v := .int .i64 t) rfl
      have c109_T_1 := T_108.out.at 1 (v := .int .i64 z) rfl
      have c109_T_2 := T_108.out.at 2 (v := .slice a q.length cap) rfl
      have c109_T_3 := T_108.out.at 3 (v := .int .i64 c) rfl
      have c109_T_4 := T_108.out.at 4 (v := .int .i64 u) rfl
      have c109_T_5 := T_108.out.at 5 (v := .slice b h.length caph) rfl
      have c110_A_0 := A_108.out.at 0 (v := .int .i64 0) rfl
      have c110_A_1 := A_108.out.at 1 (v := .int .i64 0) rfl
      have c110_A_2 := A_108.out.at 2 (v := .slice none 0 0) rfl
      have c110_A_3 := A_108.out.at 3 (v := .int .i64 0) rfl
      have c110_A_4 := A_108.out.at 4 (v := .int .i64 0) rfl
      have c110_A_5 := A_108.out.at 5 (v := .slice none 0 0) rfl
      have c111_U_0 := X107_U.out.at 0 (v := .int .i64 dt) rfl
      have c111_U_1 := X107_U.out.at 1 (v := .int .i64 dz) rfl
      have c111_U_2 := X107_U.out.at 2 (v := .slice a_y dq.length c_y) rfl
      go_wp2_with fail
      refine (HG.out _ (HP.out.below HB_108.out (Nat.le_refl _)) (HH.out.below HB_108.out (Nat.le_refl _))).mono ?_
      rintro e W112 ⟨rfl, l112⟩
      clear c109_T_0 c109_T_1 c109_T_2 c109_T_3 c109_T_4 c109_T_5
      clear c110_A_0 c110_A_1 c110_A_2 c110_A_3 c110_A_4 c110_A_5
      clear c111_U_0 c111_U_1 c111_U_2
      have HB_113 := Lib.hid (HB_108.out.trans (l112.mono HB_108.out.size))
      have y_113 := Lib.hid (ownz_below y_108.out l112 (Nat.le_refl _))
      clear y_108
      have T_113 := Lib.hid (T_108.out.below l112 T_108.out.lt)
      clear T_108
      have A_113 := Lib.hid (A_108.out.below l112 A_108.out.lt)
      clear A_108
      have U_113 := Lib.hid (X107_U.out.below l112 X107_U.out.lt)
      clear X107_U
      clear l112
      have c114_T_0 := T_113.out.at 0 (v := .int .i64 t) rfl
      have c114_T_1 := T_113.out.at 1 (v := .int .i64 z) rfl
      have c114_T_2 := T_113.out.at 2 (v := .slice a q.length cap) rfl
      have c114_T_3 := T_113.out.at 3 (v := .int .i64 c) rfl
      have c114_T_4 := T_113.out.at 4 (v := .int .i64 u) rfl
      have c114_T_5 := T_113.out.at 5 (v := .slice b h.length caph) rfl
      have c115_A_0 := A_113.out.at 0 (v := .int .i64 0) rfl
      have c115_A_1 := A_113.out.at 1 (v := .int .i64 0) rfl
      have c115_A_2 := A_113.out.at 2 (v := .slice none 0 0) rfl
      have c115_A_3 := A_113.out.at 3 (v := .int .i64 0) rfl
      have c115_A_4 := A_113.out.at 4 (v := .int .i64 0) rfl
      have c115_A_5 := A_113.out.at 5 (v := .slice none 0 0) rfl
      have c116_U_0 := U_113.out.at 0 (v := .int .i64 dt) rfl
      have c116_U_1 := U_113.out.at 1 (v := .int .i64 dz) rfl
      have c116_U_2 := U_113.out.at 2 (v := .slice a_y dq.length c_y) rfl
      have fr117_A_0 := A_113.out.free 0
      have fr117_A_1 := A_113.out.free 1
      have fr117_A_2 := A_113.out.free 2
      have fr117_A_3 := A_113.out.free 3
      have fr117_A_4 := A_113.out.free 4
      have fr117_A_5 := A_113.out.free 5
      go_wp2_with fail
      obtain ⟨p1, q1⟩ := A_113.out.store6 (.int .i64 0) (.int .i64 0) (.slice none 0 0) (.int .i64 0) (.int .i64 0) (.slice none 0 0)
      exact bodyPost_ret (results_bx2 rfl isSo _ _ R_A rfl rfl rfl rfl p1) rfl ⟨_, _, rfl, World.ownsRow_nil _ _ _ _, World.ownsRow_nil _ _ _ _, (fun k h => by cases h), (HB_113.out.grown q1 HB_113.out.size (fun k hk => by have e2 : R_A = k := Option.some.inj hk; have := HR_A.out; omega))⟩
    | true =>
      rw [od] at HD
      have ho : trimOk ⟨⟨t, z, q⟩, c, u, h⟩ x = true := by unfold trimOk; rw [ok]; exact od
      have hv : trimV ⟨⟨t, z, q⟩, c, u, h⟩ x = ⟨dropV ⟨t, z, q⟩ x, c, u, keepH (dropV ⟨t, z, q⟩ x) c h⟩ := if_pos ho
      have hc : trimC ⟨⟨t, z, q⟩, c, u, h⟩ x = dropC ⟨t, z, q⟩ x := if_pos ho
      rw [hv, ho, hc]
      dsimp only
      have hs : ∀ x ∈ h, serB x.n = true := fun x hx => (hd1_iff.1 ((soOk_iff.1 ok).2.2.2.1 x hx)).1
      have HSe := Lib.hid hs
      have hl := (soOk_len ok).1
      dsimp only at hl
      have hdo := (dropV_t od).1
      have hdt := (swOk_iff.1 hdo).1
      have HOk := Lib.hid ok
      have HDo := Lib.hid hdo
      clear hs hdo
      have HWo : Hid True := Lib.hid trivial
      generalize dropC ⟨t, z, q⟩ x = dc at HD ⊢
      generalize dropV ⟨t, z, q⟩ x = dv at HD hdt HDo ⊢
      obtain ⟨dt, dz, dq⟩ := dv
      dsimp only at HD hdt HDo ⊢
      have HDt := Lib.hid hdt
      clear hdt hv hc ho ok od HWo
      have HWi := Lib.hid (fun (W1 : World) (v2 : Value) (hr : Row W1 (.slice a q.length cap) q.length (q.map Value.string)) (hh : Row W1 (.slice b h.length caph) h.length (hdF h)) (h2 : Row W1 v2 dq.length (dq.map Value.string)) => l11With_any (.slice a q.length cap) (.slice b h.length caph) ⟨⟨t, z, q⟩, c, u, h⟩ v2 ⟨dt, dz, dq⟩ W1 hr hh h2 HDt.out HSe.out (by dsimp only; omega))
      dsimp only at HWi
      generalize keepH ⟨dt, dz, dq⟩ c h = kp at HWi ⊢
      have c118_T_0 := HX_T.out.at 0 (v := .int .i64 t) rfl
      have c118_T_1 := HX_T.out.at 1 (v := .int .i64 z) rfl
      have c118_T_2 := HX_T.out.at 2 (v := .slice a q.length cap) rfl
      have c118_T_3 := HX_T.out.at 3 (v := .int .i64 c) rfl
      have c118_T_4 := HX_T.out.at 4 (v := .int .i64 u) rfl
      have c118_T_5 := HX_T.out.at 5 (v := .slice b h.length caph) rfl
      have c119_A_0 := HX_A.out.at 0 (v := .int .i64 0) rfl
      have c119_A_1 := HX_A.out.at 1 (v := .int .i64 0) rfl
      have c119_A_2 := HX_A.out.at 2 (v := .slice none 0 0) rfl
      have c119_A_3 := HX_A.out.at 3 (v := .int .i64 0) rfl
      have c119_A_4 := HX_A.out.at 4 (v := .int .i64 0) rfl
      have c119_A_5 := HX_A.out.at 5 (v := .slice none 0 0) rfl
      go_enter Try.func14, Try.ntmps14
      go_upto_region 1 with fail
      rw [← HW0.out, ← HR_A.out, ← HR_T.out]
      go_wp2_with fail
      refine (HD.out _ (HP.out.below HB0.out (Nat.le_refl _))).mono ?_
      rintro e W120 ⟨v_y, rfl, o_y, l120⟩
      obtain ⟨a_y, c_y, rfl, _, _⟩ := ownz_slice o_y
      have O_y := Lib.hid (ownz_base o_y HB0.out.size)
      have BX_T_y : Hid (∀ k, (.slice a_y dq.length c_y : Value).ownBlock = some k → k ≠ R_T) := Lib.hid (fun k h1 h2 => absurd HX_T.out.lt (Nat.not_lt.2 (by rw [← h2]; exact (o_y.lt k h1).1)))
      have BX_A_y : Hid (∀ k, (.slice a_y dq.length c_y : Value).ownBlock = some k → k ≠ R_A) := Lib.hid (fun k h1 h2 => absurd HX_A.out.lt (Nat.not_lt.2 (by rw [← h2]; exact (o_y.lt k h1).1)))
      clear o_y
      clear c118_T_0 c118_T_1 c118_T_2 c118_T_3 c118_T_4 c118_T_5
      clear c119_A_0 c119_A_1 c119_A_2 c119_A_3 c119_A_4 c119_A_5
      have HB_121 := Lib.hid (HB0.out.trans (l120.mono HB0.out.size))
      have T_121 := Lib.hid (HX_T.out.below l120 HX_T.out.lt)
      have A_121 := Lib.hid (HX_A.out.below l120 HX_A.out.lt)
      clear l120
      have c122_T_0 := T_121.out.at 0 (v := .int .i64 t) rfl
      have c122_T_1 := T_121.out.at 1 (v := .int .i64 z) rfl
      have c122_T_2 := T_121.out.at 2 (v := .slice a q.length cap) rfl
      have c122_T_3 := T_121.out.at 3 (v := .int .i64 c) rfl
      have c122_T_4 := T_121.out.at 4 (v := .int .i64 u) rfl
      have c122_T_5 := T_121.out.at 5 (v := .slice b h.length caph) rfl
      have c123_A_0 := A_121.out.at 0 (v := .int .i64 0) rfl
      have c123_A_1 := A_121.out.at 1 (v := .int .i64 0) rfl
      have c123_A_2 := A_121.out.at 2 (v := .slice none 0 0) rfl
      have c123_A_3 := A_121.out.at 3 (v := .int .i64 0) rfl
      have c123_A_4 := A_121.out.at 4 (v := .int .i64 0) rfl
      have c123_A_5 := A_121.out.at 5 (v := .slice none 0 0) rfl
      go_upto_region 2 with fail
      obtain ⟨W124, hW124⟩ : ∃ W124, W124 = W120.alloc (.cells #[.int .i64 dt, .int .i64 dz, .slice a_y dq.length c_y] 26) := ⟨_, rfl⟩
      have l124 : Below W120.heap.size W120 W124 := by rw [hW124]; exact (Below.refl _ _).alloc (Nat.le_refl _) _
      have X124_U : Hid (Bx W124 W120.heap.size #[.int .i64 dt, .int .i64 dz, .slice a_y dq.length c_y] 26) := Lib.hid (by rw [hW124]; exact Bx.new _ _ _)
      rw [← hW124]
      clear hW124
      have BX_U_y : Hid (∀ k, (.slice a_y dq.length c_y : Value).ownBlock = some k → k ≠ W120.heap.size) := Lib.hid (fun k h1 h2 => absurd (O_y.out.lt k h1).2 (by omega))
      have HG_U : Hid (w.heap.size ≤ W120.heap.size) := Lib.hid HB_121.out.size
      have HN_U_T : Hid (R_T < W120.heap.size) := Lib.hid T_121.out.lt
      have HN_U_A : Hid (R_A < W120.heap.size) := Lib.hid A_121.out.lt
      obtain ⟨R_U, hR_U⟩ : ∃ X, X = W120.heap.size := ⟨_, rfl⟩
      rw [← hR_U] at X124_U HG_U BX_U_y HN_U_T HN_U_A ⊢
      clear hR_U
      clear c122_T_0 c122_T_1 c122_T_2 c122_T_3 c122_T_4 c122_T_5
      clear c123_A_0 c123_A_1 c123_A_2 c123_A_3 c123_A_4 c123_A_5
      have HB_125 := Lib.hid (HB_121.out.trans (l124.mono HB_121.out.size))
      have y_125 := Lib.hid (ownz_below O_y.out l124 (Nat.le_refl _))
      clear O_y
      have T_125 := Lib.hid (T_121.out.below l124 T_121.out.lt)
      clear T_121
      have A_125 := Lib.hid (A_121.out.below l124 A_121.out.lt)
      clear A_121
      clear l124
      have c126_T_0 := T_125.out.at 0 (v := .int .i64 t) rfl
      have c126_T_1 := T_125.out.at 1 (v := .int .i64 z) rfl
      have c126_T_2 := T_125.out.at 2 (v := .slice a q.length cap) rfl
      have c126_T_3 := T_125.out.at 3 (v := .int .i64 c) rfl
      have c126_T_4 := T_125.out.at 4 (v := .int .i64 u) rfl
      have c126_T_5 := T_125.out.at 5 (v := .slice b h.length caph) rfl
      have c127_A_0 := A_125.out.at 0 (v := .int .i64 0) rfl
      have c127_A_1 := A_125.out.at 1 (v := .int .i64 0) rfl
      have c127_A_2 := A_125.out.at 2 (v := .slice none 0 0) rfl
      have c127_A_3 := A_125.out.at 3 (v := .int .i64 0) rfl
      have c127_A_4 := A_125.out.at 4 (v := .int .i64 0) rfl
      have c127_A_5 := A_125.out.at 5 (v := .slice none 0 0) rfl
      have c128_U_0 := X124_U.out.at 0 (v := .int .i64 dt) rfl
      have c128_U_1 := X124_U.out.at 1 (v := .int .i64 dz) rfl
      have c128_U_2 := X124_U.out.at 2 (v := .slice a_y dq.length c_y) rfl
      go_wp2_with fail
      refine (HG.out _ (HP.out.below HB_125.out (Nat.le_refl _)) (HH.out.below HB_125.out (Nat.le_refl _))).mono ?_
      rintro e W129 ⟨rfl, l129⟩
      clear c126_T_0 c126_T_1 c126_T_2 c126_T_3 c126_T_4 c126_T_5
      clear c127_A_0 c127_A_1 c127_A_2 c127_A_3 c127_A_4 c127_A_5
      clear c128_U_0 c128_U_1 c128_U_2
      have HB_130 := Lib.hid (HB_125.out.trans (l129.mono HB_125.out.size))
      have y_130 := Lib.hid (ownz_below y_125.out l129 (Nat.le_refl _))
      clear y_125
      have T_130 := Lib.hid (T_125.out.below l129 T_125.out.lt)
      clear T_125
      have A_130 := Lib.hid (A_125.out.below l129 A_125.out.lt)
      clear A_125
      have U_130 := Lib.hid (X124_U.out.below l129 X124_U.out.lt)
      clear X124_U
      clear l129
      have c131_T_0 := T_130.out.at 0 (v := .int .i64 t) rfl
      have c131_T_1 := T_130.out.at 1 (v := .int .i64 z) rfl
      have c131_T_2 := T_130.out.at 2 (v := .slice a q.length cap) rfl
      have c131_T_3 := T_130.out.at 3 (v := .int .i64 c) rfl
      have c131_T_4 := T_130.out.at 4 (v := .int .i64 u) rfl
      have c131_T_5 := T_130.out.at 5 (v := .slice b h.length caph) rfl
      have c132_A_0 := A_130.out.at 0 (v := .int .i64 0) rfl
      have c132_A_1 := A_130.out.at 1 (v := .int .i64 0) rfl
      have c132_A_2 := A_130.out.at 2 (v := .slice none 0 0) rfl
      have c132_A_3 := A_130.out.at 3 (v := .int .i64 0) rfl
      have c132_A_4 := A_130.out.at 4 (v := .int .i64 0) rfl
      have c132_A_5 := A_130.out.at 5 (v := .slice none 0 0) rfl
      have c133_U_0 := U_130.out.at 0 (v := .int .i64 dt) rfl
      have c133_U_1 := U_130.out.at 1 (v := .int .i64 dz) rfl
      have c133_U_2 := U_130.out.at 2 (v := .slice a_y dq.length c_y) rfl
      go_wp2_with fail
      refine (HWi.out _ _ (HP.out.below HB_130.out (Nat.le_refl _)) (HH.out.below HB_130.out (Nat.le_refl _)) (rowz_own y_130.out)).mono ?_
      rintro e W134 ⟨v_k, rfl, o_k, l134⟩
      obtain ⟨a_k, c_k, rfl, _, _⟩ := ownz_slice o_k
      have AP_y_k : Hid (∀ k, (.slice a_y dq.length c_y : Value).ownBlock = some k → (.slice a_k kp.length c_k : Value).ownBlock ≠ some k) := Lib.hid (fun k h1 h2 => absurd (y_130.out.lt k h1).2 (Nat.not_lt.2 (o_k.lt k h2).1))
      have O_k := Lib.hid (ownz_base o_k HB_130.out.size)
      have BX_T_k : Hid (∀ k, (.slice a_k kp.length c_k : Value).ownBlock = some k → k ≠ R_T) := Lib.hid (fun k h1 h2 => absurd T_130.out.lt (Nat.not_lt.2 (by rw [← h2]; exact (o_k.lt k h1).1)))
      have BX_A_k : Hid (∀ k, (.slice a_k kp.length c_k : Value).ownBlock = some k → k ≠ R_A) := Lib.hid (fun k h1 h2 => absurd A_130.out.lt (Nat.not_lt.2 (by rw [← h2]; exact (o_k.lt k h1).1)))
      have BX_U_k : Hid (∀ k, (.slice a_k kp.length c_k : Value).ownBlock = some k → k ≠ R_U) := Lib.hid (fun k h1 h2 => absurd U_130.out.lt (Nat.not_lt.2 (by rw [← h2]; exact (o_k.lt k h1).1)))
      clear o_k
      clear c131_T_0 c131_T_1 c131_T_2 c131_T_3 c131_T_4 c131_T_5
      clear c132_A_0 c132_A_1 c132_A_2 c132_A_3 c132_A_4 c132_A_5
      clear c133_U_0 c133_U_1 c133_U_2
      have HB_135 := Lib.hid (HB_130.out.trans (l134.mono HB_130.out.size))
      have y_135 := Lib.hid (ownz_below y_130.out l134 (Nat.le_refl _))
      clear y_130
      have T_135 := Lib.hid (T_130.out.below l134 T_130.out.lt)
      clear T_130
      have A_135 := Lib.hid (A_130.out.below l134 A_130.out.lt)
      clear A_130
      have U_135 := Lib.hid (U_130.out.below l134 U_130.out.lt)
      clear U_130
      clear l134
      have c136_T_0 := T_135.out.at 0 (v := .int .i64 t) rfl
      have c136_T_1 := T_135.out.at 1 (v := .int .i64 z) rfl
      have c136_T_2 := T_135.out.at 2 (v := .slice a q.length cap) rfl
      have c136_T_3 := T_135.out.at 3 (v := .int .i64 c) rfl
      have c136_T_4 := T_135.out.at 4 (v := .int .i64 u) rfl
      have c136_T_5 := T_135.out.at 5 (v := .slice b h.length caph) rfl
      have c137_A_0 := A_135.out.at 0 (v := .int .i64 0) rfl
      have c137_A_1 := A_135.out.at 1 (v := .int .i64 0) rfl
      have c137_A_2 := A_135.out.at 2 (v := .slice none 0 0) rfl
      have c137_A_3 := A_135.out.at 3 (v := .int .i64 0) rfl
      have c137_A_4 := A_135.out.at 4 (v := .int .i64 0) rfl
      have c137_A_5 := A_135.out.at 5 (v := .slice none 0 0) rfl
      have c138_U_0 := U_135.out.at 0 (v := .int .i64 dt) rfl
      have c138_U_1 := U_135.out.at 1 (v := .int .i64 dz) rfl
      have c138_U_2 := U_135.out.at 2 (v := .slice a_y dq.length c_y) rfl
      have fr139_A_0 := A_135.out.free 0
      have fr139_A_1 := A_135.out.free 1
      have fr139_A_2 := A_135.out.free 2
      have fr139_A_3 := A_135.out.free 3
      have fr139_A_4 := A_135.out.free 4
      have fr139_A_5 := A_135.out.free 5
      go_wp2_with fail
      obtain ⟨p1, q1⟩ := A_135.out.store6 (.int .i64 dt) (.int .i64 dz) (.slice a_y dq.length c_y) (.int .i64 c) (.int .i64 u) (.slice a_k kp.length c_k)
      exact bodyPost_ret (results_bx2 rfl isSo _ _ R_A rfl rfl rfl rfl p1) rfl ⟨_, _, rfl, (y_135.out.kept q1 (by
        cases hv : (.slice a_y dq.length c_y : Value).ownBlock with
        | none => exact .inl rfl
        | some k => exact .inr (fun e => BX_A_y.out k hv (Option.some.inj e)))), (O_k.out.kept q1 (by
        cases hv : (.slice a_k kp.length c_k : Value).ownBlock with
        | none => exact .inl rfl
        | some k => exact .inr (fun e => BX_A_k.out k hv (Option.some.inj e)))), AP_y_k.out, (HB_135.out.grown q1 HB_135.out.size (fun k hk => by have e2 : R_A = k := Option.some.inj hk; have := HR_A.out; omega))⟩
end Go.Proofs.Ytlendmiolhgecaa
