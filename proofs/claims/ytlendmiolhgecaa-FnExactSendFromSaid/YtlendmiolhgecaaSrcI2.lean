/-
  Sources: items that are sent, trimming (the program's).
-/
import Derived.Test.YtlendmiolhgecaaSrcI
import Derived.Deep.QuietTactic
import Derived.BigQuiet
import Derived.IntWalk
import Derived.Deep.CutRange
import Derived.WalkLawsBesides
import Derived.Lib.SmallJoins
import Derived.Deep.RegionHeld3
namespace Go.Proofs.Ytlendmiolhgecaa
open Go.RowKit Go.Lib Go.Joins
set_option linter.unusedVariables false

set_option maxRecDepth 100000 in
set_option maxHeartbeats 1000000 in
theorem withWin1_any (x : Hd) (R : Nat) (v2 : Value) (l : Sw) (w : World) (hX : Bx w R #[.int .i64 l.t, .int .i64 l.z, v2] 26) (h2 : Row w v2 l.q.length (l.q.map Value.string)) (hs : ∀ s ∈ l.q, s.size ≤ maxLen) :
    Calls Try.prog 92 #[.agg #[.int .i64 x.n, .int .i64 x.u], .pointer (some ⟨R, 0, none⟩)] w fun e w' => e = .returned (.bool (!heldOk l x.n)) ∧ Below w.heap.size w w' := by
  obtain ⟨xn, xu⟩ := x
  obtain ⟨t, z, q⟩ := l
  dsimp only at hX h2 hs ⊢
  obtain ⟨a, cap, rfl, hc1, hm1, -⟩ := row_open h2
  unfold maxLen at hm1
  have HP := Lib.hid h2
  have HS := Lib.hid hs
  have HXW := Lib.hid hX
  clear h2 hs hX
  obtain ⟨W0, R_X, hW0, hR_X, hX_X, hB0⟩ := entry1 w #[.int .i64 xn, .int .i64 xu] 82
  have HW0 := Lib.hid hW0
  have HB0 := Lib.hid hB0
  have HR_X := Lib.hid hR_X
  have HX_X := Lib.hid hX_X
  clear hW0 hB0 hR_X hX_X
  have hW2 := HXW.out.below HB0.out HXW.out.lt
  have w0 := hW2.at 0 (v := .int .i64 t) rfl
  have w1 := hW2.at 1 (v := .int .i64 z) rfl
  have w2 := hW2.at 2 (v := .slice a q.length cap) rfl
  clear hW2
  have HH := Lib.hid (isHeld_any (.slice a q.length cap) ⟨t, z, q⟩ xn W0 (HP.out.below HB0.out (Nat.le_refl _)) HS.out)
  generalize heldOk ⟨t, z, q⟩ xn = ho at HH ⊢
  have c1_X_0 := HX_X.out.at 0 (v := .int .i64 xn) rfl
  have c1_X_1 := HX_X.out.at 1 (v := .int .i64 xu) rfl
  go_enter Try.func92, Try.ntmps92
  go_upto_region 1 with fail
  rw [← HW0.out, ← HR_X.out]
  go_wp2_with fail
  refine (HH.out).mono ?_
  rintro e W2 ⟨rfl, l2⟩
  clear c1_X_0 c1_X_1
  have HB_3 := Lib.hid (HB0.out.trans (l2.mono HB0.out.size))
  have X_3 := Lib.hid (HX_X.out.below l2 HX_X.out.lt)
  clear l2
  have c4_X_0 := X_3.out.at 0 (v := .int .i64 xn) rfl
  have c4_X_1 := X_3.out.at 1 (v := .int .i64 xu) rfl
  go_wp2_with fail
  go_ret
  exact ⟨rfl, HB_3.out⟩
set_option maxRecDepth 100000 in
set_option maxHeartbeats 8000000 in
theorem withWin_any (v hv : Value) (s : So) (v2 : Value) (l : Sw) (w : World) (hrow : Row w v s.w.q.length (s.w.q.map Value.string)) (hhr : Row w hv s.h.length (hdF s.h)) (h2 : Row w v2 l.q.length (l.q.map Value.string)) (hfh : Fit hv s.h.length) (hok : soOk s = true) (hl : swOk l = true) :
    Calls Try.prog 46 #[.agg #[.int .i64 s.w.t, .int .i64 s.w.z, v, .int .i64 s.c, .int .i64 s.u, hv], .agg #[.int .i64 l.t, .int .i64 l.z, v2]] w fun e w' => ∃ v', e = .returned (.agg #[.int .i64 l.t, .int .i64 l.z, v2, .int .i64 s.c, .int .i64 s.u, v']) ∧ w'.ownsRow w.heap.size 82 2 v' (keepH l s.c s.h).length (hdF (keepH l s.c s.h)) ∧ Below w.heap.size w w' := by
  obtain ⟨⟨t, z, q⟩, c, u, h⟩ := s
  dsimp only at hrow hhr ⊢
  obtain ⟨a, cap, rfl, hc1, hm1, -⟩ := row_open hrow
  obtain ⟨b, caph, rfl, hc2, hm2, -⟩ := hd_open hhr
  unfold maxLen at hm1 hm2
  have HP := Lib.hid hrow
  have HH := Lib.hid hhr
  clear hrow hhr
  have hln := (soOk_len hok).1
  have hke := keep_held hok hl
  have hsz := sw_sizes hl
  obtain ⟨t2, z2, q2⟩ := l
  dsimp only at h2 hfh hln hke hsz ⊢
  obtain ⟨a2, cap2, rfl, hc3, hm3, -⟩ := row_open h2
  unfold maxLen at hm3
  have HP2 := Lib.hid h2
  have HSz := Lib.hid hsz
  have HFh := Lib.hid hfh
  clear h2 hsz hok hl hfh
  obtain ⟨W0, R_T, R_W, R_A, hW0, hR_T, hR_W, hR_A, hX_T, hX_W, hX_A, hB0⟩ := entry3 w #[.int .i64 t, .int .i64 z, .slice a q.length cap, .int .i64 c, .int .i64 u, .slice b h.length caph] #[.int .i64 t2, .int .i64 z2, .slice a2 q2.length cap2] #[.int .i64 0, .int .i64 0, .slice none 0 0, .int .i64 0, .int .i64 0, .slice none 0 0] 29 26 29
  have HW0 := Lib.hid hW0
  have HB0 := Lib.hid hB0
  have HR_T := Lib.hid hR_T
  have HX_T := Lib.hid hX_T
  have HR_W := Lib.hid hR_W
  have HX_W := Lib.hid hX_W
  have HR_A := Lib.hid hR_A
  have HX_A := Lib.hid hX_A
  clear hW0 hB0 hR_T hX_T hR_W hX_W hR_A hX_A
  have c5_T_0 := HX_T.out.at 0 (v := .int .i64 t) rfl
  have c5_T_1 := HX_T.out.at 1 (v := .int .i64 z) rfl
  have c5_T_2 := HX_T.out.at 2 (v := .slice a q.length cap) rfl
  have c5_T_3 := HX_T.out.at 3 (v := .int .i64 c) rfl
  have c5_T_4 := HX_T.out.at 4 (v := .int .i64 u) rfl
  have c5_T_5 := HX_T.out.at 5 (v := .slice b h.length caph) rfl
  have c6_W_0 := HX_W.out.at 0 (v := .int .i64 t2) rfl
  have c6_W_1 := HX_W.out.at 1 (v := .int .i64 z2) rfl
  have c6_W_2 := HX_W.out.at 2 (v := .slice a2 q2.length cap2) rfl
  have c7_A_0 := HX_A.out.at 0 (v := .int .i64 0) rfl
  have c7_A_1 := HX_A.out.at 1 (v := .int .i64 0) rfl
  have c7_A_2 := HX_A.out.at 2 (v := .slice none 0 0) rfl
  have c7_A_3 := HX_A.out.at 3 (v := .int .i64 0) rfl
  have c7_A_4 := HX_A.out.at 4 (v := .int .i64 0) rfl
  have c7_A_5 := HX_A.out.at 5 (v := .slice none 0 0) rfl
  have hfe : h.filter (fun x => !(!heldOk ⟨t2, z2, q2⟩ x.n)) = keepH ⟨t2, z2, q2⟩ c h := by rw [← hke]; simp only [Bool.not_not]
  obtain ⟨kp, hkp⟩ : ∃ kp, kp = keepH ⟨t2, z2, q2⟩ c h := ⟨_, rfl⟩
  rw [← hkp] at hfe ⊢
  have HFe3 := Lib.hid hfe
  clear hfe hke hkp
  have HCl := Lib.hid (fun (W1 : World) (hh : Row W1 (.slice b h.length caph) h.length (hdF h)) => cloneHd0_any (.slice b h.length caph) h W1 hh HFh.out (by omega))
  go_enter Try.func46, Try.ntmps46
  go_upto_region 1 with fail
  rw [← HW0.out, ← HR_A.out, ← HR_W.out, ← HR_T.out]
  have fr8_T_0 := HX_T.out.free 0
  have fr8_T_1 := HX_T.out.free 1
  have fr8_T_2 := HX_T.out.free 2
  have fr8_T_3 := HX_T.out.free 3
  have fr8_T_4 := HX_T.out.free 4
  have fr8_T_5 := HX_T.out.free 5
  go_upto_region 2 with fail
  clear c5_T_0 c5_T_1 c5_T_2 c5_T_3 c5_T_4 c5_T_5
  clear fr8_T_0 fr8_T_1 fr8_T_2 fr8_T_3 fr8_T_4 fr8_T_5
  clear c6_W_0 c6_W_1 c6_W_2
  clear c7_A_0 c7_A_1 c7_A_2 c7_A_3 c7_A_4 c7_A_5
  obtain ⟨ps9_0, qs9_0⟩ := HX_T.out.set 0 (.int .i64 t2)
  obtain ⟨ps9_1, qs9_1⟩ := ps9_0.set 1 (.int .i64 z2)
  obtain ⟨ps9_2, qs9_2⟩ := ps9_1.set 2 (.slice a2 q2.length cap2)
  have p9 := ps9_2
  have q9 := grown_trans (grown_trans (qs9_0) qs9_1) qs9_2
  clear ps9_0 qs9_0 ps9_1 qs9_1 ps9_2 qs9_2
  obtain ⟨W9, hW9⟩ : ∃ W9, W9 = (((W0.setCell ⟨R_T, 0, none⟩ (.int .i64 t2)).setCell ⟨R_T, 1, none⟩ (.int .i64 z2)).setCell ⟨R_T, 2, none⟩ (.slice a2 q2.length cap2)) := ⟨_, rfl⟩
  rw [← hW9] at p9 q9 ⊢
  have X9_T : Hid (Bx W9 R_T #[.int .i64 t2, .int .i64 z2, .slice a2 q2.length cap2, .int .i64 c, .int .i64 u, .slice b h.length caph] 29) := Lib.hid p9
  have HB_10 := Lib.hid (HB0.out.grown q9 HB0.out.size (fun k hk => by have e2 : R_T = k := Option.some.inj hk; have := HR_T.out; omega))
  have W_10 := Lib.hid (HX_W.out.grown q9 (by intro e; have e2 : R_W = R_T := Option.some.inj e; have h1 := HR_W.out; have h2 := HR_T.out; omega))
  have A_10 := Lib.hid (HX_A.out.grown q9 (by intro e; have e2 : R_A = R_T := Option.some.inj e; have h1 := HR_A.out; have h2 := HR_T.out; omega))
  clear hW9 p9 q9
  have c11_T_0 := X9_T.out.at 0 (v := .int .i64 t2) rfl
  have c11_T_1 := X9_T.out.at 1 (v := .int .i64 z2) rfl
  have c11_T_2 := X9_T.out.at 2 (v := .slice a2 q2.length cap2) rfl
  have c11_T_3 := X9_T.out.at 3 (v := .int .i64 c) rfl
  have c11_T_4 := X9_T.out.at 4 (v := .int .i64 u) rfl
  have c11_T_5 := X9_T.out.at 5 (v := .slice b h.length caph) rfl
  have c12_W_0 := W_10.out.at 0 (v := .int .i64 t2) rfl
  have c12_W_1 := W_10.out.at 1 (v := .int .i64 z2) rfl
  have c12_W_2 := W_10.out.at 2 (v := .slice a2 q2.length cap2) rfl
  have c13_A_0 := A_10.out.at 0 (v := .int .i64 0) rfl
  have c13_A_1 := A_10.out.at 1 (v := .int .i64 0) rfl
  have c13_A_2 := A_10.out.at 2 (v := .slice none 0 0) rfl
  have c13_A_3 := A_10.out.at 3 (v := .int .i64 0) rfl
  have c13_A_4 := A_10.out.at 4 (v := .int .i64 0) rfl
  have c13_A_5 := A_10.out.at 5 (v := .slice none 0 0) rfl
  go_wp2_with fail
  refine (HCl.out _ (HH.out.below HB_10.out (Nat.le_refl _))).mono ?_
  rintro e W14 ⟨v_k, rfl, o_k, l14⟩
  obtain ⟨a_k, c_k, rfl, _, _⟩ := ownz_slice o_k
  have O_k := Lib.hid (ownz_base o_k HB_10.out.size)
  have BX_T_k : Hid (∀ k, (.slice a_k h.length c_k : Value).ownBlock = some k → k ≠ R_T) := Lib.hid (fun k h1 h2 => absurd X9_T.out.lt (Nat.not_lt.2 (by rw [← h2]; exact (o_k.lt k h1).1)))
  have BX_W_k : Hid (∀ k, (.slice a_k h.length c_k : Value).ownBlock = some k → k ≠ R_W) := Lib.hid (fun k h1 h2 => absurd W_10.out.lt (Nat.not_lt.2 (by rw [← h2]; exact (o_k.lt k h1).1)))
  have BX_A_k : Hid (∀ k, (.slice a_k h.length c_k : Value).ownBlock = some k → k ≠ R_A) := Lib.hid (fun k h1 h2 => absurd A_10.out.lt (Nat.not_lt.2 (by rw [← h2]; exact (o_k.lt k h1).1)))
  clear o_k
  clear c11_T_0 c11_T_1 c11_T_2 c11_T_3 c11_T_4 c11_T_5
  clear c12_W_0 c12_W_1 c12_W_2
  clear c13_A_0 c13_A_1 c13_A_2 c13_A_3 c13_A_4 c13_A_5
  have HB_15 := Lib.hid (HB_10.out.trans (l14.mono HB_10.out.size))
  have T_15 := Lib.hid (X9_T.out.below l14 X9_T.out.lt)
  clear X9_T
  have W_15 := Lib.hid (W_10.out.below l14 W_10.out.lt)
  clear W_10
  have A_15 := Lib.hid (A_10.out.below l14 A_10.out.lt)
  clear A_10
  clear l14
  have c16_T_0 := T_15.out.at 0 (v := .int .i64 t2) rfl
  have c16_T_1 := T_15.out.at 1 (v := .int .i64 z2) rfl
  have c16_T_2 := T_15.out.at 2 (v := .slice a2 q2.length cap2) rfl
  have c16_T_3 := T_15.out.at 3 (v := .int .i64 c) rfl
  have c16_T_4 := T_15.out.at 4 (v := .int .i64 u) rfl
  have c16_T_5 := T_15.out.at 5 (v := .slice b h.length caph) rfl
  have c17_W_0 := W_15.out.at 0 (v := .int .i64 t2) rfl
  have c17_W_1 := W_15.out.at 1 (v := .int .i64 z2) rfl
  have c17_W_2 := W_15.out.at 2 (v := .slice a2 q2.length cap2) rfl
  have c18_A_0 := A_15.out.at 0 (v := .int .i64 0) rfl
  have c18_A_1 := A_15.out.at 1 (v := .int .i64 0) rfl
  have c18_A_2 := A_15.out.at 2 (v := .slice none 0 0) rfl
  have c18_A_3 := A_15.out.at 3 (v := .int .i64 0) rfl
  have c18_A_4 := A_15.out.at 4 (v := .int .i64 0) rfl
  have c18_A_5 := A_15.out.at 5 (v := .slice none 0 0) rfl
  have hfe := HFe3.out
  clear c16_T_0 c16_T_1 c16_T_2 c16_T_3 c16_T_4 c16_T_5
  clear c17_W_0 c17_W_1 c17_W_2
  clear c18_A_0 c18_A_1 c18_A_2 c18_A_3 c18_A_4 c18_A_5
  have c20_T_0 := T_15.out.at 0 (v := .int .i64 t2) rfl
  have c20_T_1 := T_15.out.at 1 (v := .int .i64 z2) rfl
  have c20_T_2 := T_15.out.at 2 (v := .slice a2 q2.length cap2) rfl
  have c20_T_3 := T_15.out.at 3 (v := .int .i64 c) rfl
  have c20_T_4 := T_15.out.at 4 (v := .int .i64 u) rfl
  have c20_T_5 := T_15.out.at 5 (v := .slice b h.length caph) rfl
  have c21_W_0 := W_15.out.at 0 (v := .int .i64 t2) rfl
  have c21_W_1 := W_15.out.at 1 (v := .int .i64 z2) rfl
  have c21_W_2 := W_15.out.at 2 (v := .slice a2 q2.length cap2) rfl
  have c22_A_0 := A_15.out.at 0 (v := .int .i64 0) rfl
  have c22_A_1 := A_15.out.at 1 (v := .int .i64 0) rfl
  have c22_A_2 := A_15.out.at 2 (v := .slice none 0 0) rfl
  have c22_A_3 := A_15.out.at 3 (v := .int .i64 0) rfl
  have c22_A_4 := A_15.out.at 4 (v := .int .i64 0) rfl
  have c22_A_5 := A_15.out.at 5 (v := .slice none 0 0) rfl
  have HDel19 := Lib.hid (deleteHd_any (fun x => !heldOk ⟨t2, z2, q2⟩ x.n) (.slice a_k h.length c_k) h 92 #[.pointer (some ⟨R_W, 0, none⟩)] w.heap.size W14 O_k.out (by omega) (enters_of Try.func92 (by kernel_rfl) rfl) (fun W hW x hx => (by
    have hb : Below w.heap.size w W := HB_15.out.grown hW HB_15.out.size (fun q hq => (O_k.out.lt q hq).1)
    exact withWin1_any x R_W (.slice a2 q2.length cap2) ⟨t2, z2, q2⟩ W (W_15.out.grown hW (fun e => BX_W_k.out _ e.symm rfl)) (HP2.out.below hb (Nat.le_refl _)) HSz.out)))
  rw [hfe] at HDel19
  go_wp2_with fail
  refine HDel19.out.mono ?_
  rintro e W19 ⟨v_d, rfl, o_d, gr19, sb19⟩
  clear HDel19
  obtain ⟨a_d, c_d, rfl, _, _⟩ := ownz_slice o_d
  have BX_T_d : Hid (∀ k, (.slice a_d kp.length c_d : Value).ownBlock = some k → k ≠ R_T) := Lib.hid (fun k h1 => BX_T_k.out k (sb19 k h1))
  have BX_W_d : Hid (∀ k, (.slice a_d kp.length c_d : Value).ownBlock = some k → k ≠ R_W) := Lib.hid (fun k h1 => BX_W_k.out k (sb19 k h1))
  have BX_A_d : Hid (∀ k, (.slice a_d kp.length c_d : Value).ownBlock = some k → k ≠ R_A) := Lib.hid (fun k h1 => BX_A_k.out k (sb19 k h1))
  clear c20_T_0 c20_T_1 c20_T_2 c20_T_3 c20_T_4 c20_T_5
  clear c21_W_0 c21_W_1 c21_W_2
  clear c22_A_0 c22_A_1 c22_A_2 c22_A_3 c22_A_4 c22_A_5
  have HB_23 := Lib.hid (HB_15.out.grown gr19 HB_15.out.size (fun q hq => (O_k.out.lt q hq).1))
  have T_23 := Lib.hid (T_15.out.grown gr19 (fun e => BX_T_k.out _ e.symm rfl))
  clear T_15
  have W_23 := Lib.hid (W_15.out.grown gr19 (fun e => BX_W_k.out _ e.symm rfl))
  clear W_15
  have A_23 := Lib.hid (A_15.out.grown gr19 (fun e => BX_A_k.out _ e.symm rfl))
  clear A_15
  have O_d := Lib.hid o_d
  clear o_d gr19 sb19 O_k
  have c24_T_0 := T_23.out.at 0 (v := .int .i64 t2) rfl
  have c24_T_1 := T_23.out.at 1 (v := .int .i64 z2) rfl
  have c24_T_2 := T_23.out.at 2 (v := .slice a2 q2.length cap2) rfl
  have c24_T_3 := T_23.out.at 3 (v := .int .i64 c) rfl
  have c24_T_4 := T_23.out.at 4 (v := .int .i64 u) rfl
  have c24_T_5 := T_23.out.at 5 (v := .slice b h.length caph) rfl
  have c25_W_0 := W_23.out.at 0 (v := .int .i64 t2) rfl
  have c25_W_1 := W_23.out.at 1 (v := .int .i64 z2) rfl
  have c25_W_2 := W_23.out.at 2 (v := .slice a2 q2.length cap2) rfl
  have c26_A_0 := A_23.out.at 0 (v := .int .i64 0) rfl
  have c26_A_1 := A_23.out.at 1 (v := .int .i64 0) rfl
  have c26_A_2 := A_23.out.at 2 (v := .slice none 0 0) rfl
  have c26_A_3 := A_23.out.at 3 (v := .int .i64 0) rfl
  have c26_A_4 := A_23.out.at 4 (v := .int .i64 0) rfl
  have c26_A_5 := A_23.out.at 5 (v := .slice none 0 0) rfl
  clear hfe
  have fr27_T_0 := T_23.out.free 0
  have fr27_T_1 := T_23.out.free 1
  have fr27_T_2 := T_23.out.free 2
  have fr27_T_3 := T_23.out.free 3
  have fr27_T_4 := T_23.out.free 4
  have fr27_T_5 := T_23.out.free 5
  go_upto_region 3 with fail
  clear c24_T_0 c24_T_1 c24_T_2 c24_T_3 c24_T_4 c24_T_5
  clear fr27_T_0 fr27_T_1 fr27_T_2 fr27_T_3 fr27_T_4 fr27_T_5
  clear c25_W_0 c25_W_1 c25_W_2
  clear c26_A_0 c26_A_1 c26_A_2 c26_A_3 c26_A_4 c26_A_5
  obtain ⟨p28, q28⟩ := T_23.out.set 5 (.slice a_d kp.length c_d)
  obtain ⟨W28, hW28⟩ : ∃ W28, W28 = (W19.setCell ⟨R_T, 5, none⟩ (.slice a_d kp.length c_d)) := ⟨_, rfl⟩
  rw [← hW28] at p28 q28 ⊢
  have X28_T : Hid (Bx W28 R_T #[.int .i64 t2, .int .i64 z2, .slice a2 q2.length cap2, .int .i64 c, .int .i64 u, .slice a_d kp.length c_d] 29) := Lib.hid p28
  have HB_29 := Lib.hid (HB_23.out.grown q28 HB_23.out.size (fun k hk => by have e2 : R_T = k := Option.some.inj hk; have := HR_T.out; omega))
  have d_29 := Lib.hid (O_d.out.kept q28 (by
    cases hv : (.slice a_d kp.length c_d : Value).ownBlock with
    | none => exact .inl rfl
    | some k => exact .inr (fun e => BX_T_d.out k hv (Option.some.inj e))))
  clear O_d
  have W_29 := Lib.hid (W_23.out.grown q28 (by intro e; have e2 : R_W = R_T := Option.some.inj e; have h1 := HR_W.out; have h2 := HR_T.out; omega))
  clear W_23
  have A_29 := Lib.hid (A_23.out.grown q28 (by intro e; have e2 : R_A = R_T := Option.some.inj e; have h1 := HR_A.out; have h2 := HR_T.out; omega))
  clear A_23
  clear T_23
  clear hW28 p28 q28
  have c30_T_0 := X28_T.out.at 0 (v := .int .i64 t2) rfl
  have c30_T_1 := X28_T.out.at 1 (v := .int .i64 z2) rfl
  have c30_T_2 := X28_T.out.at 2 (v := .slice a2 q2.length cap2) rfl
  have c30_T_3 := X28_T.out.at 3 (v := .int .i64 c) rfl
  have c30_T_4 := X28_T.out.at 4 (v := .int .i64 u) rfl
  have c30_T_5 := X28_T.out.at 5 (v := .slice a_d kp.length c_d) rfl
  have c31_W_0 := W_29.out.at 0 (v := .int .i64 t2) rfl
  have c31_W_1 := W_29.out.at 1 (v := .int .i64 z2) rfl
  have c31_W_2 := W_29.out.at 2 (v := .slice a2 q2.length cap2) rfl
  have c32_A_0 := A_29.out.at 0 (v := .int .i64 0) rfl
  have c32_A_1 := A_29.out.at 1 (v := .int .i64 0) rfl
  have c32_A_2 := A_29.out.at 2 (v := .slice none 0 0) rfl
  have c32_A_3 := A_29.out.at 3 (v := .int .i64 0) rfl
  have c32_A_4 := A_29.out.at 4 (v := .int .i64 0) rfl
  have c32_A_5 := A_29.out.at 5 (v := .slice none 0 0) rfl
  have fr33_A_0 := A_29.out.free 0
  have fr33_A_1 := A_29.out.free 1
  have fr33_A_2 := A_29.out.free 2
  have fr33_A_3 := A_29.out.free 3
  have fr33_A_4 := A_29.out.free 4
  have fr33_A_5 := A_29.out.free 5
  go_wp2_with fail
  obtain ⟨p1, q1⟩ := A_29.out.store6 (.int .i64 t2) (.int .i64 z2) (.slice a2 q2.length cap2) (.int .i64 c) (.int .i64 u) (.slice a_d kp.length c_d)
  exact bodyPost_ret (results_bx rfl isSo _ _ R_A rfl rfl p1) rfl ⟨_, rfl, (d_29.out.kept q1 (by
    cases hv : (.slice a_d kp.length c_d : Value).ownBlock with
    | none => exact .inl rfl
    | some k => exact .inr (fun e => BX_A_d.out k hv (Option.some.inj e)))), (HB_29.out.grown q1 HB_29.out.size (fun k hk => by have e2 : R_A = k := Option.some.inj hk; have := HR_A.out; omega))⟩
set_option maxRecDepth 100000 in
set_option maxHeartbeats 8000000 in
theorem implSend11_any (v hv : Value) (s : So) (d : ByteArray) (w : World) (hrow : Row w v s.w.q.length (s.w.q.map Value.string)) (hhr : Row w hv s.h.length (hdF s.h)) (hs : ∀ x ∈ s.w.q, x.size ≤ maxLen) (hd : d.size ≤ maxLen) (hfit : FitA v s.w.q.length) (hfh : Fit hv s.h.length) :
    Calls Try.prog 37 #[.agg #[.int .i64 s.w.t, .int .i64 s.w.z, v, .int .i64 s.c, .int .i64 s.u, hv], .string d] w fun e w' => ∃ v' hv', e = .returned (.tuple #[.agg #[.int .i64 (sendV11 s d).w.t, .int .i64 (sendV11 s d).w.z, v', .int .i64 (sendV11 s d).c, .int .i64 (sendV11 s d).u, hv'], .agg #[.int .i64 (sendP11 s d).k, .int .i64 (sendP11 s d).n, .int .i64 (sendP11 s d).t, .int .i64 (sendP11 s d).l, .string (sendP11 s d).d], .bool (sendOk s d)]) ∧ w'.ownsRow w.heap.size 9 1 v' (sendV11 s d).w.q.length ((sendV11 s d).w.q.map Value.string) ∧ w'.ownsRow w.heap.size 82 2 hv' (sendV11 s d).h.length (hdF (sendV11 s d).h) ∧ (∀ k, v'.ownBlock = some k → hv'.ownBlock ≠ some k) ∧ Below w.heap.size w w' := by
  obtain ⟨⟨t, z, q⟩, c, u, h⟩ := s
  dsimp only at hrow hhr hs ⊢
  obtain ⟨a, cap, rfl, hc1, hm1, -⟩ := row_open hrow
  obtain ⟨b, caph, rfl, hc2, hm2, -⟩ := hd_open hhr
  unfold maxLen at hm1 hm2
  have HP := Lib.hid hrow
  have HH := Lib.hid hhr
  clear hrow hhr
  have HS := Lib.hid hs
  clear hs
  have HFit := Lib.hid hfit
  have HFh := Lib.hid hfh
  clear hfit hfh
  dsimp only at HFit HFh
  obtain ⟨W0, R_T, R_A, R_B, hW0, hR_T, hR_A, hR_B, hX_T, hX_A, hX_B, hB0⟩ := entry3 w #[.int .i64 t, .int .i64 z, .slice a q.length cap, .int .i64 c, .int .i64 u, .slice b h.length caph] #[.int .i64 0, .int .i64 0, .slice none 0 0, .int .i64 0, .int .i64 0, .slice none 0 0] #[.int .i64 0, .int .i64 0, .int .i64 0, .int .i64 0, .string ⟨#[]⟩] 29 29 64
  have HW0 := Lib.hid hW0
  have HB0 := Lib.hid hB0
  have HR_T := Lib.hid hR_T
  have HX_T := Lib.hid hX_T
  have HR_A := Lib.hid hR_A
  have HX_A := Lib.hid hX_A
  have HR_B := Lib.hid hR_B
  have HX_B := Lib.hid hX_B
  clear hW0 hB0 hR_T hX_T hR_A hX_A hR_B hX_B
  have hne_A_B : R_A ≠ R_B := fun e => absurd (congrArg some e) (by intro e; have e2 : R_A = R_B := Option.some.inj e; have h1 := HR_A.out; have h2 := HR_B.out; omega)
  have hne_B_A : R_B ≠ R_A := fun e => absurd (congrArg some e) (by intro e; have e2 : R_B = R_A := Option.some.inj e; have h1 := HR_B.out; have h2 := HR_A.out; omega)
  have HG := Lib.hid (fun (W1 : World) (hr : Row W1 (.slice a q.length cap) q.length (q.map Value.string)) (hh : Row W1 (.slice b h.length caph) h.length (hdF h)) => implIsSo_any (.slice a q.length cap) (.slice b h.length caph) ⟨⟨t, z, q⟩, c, u, h⟩ W1 hr hh HS.out)
  have HPu := Lib.hid (fun (W1 : World) (hr : Row W1 (.slice a q.length cap) q.length (q.map Value.string)) => implPush_any (.slice a q.length cap) ⟨t, z, q⟩ d W1 hr HS.out hd HFit.out)
  cases ok : soOk ⟨⟨t, z, q⟩, c, u, h⟩ with
  | false =>
    rw [ok] at HG
    have ho : sendOk ⟨⟨t, z, q⟩, c, u, h⟩ d = false := by unfold sendOk; rw [ok]; rfl
    have hv : sendV11 ⟨⟨t, z, q⟩, c, u, h⟩ d = so0 := by unfold sendV11; rw [ho]; rfl
    have hp : sendP11 ⟨⟨t, z, q⟩, c, u, h⟩ d = pk0 := by unfold sendP11; rw [ho]; rfl
    rw [hv, ho, hp]
    clear hv ho hp
    dsimp only [so0, sw0, pk0]
    have c34_T_0 := HX_T.out.at 0 (v := .int .i64 t) rfl
    have c34_T_1 := HX_T.out.at 1 (v := .int .i64 z) rfl
    have c34_T_2 := HX_T.out.at 2 (v := .slice a q.length cap) rfl
    have c34_T_3 := HX_T.out.at 3 (v := .int .i64 c) rfl
    have c34_T_4 := HX_T.out.at 4 (v := .int .i64 u) rfl
    have c34_T_5 := HX_T.out.at 5 (v := .slice b h.length caph) rfl
    have c35_A_0 := HX_A.out.at 0 (v := .int .i64 0) rfl
    have c35_A_1 := HX_A.out.at 1 (v := .int .i64 0) rfl
    have c35_A_2 := HX_A.out.at 2 (v := .slice none 0 0) rfl
    have c35_A_3 := HX_A.out.at 3 (v := .int .i64 0) rfl
    have c35_A_4 := HX_A.out.at 4 (v := .int .i64 0) rfl
    have c35_A_5 := HX_A.out.at 5 (v := .slice none 0 0) rfl
    have c36_B_0 := HX_B.out.at 0 (v := .int .i64 0) rfl
    have c36_B_1 := HX_B.out.at 1 (v := .int .i64 0) rfl
    have c36_B_2 := HX_B.out.at 2 (v := .int .i64 0) rfl
    have c36_B_3 := HX_B.out.at 3 (v := .int .i64 0) rfl
    have c36_B_4 := HX_B.out.at 4 (v := .string ⟨#[]⟩) rfl
    go_enter Try.func37, Try.ntmps37
    go_upto_region 1 with fail
    rw [← HW0.out, ← HR_B.out, ← HR_A.out, ← HR_T.out]
    go_wp2_with fail
    refine (HG.out _ (HP.out.below HB0.out (Nat.le_refl _)) (HH.out.below HB0.out (Nat.le_refl _))).mono ?_
    rintro e W37 ⟨rfl, l37⟩
    clear c34_T_0 c34_T_1 c34_T_2 c34_T_3 c34_T_4 c34_T_5
    clear c35_A_0 c35_A_1 c35_A_2 c35_A_3 c35_A_4 c35_A_5
    clear c36_B_0 c36_B_1 c36_B_2 c36_B_3 c36_B_4
    have HB_38 := Lib.hid (HB0.out.trans (l37.mono HB0.out.size))
    have T_38 := Lib.hid (HX_T.out.below l37 HX_T.out.lt)
    have A_38 := Lib.hid (HX_A.out.below l37 HX_A.out.lt)
    have B_38 := Lib.hid (HX_B.out.below l37 HX_B.out.lt)
    clear l37
    have c39_T_0 := T_38.out.at 0 (v := .int .i64 t) rfl
    have c39_T_1 := T_38.out.at 1 (v := .int .i64 z) rfl
    have c39_T_2 := T_38.out.at 2 (v := .slice a q.length cap) rfl
    have c39_T_3 := T_38.out.at 3 (v := .int .i64 c) rfl
    have c39_T_4 := T_38.out.at 4 (v := .int .i64 u) rfl
    have c39_T_5 := T_38.out.at 5 (v := .slice b h.length caph) rfl
    have c40_A_0 := A_38.out.at 0 (v := .int .i64 0) rfl
    have c40_A_1 := A_38.out.at 1 (v := .int .i64 0) rfl
    have c40_A_2 := A_38.out.at 2 (v := .slice none 0 0) rfl
    have c40_A_3 := A_38.out.at 3 (v := .int .i64 0) rfl
    have c40_A_4 := A_38.out.at 4 (v := .int .i64 0) rfl
    have c40_A_5 := A_38.out.at 5 (v := .slice none 0 0) rfl
    have c41_B_0 := B_38.out.at 0 (v := .int .i64 0) rfl
    have c41_B_1 := B_38.out.at 1 (v := .int .i64 0) rfl
    have c41_B_2 := B_38.out.at 2 (v := .int .i64 0) rfl
    have c41_B_3 := B_38.out.at 3 (v := .int .i64 0) rfl
    have c41_B_4 := B_38.out.at 4 (v := .string ⟨#[]⟩) rfl
    have fr42_A_0 := A_38.out.free 0
    have fr42_A_1 := A_38.out.free 1
    have fr42_A_2 := A_38.out.free 2
    have fr42_A_3 := A_38.out.free 3
    have fr42_A_4 := A_38.out.free 4
    have fr42_A_5 := A_38.out.free 5
    have fr43_B_0 := B_38.out.free 0
    have fr43_B_1 := B_38.out.free 1
    have fr43_B_2 := B_38.out.free 2
    have fr43_B_3 := B_38.out.free 3
    have fr43_B_4 := B_38.out.free 4
    go_wp2_with fail
    obtain ⟨p1, q1⟩ := A_38.out.store6 (.int .i64 0) (.int .i64 0) (.slice none 0 0) (.int .i64 0) (.int .i64 0) (.slice none 0 0)
    obtain ⟨p2, q2⟩ := (B_38.out.grown q1 (by intro e; have e2 : R_B = R_A := Option.some.inj e; have h1 := HR_B.out; have h2 := HR_A.out; omega)).store5 (.int .i64 0) (.int .i64 0) (.int .i64 0) (.int .i64 0) (.string ⟨#[]⟩)
    have hB9 := (HB_38.out.grown q1 HB_38.out.size (fun k hk => by have e2 : R_A = k := Option.some.inj hk; have := HR_A.out; omega))
    have hB10 := hB9.grown q2 hB9.size (fun k hk => by have e2 : R_B = k := Option.some.inj hk; have := HR_B.out; omega)
    refine bodyPost_ret (results_bxx1 rfl isSo isPk _ _ R_A R_B rfl rfl rfl rfl rfl (p1.grown q2 (by intro e; have e2 : R_A = R_B := Option.some.inj e; have h1 := HR_A.out; have h2 := HR_B.out; omega)) p2) rfl ⟨_, _, rfl, World.ownsRow_nil _ _ _ _, World.ownsRow_nil _ _ _ _, (fun k h => by cases h), hB10⟩
  | true =>
    rw [ok] at HG
    cases oi : itB d with
    | false =>
      have ho : sendOk ⟨⟨t, z, q⟩, c, u, h⟩ d = false := by unfold sendOk; rw [ok, oi]; rfl
      have hv : sendV11 ⟨⟨t, z, q⟩, c, u, h⟩ d = so0 := by unfold sendV11; rw [ho]; rfl
      have hp : sendP11 ⟨⟨t, z, q⟩, c, u, h⟩ d = pk0 := by unfold sendP11; rw [ho]; rfl
      rw [hv, ho, hp]
      clear hv ho hp
      have hpo : pushOk ⟨t, z, q⟩ d = false := by unfold pushOk; rw [oi, Bool.and_false]
      obtain ⟨e1, e2⟩ := push_no hpo
      rw [hpo, e1, e2] at HPu
      clear hpo e1 e2 oi
      dsimp only [sw0, pk0, List.length_nil, List.map_nil] at HPu
      dsimp only [so0, sw0, pk0]
      have c44_T_0 := HX_T.out.at 0 (v := .int .i64 t) rfl
      have c44_T_1 := HX_T.out.at 1 (v := .int .i64 z) rfl
      have c44_T_2 := HX_T.out.at 2 (v := .slice a q.length cap) rfl
      have c44_T_3 := HX_T.out.at 3 (v := .int .i64 c) rfl
      have c44_T_4 := HX_T.out.at 4 (v := .int .i64 u) rfl
      have c44_T_5 := HX_T.out.at 5 (v := .slice b h.length caph) rfl
      have c45_A_0 := HX_A.out.at 0 (v := .int .i64 0) rfl
      have c45_A_1 := HX_A.out.at 1 (v := .int .i64 0) rfl
      have c45_A_2 := HX_A.out.at 2 (v := .slice none 0 0) rfl
      have c45_A_3 := HX_A.out.at 3 (v := .int .i64 0) rfl
      have c45_A_4 := HX_A.out.at 4 (v := .int .i64 0) rfl
      have c45_A_5 := HX_A.out.at 5 (v := .slice none 0 0) rfl
      have c46_B_0 := HX_B.out.at 0 (v := .int .i64 0) rfl
      have c46_B_1 := HX_B.out.at 1 (v := .int .i64 0) rfl
      have c46_B_2 := HX_B.out.at 2 (v := .int .i64 0) rfl
      have c46_B_3 := HX_B.out.at 3 (v := .int .i64 0) rfl
      have c46_B_4 := HX_B.out.at 4 (v := .string ⟨#[]⟩) rfl
      go_enter Try.func37, Try.ntmps37
      go_upto_region 1 with fail
      rw [← HW0.out, ← HR_B.out, ← HR_A.out, ← HR_T.out]
      go_wp2_with fail
      refine (HG.out _ (HP.out.below HB0.out (Nat.le_refl _)) (HH.out.below HB0.out (Nat.le_refl _))).mono ?_
      rintro e W47 ⟨rfl, l47⟩
      clear c44_T_0 c44_T_1 c44_T_2 c44_T_3 c44_T_4 c44_T_5
      clear c45_A_0 c45_A_1 c45_A_2 c45_A_3 c45_A_4 c45_A_5
      clear c46_B_0 c46_B_1 c46_B_2 c46_B_3 c46_B_4
      have HB_48 := Lib.hid (HB0.out.trans (l47.mono HB0.out.size))
      have T_48 := Lib.hid (HX_T.out.below l47 HX_T.out.lt)
      have A_48 := Lib.hid (HX_A.out.below l47 HX_A.out.lt)
      have B_48 := Lib.hid (HX_B.out.below l47 HX_B.out.lt)
      clear l47
      have c49_T_0 := T_48.out.at 0 (v := .int .i64 t) rfl
      have c49_T_1 := T_48.out.at 1 (v := .int .i64 z) rfl
      have c49_T_2 := T_48.out.at 2 (v := .slice a q.length cap) rfl
      have c49_T_3 := T_48.out.at 3 (v := .int .i64 c) rfl
      have c49_T_4 := T_48.out.at 4 (v := .int .i64 u) rfl
      have c49_T_5 := T_48.out.at 5 (v := .slice b h.length caph) rfl
      have c50_A_0 := A_48.out.at 0 (v := .int .i64 0) rfl
      have c50_A_1 := A_48.out.at 1 (v := .int .i64 0) rfl
      have c50_A_2 := A_48.out.at 2 (v := .slice none 0 0) rfl
      have c50_A_3 := A_48.out.at 3 (v := .int .i64 0) rfl
      have c50_A_4 := A_48.out.at 4 (v := .int .i64 0) rfl
      have c50_A_5 := A_48.out.at 5 (v := .slice none 0 0) rfl
      have c51_B_0 := B_48.out.at 0 (v := .int .i64 0) rfl
      have c51_B_1 := B_48.out.at 1 (v := .int .i64 0) rfl
      have c51_B_2 := B_48.out.at 2 (v := .int .i64 0) rfl
      have c51_B_3 := B_48.out.at 3 (v := .int .i64 0) rfl
      have c51_B_4 := B_48.out.at 4 (v := .string ⟨#[]⟩) rfl
      go_wp2_with fail
      refine (HPu.out _ (HP.out.below HB_48.out (Nat.le_refl _))).mono ?_
      rintro e W52 ⟨v_y, rfl, o_y, l52⟩
      obtain ⟨a_y, c_y, rfl, _, _⟩ := ownz_slice o_y
      have O_y := Lib.hid (ownz_base o_y HB_48.out.size)
      have BX_T_y : Hid (∀ k, (.slice a_y 0 c_y : Value).ownBlock = some k → k ≠ R_T) := Lib.hid (fun k h1 h2 => absurd T_48.out.lt (Nat.not_lt.2 (by rw [← h2]; exact (o_y.lt k h1).1)))
      have BX_A_y : Hid (∀ k, (.slice a_y 0 c_y : Value).ownBlock = some k → k ≠ R_A) := Lib.hid (fun k h1 h2 => absurd A_48.out.lt (Nat.not_lt.2 (by rw [← h2]; exact (o_y.lt k h1).1)))
      have BX_B_y : Hid (∀ k, (.slice a_y 0 c_y : Value).ownBlock = some k → k ≠ R_B) := Lib.hid (fun k h1 h2 => absurd B_48.out.lt (Nat.not_lt.2 (by rw [← h2]; exact (o_y.lt k h1).1)))
      clear o_y
      clear c49_T_0 c49_T_1 c49_T_2 c49_T_3 c49_T_4 c49_T_5
      clear c50_A_0 c50_A_1 c50_A_2 c50_A_3 c50_A_4 c50_A_5
      clear c51_B_0 c51_B_1 c51_B_2 c51_B_3 c51_B_4
      have HB_53 := Lib.hid (HB_48.out.trans (l52.mono HB_48.out.size))
      have T_53 := Lib.hid (T_48.out.below l52 T_48.out.lt)
      clear T_48
      have A_53 := Lib.hid (A_48.out.below l52 A_48.out.lt)
      clear A_48
      have B_53 := Lib.hid (B_48.out.below l52 B_48.out.lt)
      clear B_48
      clear l52
      have c54_T_0 := T_53.out.at 0 (v := .int .i64 t) rfl
      have c54_T_1 := T_53.out.at 1 (v := .int .i64 z) rfl
      have c54_T_2 := T_53.out.at 2 (v := .slice a q.length cap) rfl
      have c54_T_3 := T_53.out.at 3 (v := .int .i64 c) rfl
      have c54_T_4 := T_53.out.at 4 (v := .int .i64 u) rfl
      have c54_T_5 := T_53.out.at 5 (v := .slice b h.length caph) rfl
      have c55_A_0 := A_53.out.at 0 (v := .int .i64 0) rfl
      have c55_A_1 := A_53.out.at 1 (v := .int .i64 0) rfl
      have c55_A_2 := A_53.out.at 2 (v := .slice none 0 0) rfl
      have c55_A_3 := A_53.out.at 3 (v := .int .i64 0) rfl
      have c55_A_4 := A_53.out.at 4 (v := .int .i64 0) rfl
      have c55_A_5 := A_53.out.at 5 (v := .slice none 0 0) rfl
      have c56_B_0 := B_53.out.at 0 (v := .int .i64 0) rfl
      have c56_B_1 := B_53.out.at 1 (v := .int .i64 0) rfl
      have c56_B_2 := B_53.out.at 2 (v := .int .i64 0) rfl
      have c56_B_3 := B_53.out.at 3 (v := .int .i64 0) rfl
      have c56_B_4 := B_53.out.at 4 (v := .string ⟨#[]⟩) rfl
      go_upto_region 4 with fail
      obtain ⟨W57, hW57⟩ : ∃ W57, W57 = (W52.alloc (.cells #[.int .i64 0, .int .i64 0, .slice a_y 0 c_y] 26)).alloc (.cells #[.int .i64 0, .int .i64 0, .int .i64 0, .int .i64 0, .string ⟨#[]⟩] 64) := ⟨_, rfl⟩
      have l57 : Below W52.heap.size W52 W57 := by rw [hW57]; exact ((Below.refl _ _).alloc (Nat.le_refl _) _).alloc (by simp) _
      have X57_U : Hid (Bx W57 W52.heap.size #[.int .i64 0, .int .i64 0, .slice a_y 0 c_y] 26) := Lib.hid (by rw [hW57]; exact (Bx.new2 _ _ _ _ _).1)
      have X57_P : Hid (Bx W57 (W52.heap.size + 1) #[.int .i64 0, .int .i64 0, .int .i64 0, .int .i64 0, .string ⟨#[]⟩] 64) := Lib.hid (by rw [hW57]; exact (Bx.new2 _ _ _ _ _).2)
      rw [← hW57]
      clear hW57
      have BX_U_y : Hid (∀ k, (.slice a_y 0 c_y : Value).ownBlock = some k → k ≠ W52.heap.size) := Lib.hid (fun k h1 h2 => absurd (O_y.out.lt k h1).2 (by omega))
      have HG_U : Hid (w.heap.size ≤ W52.heap.size) := Lib.hid (HB_53.out.size)
      have HN_U_T : Hid (R_T < W52.heap.size) := Lib.hid (T_53.out.lt)
      have HN_U_A : Hid (R_A < W52.heap.size) := Lib.hid (A_53.out.lt)
      have HN_U_B : Hid (R_B < W52.heap.size) := Lib.hid (B_53.out.lt)
      have BX_P_y : Hid (∀ k, (.slice a_y 0 c_y : Value).ownBlock = some k → k ≠ (W52.heap.size + 1)) := Lib.hid (fun k h1 h2 => absurd (O_y.out.lt k h1).2 (by omega))
      have HG_P : Hid (w.heap.size ≤ (W52.heap.size + 1)) := Lib.hid (Nat.le_succ_of_le HB_53.out.size)
      have HN_P_T : Hid (R_T < (W52.heap.size + 1)) := Lib.hid (Nat.lt_succ_of_lt T_53.out.lt)
      have HN_P_A : Hid (R_A < (W52.heap.size + 1)) := Lib.hid (Nat.lt_succ_of_lt A_53.out.lt)
      have HN_P_B : Hid (R_B < (W52.heap.size + 1)) := Lib.hid (Nat.lt_succ_of_lt B_53.out.lt)
      have HN_P_U : Hid (W52.heap.size < W52.heap.size + 1) := Lib.hid (Nat.lt_succ_self _)
      obtain ⟨R_P, hR_P⟩ : ∃ X, X = W52.heap.size + 1 := ⟨_, rfl⟩
      rw [← hR_P] at X57_P HG_P HN_P_U BX_P_y HN_P_T HN_P_A HN_P_B ⊢
      clear hR_P
      obtain ⟨R_U, hR_U⟩ : ∃ X, X = W52.heap.size := ⟨_, rfl⟩
      rw [← hR_U] at X57_U HG_U HN_P_U BX_U_y HN_U_T HN_U_A HN_U_B ⊢
      clear hR_U
      clear c54_T_0 c54_T_1 c54_T_2 c54_T_3 c54_T_4 c54_T_5
      clear c55_A_0 c55_A_1 c55_A_2 c55_A_3 c55_A_4 c55_A_5
      clear c56_B_0 c56_B_1 c56_B_2 c56_B_3 c56_B_4
      have HB_58 := Lib.hid (HB_53.out.trans (l57.mono HB_53.out.size))
      have y_58 := Lib.hid (ownz_below O_y.out l57 (Nat.le_refl _))
      clear O_y
      have T_58 := Lib.hid (T_53.out.below l57 T_53.out.lt)
      clear T_53
      have A_58 := Lib.hid (A_53.out.below l57 A_53.out.lt)
      clear A_53
      have B_58 := Lib.hid (B_53.out.below l57 B_53.out.lt)
      clear B_53
      clear l57
      have c59_T_0 := T_58.out.at 0 (v := .int .i64 t) rfl
      have c59_T_1 := T_58.out.at 1 (v := .int .i64 z) rfl
      have c59_T_2 := T_58.out.at 2 (v := .slice a q.length cap) rfl
      have c59_T_3 := T_58.out.at 3 (v := .int .i64 c) rfl
      have c59_T_4 := T_58.out.at 4 (v := .int .i64 u) rfl
      have c59_T_5 := T_58.out.at 5 (v := .slice b h.length caph) rfl
      have c60_A_0 := A_58.out.at 0 (v := .int .i64 0) rfl
      have c60_A_1 := A_58.out.at 1 (v := .int .i64 0) rfl
      have c60_A_2 := A_58.out.at 2 (v := .slice none 0 0) rfl
      have c60_A_3 := A_58.out.at 3 (v := .int .i64 0) rfl
      have c60_A_4 := A_58.out.at 4 (v := .int .i64 0) rfl
      have c60_A_5 := A_58.out.at 5 (v := .slice none 0 0) rfl
      have c61_B_0 := B_58.out.at 0 (v := .int .i64 0) rfl
      have c61_B_1 := B_58.out.at 1 (v := .int .i64 0) rfl
      have c61_B_2 := B_58.out.at 2 (v := .int .i64 0) rfl
      have c61_B_3 := B_58.out.at 3 (v := .int .i64 0) rfl
      have c61_B_4 := B_58.out.at 4 (v := .string ⟨#[]⟩) rfl
      have c62_U_0 := X57_U.out.at 0 (v := .int .i64 0) rfl
      have c62_U_1 := X57_U.out.at 1 (v := .int .i64 0) rfl
      have c62_U_2 := X57_U.out.at 2 (v := .slice a_y 0 c_y) rfl
      have c63_P_0 := X57_P.out.at 0 (v := .int .i64 0) rfl
      have c63_P_1 := X57_P.out.at 1 (v := .int .i64 0) rfl
      have c63_P_2 := X57_P.out.at 2 (v := .int .i64 0) rfl
      have c63_P_3 := X57_P.out.at 3 (v := .int .i64 0) rfl
      have c63_P_4 := X57_P.out.at 4 (v := .string ⟨#[]⟩) rfl
      have fr64_A_0 := A_58.out.free 0
      have fr64_A_1 := A_58.out.free 1
      have fr64_A_2 := A_58.out.free 2
      have fr64_A_3 := A_58.out.free 3
      have fr64_A_4 := A_58.out.free 4
      have fr64_A_5 := A_58.out.free 5
      have fr65_B_0 := B_58.out.free 0
      have fr65_B_1 := B_58.out.free 1
      have fr65_B_2 := B_58.out.free 2
      have fr65_B_3 := B_58.out.free 3
      have fr65_B_4 := B_58.out.free 4
      go_wp2_with fail
      obtain ⟨p1, q1⟩ := A_58.out.store6 (.int .i64 0) (.int .i64 0) (.slice none 0 0) (.int .i64 0) (.int .i64 0) (.slice none 0 0)
      obtain ⟨p2, q2⟩ := (B_58.out.grown q1 (by intro e; have e2 : R_B = R_A := Option.some.inj e; have h1 := HR_B.out; have h2 := HR_A.out; omega)).store5 (.int .i64 0) (.int .i64 0) (.int .i64 0) (.int .i64 0) (.string ⟨#[]⟩)
      have hB9 := (HB_58.out.grown q1 HB_58.out.size (fun k hk => by have e2 : R_A = k := Option.some.inj hk; have := HR_A.out; omega))
      have hB10 := hB9.grown q2 hB9.size (fun k hk => by have e2 : R_B = k := Option.some.inj hk; have := HR_B.out; omega)
      refine bodyPost_ret (results_bxx1 rfl isSo isPk _ _ R_A R_B rfl rfl rfl rfl rfl (p1.grown q2 (by intro e; have e2 : R_A = R_B := Option.some.inj e; have h1 := HR_A.out; have h2 := HR_B.out; omega)) p2) rfl ⟨_, _, rfl, World.ownsRow_nil _ _ _ _, World.ownsRow_nil _ _ _ _, (fun k h => by cases h), hB10⟩
    | true =>
      have ho : sendOk ⟨⟨t, z, q⟩, c, u, h⟩ d = true := by unfold sendOk; rw [ok, oi]; rfl
      obtain ⟨-, -, hpo⟩ := sendOk_parts ho
      dsimp only at hpo
      have hv : sendV11 ⟨⟨t, z, q⟩, c, u, h⟩ d = ⟨pushW ⟨t, z, q⟩ d, c, 0, keepH (pushW ⟨t, z, q⟩ d) c h⟩ := if_pos ho
      have hp : sendP11 ⟨⟨t, z, q⟩, c, u, h⟩ d = ⟨1, leadI (roomW ⟨t, z, q⟩), (pushW ⟨t, z, q⟩ d).t, leadI (pushW ⟨t, z, q⟩ d), d⟩ := if_pos ho
      rw [hv, ho, hp]
      dsimp only
      rw [hpo, pushV_yes hpo, pushP_yes hpo] at HPu
      dsimp only at HPu
      have hdo := (pushW_ok hpo).1
      have HDo := Lib.hid hdo
      have HOk := Lib.hid ok
      clear hv ho hp hpo oi ok hdo
      generalize leadI (roomW ⟨t, z, q⟩) = nu at HPu ⊢
      generalize leadI (pushW ⟨t, z, q⟩ d) = le at HPu ⊢
      generalize pushW ⟨t, z, q⟩ d = y at HPu HDo ⊢
      obtain ⟨yt, yz, yq⟩ := y
      dsimp only at HPu HDo ⊢
      have HWi := Lib.hid (fun (W1 : World) (v2 : Value) (hr : Row W1 (.slice a q.length cap) q.length (q.map Value.string)) (hh : Row W1 (.slice b h.length caph) h.length (hdF h)) (h2 : Row W1 v2 yq.length (yq.map Value.string)) => withWin_any (.slice a q.length cap) (.slice b h.length caph) ⟨⟨t, z, q⟩, c, u, h⟩ v2 ⟨yt, yz, yq⟩ W1 hr hh h2 HFh.out HOk.out HDo.out)
      dsimp only at HWi
      generalize keepH ⟨yt, yz, yq⟩ c h = kp at HWi ⊢
      have c66_T_0 := HX_T.out.at 0 (v := .int .i64 t) rfl
      have c66_T_1 := HX_T.out.at 1 (v := .int .i64 z) rfl
      have c66_T_2 := HX_T.out.at 2 (v := .slice a q.length cap) rfl
      have c66_T_3 := HX_T.out.at 3 (v := .int .i64 c) rfl
      have c66_T_4 := HX_T.out.at 4 (v := .int .i64 u) rfl
      have c66_T_5 := HX_T.out.at 5 (v := .slice b h.length caph) rfl
      have c67_A_0 := HX_A.out.at 0 (v := .int .i64 0) rfl
      have c67_A_1 := HX_A.out.at 1 (v := .int .i64 0) rfl
      have c67_A_2 := HX_A.out.at 2 (v := .slice none 0 0) rfl
      have c67_A_3 := HX_A.out.at 3 (v := .int .i64 0) rfl
      have c67_A_4 := HX_A.out.at 4 (v := .int .i64 0) rfl
      have c67_A_5 := HX_A.out.at 5 (v := .slice none 0 0) rfl
      have c68_B_0 := HX_B.out.at 0 (v := .int .i64 0) rfl
      have c68_B_1 := HX_B.out.at 1 (v := .int .i64 0) rfl
      have c68_B_2 := HX_B.out.at 2 (v := .int .i64 0) rfl
      have c68_B_3 := HX_B.out.at 3 (v := .int .i64 0) rfl
      have c68_B_4 := HX_B.out.at 4 (v := .string ⟨#[]⟩) rfl
      go_enter Try.func37, Try.ntmps37
      go_upto_region 1 with fail
      rw [← HW0.out, ← HR_B.out, ← HR_A.out, ← HR_T.out]
      go_wp2_with fail
      refine (HG.out _ (HP.out.below HB0.out (Nat.le_refl _)) (HH.out.below HB0.out (Nat.le_refl _))).mono ?_
      rintro e W69 ⟨rfl, l69⟩
      clear c66_T_0 c66_T_1 c66_T_2 c66_T_3 c66_T_4 c66_T_5
      clear c67_A_0 c67_A_1 c67_A_2 c67_A_3 c67_A_4 c67_A_5
      clear c68_B_0 c68_B_1 c68_B_2 c68_B_3 c68_B_4
      have HB_70 := Lib.hid (HB0.out.trans (l69.mono HB0.out.size))
      have T_70 := Lib.hid (HX_T.out.below l69 HX_T.out.lt)
      have A_70 := Lib.hid (HX_A.out.below l69 HX_A.out.lt)
      have B_70 := Lib.hid (HX_B.out.below l69 HX_B.out.lt)
      clear l69
      have c71_T_0 := T_70.out.at 0 (v := .int .i64 t) rfl
      have c71_T_1 := T_70.out.at 1 (v := .int .i64 z) rfl
      have c71_T_2 := T_70.out.at 2 (v := .slice a q.length cap) rfl
      have c71_T_3 := T_70.out.at 3 (v := .int .i64 c) rfl
      have c71_T_4 := T_70.out.at 4 (v := .int .i64 u) rfl
      have c71_T_5 := T_70.out.at 5 (v := .slice b h.length caph) rfl
      have c72_A_0 := A_70.out.at 0 (v := .int .i64 0) rfl
      have c72_A_1 := A_70.out.at 1 (v := .int .i64 0) rfl
      have c72_A_2 := A_70.out.at 2 (v := .slice none 0 0) rfl
      have c72_A_3 := A_70.out.at 3 (v := .int .i64 0) rfl
      have c72_A_4 := A_70.out.at 4 (v := .int .i64 0) rfl
      have c72_A_5 := A_70.out.at 5 (v := .slice none 0 0) rfl
      have c73_B_0 := B_70.out.at 0 (v := .int .i64 0) rfl
      have c73_B_1 := B_70.out.at 1 (v := .int .i64 0) rfl
      have c73_B_2 := B_70.out.at 2 (v := .int .i64 0) rfl
      have c73_B_3 := B_70.out.at 3 (v := .int .i64 0) rfl
      have c73_B_4 := B_70.out.at 4 (v := .string ⟨#[]⟩) rfl
      go_wp2_with fail
      refine (HPu.out _ (HP.out.below HB_70.out (Nat.le_refl _))).mono ?_
      rintro e W74 ⟨v_y, rfl, o_y, l74⟩
      obtain ⟨a_y, c_y, rfl, _, _⟩ := ownz_slice o_y
      have O_y := Lib.hid (ownz_base o_y HB_70.out.size)
      have BX_T_y : Hid (∀ k, (.slice a_y yq.length c_y : Value).ownBlock = some k → k ≠ R_T) := Lib.hid (fun k h1 h2 => absurd T_70.out.lt (Nat.not_lt.2 (by rw [← h2]; exact (o_y.lt k h1).1)))
      have BX_A_y : Hid (∀ k, (.slice a_y yq.length c_y : Value).ownBlock = some k → k ≠ R_A) := Lib.hid (fun k h1 h2 => absurd A_70.out.lt (Nat.not_lt.2 (by rw [← h2]; exact (o_y.lt k h1).1)))
      have BX_B_y : Hid (∀ k, (.slice a_y yq.length c_y : Value).ownBlock = some k → k ≠ R_B) := Lib.hid (fun k h1 h2 => absurd B_70.out.lt (Nat.not_lt.2 (by rw [← h2]; exact (o_y.lt k h1).1)))
      clear o_y
      clear c71_T_0 c71_T_1 c71_T_2 c71_T_3 c71_T_4 c71_T_5
      clear c72_A_0 c72_A_1 c72_A_2 c72_A_3 c72_A_4 c72_A_5
      clear c73_B_0 c73_B_1 c73_B_2 c73_B_3 c73_B_4
      have HB_75 := Lib.hid (HB_70.out.trans (l74.mono HB_70.out.size))
      have T_75 := Lib.hid (T_70.out.below l74 T_70.out.lt)
      clear T_70
      have A_75 := Lib.hid (A_70.out.below l74 A_70.out.lt)
      clear A_70
      have B_75 := Lib.hid (B_70.out.below l74 B_70.out.lt)
      clear B_70
      clear l74
      have c76_T_0 := T_75.out.at 0 (v := .int .i64 t) rfl
      have c76_T_1 := T_75.out.at 1 (v := .int .i64 z) rfl
      have c76_T_2 := T_75.out.at 2 (v := .slice a q.length cap) rfl
      have c76_T_3 := T_75.out.at 3 (v := .int .i64 c) rfl
      have c76_T_4 := T_75.out.at 4 (v := .int .i64 u) rfl
      have c76_T_5 := T_75.out.at 5 (v := .slice b h.length caph) rfl
      have c77_A_0 := A_75.out.at 0 (v := .int .i64 0) rfl
      have c77_A_1 := A_75.out.at 1 (v := .int .i64 0) rfl
      have c77_A_2 := A_75.out.at 2 (v := .slice none 0 0) rfl
      have c77_A_3 := A_75.out.at 3 (v := .int .i64 0) rfl
      have c77_A_4 := A_75.out.at 4 (v := .int .i64 0) rfl
      have c77_A_5 := A_75.out.at 5 (v := .slice none 0 0) rfl
      have c78_B_0 := B_75.out.at 0 (v := .int .i64 0) rfl
      have c78_B_1 := B_75.out.at 1 (v := .int .i64 0) rfl
      have c78_B_2 := B_75.out.at 2 (v := .int .i64 0) rfl
      have c78_B_3 := B_75.out.at 3 (v := .int .i64 0) rfl
      have c78_B_4 := B_75.out.at 4 (v := .string ⟨#[]⟩) rfl
      go_upto_region 4 with fail
      obtain ⟨W79, hW79⟩ : ∃ W79, W79 = (W74.alloc (.cells #[.int .i64 yt, .int .i64 yz, .slice a_y yq.length c_y] 26)).alloc (.cells #[.int .i64 1, .int .i64 nu, .int .i64 yt, .int .i64 le, .string d] 64) := ⟨_, rfl⟩
      have l79 : Below W74.heap.size W74 W79 := by rw [hW79]; exact ((Below.refl _ _).alloc (Nat.le_refl _) _).alloc (by simp) _
      have X79_U : Hid (Bx W79 W74.heap.size #[.int .i64 yt, .int .i64 yz, .slice a_y yq.length c_y] 26) := Lib.hid (by rw [hW79]; exact (Bx.new2 _ _ _ _ _).1)
      have X79_P : Hid (Bx W79 (W74.heap.size + 1) #[.int .i64 1, .int .i64 nu, .int .i64 yt, .int .i64 le, .string d] 64) := Lib.hid (by rw [hW79]; exact (Bx.new2 _ _ _ _ _).2)
      rw [← hW79]
      clear hW79
      have BX_U_y : Hid (∀ k, (.slice a_y yq.length c_y : Value).ownBlock = some k → k ≠ W74.heap.size) := Lib.hid (fun k h1 h2 => absurd (O_y.out.lt k h1).2 (by omega))
      have HG_U : Hid (w.heap.size ≤ W74.heap.size) := Lib.hid (HB_75.out.size)
      have HN_U_T : Hid (R_T < W74.heap.size) := Lib.hid (T_75.out.lt)
      have HN_U_A : Hid (R_A < W74.heap.size) := Lib.hid (A_75.out.lt)
      have HN_U_B : Hid (R_B < W74.heap.size) := Lib.hid (B_75.out.lt)
      have BX_P_y : Hid (∀ k, (.slice a_y yq.length c_y : Value).ownBlock = some k → k ≠ (W74.heap.size + 1)) := Lib.hid (fun k h1 h2 => absurd (O_y.out.lt k h1).2 (by omega))
      have HG_P : Hid (w.heap.size ≤ (W74.heap.size + 1)) := Lib.hid (Nat.le_succ_of_le HB_75.out.size)
      have HN_P_T : Hid (R_T < (W74.heap.size + 1)) := Lib.hid (Nat.lt_succ_of_lt T_75.out.lt)
      have HN_P_A : Hid (R_A < (W74.heap.size + 1)) := Lib.hid (Nat.lt_succ_of_lt A_75.out.lt)
      have HN_P_B : Hid (R_B < (W74.heap.size + 1)) := Lib.hid (Nat.lt_succ_of_lt B_75.out.lt)
      have HN_P_U : Hid (W74.heap.size < W74.heap.size + 1) := Lib.hid (Nat.lt_succ_self _)
      obtain ⟨R_P, hR_P⟩ : ∃ X, X = W74.heap.size + 1 := ⟨_, rfl⟩
      rw [← hR_P] at X79_P HG_P HN_P_U BX_P_y HN_P_T HN_P_A HN_P_B ⊢
      clear hR_P
      obtain ⟨R_U, hR_U⟩ : ∃ X, X = W74.heap.size := ⟨_, rfl⟩
      rw [← hR_U] at X79_U HG_U HN_P_U BX_U_y HN_U_T HN_U_A HN_U_B ⊢
      clear hR_U
      clear c76_T_0 c76_T_1 c76_T_2 c76_T_3 c76_T_4 c76_T_5
      clear c77_A_0 c77_A_1 c77_A_2 c77_A_3 c77_A_4 c77_A_5
      clear c78_B_0 c78_B_1 c78_B_2 c78_B_3 c78_B_4
      have HB_80 := Lib.hid (HB_75.out.trans (l79.mono HB_75.out.size))
      have y_80 := Lib.hid (ownz_below O_y.out l79 (Nat.le_refl _))
      clear O_y
      have T_80 := Lib.hid (T_75.out.below l79 T_75.out.lt)
      clear T_75
      have A_80 := Lib.hid (A_75.out.below l79 A_75.out.lt)
      clear A_75
      have B_80 := Lib.hid (B_75.out.below l79 B_75.out.lt)
      clear B_75
      clear l79
      have c81_T_0 := T_80.out.at 0 (v := .int .i64 t) rfl
      have c81_T_1 := T_80.out.at 1 (v := .int .i64 z) rfl
      have c81_T_2 := T_80.out.at 2 (v := .slice a q.length cap) rfl
      have c81_T_3 := T_80.out.at 3 (v := .int .i64 c) rfl
      have c81_T_4 := T_80.out.at 4 (v := .int .i64 u) rfl
      have c81_T_5 := T_80.out.at 5 (v := .slice b h.length caph) rfl
      have c82_A_0 := A_80.out.at 0 (v := .int .i64 0) rfl
      have c82_A_1 := A_80.out.at 1 (v := .int .i64 0) rfl
      have c82_A_2 := A_80.out.at 2 (v := .slice none 0 0) rfl
      have c82_A_3 := A_80.out.at 3 (v := .int .i64 0) rfl
      have c82_A_4 := A_80.out.at 4 (v := .int .i64 0) rfl
      have c82_A_5 := A_80.out.at 5 (v := .slice none 0 0) rfl
      have c83_B_0 := B_80.out.at 0 (v := .int .i64 0) rfl
      have c83_B_1 := B_80.out.at 1 (v := .int .i64 0) rfl
      have c83_B_2 := B_80.out.at 2 (v := .int .i64 0) rfl
      have c83_B_3 := B_80.out.at 3 (v := .int .i64 0) rfl
      have c83_B_4 := B_80.out.at 4 (v := .string ⟨#[]⟩) rfl
      have c84_U_0 := X79_U.out.at 0 (v := .int .i64 yt) rfl
      have c84_U_1 := X79_U.out.at 1 (v := .int .i64 yz) rfl
      have c84_U_2 := X79_U.out.at 2 (v := .slice a_y yq.length c_y) rfl
      have c85_P_0 := X79_P.out.at 0 (v := .int .i64 1) rfl
      have c85_P_1 := X79_P.out.at 1 (v := .int .i64 nu) rfl
      have c85_P_2 := X79_P.out.at 2 (v := .int .i64 yt) rfl
      have c85_P_3 := X79_P.out.at 3 (v := .int .i64 le) rfl
      have c85_P_4 := X79_P.out.at 4 (v := .string d) rfl
      go_wp2_with fail
      refine (HWi.out _ _ (HP.out.below HB_80.out (Nat.le_refl _)) (HH.out.below HB_80.out (Nat.le_refl _)) (rowz_own y_80.out)).mono ?_
      rintro e W86 ⟨v_k, rfl, o_k, l86⟩
      obtain ⟨a_k, c_k, rfl, _, _⟩ := ownz_slice o_k
      have AP_y_k : Hid (∀ k, (.slice a_y yq.length c_y : Value).ownBlock = some k → (.slice a_k kp.length c_k : Value).ownBlock ≠ some k) := Lib.hid (fun k h1 h2 => absurd (y_80.out.lt k h1).2 (Nat.not_lt.2 (o_k.lt k h2).1))
      have O_k := Lib.hid (ownz_base o_k HB_80.out.size)
      have BX_T_k : Hid (∀ k, (.slice a_k kp.length c_k : Value).ownBlock = some k → k ≠ R_T) := Lib.hid (fun k h1 h2 => absurd T_80.out.lt (Nat.not_lt.2 (by rw [← h2]; exact (o_k.lt k h1).1)))
      have BX_A_k : Hid (∀ k, (.slice a_k kp.length c_k : Value).ownBlock = some k → k ≠ R_A) := Lib.hid (fun k h1 h2 => absurd A_80.out.lt (Nat.not_lt.2 (by rw [← h2]; exact (o_k.lt k h1).1)))
      have BX_B_k : Hid (∀ k, (.slice a_k kp.length c_k : Value).ownBlock = some k → k ≠ R_B) := Lib.hid (fun k h1 h2 => absurd B_80.out.lt (Nat.not_lt.2 (by rw [← h2]; exact (o_k.lt k h1).1)))
      have BX_U_k : Hid (∀ k, (.slice a_k kp.length c_k : Value).ownBlock = some k → k ≠ R_U) := Lib.hid (fun k h1 h2 => absurd X79_U.out.lt (Nat.not_lt.2 (by rw [← h2]; exact (o_k.lt k h1).1)))
      have BX_P_k : Hid (∀ k, (.slice a_k kp.length c_k : Value).ownBlock = some k → k ≠ R_P) := Lib.hid (fun k h1 h2 => absurd X79_P.out.lt (Nat.not_lt.2 (by rw [← h2]; exact (o_k.lt k h1).1)))
      clear o_k
      clear c81_T_0 c81_T_1 c81_T_2 c81_T_3 c81_T_4 c81_T_5
      clear c82_A_0 c82_A_1 c82_A_2 c82_A_3 c82_A_4 c82_A_5
      clear c83_B_0 c83_B_1 c83_B_2 c83_B_3 c83_B_4
      clear c84_U_0 c84_U_1 c84_U_2
      clear c85_P_0 c85_P_1 c85_P_2 c85_P_3 c85_P_4
      have HB_87 := Lib.hid (HB_80.out.trans (l86.mono HB_80.out.size))
      have y_87 := Lib.hid (ownz_below y_80.out l86 (Nat.le_refl _))
      clear y_80
      have T_87 := Lib.hid (T_80.out.below l86 T_80.out.lt)
      clear T_80
      have A_87 := Lib.hid (A_80.out.below l86 A_80.out.lt)
      clear A_80
      have B_87 := Lib.hid (B_80.out.below l86 B_80.out.lt)
      clear B_80
      have U_87 := Lib.hid (X79_U.out.below l86 X79_U.out.lt)
      clear X79_U
      have P_87 := Lib.hid (X79_P.out.below l86 X79_P.out.lt)
      clear X79_P
      clear l86
      have c88_T_0 := T_87.out.at 0 (v := .int .i64 t) rfl
      have c88_T_1 := T_87.out.at 1 (v := .int .i64 z) rfl
      have c88_T_2 := T_87.out.at 2 (v := .slice a q.length cap) rfl
      have c88_T_3 := T_87.out.at 3 (v := .int .i64 c) rfl
      have c88_T_4 := T_87.out.at 4 (v := .int .i64 u) rfl
      have c88_T_5 := T_87.out.at 5 (v := .slice b h.length caph) rfl
      have c89_A_0 := A_87.out.at 0 (v := .int .i64 0) rfl
      have c89_A_1 := A_87.out.at 1 (v := .int .i64 0) rfl
      have c89_A_2 := A_87.out.at 2 (v := .slice none 0 0) rfl
      have c89_A_3 := A_87.out.at 3 (v := .int .i64 0) rfl
      have c89_A_4 := A_87.out.at 4 (v := .int .i64 0) rfl
      have c89_A_5 := A_87.out.at 5 (v := .slice none 0 0) rfl
      have c90_B_0 := B_87.out.at 0 (v := .int .i64 0) rfl
      have c90_B_1 := B_87.out.at 1 (v := .int .i64 0) rfl
      have c90_B_2 := B_87.out.at 2 (v := .int .i64 0) rfl
      have c90_B_3 := B_87.out.at 3 (v := .int .i64 0) rfl
      have c90_B_4 := B_87.out.at 4 (v := .string ⟨#[]⟩) rfl
      have c91_U_0 := U_87.out.at 0 (v := .int .i64 yt) rfl
      have c91_U_1 := U_87.out.at 1 (v := .int .i64 yz) rfl
      have c91_U_2 := U_87.out.at 2 (v := .slice a_y yq.length c_y) rfl
      have c92_P_0 := P_87.out.at 0 (v := .int .i64 1) rfl
      have c92_P_1 := P_87.out.at 1 (v := .int .i64 nu) rfl
      have c92_P_2 := P_87.out.at 2 (v := .int .i64 yt) rfl
      have c92_P_3 := P_87.out.at 3 (v := .int .i64 le) rfl
      have c92_P_4 := P_87.out.at 4 (v := .string d) rfl
      have fr93_T_0 := T_87.out.free 0
      have fr93_T_1 := T_87.out.free 1
      have fr93_T_2 := T_87.out.free 2
      have fr93_T_3 := T_87.out.free 3
      have fr93_T_4 := T_87.out.free 4
      have fr93_T_5 := T_87.out.free 5
      go_upto_region 7 with fail
      clear c88_T_0 c88_T_1 c88_T_2 c88_T_3 c88_T_4 c88_T_5
      clear fr93_T_0 fr93_T_1 fr93_T_2 fr93_T_3 fr93_T_4 fr93_T_5
      clear c89_A_0 c89_A_1 c89_A_2 c89_A_3 c89_A_4 c89_A_5
      clear c90_B_0 c90_B_1 c90_B_2 c90_B_3 c90_B_4
      clear c91_U_0 c91_U_1 c91_U_2
      clear c92_P_0 c92_P_1 c92_P_2 c92_P_3 c92_P_4
      obtain ⟨p94, q94⟩ := T_87.out.store6 (.int .i64 yt) (.int .i64 yz) (.slice a_y yq.length c_y) (.int .i64 c) (.int .i64 u) (.slice a_k kp.length c_k)
      obtain ⟨W94, hW94⟩ : ∃ W94, W94 = ((((((W86.setCell ⟨R_T, 0, none⟩ (.int .i64 yt)).setCell ⟨R_T, 1, none⟩ (.int .i64 yz)).setCell ⟨R_T, 2, none⟩ (.slice a_y yq.length c_y)).setCell ⟨R_T, 3, none⟩ (.int .i64 c)).setCell ⟨R_T, 4, none⟩ (.int .i64 u)).setCell ⟨R_T, 5, none⟩ (.slice a_k kp.length c_k)) := ⟨_, rfl⟩
      rw [← hW94] at p94 q94 ⊢
      have X94_T : Hid (Bx W94 R_T #[.int .i64 yt, .int .i64 yz, .slice a_y yq.length c_y, .int .i64 c, .int .i64 u, .slice a_k kp.length c_k] 29) := Lib.hid p94
      have HB_95 := Lib.hid (HB_87.out.grown q94 HB_87.out.size (fun k hk => by have e2 : R_T = k := Option.some.inj hk; have := HR_T.out; omega))
      have y_95 := Lib.hid (y_87.out.kept q94 (by
        cases hv : (.slice a_y yq.length c_y : Value).ownBlock with
        | none => exact .inl rfl
        | some k => exact .inr (fun e => BX_T_y.out k hv (Option.some.inj e))))
      clear y_87
      have k_95 := Lib.hid (O_k.out.kept q94 (by
        cases hv : (.slice a_k kp.length c_k : Value).ownBlock with
        | none => exact .inl rfl
        | some k => exact .inr (fun e => BX_T_k.out k hv (Option.some.inj e))))
      clear O_k
      have A_95 := Lib.hid (A_87.out.grown q94 (by intro e; have e2 : R_A = R_T := Option.some.inj e; have h1 := HR_A.out; have h2 := HR_T.out; omega))
      clear A_87
      have B_95 := Lib.hid (B_87.out.grown q94 (by intro e; have e2 : R_B = R_T := Option.some.inj e; have h1 := HR_B.out; have h2 := HR_T.out; omega))
      clear B_87
      have U_95 := Lib.hid (U_87.out.grown q94 (by intro e; have e2 : R_U = R_T := Option.some.inj e; have h1 := HN_U_T.out; omega))
      clear U_87
      have P_95 := Lib.hid (P_87.out.grown q94 (by intro e; have e2 : R_P = R_T := Option.some.inj e; have h1 := HN_P_T.out; omega))
      clear P_87
      clear T_87
      clear hW94 p94 q94
      have c96_T_0 := X94_T.out.at 0 (v := .int .i64 yt) rfl
      have c96_T_1 := X94_T.out.at 1 (v := .int .i64 yz) rfl
      have c96_T_2 := X94_T.out.at 2 (v := .slice a_y yq.length c_y) rfl
      have c96_T_3 := X94_T.out.at 3 (v := .int .i64 c) rfl
      have c96_T_4 := X94_T.out.at 4 (v := .int .i64 u) rfl
      have c96_T_5 := X94_T.out.at 5 (v := .slice a_k kp.length c_k) rfl
      have c97_A_0 := A_95.out.at 0 (v := .int .i64 0) rfl
      have c97_A_1 := A_95.out.at 1 (v := .int .i64 0) rfl
      have c97_A_2 := A_95.out.at 2 (v := .slice none 0 0) rfl
      have c97_A_3 := A_95.out.at 3 (v := .int .i64 0) rfl
      have c97_A_4 := A_95.out.at 4 (v := .int .i64 0) rfl
      have c97_A_5 := A_95.out.at 5 (v := .slice none 0 0) rfl
      have c98_B_0 := B_95.out.at 0 (v := .int .i64 0) rfl
      have c98_B_1 := B_95.out.at 1 (v := .int .i64 0) rfl
      have c98_B_2 := B_95.out.at 2 (v := .int .i64 0) rfl
      have c98_B_3 := B_95.out.at 3 (v := .int .i64 0) rfl
      have c98_B_4 := B_95.out.at 4 (v := .string ⟨#[]⟩) rfl
      have c99_U_0 := U_95.out.at 0 (v := .int .i64 yt) rfl
      have c99_U_1 := U_95.out.at 1 (v := .int .i64 yz) rfl
      have c99_U_2 := U_95.out.at 2 (v := .slice a_y yq.length c_y) rfl
      have c100_P_0 := P_95.out.at 0 (v := .int .i64 1) rfl
      have c100_P_1 := P_95.out.at 1 (v := .int .i64 nu) rfl
      have c100_P_2 := P_95.out.at 2 (v := .int .i64 yt) rfl
      have c100_P_3 := P_95.out.at 3 (v := .int .i64 le) rfl
      have c100_P_4 := P_95.out.at 4 (v := .string d) rfl
      have fr101_T_0 := X94_T.out.free 0
      have fr101_T_1 := X94_T.out.free 1
      have fr101_T_2 := X94_T.out.free 2
      have fr101_T_3 := X94_T.out.free 3
      have fr101_T_4 := X94_T.out.free 4
      have fr101_T_5 := X94_T.out.free 5
      go_upto_region 8 with fail
      clear c96_T_0 c96_T_1 c96_T_2 c96_T_3 c96_T_4 c96_T_5
      clear fr101_T_0 fr101_T_1 fr101_T_2 fr101_T_3 fr101_T_4 fr101_T_5
      clear c97_A_0 c97_A_1 c97_A_2 c97_A_3 c97_A_4 c97_A_5
      clear c98_B_0 c98_B_1 c98_B_2 c98_B_3 c98_B_4
      clear c99_U_0 c99_U_1 c99_U_2
      clear c100_P_0 c100_P_1 c100_P_2 c100_P_3 c100_P_4
      obtain ⟨p102, q102⟩ := X94_T.out.set 4 (.int .i64 0)
      obtain ⟨W102, hW102⟩ : ∃ W102, W102 = (W94.setCell ⟨R_T, 4, none⟩ (.int .i64 0)) := ⟨_, rfl⟩
      rw [← hW102] at p102 q102 ⊢
      have X102_T : Hid (Bx W102 R_T #[.int .i64 yt, .int .i64 yz, .slice a_y yq.length c_y, .int .i64 c, .int .i64 0, .slice a_k kp.length c_k] 29) := Lib.hid p102
      have HB_103 := Lib.hid (HB_95.out.grown q102 HB_95.out.size (fun k hk => by have e2 : R_T = k := Option.some.inj hk; have := HR_T.out; omega))
      have y_103 := Lib.hid (y_95.out.kept q102 (by
        cases hv : (.slice a_y yq.length c_y : Value).ownBlock with
        | none => exact .inl rfl
        | some k => exact .inr (fun e => BX_T_y.out k hv (Option.some.inj e))))
      clear y_95
      have k_103 := Lib.hid (k_95.out.kept q102 (by
        cases hv : (.slice a_k kp.length c_k : Value).ownBlock with
        | none => exact .inl rfl
        | some k => exact .inr (fun e => BX_T_k.out k hv (Option.some.inj e))))
      clear k_95
      have A_103 := Lib.hid (A_95.out.grown q102 (by intro e; have e2 : R_A = R_T := Option.some.inj e; have h1 := HR_A.out; have h2 := HR_T.out; omega))
      clear A_95
      have B_103 := Lib.hid (B_95.out.grown q102 (by intro e; have e2 : R_B = R_T := Option.some.inj e; have h1 := HR_B.out; have h2 := HR_T.out; omega))
      clear B_95
      have U_103 := Lib.hid (U_95.out.grown q102 (by intro e; have e2 : R_U = R_T := Option.some.inj e; have h1 := HN_U_T.out; omega))
      clear U_95
      have P_103 := Lib.hid (P_95.out.grown q102 (by intro e; have e2 : R_P = R_T := Option.some.inj e; have h1 := HN_P_T.out; omega))
      clear P_95
      clear X94_T
      clear hW102 p102 q102
      have c104_T_0 := X102_T.out.at 0 (v := .int .i64 yt) rfl
      have c104_T_1 := X102_T.out.at 1 (v := .int .i64 yz) rfl
      have c104_T_2 := X102_T.out.at 2 (v := .slice a_y yq.length c_y) rfl
      have c104_T_3 := X102_T.out.at 3 (v := .int .i64 c) rfl
      have c104_T_4 := X102_T.out.at 4 (v := .int .i64 0) rfl
      have c104_T_5 := X102_T.out.at 5 (v := .slice a_k kp.length c_k) rfl
      have c105_A_0 := A_103.out.at 0 (v := .int .i64 0) rfl
      have c105_A_1 := A_103.out.at 1 (v := .int .i64 0) rfl
      have c105_A_2 := A_103.out.at 2 (v := .slice none 0 0) rfl
      have c105_A_3 := A_103.out.at 3 (v := .int .i64 0) rfl
      have c105_A_4 := A_103.out.at 4 (v := .int .i64 0) rfl
      have c105_A_5 := A_103.out.at 5 (v := .slice none 0 0) rfl
      have c106_B_0 := B_103.out.at 0 (v := .int .i64 0) rfl
      have c106_B_1 := B_103.out.at 1 (v := .int .i64 0) rfl
      have c106_B_2 := B_103.out.at 2 (v := .int .i64 0) rfl
      have c106_B_3 := B_103.out.at 3 (v := .int .i64 0) rfl
      have c106_B_4 := B_103.out.at 4 (v := .string ⟨#[]⟩) rfl
      have c107_U_0 := U_103.out.at 0 (v := .int .i64 yt) rfl
      have c107_U_1 := U_103.out.at 1 (v := .int .i64 yz) rfl
      have c107_U_2 := U_103.out.at 2 (v := .slice a_y yq.length c_y) rfl
      have c108_P_0 := P_103.out.at 0 (v := .int .i64 1) rfl
      have c108_P_1 := P_103.out.at 1 (v := .int .i64 nu) rfl
      have c108_P_2 := P_103.out.at 2 (v := .int .i64 yt) rfl
      have c108_P_3 := P_103.out.at 3 (v := .int .i64 le) rfl
      have c108_P_4 := P_103.out.at 4 (v := .string d) rfl
      clear hne_A_B hne_B_A
      have hne_T_P : R_T ≠ R_P := fun e => absurd (congrArg some e) (by intro e; have e2 : R_T = R_P := Option.some.inj e; have h1 := HN_P_T.out; omega)
      have hne_T_A : R_T ≠ R_A := fun e => absurd (congrArg some e) (by intro e; have e2 : R_T = R_A := Option.some.inj e; have h1 := HR_T.out; have h2 := HR_A.out; omega)
      have hne_T_B : R_T ≠ R_B := fun e => absurd (congrArg some e) (by intro e; have e2 : R_T = R_B := Option.some.inj e; have h1 := HR_T.out; have h2 := HR_B.out; omega)
      have hne_P_T : R_P ≠ R_T := fun e => absurd (congrArg some e) (by intro e; have e2 : R_P = R_T := Option.some.inj e; have h1 := HN_P_T.out; omega)
      have hne_P_A : R_P ≠ R_A := fun e => absurd (congrArg some e) (by intro e; have e2 : R_P = R_A := Option.some.inj e; have h1 := HN_P_A.out; omega)
      have hne_P_B : R_P ≠ R_B := fun e => absurd (congrArg some e) (by intro e; have e2 : R_P = R_B := Option.some.inj e; have h1 := HN_P_B.out; omega)
      have hne_A_T : R_A ≠ R_T := fun e => absurd (congrArg some e) (by intro e; have e2 : R_A = R_T := Option.some.inj e; have h1 := HR_A.out; have h2 := HR_T.out; omega)
      have hne_A_P : R_A ≠ R_P := fun e => absurd (congrArg some e) (by intro e; have e2 : R_A = R_P := Option.some.inj e; have h1 := HN_P_A.out; omega)
      have hne_A_B : R_A ≠ R_B := fun e => absurd (congrArg some e) (by intro e; have e2 : R_A = R_B := Option.some.inj e; have h1 := HR_A.out; have h2 := HR_B.out; omega)
      have hne_B_T : R_B ≠ R_T := fun e => absurd (congrArg some e) (by intro e; have e2 : R_B = R_T := Option.some.inj e; have h1 := HR_B.out; have h2 := HR_T.out; omega)
      have hne_B_P : R_B ≠ R_P := fun e => absurd (congrArg some e) (by intro e; have e2 : R_B = R_P := Option.some.inj e; have h1 := HN_P_B.out; omega)
      have hne_B_A : R_B ≠ R_A := fun e => absurd (congrArg some e) (by intro e; have e2 : R_B = R_A := Option.some.inj e; have h1 := HR_B.out; have h2 := HR_A.out; omega)
      have fr109_A_0 := A_103.out.free 0
      have fr109_A_1 := A_103.out.free 1
      have fr109_A_2 := A_103.out.free 2
      have fr109_A_3 := A_103.out.free 3
      have fr109_A_4 := A_103.out.free 4
      have fr109_A_5 := A_103.out.free 5
      have fr110_B_0 := B_103.out.free 0
      have fr110_B_1 := B_103.out.free 1
      have fr110_B_2 := B_103.out.free 2
      have fr110_B_3 := B_103.out.free 3
      have fr110_B_4 := B_103.out.free 4
      go_region
      go_wp2_with fail
      obtain ⟨p1, q1⟩ := A_103.out.store6 (.int .i64 yt) (.int .i64 yz) (.slice a_y yq.length c_y) (.int .i64 c) (.int .i64 0) (.slice a_k kp.length c_k)
      obtain ⟨p2, q2⟩ := (B_103.out.grown q1 (by intro e; have e2 : R_B = R_A := Option.some.inj e; have h1 := HR_B.out; have h2 := HR_A.out; omega)).store5 (.int .i64 1) (.int .i64 nu) (.int .i64 yt) (.int .i64 le) (.string d)
      have hB9 := (HB_103.out.grown q1 HB_103.out.size (fun k hk => by have e2 : R_A = k := Option.some.inj hk; have := HR_A.out; omega))
      have hB10 := hB9.grown q2 hB9.size (fun k hk => by have e2 : R_B = k := Option.some.inj hk; have := HR_B.out; omega)
      obtain ⟨W9, hW9⟩ : ∃ W9, W9 = (((((((((((W102.setCell ⟨R_A, 0, none⟩ (.int .i64 yt)).setCell ⟨R_A, 1, none⟩ (.int .i64 yz)).setCell ⟨R_A, 2, none⟩ (.slice a_y yq.length c_y)).setCell ⟨R_A, 3, none⟩ (.int .i64 c)).setCell ⟨R_A, 4, none⟩ (.int .i64 0)).setCell ⟨R_A, 5, none⟩ (.slice a_k kp.length c_k)).setCell ⟨R_B, 0, none⟩ (.int .i64 1)).setCell ⟨R_B, 1, none⟩ (.int .i64 nu)).setCell ⟨R_B, 2, none⟩ (.int .i64 yt)).setCell ⟨R_B, 3, none⟩ (.int .i64 le)).setCell ⟨R_B, 4, none⟩ (.string d)) := ⟨_, rfl⟩
      rw [← hW9] at p2 q2 hB10 ⊢
      clear hW9
      refine bodyPost_ret (results_bxx1 rfl isSo isPk _ _ R_A R_B rfl rfl rfl rfl rfl (Bx.drew (p1.grown q2 (by intro e; have e2 : R_A = R_B := Option.some.inj e; have h1 := HR_A.out; have h2 := HR_B.out; omega))) (Bx.drew p2)) rfl ⟨_, _, rfl, ?_, ?_, AP_y_k.out, Below.drew hB10⟩
      · exact (World.ownsRow.drew ((y_103.out.kept q1 (by
        cases hv : (.slice a_y yq.length c_y : Value).ownBlock with
        | none => exact .inl rfl
        | some k => exact .inr (fun e => BX_A_y.out k hv (Option.some.inj e)))).kept q2 (by
        cases hv : (.slice a_y yq.length c_y : Value).ownBlock with
        | none => exact .inl rfl
        | some k => exact .inr (fun e => BX_B_y.out k hv (Option.some.inj e)))))
      · exact (World.ownsRow.drew ((k_103.out.kept q1 (by
        cases hv : (.slice a_k kp.length c_k : Value).ownBlock with
        | none => exact .inl rfl
        | some k => exact .inr (fun e => BX_A_k.out k hv (Option.some.inj e)))).kept q2 (by
        cases hv : (.slice a_k kp.length c_k : Value).ownBlock with
        | none => exact .inl rfl
        | some k => exact .inr (fun e => BX_B_k.out k hv (Option.some.inj e)))))
set_option maxRecDepth 100000 in
set_option maxHeartbeats 8000000 in
theorem implTrim_any (v hv : Value) (s : So) (x : Int) (w : World) (hrow : Row w v s.w.q.length (s.w.q.map Value.string)) (hhr : Row w hv s.h.length (hdF s.h)) (hs : ∀ x ∈ s.w.q, x.size ≤ maxLen) (hfit : FitA v s.w.q.length) (hfh : Fit hv s.h.length) :
    Calls Try.prog 13 #[.agg #[.int .i64 s.w.t, .int .i64 s.w.z, v, .int .i64 s.c, .int .i64 s.u, hv], .int .i64 x] w fun e w' => ∃ v' hv', e = .returned (.tuple #[.agg #[.int .i64 (trimV s x).w.t, .int .i64 (trimV s x).w.z, v', .int .i64 (trimV s x).c, .int .i64 (trimV s x).u, hv'], .int .i64 (trimC s x), .bool (trimOk s x)]) ∧ w'.ownsRow w.heap.size 9 1 v' (trimV s x).w.q.length ((trimV s x).w.q.map Value.string) ∧ w'.ownsRow w.heap.size 82 2 hv' (trimV s x).h.length (hdF (trimV s x).h) ∧ (∀ k, v'.ownBlock = some k → hv'.ownBlock ≠ some k) ∧ Below w.heap.size w w' := by
  obtain ⟨⟨t, z, q⟩, c, u, h⟩ := s
  dsimp only at hrow hhr hs ⊢
  obtain ⟨a, cap, rfl, hc1, hm1, -⟩ := row_open hrow
  obtain ⟨b, caph, rfl, hc2, hm2, -⟩ := hd_open hhr
  unfold maxLen at hm1 hm2
  have HP := Lib.hid hrow
  have HH := Lib.hid hhr
  clear hrow hhr
  have HS := Lib.hid hs
  clear hs
  have HFit := Lib.hid hfit
  clear hfit
  dsimp only at HFit
  have HFh := Lib.hid hfh
  clear hfh
  dsimp only at HFh
  obtain ⟨W0, R_T, R_A, hW0, hR_T, hR_A, hX_T, hX_A, hB0⟩ := entry2 w #[.int .i64 t, .int .i64 z, .slice a q.length cap, .int .i64 c, .int .i64 u, .slice b h.length caph] #[.int .i64 0, .int .i64 0, .slice none 0 0, .int .i64 0, .int .i64 0, .slice none 0 0] 29 29
  have HW0 := Lib.hid hW0
  have HB0 := Lib.hid hB0
  have HR_T := Lib.hid hR_T
  have HX_T := Lib.hid hX_T
  have HR_A := Lib.hid hR_A
  have HX_A := Lib.hid hX_A
  clear hW0 hB0 hR_T hX_T hR_A hX_A
  have HG := Lib.hid (fun (W1 : World) (hr : Row W1 (.slice a q.length cap) q.length (q.map Value.string)) (hh : Row W1 (.slice b h.length caph) h.length (hdF h)) => implIsSo_any (.slice a q.length cap) (.slice b h.length caph) ⟨⟨t, z, q⟩, c, u, h⟩ W1 hr hh HS.out)
  have HD := Lib.hid (fun (W1 : World) (hr : Row W1 (.slice a q.length cap) q.length (q.map Value.string)) => implDrop9_any (.slice a q.length cap) ⟨t, z, q⟩ x W1 hr HS.out HFit.out)
  cases ok : soOk ⟨⟨t, z, q⟩, c, u, h⟩ with
  | false =>
    rw [ok] at HG
    have ho : trimOk ⟨⟨t, z, q⟩, c, u, h⟩ x = false := by unfold trimOk; rw [ok]; rfl
    have hv : trimV ⟨⟨t, z, q⟩, c, u, h⟩ x = so0 := by unfold trimV; rw [ho]; rfl
    have hc : trimC ⟨⟨t, z, q⟩, c, u, h⟩ x = 0 := by unfold trimC; rw [ho]; rfl
    rw [hv, ho, hc]
    clear hv ho hc
    dsimp only [so0, sw0]
    generalize dropC ⟨t, z, q⟩ x = dc at HD
    generalize dropV ⟨t, z, q⟩ x = dv at HD
    obtain ⟨dt, dz, dq⟩ := dv
    dsimp only at HD
    have c111_T_0 := HX_T.out.at 0 (v := .int .i64 t) rfl
    have c111_T_1 := HX_T.out.at 1 (v := .int .i64 z) rfl
    have c111_T_2 := HX_T.out.at 2 (v := .slice a q.length cap) rfl
    have c111_T_3 := HX_T.out.at 3 (v := .int .i64 c) rfl
    have c111_T_4 := HX_T.out.at 4 (v := .int .i64 u) rfl
    have c111_T_5 := HX_T.out.at 5 (v := .slice b h.length caph) rfl
    have c112_A_0 := HX_A.out.at 0 (v := .int .i64 0) rfl
    have c112_A_1 := HX_A.out.at 1 (v := .int .i64 0) rfl
    have c112_A_2 := HX_A.out.at 2 (v := .slice none 0 0) rfl
    have c112_A_3 := HX_A.out.at 3 (v := .int .i64 0) rfl
    have c112_A_4 := HX_A.out.at 4 (v := .int .i64 0) rfl
    have c112_A_5 := HX_A.out.at 5 (v := .slice none 0 0) rfl
    go_enter Try.func13, Try.ntmps13
    go_upto_region 1 with fail
    rw [← HW0.out, ← HR_A.out, ← HR_T.out]
    go_wp2_with fail
    refine (HG.out _ (HP.out.below HB0.out (Nat.le_refl _)) (HH.out.below HB0.out (Nat.le_refl _))).mono ?_
    rintro e W113 ⟨rfl, l113⟩
    clear c111_T_0 c111_T_1 c111_T_2 c111_T_3 c111_T_4 c111_T_5
    clear c112_A_0 c112_A_1 c112_A_2 c112_A_3 c112_A_4 c112_A_5
    have HB_114 := Lib.hid (HB0.out.trans (l113.mono HB0.out.size))
    have T_114 := Lib.hid (HX_T.out.below l113 HX_T.out.lt)
    have A_114 := Lib.hid (HX_A.out.below l113 HX_A.out.lt)
    clear l113
    have c115_T_0 := T_114.out.at 0 (v := .int .i64 t) rfl
    have c115_T_1 := T_114.out.at 1 (v := .int .i64 z) rfl
    have c115_T_2 := T_114.out.at 2 (v := .slice a q.length cap) rfl
    have c115_T_3 := T_114.out.at 3 (v := .int .i64 c) rfl
    have c115_T_4 := T_114.out.at 4 (v := .int .i64 u) rfl
    have c115_T_5 := T_114.out.at 5 (v := .slice b h.length caph) rfl
    have c116_A_0 := A_114.out.at 0 (v := .int .i64 0) rfl
    have c116_A_1 := A_114.out.at 1 (v := .int .i64 0) rfl
    have c116_A_2 := A_114.out.at 2 (v := .slice none 0 0) rfl
    have c116_A_3 := A_114.out.at 3 (v := .int .i64 0) rfl
    have c116_A_4 := A_114.out.at 4 (v := .int .i64 0) rfl
    have c116_A_5 := A_114.out.at 5 (v := .slice none 0 0) rfl
    have fr117_A_0 := A_114.out.free 0
    have fr117_A_1 := A_114.out.free 1
    have fr117_A_2 := A_114.out.free 2
    have fr117_A_3 := A_114.out.free 3
    have fr117_A_4 := A_114.out.free 4
    have fr117_A_5 := A_114.out.free 5
    go_wp2_with fail
    obtain ⟨p1, q1⟩ := A_114.out.store6 (.int .i64 0) (.int .i64 0) (.slice none 0 0) (.int .i64 0) (.int .i64 0) (.slice none 0 0)
    exact bodyPost_ret (results_bx2 rfl isSo _ _ R_A rfl rfl rfl rfl p1) rfl ⟨_, _, rfl, World.ownsRow_nil _ _ _ _, World.ownsRow_nil _ _ _ _, (fun k h => by cases h), (HB_114.out.grown q1 HB_114.out.size (fun k hk => by have e2 : R_A = k := Option.some.inj hk; have := HR_A.out; omega))⟩
  | true =>
    rw [ok] at HG
    cases od : dropOk ⟨t, z, q⟩ x with
    | false =>
      rw [od] at HD
      have ho : trimOk ⟨⟨t, z, q⟩, c, u, h⟩ x = false := by unfold trimOk; rw [ok]; exact od
      have hv : trimV ⟨⟨t, z, q⟩, c, u, h⟩ x = so0 := by unfold trimV; rw [ho]; rfl
      have hc : trimC ⟨⟨t, z, q⟩, c, u, h⟩ x = 0 := by unfold trimC; rw [ho]; rfl
      rw [hv, ho, hc]
      clear hv ho hc
      dsimp only [so0, sw0]
      generalize dropC ⟨t, z, q⟩ x = dc at HD
      generalize dropV ⟨t, z, q⟩ x = dv at HD
      obtain ⟨dt, dz, dq⟩ := dv
      dsimp only at HD
      have c118_T_0 := HX_T.out.at 0 (v := .int .i64 t) rfl
      have c118_T_1 := HX_T.out.at 1 (v := .int .i64 z) rfl
      have c118_T_2 := HX_T.out.at 2 (v := .slice a q.length cap) rfl
      have c118_T_3 := HX_T.out.at 3 (v := .int .i64 c) rfl
      have c118_T_4 := HX_T.out.at 4 (v := .int .i64 u) rfl
      have c118_T_5 := HX_T.out.at 5 (v := .slice b h.length caph) rfl
      have c119_A_0 := HX_A.out.at 0 (v := .int .i64 0) rfl
      have c119_A_1 := HX_A.out.at 1 (v := .int .i64 0) rfl
      have c119_A_2 := HX_A.out.at 2 (v := .slice none 0 0) rfl
      have c119_A_3 := HX_A.out.at 3 (v := .int .i64 0) rfl
      have c119_A_4 := HX_A.out.at 4 (v := .int .i64 0) rfl
      have c119_A_5 := HX_A.out.at 5 (v := .slice none 0 0) rfl
      go_enter Try.func13, Try.ntmps13
      go_upto_region 1 with fail
      rw [← HW0.out, ← HR_A.out, ← HR_T.out]
      go_wp2_with fail
      refine (HG.out _ (HP.out.below HB0.out (Nat.le_refl _)) (HH.out.below HB0.out (Nat.le_refl _))).mono ?_
      rintro e W120 ⟨rfl, l120⟩
      clear c118_T_0 c118_T_1 c118_T_2 c118_T_3 c118_T_4 c118_T_5
      clear c119_A_0 c119_A_1 c119_A_2 c119_A_3 c119_A_4 c119_A_5
      have HB_121 := Lib.hid (HB0.out.trans (l120.mono HB0.out.size))
      have T_121 := Lib.hid (HX_T.out.below l120 HX_T.out.lt)
      have A_121 := Lib.hid (HX_A.out.below l120 HX_A.out.lt)
      clear l120
      have c122_T_0 := T_121.out.at 0 (v := .int .i64 t) rfl
      have c122_T_1 := T_121.out.at 1 (v := .int .i64 z) rfl
      have c122_T_2 := T_121.out.at 2 (v := .slice a q.length cap) rfl
      have c122_T_3 := T_121.out.at 3 (v := .int .i64 c) rfl
      have c122_T_4 := T_121.out.at 4 (v := .int .i64 u) rfl
      have c122_T_5 := T_121.out.at 5 (v := .slice b h.length caph) rfl
      have c123_A_0 := A_121.out.at 0 (v := .int .i64 0) rfl
      have c123_A_1 := A_121.out.at 1 (v := .int .i64 0) rfl
      have c123_A_2 := A_121.out.at 2 (v := .slice none 0 0) rfl
      have c123_A_3 := A_121.out.at 3 (v := .int .i64 0) rfl
      have c123_A_4 := A_121.out.at 4 (v := .int .i64 0) rfl
      have c123_A_5 := A_121.out.at 5 (v := .slice none 0 0) rfl
      go_wp2_with fail
      refine (HD.out _ (HP.out.below HB_121.out (Nat.le_refl _))).mono ?_
      rintro e W124 ⟨v_y, rfl, o_y, l124⟩
      obtain ⟨a_y, c_y, rfl, _, _⟩ := ownz_slice o_y
      have O_y := Lib.hid (ownz_base o_y HB_121.out.size)
      have BX_T_y : Hid (∀ k, (.slice a_y dq.length c_y : Value).ownBlock = some k → k ≠ R_T) := Lib.hid (fun k h1 h2 => absurd T_121.out.lt (Nat.not_lt.2 (by rw [← h2]; exact (o_y.lt k h1).1)))
      have BX_A_y : Hid (∀ k, (.slice a_y dq.length c_y : Value).ownBlock = some k → k ≠ R_A) := Lib.hid (fun k h1 h2 => absurd A_121.out.lt (Nat.not_lt.2 (by rw [← h2]; exact (o_y.lt k h1).1)))
      clear o_y
      clear c122_T_0 c122_T_1 c122_T_2 c122_T_3 c122_T_4 c122_T_5
      clear c123_A_0 c123_A_1 c123_A_2 c123_A_3 c123_A_4 c123_A_5
      have HB_125 := Lib.hid (HB_121.out.trans (l124.mono HB_121.out.size))
      have T_125 := Lib.hid (T_121.out.below l124 T_121.out.lt)
      clear T_121
      have A_125 := Lib.hid (A_121.out.below l124 A_121.out.lt)
      clear A_121
      clear l124
      have c126_T_0 := T_125.out.at 0 (v := .int .i64 t) rfl
      have c126_T_1 := T_125.out.at 1 (v := .int .i64 z) rfl
      have c126_T_2 := T_125.out.at 2 (v := .slice a q.length cap) rfl
      have c126_T_3 := T_125.out.at 3 (v := .int .i64 c) rfl
      have c126_T_4 := T_125.out.at 4 (v := .int .i64 u) rfl
      have c126_T_5 := T_125.out.at 5 (v := .slice b h.length caph) rfl
      have c127_A_0 := A_125.out.at 0 (v := .int .i64 0) rfl
      have c127_A_1 := A_125.out.at 1 (v := .int .i64 0) rfl
      have c127_A_2 := A_125.out.at 2 (v := .slice none 0 0) rfl
      have c127_A_3 := A_125.out.at 3 (v := .int .i64 0) rfl
      have c127_A_4 := A_125.out.at 4 (v := .int .i64 0) rfl
      have c127_A_5 := A_125.out.at 5 (v := .slice none 0 0) rfl
      go_upto_region 4 with fail
      obtain ⟨W128, hW128⟩ : ∃ W128, W128 = W124.alloc (.cells #[.int .i64 dt, .int .i64 dz, .slice a_y dq.length c_y] 26) := ⟨_, rfl⟩
      have l128 : Below W124.heap.size W124 W128 := by rw [hW128]; exact (Below.refl _ _).alloc (Nat.le_refl _) _
      have X128_U : Hid (Bx W128 W124.heap.size #[.int .i64 dt, .int .i64 dz, .slice a_y dq.length c_y] 26) := Lib.hid (by rw [hW128]; exact Bx.new _ _ _)
      rw [← hW128]
      clear hW128
      have BX_U_y : Hid (∀ k, (.slice a_y dq.length c_y : Value).ownBlock = some k → k ≠ W124.heap.size) := Lib.hid (fun k h1 h2 => absurd (O_y.out.lt k h1).2 (by omega))
      have HG_U : Hid (w.heap.size ≤ W124.heap.size) := Lib.hid HB_125.out.size
      have HN_U_T : Hid (R_T < W124.heap.size) := Lib.hid T_125.out.lt
      have HN_U_A : Hid (R_A < W124.heap.size) := Lib.hid A_125.out.lt
      obtain ⟨R_U, hR_U⟩ : ∃ X, X = W124.heap.size := ⟨_, rfl⟩
      rw [← hR_U] at X128_U HG_U BX_U_y HN_U_T HN_U_A ⊢
      clear hR_U
      clear c126_T_0 c126_T_1 c126_T_2 c126_T_3 c126_T_4 c126_T_5
      clear c127_A_0 c127_A_1 c127_A_2 c127_A_3 c127_A_4 c127_A_5
      have HB_129 := Lib.hid (HB_125.out.trans (l128.mono HB_125.out.size))
      have y_129 := Lib.hid (ownz_below O_y.out l128 (Nat.le_refl _))
      clear O_y
      have T_129 := Lib.hid (T_125.out.below l128 T_125.out.lt)
      clear T_125
      have A_129 := Lib.hid (A_125.out.below l128 A_125.out.lt)
      clear A_125
      clear l128
      have c130_T_0 := T_129.out.at 0 (v := .int .i64 t) rfl
      have c130_T_1 := T_129.out.at 1 (v := .int .i64 z) rfl
      have c130_T_2 := T_129.out.at 2 (v := .slice a q.length cap) rfl
      have c130_T_3 := T_129.out.at 3 (v := .int .i64 c) rfl
      have c130_T_4 := T_129.out.at 4 (v := .int .i64 u) rfl
      have c130_T_5 := T_129.out.at 5 (v := .slice b h.length caph) rfl
      have c131_A_0 := A_129.out.at 0 (v := .int .i64 0) rfl
      have c131_A_1 := A_129.out.at 1 (v := .int .i64 0) rfl
      have c131_A_2 := A_129.out.at 2 (v := .slice none 0 0) rfl
      have c131_A_3 := A_129.out.at 3 (v := .int .i64 0) rfl
      have c131_A_4 := A_129.out.at 4 (v := .int .i64 0) rfl
      have c131_A_5 := A_129.out.at 5 (v := .slice none 0 0) rfl
      have c132_U_0 := X128_U.out.at 0 (v := .int .i64 dt) rfl
      have c132_U_1 := X128_U.out.at 1 (v := .int .i64 dz) rfl
      have c132_U_2 := X128_U.out.at 2 (v := .slice a_y dq.length c_y) rfl
      have fr133_A_0 := A_129.out.free 0
      have fr133_A_1 := A_129.out.free 1
      have fr133_A_2 := A_129.out.free 2
      have fr133_A_3 := A_129.out.free 3
      have fr133_A_4 := A_129.out.free 4
      have fr133_A_5 := A_129.out.free 5
      go_wp2_with fail
      obtain ⟨p1, q1⟩ := A_129.out.store6 (.int .i64 0) (.int .i64 0) (.slice none 0 0) (.int .i64 0) (.int .i64 0) (.slice none 0 0)
      exact bodyPost_ret (results_bx2 rfl isSo _ _ R_A rfl rfl rfl rfl p1) rfl ⟨_, _, rfl, World.ownsRow_nil _ _ _ _, World.ownsRow_nil _ _ _ _, (fun k h => by cases h), (HB_129.out.grown q1 HB_129.out.size (fun k hk => by have e2 : R_A = k := Option.some.inj hk; have := HR_A.out; omega))⟩
    | true =>
      rw [od] at HD
      have ho : trimOk ⟨⟨t, z, q⟩, c, u, h⟩ x = true := by unfold trimOk; rw [ok]; exact od
      have hv : trimV ⟨⟨t, z, q⟩, c, u, h⟩ x = ⟨dropV ⟨t, z, q⟩ x, c, u, keepH (dropV ⟨t, z, q⟩ x) c h⟩ := if_pos ho
      have hc : trimC ⟨⟨t, z, q⟩, c, u, h⟩ x = dropC ⟨t, z, q⟩ x := if_pos ho
      rw [hv, ho, hc]
      dsimp only
      have hs : ∀ x ∈ h, serB x.n = true := fun x hx => (hd1_iff.1 ((soOk_iff.1 ok).2.2.2.1 x hx)).1
      have HSe := Lib.hid hs
      have hl := (soOk_len ok).1
      dsimp only at hl
      have hdo := (dropV_t od).1
      have hdt := (swOk_iff.1 hdo).1
      have HOk := Lib.hid ok
      have HDo := Lib.hid hdo
      clear hs hdo
      have HWo : Hid True := Lib.hid trivial
      generalize dropC ⟨t, z, q⟩ x = dc at HD ⊢
      generalize dropV ⟨t, z, q⟩ x = dv at HD hdt HDo ⊢
      obtain ⟨dt, dz, dq⟩ := dv
      dsimp only at HD hdt HDo ⊢
      have HDt := Lib.hid hdt
      clear hdt hv hc ho ok od HWo
      have HWi := Lib.hid (fun (W1 : World) (v2 : Value) (hr : Row W1 (.slice a q.length cap) q.length (q.map Value.string)) (hh : Row W1 (.slice b h.length caph) h.length (hdF h)) (h2 : Row W1 v2 dq.length (dq.map Value.string)) => withWin_any (.slice a q.length cap) (.slice b h.length caph) ⟨⟨t, z, q⟩, c, u, h⟩ v2 ⟨dt, dz, dq⟩ W1 hr hh h2 HFh.out HOk.out HDo.out)
      dsimp only at HWi
      generalize keepH ⟨dt, dz, dq⟩ c h = kp at HWi ⊢
      have c134_T_0 := HX_T.out.at 0 (v := .int .i64 t) rfl
      have c134_T_1 := HX_T.out.at 1 (v := .int .i64 z) rfl
      have c134_T_2 := HX_T.out.at 2 (v := .slice a q.length cap) rfl
      have c134_T_3 := HX_T.out.at 3 (v := .int .i64 c) rfl
      have c134_T_4 := HX_T.out.at 4 (v := .int .i64 u) rfl
      have c134_T_5 := HX_T.out.at 5 (v := .slice b h.length caph) rfl
      have c135_A_0 := HX_A.out.at 0 (v := .int .i64 0) rfl
      have c135_A_1 := HX_A.out.at 1 (v := .int .i64 0) rfl
      have c135_A_2 := HX_A.out.at 2 (v := .slice none 0 0) rfl
      have c135_A_3 := HX_A.out.at 3 (v := .int .i64 0) rfl
      have c135_A_4 := HX_A.out.at 4 (v := .int .i64 0) rfl
      have c135_A_5 := HX_A.out.at 5 (v := .slice none 0 0) rfl
      go_enter Try.func13, Try.ntmps13
      go_upto_region 1 with fail
      rw [← HW0.out, ← HR_A.out, ← HR_T.out]
      go_wp2_with fail
      refine (HG.out _ (HP.out.below HB0.out (Nat.le_refl _)) (HH.out.below HB0.out (Nat.le_refl _))).mono ?_
      rintro e W136 ⟨rfl, l136⟩
      clear c134_T_0 c134_T_1 c134_T_2 c134_T_3 c134_T_4 c134_T_5
      clear c135_A_0 c135_A_1 c135_A_2 c135_A_3 c135_A_4 c135_A_5
      have HB_137 := Lib.hid (HB0.out.trans (l136.mono HB0.out.size))
      have T_137 := Lib.hid (HX_T.out.below l136 HX_T.out.lt)
      have A_137 := Lib.hid (HX_A.out.below l136 HX_A.out.lt)
      clear l136
      have c138_T_0 := T_137.out.at 0 (v := .int .i64 t) rfl
      have c138_T_1 := T_137.out.at 1 (v := .int .i64 z) rfl
      have c138_T_2 := T_137.out.at 2 (v := .slice a q.length cap) rfl
      have c138_T_3 := T_137.out.at 3 (v := .int .i64 c) rfl
      have c138_T_4 := T_137.out.at 4 (v := .int .i64 u) rfl
      have c138_T_5 := T_137.out.at 5 (v := .slice b h.length caph) rfl
      have c139_A_0 := A_137.out.at 0 (v := .int .i64 0) rfl
      have c139_A_1 := A_137.out.at 1 (v := .int .i64 0) rfl
      have c139_A_2 := A_137.out.at 2 (v := .slice none 0 0) rfl
      have c139_A_3 := A_137.out.at 3 (v := .int .i64 0) rfl
      have c139_A_4 := A_137.out.at 4 (v := .int .i64 0) rfl
      have c139_A_5 := A_137.out.at 5 (v := .slice none 0 0) rfl
      go_wp2_with fail
      refine (HD.out _ (HP.out.below HB_137.out (Nat.le_refl _))).mono ?_
      rintro e W140 ⟨v_y, rfl, o_y, l140⟩
      obtain ⟨a_y, c_y, rfl, _, _⟩ := ownz_slice o_y
      have O_y := Lib.hid (ownz_base o_y HB_137.out.size)
      have BX_T_y : Hid (∀ k, (.slice a_y dq.length c_y : Value).ownBlock = some k → k ≠ R_T) := Lib.hid (fun k h1 h2 => absurd T_137.out.lt (Nat.not_lt.2 (by rw [← h2]; exact (o_y.lt k h1).1)))
      have BX_A_y : Hid (∀ k, (.slice a_y dq.length c_y : Value).ownBlock = some k → k ≠ R_A) := Lib.hid (fun k h1 h2 => absurd A_137.out.lt (Nat.not_lt.2 (by rw [← h2]; exact (o_y.lt k h1).1)))
      clear o_y
      clear c138_T_0 c138_T_1 c138_T_2 c138_T_3 c138_T_4 c138_T_5
      clear c139_A_0 c139_A_1 c139_A_2 c139_A_3 c139_A_4 c139_A_5
      have HB_141 := Lib.hid (HB_137.out.trans (l140.mono HB_137.out.size))
      have T_141 := Lib.hid (T_137.out.below l140 T_137.out.lt)
      clear T_137
      have A_141 := Lib.hid (A_137.out.below l140 A_137.out.lt)
      clear A_137
      clear l140
      have c142_T_0 := T_141.out.at 0 (v := .int .i64 t) rfl
      have c142_T_1 := T_141.out.at 1 (v := .int .i64 z) rfl
      have c142_T_2 := T_141.out.at 2 (v := .slice a q.length cap) rfl
      have c142_T_3 := T_141.out.at 3 (v := .int .i64 c) rfl
      have c142_T_4 := T_141.out.at 4 (v := .int .i64 u) rfl
      have c142_T_5 := T_141.out.at 5 (v := .slice b h.length caph) rfl
      have c143_A_0 := A_141.out.at 0 (v := .int .i64 0) rfl
      have c143_A_1 := A_141.out.at 1 (v := .int .i64 0) rfl
      have c143_A_2 := A_141.out.at 2 (v := .slice none 0 0) rfl
      have c143_A_3 := A_141.out.at 3 (v := .int .i64 0) rfl
      have c143_A_4 := A_141.out.at 4 (v := .int .i64 0) rfl
      have c143_A_5 := A_141.out.at 5 (v := .slice none 0 0) rfl
      go_upto_region 4 with fail
      obtain ⟨W144, hW144⟩ : ∃ W144, W144 = W140.alloc (.cells #[.int .i64 dt, .int .i64 dz, .slice a_y dq.length c_y] 26) := ⟨_, rfl⟩
      have l144 : Below W140.heap.size W140 W144 := by rw [hW144]; exact (Below.refl _ _).alloc (Nat.le_refl _) _
      have X144_U : Hid (Bx W144 W140.heap.size #[.int .i64 dt, .int .i64 dz, .slice a_y dq.length c_y] 26) := Lib.hid (by rw [hW144]; exact Bx.new _ _ _)
      rw [← hW144]
      clear hW144
      have BX_U_y : Hid (∀ k, (.slice a_y dq.length c_y : Value).ownBlock = some k → k ≠ W140.heap.size) := Lib.hid (fun k h1 h2 => absurd (O_y.out.lt k h1).2 (by omega))
      have HG_U : Hid (w.heap.size ≤ W140.heap.size) := Lib.hid HB_141.out.size
      have HN_U_T : Hid (R_T < W140.heap.size) := Lib.hid T_141.out.lt
      have HN_U_A : Hid (R_A < W140.heap.size) := Lib.hid A_141.out.lt
      obtain ⟨R_U, hR_U⟩ : ∃ X, X = W140.heap.size := ⟨_, rfl⟩
      rw [← hR_U] at X144_U HG_U BX_U_y HN_U_T HN_U_A ⊢
      clear hR_U
      clear c142_T_0 c142_T_1 c142_T_2 c142_T_3 c142_T_4 c142_T_5
      clear c143_A_0 c143_A_1 c143_A_2 c143_A_3 c143_A_4 c143_A_5
      have HB_145 := Lib.hid (HB_141.out.trans (l144.mono HB_141.out.size))
      have y_145 := Lib.hid (ownz_below O_y.out l144 (Nat.le_refl _))
      clear O_y
      have T_145 := Lib.hid (T_141.out.below l144 T_141.out.lt)
      clear T_141
      have A_145 := Lib.hid (A_141.out.below l144 A_141.out.lt)
      clear A_141
      clear l144
      have c146_T_0 := T_145.out.at 0 (v := .int .i64 t) rfl
      have c146_T_1 := T_145.out.at 1 (v := .int .i64 z) rfl
      have c146_T_2 := T_145.out.at 2 (v := .slice a q.length cap) rfl
      have c146_T_3 := T_145.out.at 3 (v := .int .i64 c) rfl
      have c146_T_4 := T_145.out.at 4 (v := .int .i64 u) rfl
      have c146_T_5 := T_145.out.at 5 (v := .slice b h.length caph) rfl
      have c147_A_0 := A_145.out.at 0 (v := .int .i64 0) rfl
      have c147_A_1 := A_145.out.at 1 (v := .int .i64 0) rfl
      have c147_A_2 := A_145.out.at 2 (v := .slice none 0 0) rfl
      have c147_A_3 := A_145.out.at 3 (v := .int .i64 0) rfl
      have c147_A_4 := A_145.out.at 4 (v := .int .i64 0) rfl
      have c147_A_5 := A_145.out.at 5 (v := .slice none 0 0) rfl
      have c148_U_0 := X144_U.out.at 0 (v := .int .i64 dt) rfl
      have c148_U_1 := X144_U.out.at 1 (v := .int .i64 dz) rfl
      have c148_U_2 := X144_U.out.at 2 (v := .slice a_y dq.length c_y) rfl
      go_wp2_with fail
      refine (HWi.out _ _ (HP.out.below HB_145.out (Nat.le_refl _)) (HH.out.below HB_145.out (Nat.le_refl _)) (rowz_own y_145.out)).mono ?_
      rintro e W149 ⟨v_k, rfl, o_k, l149⟩
      obtain ⟨a_k, c_k, rfl, _, _⟩ := ownz_slice o_k
      have AP_y_k : Hid (∀ k, (.slice a_y dq.length c_y : Value).ownBlock = some k → (.slice a_k kp.length c_k : Value).ownBlock ≠ some k) := Lib.hid (fun k h1 h2 => absurd (y_145.out.lt k h1).2 (Nat.not_lt.2 (o_k.lt k h2).1))
      have O_k := Lib.hid (ownz_base o_k HB_145.out.size)
      have BX_T_k : Hid (∀ k, (.slice a_k kp.length c_k : Value).ownBlock = some k → k ≠ R_T) := Lib.hid (fun k h1 h2 => absurd T_145.out.lt (Nat.not_lt.2 (by rw [← h2]; exact (o_k.lt k h1).1)))
      have BX_A_k : Hid (∀ k, (.slice a_k kp.length c_k : Value).ownBlock = some k → k ≠ R_A) := Lib.hid (fun k h1 h2 => absurd A_145.out.lt (Nat.not_lt.2 (by rw [← h2]; exact (o_k.lt k h1).1)))
      have BX_U_k : Hid (∀ k, (.slice a_k kp.length c_k : Value).ownBlock = some k → k ≠ R_U) := Lib.hid (fun k h1 h2 => absurd X144_U.out.lt (Nat.not_lt.2 (by rw [← h2]; exact (o_k.lt k h1).1)))
      clear o_k
      clear c146_T_0 c146_T_1 c146_T_2 c146_T_3 c146_T_4 c146_T_5
      clear c147_A_0 c147_A_1 c147_A_2 c147_A_3 c147_A_4 c147_A_5
      clear c148_U_0 c148_U_1 c148_U_2
      have HB_150 := Lib.hid (HB_145.out.trans (l149.mono HB_145.out.size))
      have y_150 := Lib.hid (ownz_below y_145.out l149 (Nat.le_refl _))
      clear y_145
      have T_150 := Lib.hid (T_145.out.below l149 T_145.out.lt)
      clear T_145
      have A_150 := Lib.hid (A_145.out.below l149 A_145.out.lt)
      clear A_145
      have U_150 := Lib.hid (X144_U.out.below l149 X144_U.out.lt)
      clear X144_U
      clear l149
      have c151_T_0 := T_150.out.at 0 (v := .int .i64 t) rfl
      have c151_T_1 := T_150.out.at 1 (v := .int .i64 z) rfl
      have c151_T_2 := T_150.out.at 2 (v := .slice a q.length cap) rfl
      have c151_T_3 := T_150.out.at 3 (v := .int .i64 c) rfl
      have c151_T_4 := T_150.out.at 4 (v := .int .i64 u) rfl
      have c151_T_5 := T_150.out.at 5 (v := .slice b h.length caph) rfl
      have c152_A_0 := A_150.out.at 0 (v := .int .i64 0) rfl
      have c152_A_1 := A_150.out.at 1 (v := .int .i64 0) rfl
      have c152_A_2 := A_150.out.at 2 (v := .slice none 0 0) rfl
      have c152_A_3 := A_150.out.at 3 (v := .int .i64 0) rfl
      have c152_A_4 := A_150.out.at 4 (v := .int .i64 0) rfl
      have c152_A_5 := A_150.out.at 5 (v := .slice none 0 0) rfl
      have c153_U_0 := U_150.out.at 0 (v := .int .i64 dt) rfl
      have c153_U_1 := U_150.out.at 1 (v := .int .i64 dz) rfl
      have c153_U_2 := U_150.out.at 2 (v := .slice a_y dq.length c_y) rfl
      have fr154_A_0 := A_150.out.free 0
      have fr154_A_1 := A_150.out.free 1
      have fr154_A_2 := A_150.out.free 2
      have fr154_A_3 := A_150.out.free 3
      have fr154_A_4 := A_150.out.free 4
      have fr154_A_5 := A_150.out.free 5
      go_wp2_with fail
      obtain ⟨p1, q1⟩ := A_150.out.store6 (.int .i64 dt) (.int .i64 dz) (.slice a_y dq.length c_y) (.int .i64 c) (.int .i64 u) (.slice a_k kp.length c_k)
      exact bodyPost_ret (results_bx2 rfl isSo _ _ R_A rfl rfl rfl rfl p1) rfl ⟨_, _, rfl, (y_150.out.kept q1 (by
        cases hv : (.slice a_y dq.length c_y : Value).ownBlock with
        | none => exact .inl rfl
        | some k => exact .inr (fun e => BX_A_y.out k hv (Option.some.inj e)))), (O_k.out.kept q1 (by
        cases hv : (.slice a_k kp.length c_k : Value).ownBlock with
        | none => exact .inl rfl
        | some k => exact .inr (fun e => BX_A_k.out k hv (Option.some.inj e)))), AP_y_k.out, (HB_150.out.grown q1 HB_150.out.size (fun k hk => by have e2 : R_A = k := Option.some.inj hk; have := HR_A.out; omega))⟩
end Go.Proofs.Ytlendmiolhgecaa
