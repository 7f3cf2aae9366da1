/-
  The law of giving up: what is given up is released or lost.
-/
import Derived.Test.YtpmjdppipalfcaaDrawRcv
import Derived.Test.YtpmjdppipalfcaaTl1
import Derived.Test.YtpmjdppipalfcaaRcvI
import Derived.Test.YtpmjdppipalfcaaRcvI4
import Derived.Test.YtpmjdppipalfcaaRcvI5
import Derived.Test.YtpmjdppipalfcaaRcv2
import Derived.Test.YtpmjdppipalfcaaRcv8
import Derived.Test.YtpmjdppipalfcaaSer3
import Derived.Deep.CutRange
import Derived.BigQuiet
import Derived.WalkLawsBesides
import Derived.Deep.RegionHeld3
namespace Go.Proofs.Ytpmjdppipalfcaa
open Go.RowKit Go.Lib Go.Joins
set_option linter.unusedVariables false

set_option maxRecDepth 100000 in
set_option maxHeartbeats 2000000 in
theorem ahead_any (B m : Nat) (z : List Int) (y : Value) (t : Int) (w : World) (h : Cu w B z m) (hm : m ≤ 600000) :
    Calls Try.prog 72 #[.pointer (some ⟨B, 0, none⟩), .agg #[.int .i64 t, y]] w fun e w' => ∃ x : Int, (-1 ≤ x ∧ x ≤ 65536) ∧ e = .returned (.int .i64 x) ∧ Cu w' B z (m + 20) ∧ w.grownBy w' (some B) := by
  obtain ⟨W0, R_T, hW0, hR_T, hX_T, hB0⟩ := entry1 w #[.int .i64 t, y] 26
  have HW0 := Lib.hid hW0
  have HB0 := Lib.hid hB0
  have HR_T := Lib.hid hR_T
  have HX_T := Lib.hid hX_T
  clear hW0 hB0 hR_T hX_T
  have hBT : B < R_T := by have := h.lt; have := HR_T.out; omega
  have HBT := Lib.hid hBT
  have HGr : Hid (w.grownBy W0 (some B)) := Lib.hid (by rw [HW0.out]; exact World.grownBy_alloc _ _ _)
  have HC := Lib.hid (h.grown (show w.grownBy W0 none by rw [HW0.out]; exact World.grownBy_alloc _ _ _))
  have HSer := Lib.hid (fun (W1 : World) => l2Good_any t W1)
  clear h hBT
  cases hs : serB t with
  | false =>
    rw [hs] at HSer
    have c1_T_0 := HX_T.out.at 0 (v := .int .i64 t) rfl
    have c1_T_1 := HX_T.out.at 1 (v := y) rfl
    go_enter Try.func72, Try.ntmps72
    go_upto_region 1 with fail
    rw [← HW0.out, ← HR_T.out]
    go_wp2_with fail
    refine (HSer.out _).mono ?_
    rintro e _ ⟨rfl, rfl⟩
    go_wp2_with fail
    refine (anySerial_any B m z _ HC.out (by omega)).mono ?_
    rintro e w5 ⟨x, hx0, hx1, rfl, hc, hg⟩
    have HG5 := Lib.hid (g_trans HGr.out hg)
    have HC5 := Lib.hid hc
    clear hc hg
    go_wp2_with fail
    go_ret
    exact ⟨x, ⟨by omega, by omega⟩, rfl, HC5.out.mono (by omega), HG5.out⟩
  | true =>
    rw [hs] at HSer
    obtain ⟨t0, t1⟩ := serB_bd hs
    have c2_T_0 := HX_T.out.at 0 (v := .int .i64 t) rfl
    have c2_T_1 := HX_T.out.at 1 (v := y) rfl
    go_enter Try.func72, Try.ntmps72
    go_upto_region 1 with fail
    rw [← HW0.out, ← HR_T.out]
    go_wp2_with fail
    refine (HSer.out _).mono ?_
    rintro e _ ⟨rfl, rfl⟩
    go_wp2_with fail
    refine (one_any B m 12 z _ HC.out (by omega) (by omega) (by omega)).mono ?_
    rintro e w4 ⟨b, rfl, hc, hg⟩
    have HG4 := Lib.hid (g_trans HGr.out hg)
    have HT4 := Lib.hid (HX_T.out.grown hg (fun e => by have e2 : R_T = B := Option.some.inj e; have := HBT.out; omega))
    have HC4 := Lib.hid hc
    clear hc hg
    clear c2_T_0 c2_T_1
    cases b with
    | true =>
      go_wp2_with fail
      refine (anySerial_any B (m + 2) z _ HC4.out (by omega)).mono ?_
      rintro e w5 ⟨x, hx0, hx1, rfl, hc, hg⟩
      have HG5 := Lib.hid (g_trans HG4.out hg)
      have HC5 := Lib.hid hc
      clear hc hg
      go_wp2_with fail
      go_ret
      exact ⟨x, ⟨by omega, by omega⟩, rfl, HC5.out.mono (by omega), HG5.out⟩
    | false =>
      have x0 := HT4.out.at 0 (v := .int .i64 t) rfl
      have x1 := HT4.out.at 1 (v := y) rfl
      go_upto_region 3 with fail
      have HCd := Lib.hid (HC4.out.grown (gdrewB _ _))
      have HTd := Lib.hid (HT4.out.drew)
      have xd0 := HTd.out.at 0 (v := .int .i64 t) rfl
      have xd1 := HTd.out.at 1 (v := y) rfl
      go_region_law (first
        | (go_simp; go_at_call 82; refine (pick_any B (m + 2) 12 z _ HCd.out (by omega) (by omega) (by omega)).mono ?_; rintro e w5 ⟨y5, hy, rfl, hc, hg⟩; have HG5 := Lib.hid (g_trans HG4.out (g_trans (gdrewB _ _) hg)); have HT5 := Lib.hid (HTd.out.grown hg (fun e => by have e2 : R_T = B := Option.some.inj e; have := HBT.out; omega)); have HC5 := Lib.hid hc; have xe0 := HT5.out.at 0 (v := .int .i64 t) rfl; have hw2 : IntKind.i64.wrap ((y5 : Int) - 2) = (y5 : Int) - 2 := IntWalk.i64_in _ (by omega); clear hc hg; dsimp only)
        | (go_simp; go_at_call 59; refine (l2After_any t ((y5 : Int) - 2) _ t0 t1 (by omega) (by omega)).mono ?_; rintro e _ ⟨rfl, rfl⟩; dsimp only))
      all_goals go_wp2_with fail
      all_goals go_ret
      all_goals exact ⟨_, (by have := aftI_bd t ((y5 : Int) - 2); omega), rfl, HC5.out.mono (by omega), HG5.out⟩
set_option maxRecDepth 100000 in
set_option maxHeartbeats 2000000 in
theorem drawRcvOk_any (v : Value) (z : List Int) (w : World) (hrow : Row w v z.length (z.map (Value.int .u8))) (hz : ∀ x ∈ z, 0 ≤ x ∧ x < 256) :
    Calls Try.prog 57 #[v] w fun e w' => ∃ (v' : Value) (l : Rw), e = .returned (.agg #[.int .i64 l.x, v']) ∧ w'.ownsRow w.heap.size 66 2 v' l.q.length (slF l.q) ∧ (l.q.length ≤ 9 ∧ ∀ s ∈ l.q, s.s.size ≤ 9) ∧ Below w.heap.size w w' := by
  obtain ⟨a0, cap0, rfl, _, _, _⟩ := row_open hrow
  obtain ⟨W0, R_A, R_C, hW0, hR_A, hR_C, hX_A, hX_C, hB0⟩ := entry2 w #[.int .i64 0, .slice none 0 0] #[.slice a0 z.length cap0, .int .i64 0, .int .u64 0] 26 83
  have HW0 := Lib.hid hW0
  have HB0 := Lib.hid hB0
  have HR_A := Lib.hid hR_A
  have HX_A := Lib.hid hX_A
  have HR_C := Lib.hid hR_C
  have HX_C := Lib.hid hX_C
  clear hW0 hB0 hR_A hX_A hR_C hX_C
  have CU0 := Lib.hid (cu_box HX_C.out (by have := HR_C.out; omega) HB0.out hrow hz)
  clear hrow hz
  have c3_A_0 := HX_A.out.at 0 (v := .int .i64 0) rfl
  have c3_A_1 := HX_A.out.at 1 (v := .slice none 0 0) rfl
  go_enter Try.func57, Try.ntmps57
  go_upto_region 2 with fail
  rw [← HW0.out, ← HR_C.out, ← HR_A.out]
  go_wp2_with fail
  refine (receiveWindow_any R_C 0 z _ CU0.out (by omega)).mono ?_
  rintro e W4 ⟨v_l, l, rfl, o_l, hq, hc, hg⟩
  clear c3_A_0 c3_A_1
  obtain ⟨a_l, c_l, rfl, _, _⟩ := ownz_slice o_l
  have O_l := Lib.hid (ownz_base o_l HB0.out.size)
  have BX_A_l : Hid (∀ k, (.slice a_l l.q.length c_l : Value).ownBlock = some k → k ≠ R_A) := Lib.hid (fun k h1 h2 => absurd HX_A.out.lt (Nat.not_lt.2 (by rw [← h2]; exact (o_l.lt k h1).1)))
  have BX_C_l : Hid (∀ k, (.slice a_l l.q.length c_l : Value).ownBlock = some k → k ≠ R_C) := Lib.hid (fun k h1 h2 => absurd CU0.out.lt (Nat.not_lt.2 (by rw [← h2]; exact (o_l.lt k h1).1)))
  clear o_l
  have HB_5 := Lib.hid (HB0.out.grown hg HB0.out.size (fun k hk => by have e2 : R_C = k := Option.some.inj hk; have := HR_C.out; omega))
  have A_5 := Lib.hid (HX_A.out.grown hg (by intro e; have e2 : R_A = R_C := Option.some.inj e; have h1 := HR_A.out; have h2 := HR_C.out; omega))
  have CU_5 := Lib.hid hc
  clear hc hg CU0
  have c6_A_0 := A_5.out.at 0 (v := .int .i64 0) rfl
  have c6_A_1 := A_5.out.at 1 (v := .slice none 0 0) rfl
  have fr7_A_0 := A_5.out.free 0
  have fr7_A_1 := A_5.out.free 1
  go_wp2_with fail
  obtain ⟨p1, q1⟩ := A_5.out.store2 (.int .i64 l.x) (.slice a_l l.q.length c_l)
  refine bodyPost_ret (results_bx rfl isRw _ _ R_A rfl rfl p1) rfl ⟨_, l, rfl, (O_l.out.kept q1 (by
    cases hv : (.slice a_l l.q.length c_l : Value).ownBlock with
    | none => exact .inl rfl
    | some k => exact .inr (fun e => BX_A_l.out k hv (Option.some.inj e)))), hq, (HB_5.out.grown q1 HB_5.out.size (fun k hk => by have e2 : R_A = k := Option.some.inj hk; have := HR_A.out; omega))⟩
set_option maxRecDepth 100000 in
set_option maxHeartbeats 2000000 in
theorem drawHigh10_any (v : Value) (z : List Int) (w : World) (hrow : Row w v z.length (z.map (Value.int .u8))) (hz : ∀ x ∈ z, 0 ≤ x ∧ x < 256) :
    Calls Try.prog 24 #[v] w fun e w' => ∃ (v' : Value) (l : Rw), e = .returned (.agg #[.int .i64 l.x, v']) ∧ w'.ownsRow w.heap.size 66 2 v' l.q.length (slF l.q) ∧ (l.q.length ≤ 9 ∧ ∀ s ∈ l.q, s.s.size ≤ 9) ∧ Below w.heap.size w w' := by
  obtain ⟨a0, cap0, rfl, _, _, _⟩ := row_open hrow
  obtain ⟨W0, R_A, hW0, hR_A, hX_A, hB0⟩ := entry1 w #[.int .i64 0, .slice none 0 0] 26
  have HW0 := Lib.hid hW0
  have HB0 := Lib.hid hB0
  have HR_A := Lib.hid hR_A
  have HX_A := Lib.hid hX_A
  clear hW0 hB0 hR_A hX_A
  have HP := Lib.hid hrow
  have HZz := Lib.hid hz
  clear hrow hz
  have c8_A_0 := HX_A.out.at 0 (v := .int .i64 0) rfl
  have c8_A_1 := HX_A.out.at 1 (v := .slice none 0 0) rfl
  go_enter Try.func24, Try.ntmps24
  go_upto_region 1 with fail
  rw [← HW0.out, ← HR_A.out]
  go_wp2_with fail
  refine (drawRcvOk_any (.slice a0 z.length cap0) z _ (HP.out.below HB0.out (Nat.le_refl _)) HZz.out).mono ?_
  rintro e W9 ⟨v_l, l, rfl, o_l, hq, l9⟩
  obtain ⟨a_l, c_l, rfl, _, _⟩ := ownz_slice o_l
  have O_l := Lib.hid (ownz_base o_l HB0.out.size)
  have BX_A_l : Hid (∀ k, (.slice a_l l.q.length c_l : Value).ownBlock = some k → k ≠ R_A) := Lib.hid (fun k h1 h2 => absurd HX_A.out.lt (Nat.not_lt.2 (by rw [← h2]; exact (o_l.lt k h1).1)))
  clear o_l
  clear c8_A_0 c8_A_1
  have HB_10 := Lib.hid (HB0.out.trans (l9.mono HB0.out.size))
  have A_10 := Lib.hid (HX_A.out.below l9 HX_A.out.lt)
  clear l9
  have c11_A_0 := A_10.out.at 0 (v := .int .i64 0) rfl
  have c11_A_1 := A_10.out.at 1 (v := .slice none 0 0) rfl
  have fr12_A_0 := A_10.out.free 0
  have fr12_A_1 := A_10.out.free 1
  go_wp2_with fail
  obtain ⟨p1, q1⟩ := A_10.out.store2 (.int .i64 l.x) (.slice a_l l.q.length c_l)
  refine bodyPost_ret (results_bx rfl isRw _ _ R_A rfl rfl p1) rfl ⟨_, l, rfl, (O_l.out.kept q1 (by
    cases hv : (.slice a_l l.q.length c_l : Value).ownBlock with
    | none => exact .inl rfl
    | some k => exact .inr (fun e => BX_A_l.out k hv (Option.some.inj e)))), hq, (HB_10.out.grown q1 HB_10.out.size (fun k hk => by have e2 : R_A = k := Option.some.inj hk; have := HR_A.out; omega))⟩
set_option maxRecDepth 100000 in
set_option maxHeartbeats 4000000 in
theorem drawMiss10_any (v : Value) (z : List Int) (w : World) (hrow : Row w v z.length (z.map (Value.int .u8))) (hz : ∀ x ∈ z, 0 ≤ x ∧ x < 256) :
    Calls Try.prog 44 #[v] w fun e w' => ∃ (v' : Value) (l : Rw) (x : Int), e = .returned (.tuple #[.agg #[.int .i64 l.x, v'], .int .i64 x]) ∧ w'.ownsRow w.heap.size 66 2 v' l.q.length (slF l.q) ∧ (l.q.length ≤ 9 ∧ ∀ s ∈ l.q, s.s.size ≤ 9) ∧ (-1 ≤ x ∧ x ≤ 65536) ∧ Below w.heap.size w w' := by
  obtain ⟨a0, cap0, rfl, _, _, _⟩ := row_open hrow
  obtain ⟨W0, R_A, R_C, hW0, hR_A, hR_C, hX_A, hX_C, hB0⟩ := entry2 w #[.int .i64 0, .slice none 0 0] #[.slice a0 z.length cap0, .int .i64 0, .int .u64 0] 26 83
  have HW0 := Lib.hid hW0
  have HB0 := Lib.hid hB0
  have HR_A := Lib.hid hR_A
  have HX_A := Lib.hid hX_A
  have HR_C := Lib.hid hR_C
  have HX_C := Lib.hid hX_C
  clear hW0 hB0 hR_A hX_A hR_C hX_C
  have CU0 := Lib.hid (cu_box HX_C.out (by have := HR_C.out; omega) HB0.out hrow hz)
  clear hrow hz
  have c13_A_0 := HX_A.out.at 0 (v := .int .i64 0) rfl
  have c13_A_1 := HX_A.out.at 1 (v := .slice none 0 0) rfl
  go_enter Try.func44, Try.ntmps44
  go_upto_region 2 with fail
  rw [← HW0.out, ← HR_C.out, ← HR_A.out]
  go_wp2_with fail
  refine (receiveWindow_any R_C 0 z _ CU0.out (by omega)).mono ?_
  rintro e W14 ⟨v_l, l, rfl, o_l, hq, hc, hg⟩
  clear c13_A_0 c13_A_1
  obtain ⟨a_l, c_l, rfl, _, _⟩ := ownz_slice o_l
  have O_l := Lib.hid (ownz_base o_l HB0.out.size)
  have BX_A_l : Hid (∀ k, (.slice a_l l.q.length c_l : Value).ownBlock = some k → k ≠ R_A) := Lib.hid (fun k h1 h2 => absurd HX_A.out.lt (Nat.not_lt.2 (by rw [← h2]; exact (o_l.lt k h1).1)))
  have BX_C_l : Hid (∀ k, (.slice a_l l.q.length c_l : Value).ownBlock = some k → k ≠ R_C) := Lib.hid (fun k h1 h2 => absurd CU0.out.lt (Nat.not_lt.2 (by rw [← h2]; exact (o_l.lt k h1).1)))
  clear o_l
  have HB_15 := Lib.hid (HB0.out.grown hg HB0.out.size (fun k hk => by have e2 : R_C = k := Option.some.inj hk; have := HR_C.out; omega))
  have A_15 := Lib.hid (HX_A.out.grown hg (by intro e; have e2 : R_A = R_C := Option.some.inj e; have h1 := HR_A.out; have h2 := HR_C.out; omega))
  have CU_15 := Lib.hid hc
  clear hc hg CU0
  have c16_A_0 := A_15.out.at 0 (v := .int .i64 0) rfl
  have c16_A_1 := A_15.out.at 1 (v := .slice none 0 0) rfl
  have hnc_O := CU_15.out.lt
  go_upto_region 3 with fail
  obtain ⟨W17, hW17⟩ : ∃ W17, W17 = W14.alloc (.cells #[.int .i64 l.x, .slice a_l l.q.length c_l] 26) := ⟨_, rfl⟩
  have l17 : Below W14.heap.size W14 W17 := by rw [hW17]; exact (Below.refl _ _).alloc (Nat.le_refl _) _
  have X17_O : Hid (Bx W17 W14.heap.size #[.int .i64 l.x, .slice a_l l.q.length c_l] 26) := Lib.hid (by rw [hW17]; exact Bx.new _ _ _)
  rw [← hW17]
  clear hW17
  have BX_O_l : Hid (∀ k, (.slice a_l l.q.length c_l : Value).ownBlock = some k → k ≠ W14.heap.size) := Lib.hid (fun k h1 h2 => absurd (O_l.out.lt k h1).2 (by omega))
  have HG_O : Hid (w.heap.size ≤ W14.heap.size) := Lib.hid HB_15.out.size
  have HN_O_A : Hid (R_A < W14.heap.size) := Lib.hid A_15.out.lt
  obtain ⟨R_O, hR_O⟩ : ∃ X, X = W14.heap.size := ⟨_, rfl⟩
  rw [← hR_O] at X17_O HG_O BX_O_l HN_O_A hnc_O ⊢
  clear hR_O
  have CU_18 := Lib.hid (cu_below CU_15.out l17)
  clear CU_15
  clear c16_A_0 c16_A_1
  have HB_19 := Lib.hid (HB_15.out.trans (l17.mono HB_15.out.size))
  have l_19 := Lib.hid (ownz_below O_l.out l17 (Nat.le_refl _))
  clear O_l
  have A_19 := Lib.hid (A_15.out.below l17 A_15.out.lt)
  clear A_15
  clear l17
  have c20_A_0 := A_19.out.at 0 (v := .int .i64 0) rfl
  have c20_A_1 := A_19.out.at 1 (v := .slice none 0 0) rfl
  have c21_O_0 := X17_O.out.at 0 (v := .int .i64 l.x) rfl
  have c21_O_1 := X17_O.out.at 1 (v := .slice a_l l.q.length c_l) rfl
  have HN_O_C : Hid (R_C < R_O) := Lib.hid hnc_O
  clear hnc_O
  clear c20_A_0 c20_A_1
  have c22_A_0 := A_19.out.at 0 (v := .int .i64 0) rfl
  have c22_A_1 := A_19.out.at 1 (v := .slice none 0 0) rfl
  clear c21_O_0 c21_O_1
  have c23_O_0 := X17_O.out.at 0 (v := .int .i64 l.x) rfl
  have c23_O_1 := X17_O.out.at 1 (v := .slice a_l l.q.length c_l) rfl
  have fr24_A_0 := A_19.out.free 0
  have fr24_A_1 := A_19.out.free 1
  have hdA := A_19.out.drew
  have hdO := X17_O.out.drew
  have xdA0 := hdA.at 0 (v := .int .i64 0) rfl
  have xdA1 := hdA.at 1 (v := .slice none 0 0) rfl
  have xdO0 := hdO.at 0 (v := .int .i64 l.x) rfl
  have xdO1 := hdO.at 1 (v := .slice a_l l.q.length c_l) rfl
  have fd0 := hdA.free 0
  have fd1 := hdA.free 1
  have hneA : R_A ≠ R_O := fun e => absurd (congrArg some e) (by intro e; have e2 : R_A = R_O := Option.some.inj e; have h1 := HN_O_A.out; omega)
  have hneO : R_O ≠ R_A := fun e => hneA e.symm
  have HCd := Lib.hid (CU_18.out.grown (gdrewB _ _))
  go_region_law (first
    | (go_simp; go_at_call 72; refine (ahead_any R_C _ z (.slice a_l l.q.length c_l) l.x _ HCd.out (by omega)).mono ?_; rintro e w8 ⟨x, hx, rfl, hc, hg⟩; have h8O := hdO.grown hg (by intro e; have e2 : R_O = R_C := Option.some.inj e; have h1 := HN_O_C.out; omega); have h8A := hdA.grown hg (by intro e; have e2 : R_A = R_C := Option.some.inj e; have h1 := HR_A.out; have h2 := HR_C.out; omega); have zA0 := h8A.at 0 (v := .int .i64 0) rfl; have zA1 := h8A.at 1 (v := .slice none 0 0) rfl; have zO0 := h8O.at 0 (v := .int .i64 l.x) rfl; have zO1 := h8O.at 1 (v := .slice a_l l.q.length c_l) rfl; have fz0 := h8A.free 0; have fz1 := h8A.free 1; dsimp only))
  all_goals go_wp2_with fail
  all_goals
    have hg2 := g_trans (gdrewB _ _) hg
    obtain ⟨p1, q1⟩ := h8A.store2 (.int .i64 l.x) (.slice a_l l.q.length c_l)
    have hB8 := HB_19.out.grown hg2 HB_19.out.size (fun k hk => by have e2 : R_C = k := Option.some.inj hk; have := HR_C.out; omega)
    have hB9 := hB8.grown q1 hB8.size (fun k hk => by have e2 : R_A = k := Option.some.inj hk; have := HR_A.out; omega)
    have ho8 := l_19.out.kept hg2 (by
      cases hv : (.slice a_l l.q.length c_l : Value).ownBlock with
      | none => exact .inl rfl
      | some k => exact .inr (fun e => BX_C_l.out k hv (Option.some.inj e)))
    have ho9 := ho8.kept q1 (by
      cases hv : (.slice a_l l.q.length c_l : Value).ownBlock with
      | none => exact .inl rfl
      | some k => exact .inr (fun e => BX_A_l.out k hv (Option.some.inj e)))
    refine bodyPost_ret (results_bx1 rfl isRw _ _ R_A rfl rfl rfl p1) rfl ⟨_, l, x, rfl, ho9, hq, hx, hB9⟩
set_option maxRecDepth 100000 in
set_option maxHeartbeats 2000000 in
theorem drawGive10_any (v : Value) (z : List Int) (w : World) (hrow : Row w v z.length (z.map (Value.int .u8))) (hz : ∀ x ∈ z, 0 ≤ x ∧ x < 256) :
    Calls Try.prog 12 #[v] w fun e w' => ∃ (v' : Value) (l : Rw) (x : Int), e = .returned (.tuple #[.agg #[.int .i64 l.x, v'], .int .i64 x]) ∧ w'.ownsRow w.heap.size 66 2 v' l.q.length (slF l.q) ∧ (l.q.length ≤ 9 ∧ ∀ s ∈ l.q, s.s.size ≤ 9) ∧ (-1 ≤ x ∧ x ≤ 65536) ∧ Below w.heap.size w w' := by
  obtain ⟨a0, cap0, rfl, _, _, _⟩ := row_open hrow
  obtain ⟨W0, R_A, hW0, hR_A, hX_A, hB0⟩ := entry1 w #[.int .i64 0, .slice none 0 0] 26
  have HW0 := Lib.hid hW0
  have HB0 := Lib.hid hB0
  have HR_A := Lib.hid hR_A
  have HX_A := Lib.hid hX_A
  clear hW0 hB0 hR_A hX_A
  have HP := Lib.hid hrow
  have HZz := Lib.hid hz
  clear hrow hz
  have c25_A_0 := HX_A.out.at 0 (v := .int .i64 0) rfl
  have c25_A_1 := HX_A.out.at 1 (v := .slice none 0 0) rfl
  go_enter Try.func12, Try.ntmps12
  go_upto_region 1 with fail
  rw [← HW0.out, ← HR_A.out]
  go_wp2_with fail
  refine (drawMiss10_any (.slice a0 z.length cap0) z _ (HP.out.below HB0.out (Nat.le_refl _)) HZz.out).mono ?_
  rintro e W26 ⟨v_l, l, x, rfl, o_l, hq, hx, l26⟩
  obtain ⟨a_l, c_l, rfl, _, _⟩ := ownz_slice o_l
  have O_l := Lib.hid (ownz_base o_l HB0.out.size)
  have BX_A_l : Hid (∀ k, (.slice a_l l.q.length c_l : Value).ownBlock = some k → k ≠ R_A) := Lib.hid (fun k h1 h2 => absurd HX_A.out.lt (Nat.not_lt.2 (by rw [← h2]; exact (o_l.lt k h1).1)))
  clear o_l
  clear c25_A_0 c25_A_1
  have HB_27 := Lib.hid (HB0.out.trans (l26.mono HB0.out.size))
  have A_27 := Lib.hid (HX_A.out.below l26 HX_A.out.lt)
  clear l26
  have c28_A_0 := A_27.out.at 0 (v := .int .i64 0) rfl
  have c28_A_1 := A_27.out.at 1 (v := .slice none 0 0) rfl
  have fr29_A_0 := A_27.out.free 0
  have fr29_A_1 := A_27.out.free 1
  go_wp2_with fail
  obtain ⟨p1, q1⟩ := A_27.out.store2 (.int .i64 l.x) (.slice a_l l.q.length c_l)
  refine bodyPost_ret (results_bx1 rfl isRw _ _ R_A rfl rfl rfl p1) rfl ⟨_, l, x, rfl, (O_l.out.kept q1 (by
    cases hv : (.slice a_l l.q.length c_l : Value).ownBlock with
    | none => exact .inl rfl
    | some k => exact .inr (fun e => BX_A_l.out k hv (Option.some.inj e)))), hq, hx, (HB_27.out.grown q1 HB_27.out.size (fun k hk => by have e2 : R_A = k := Option.some.inj hk; have := HR_A.out; omega))⟩
set_option maxRecDepth 100000 in
set_option maxHeartbeats 2000000 in
theorem drawHave10_any (v : Value) (z : List Int) (w : World) (hrow : Row w v z.length (z.map (Value.int .u8))) (hz : ∀ x ∈ z, 0 ≤ x ∧ x < 256) :
    Calls Try.prog 21 #[v] w fun e w' => ∃ (v' : Value) (l : Rw) (x : Int), e = .returned (.tuple #[.agg #[.int .i64 l.x, v'], .int .i64 x]) ∧ w'.ownsRow w.heap.size 66 2 v' l.q.length (slF l.q) ∧ (l.q.length ≤ 9 ∧ ∀ s ∈ l.q, s.s.size ≤ 9) ∧ (-1 ≤ x ∧ x ≤ 65536) ∧ Below w.heap.size w w' := by
  obtain ⟨a0, cap0, rfl, _, _, _⟩ := row_open hrow
  obtain ⟨W0, R_A, hW0, hR_A, hX_A, hB0⟩ := entry1 w #[.int .i64 0, .slice none 0 0] 26
  have HW0 := Lib.hid hW0
  have HB0 := Lib.hid hB0
  have HR_A := Lib.hid hR_A
  have HX_A := Lib.hid hX_A
  clear hW0 hB0 hR_A hX_A
  have HP := Lib.hid hrow
  have HZz := Lib.hid hz
  clear hrow hz
  have c30_A_0 := HX_A.out.at 0 (v := .int .i64 0) rfl
  have c30_A_1 := HX_A.out.at 1 (v := .slice none 0 0) rfl
  go_enter Try.func21, Try.ntmps21
  go_upto_region 1 with fail
  rw [← HW0.out, ← HR_A.out]
  go_wp2_with fail
  refine (drawMiss10_any (.slice a0 z.length cap0) z _ (HP.out.below HB0.out (Nat.le_refl _)) HZz.out).mono ?_
  rintro e W31 ⟨v_l, l, x, rfl, o_l, hq, hx, l31⟩
  obtain ⟨a_l, c_l, rfl, _, _⟩ := ownz_slice o_l
  have O_l := Lib.hid (ownz_base o_l HB0.out.size)
  have BX_A_l : Hid (∀ k, (.slice a_l l.q.length c_l : Value).ownBlock = some k → k ≠ R_A) := Lib.hid (fun k h1 h2 => absurd HX_A.out.lt (Nat.not_lt.2 (by rw [← h2]; exact (o_l.lt k h1).1)))
  clear o_l
  clear c30_A_0 c30_A_1
  have HB_32 := Lib.hid (HB0.out.trans (l31.mono HB0.out.size))
  have A_32 := Lib.hid (HX_A.out.below l31 HX_A.out.lt)
  clear l31
  have c33_A_0 := A_32.out.at 0 (v := .int .i64 0) rfl
  have c33_A_1 := A_32.out.at 1 (v := .slice none 0 0) rfl
  have fr34_A_0 := A_32.out.free 0
  have fr34_A_1 := A_32.out.free 1
  go_wp2_with fail
  obtain ⟨p1, q1⟩ := A_32.out.store2 (.int .i64 l.x) (.slice a_l l.q.length c_l)
  refine bodyPost_ret (results_bx1 rfl isRw _ _ R_A rfl rfl rfl p1) rfl ⟨_, l, x, rfl, (O_l.out.kept q1 (by
    cases hv : (.slice a_l l.q.length c_l : Value).ownBlock with
    | none => exact .inl rfl
    | some k => exact .inr (fun e => BX_A_l.out k hv (Option.some.inj e)))), hq, hx, (HB_32.out.grown q1 HB_32.out.size (fun k hk => by have e2 : R_A = k := Option.some.inj hk; have := HR_A.out; omega))⟩
end Go.Proofs.Ytpmjdppipalfcaa

namespace Go.Proofs.Ytpmjdppipalfcaa
open Go.RowKit Go.Lib Go.Joins
set_option linter.unusedVariables false

set_option maxRecDepth 100000 in
set_option maxHeartbeats 16000000 in
theorem fnGivingUp_walk (w : World) (v0 : Value) (z0 : List Int) (w0 : Row w v0 z0.length (z0.map (Value.int .u8))) (b0 : ∀ z ∈ z0, (Lit.int .u8 z).wf = true) (_hsh : w.ShapedOpen Try.prog) :
    Calls Try.prog 3 #[v0] w fun e w' => e = .returned (.bool true) ∧ Below w.heap.size w w' := by
  clear _hsh
  have hz : ∀ x ∈ z0, 0 ≤ x ∧ x < 256 := fun x hx => by have := bounds_u8 (b0 x hx); omega
  by_cases hbig : (65536 : Int) < z0.length
  · have HV := Lib.hid (vBig_row v0 _ _ true w0 (decide_eq_true hbig))
    clear w0 b0 hz
    go_enter Try.func3, Try.ntmps3
    go_wp2_with fail
    refine (HV.out _).mono ?_
    rintro e _ ⟨rfl, rfl⟩
    go_wp2_with fail
    go_ret
    exact ⟨rfl, Below.refl _ _⟩
  have HV := Lib.hid (vBig_row v0 _ _ false w0 (decide_eq_false hbig))
  have HR := Lib.hid w0
  have HD1 := Lib.hid (fun w hr => drawGive10_any v0 z0 w hr hz)
  have HD2 := Lib.hid (fun w hr => drawHave10_any v0 z0 w hr hz)
  have HD3 := Lib.hid (fun w hr => drawHigh10_any v0 z0 w hr hz)
  clear w0 b0 hz hbig
  go_enter Try.func3, Try.ntmps3
  go_wp2_with fail
  refine (HV.out _).mono ?_
  rintro e _ ⟨rfl, rfl⟩
  clear HV
  go_wp2_with fail
  refine (HD1.out _ (HR.out.below (Below.refl _ _) (Nat.le_refl _))).mono ?_
  rintro e W1 ⟨v_l, l, x, rfl, o_l, hq1, hx1, l1⟩
  obtain ⟨a_l, c_l, rfl, _, _⟩ := ownz_slice o_l
  have O_l := Lib.hid o_l
  clear o_l
  have HB_2 := Lib.hid l1
  clear l1
  clear HD1
  go_upto_region 4 with fail
  obtain ⟨W3, hW3⟩ : ∃ W3, W3 = W1.alloc (.cells #[.int .i64 l.x, .slice a_l l.q.length c_l] 26) := ⟨_, rfl⟩
  have l3 : Below W1.heap.size W1 W3 := by rw [hW3]; exact (Below.refl _ _).alloc (Nat.le_refl _) _
  have X3_T3 : Hid (Bx W3 W1.heap.size #[.int .i64 l.x, .slice a_l l.q.length c_l] 26) := Lib.hid (by rw [hW3]; exact Bx.new _ _ _)
  rw [← hW3]
  clear hW3
  have BX_T3_l : Hid (∀ k, (.slice a_l l.q.length c_l : Value).ownBlock = some k → k ≠ W1.heap.size) := Lib.hid (fun k h1 h2 => absurd (O_l.out.lt k h1).2 (by omega))
  have HG_T3 : Hid (w.heap.size ≤ W1.heap.size) := Lib.hid HB_2.out.size
  obtain ⟨R_T3, hR_T3⟩ : ∃ X, X = W1.heap.size := ⟨_, rfl⟩
  rw [← hR_T3] at X3_T3 HG_T3 BX_T3_l ⊢
  clear hR_T3
  have HB_4 := Lib.hid (HB_2.out.trans (l3.mono HB_2.out.size))
  have l_4 := Lib.hid (ownz_below O_l.out l3 (Nat.le_refl _))
  clear O_l
  clear l3
  have c5_T3_0 := X3_T3.out.at 0 (v := .int .i64 l.x) rfl
  have c5_T3_1 := X3_T3.out.at 1 (v := .slice a_l l.q.length c_l) rfl
  have HM1 : Hid (∀ s ∈ l.q, s.s.size ≤ maxLen) := Lib.hid (fun s hs => le_maxLen10 (hq1.2 s hs))
  have HPi := Lib.hid (fun W h hfa => implGive_any (.slice a_l l.q.length c_l) l W h HM1.out x hfa)
  have HPs := Lib.hid (fun W h hfa => specGive_any (.slice a_l l.q.length c_l) l W h HM1.out x hfa)
  have HCl := Lib.hid (fun W h => implCnt_any (.slice a_l l.q.length c_l) l W h HM1.out)
  have HF := Lib.hid (@give_law10 l x hq1.1)
  generalize giveV l x = m at HPi HPs HF
  generalize giveL l x = ev at HPi HPs HF
  generalize giveOk l x = ok at HPi HPs HF
  generalize cntV l = cl at HCl HF
  clear hx1
  go_wp2_with fail
  refine (HPi.out _ (rowz_own l_4.out) (fitA_ownz l_4.out)).mono ?_
  rintro e W6 ⟨v_m, v_e, rfl, o_m, o_e, _, l6⟩
  obtain ⟨a_m, c_m, rfl, _, _⟩ := ownz_slice o_m
  have O_m := Lib.hid (ownz_base o_m HB_4.out.size)
  have BX_T3_m : Hid (∀ k, (.slice a_m m.q.length c_m : Value).ownBlock = some k → k ≠ R_T3) := Lib.hid (fun k h1 h2 => absurd X3_T3.out.lt (Nat.not_lt.2 (by rw [← h2]; exact (o_m.lt k h1).1)))
  clear o_m
  obtain ⟨a_e, c_e, rfl, _, _⟩ := ownz_slice o_e
  have O_e := Lib.hid (ownz_base o_e HB_4.out.size)
  have BX_T3_e : Hid (∀ k, (.slice a_e ev.length c_e : Value).ownBlock = some k → k ≠ R_T3) := Lib.hid (fun k h1 h2 => absurd X3_T3.out.lt (Nat.not_lt.2 (by rw [← h2]; exact (o_e.lt k h1).1)))
  clear o_e
  clear c5_T3_0 c5_T3_1
  have HB_7 := Lib.hid (HB_4.out.trans (l6.mono HB_4.out.size))
  have l_7 := Lib.hid (ownz_below l_4.out l6 (Nat.le_refl _))
  clear l_4
  have T3_7 := Lib.hid (X3_T3.out.below l6 X3_T3.out.lt)
  clear X3_T3
  clear l6
  have c8_T3_0 := T3_7.out.at 0 (v := .int .i64 l.x) rfl
  have c8_T3_1 := T3_7.out.at 1 (v := .slice a_l l.q.length c_l) rfl
  clear HPi
  go_upto_region 5 with fail
  obtain ⟨W9, hW9⟩ : ∃ W9, W9 = W6.alloc (.cells #[.int .i64 m.x, .slice a_m m.q.length c_m] 26) := ⟨_, rfl⟩
  have l9 : Below W6.heap.size W6 W9 := by rw [hW9]; exact (Below.refl _ _).alloc (Nat.le_refl _) _
  have X9_T5 : Hid (Bx W9 W6.heap.size #[.int .i64 m.x, .slice a_m m.q.length c_m] 26) := Lib.hid (by rw [hW9]; exact Bx.new _ _ _)
  rw [← hW9]
  clear hW9
  have BX_T5_l : Hid (∀ k, (.slice a_l l.q.length c_l : Value).ownBlock = some k → k ≠ W6.heap.size) := Lib.hid (fun k h1 h2 => absurd (l_7.out.lt k h1).2 (by omega))
  have BX_T5_m : Hid (∀ k, (.slice a_m m.q.length c_m : Value).ownBlock = some k → k ≠ W6.heap.size) := Lib.hid (fun k h1 h2 => absurd (O_m.out.lt k h1).2 (by omega))
  have BX_T5_e : Hid (∀ k, (.slice a_e ev.length c_e : Value).ownBlock = some k → k ≠ W6.heap.size) := Lib.hid (fun k h1 h2 => absurd (O_e.out.lt k h1).2 (by omega))
  have HG_T5 : Hid (w.heap.size ≤ W6.heap.size) := Lib.hid HB_7.out.size
  have HN_T5_T3 : Hid (R_T3 < W6.heap.size) := Lib.hid T3_7.out.lt
  obtain ⟨R_T5, hR_T5⟩ : ∃ X, X = W6.heap.size := ⟨_, rfl⟩
  rw [← hR_T5] at X9_T5 HG_T5 BX_T5_l BX_T5_m BX_T5_e HN_T5_T3 ⊢
  clear hR_T5
  clear c8_T3_0 c8_T3_1
  have HB_10 := Lib.hid (HB_7.out.trans (l9.mono HB_7.out.size))
  have l_10 := Lib.hid (ownz_below l_7.out l9 (Nat.le_refl _))
  clear l_7
  have m_10 := Lib.hid (ownz_below O_m.out l9 (Nat.le_refl _))
  clear O_m
  have e_10 := Lib.hid (ownz_below O_e.out l9 (Nat.le_refl _))
  clear O_e
  have T3_10 := Lib.hid (T3_7.out.below l9 T3_7.out.lt)
  clear T3_7
  clear l9
  have c11_T3_0 := T3_10.out.at 0 (v := .int .i64 l.x) rfl
  have c11_T3_1 := T3_10.out.at 1 (v := .slice a_l l.q.length c_l) rfl
  have c12_T5_0 := X9_T5.out.at 0 (v := .int .i64 m.x) rfl
  have c12_T5_1 := X9_T5.out.at 1 (v := .slice a_m m.q.length c_m) rfl
  go_wp2_with fail
  refine (HPs.out _ (rowz_own l_10.out) (fit_own l_10.out)).mono ?_
  rintro e W13 ⟨v_u, v_t, rfl, r_u, o_t, _, l13⟩
  have r_t := rowz_own o_t
  have r2_u := r_u
  have r2_t := r_t
  obtain ⟨a_u, c_u, rfl, _⟩ := r2_u
  obtain ⟨a_t, c_t, rfl, _⟩ := r2_t
  have R_u := Lib.hid r_u
  have R_t := Lib.hid r_t
  clear r_u r_t o_t HPs
  clear c11_T3_0 c11_T3_1
  clear c12_T5_0 c12_T5_1
  have HB_14 := Lib.hid (HB_10.out.trans (l13.mono HB_10.out.size))
  have l_14 := Lib.hid (ownz_below l_10.out l13 (Nat.le_refl _))
  clear l_10
  have m_14 := Lib.hid (ownz_below m_10.out l13 (Nat.le_refl _))
  clear m_10
  have e_14 := Lib.hid (ownz_below e_10.out l13 (Nat.le_refl _))
  clear e_10
  have T3_14 := Lib.hid (T3_10.out.below l13 T3_10.out.lt)
  clear T3_10
  have T5_14 := Lib.hid (X9_T5.out.below l13 X9_T5.out.lt)
  clear X9_T5
  clear l13
  have c15_T3_0 := T3_14.out.at 0 (v := .int .i64 l.x) rfl
  have c15_T3_1 := T3_14.out.at 1 (v := .slice a_l l.q.length c_l) rfl
  have c16_T5_0 := T5_14.out.at 0 (v := .int .i64 m.x) rfl
  have c16_T5_1 := T5_14.out.at 1 (v := .slice a_m m.q.length c_m) rfl
  go_upto_region 6 with fail
  obtain ⟨W17, hW17⟩ : ∃ W17, W17 = W13.alloc (.cells #[.int .i64 m.x, .slice a_u m.q.length c_u] 26) := ⟨_, rfl⟩
  have l17 : Below W13.heap.size W13 W17 := by rw [hW17]; exact (Below.refl _ _).alloc (Nat.le_refl _) _
  have X17_T8 : Hid (Bx W17 W13.heap.size #[.int .i64 m.x, .slice a_u m.q.length c_u] 26) := Lib.hid (by rw [hW17]; exact Bx.new _ _ _)
  rw [← hW17]
  clear hW17
  have BX_T8_l : Hid (∀ k, (.slice a_l l.q.length c_l : Value).ownBlock = some k → k ≠ W13.heap.size) := Lib.hid (fun k h1 h2 => absurd (l_14.out.lt k h1).2 (by omega))
  have BX_T8_m : Hid (∀ k, (.slice a_m m.q.length c_m : Value).ownBlock = some k → k ≠ W13.heap.size) := Lib.hid (fun k h1 h2 => absurd (m_14.out.lt k h1).2 (by omega))
  have BX_T8_e : Hid (∀ k, (.slice a_e ev.length c_e : Value).ownBlock = some k → k ≠ W13.heap.size) := Lib.hid (fun k h1 h2 => absurd (e_14.out.lt k h1).2 (by omega))
  have HG_T8 : Hid (w.heap.size ≤ W13.heap.size) := Lib.hid HB_14.out.size
  have HN_T8_T3 : Hid (R_T3 < W13.heap.size) := Lib.hid T3_14.out.lt
  have HN_T8_T5 : Hid (R_T5 < W13.heap.size) := Lib.hid T5_14.out.lt
  obtain ⟨R_T8, hR_T8⟩ : ∃ X, X = W13.heap.size := ⟨_, rfl⟩
  rw [← hR_T8] at X17_T8 HG_T8 BX_T8_l BX_T8_m BX_T8_e HN_T8_T3 HN_T8_T5 ⊢
  clear hR_T8
  clear c15_T3_0 c15_T3_1
  clear c16_T5_0 c16_T5_1
  have HB_18 := Lib.hid (HB_14.out.trans (l17.mono HB_14.out.size))
  have l_18 := Lib.hid (ownz_below l_14.out l17 (Nat.le_refl _))
  clear l_14
  have m_18 := Lib.hid (ownz_below m_14.out l17 (Nat.le_refl _))
  clear m_14
  have e_18 := Lib.hid (ownz_below e_14.out l17 (Nat.le_refl _))
  clear e_14
  have u_18 := Lib.hid (R_u.out.below l17 (Nat.le_refl _))
  clear R_u
  have t_18 := Lib.hid (R_t.out.below l17 (Nat.le_refl _))
  clear R_t
  have T3_18 := Lib.hid (T3_14.out.below l17 T3_14.out.lt)
  clear T3_14
  have T5_18 := Lib.hid (T5_14.out.below l17 T5_14.out.lt)
  clear T5_14
  clear l17
  have c19_T3_0 := T3_18.out.at 0 (v := .int .i64 l.x) rfl
  have c19_T3_1 := T3_18.out.at 1 (v := .slice a_l l.q.length c_l) rfl
  have c20_T5_0 := T5_18.out.at 0 (v := .int .i64 m.x) rfl
  have c20_T5_1 := T5_18.out.at 1 (v := .slice a_m m.q.length c_m) rfl
  have c21_T8_0 := X17_T8.out.at 0 (v := .int .i64 m.x) rfl
  have c21_T8_1 := X17_T8.out.at 1 (v := .slice a_u m.q.length c_u) rfl
  go_wp2_with fail
  refine (vSl_same _ _ m _ (rowz_own m_18.out) u_18.out).mono ?_
  rintro e W22 ⟨rfl, l22⟩
  clear c19_T3_0 c19_T3_1
  clear c20_T5_0 c20_T5_1
  clear c21_T8_0 c21_T8_1
  have HB_23 := Lib.hid (HB_18.out.trans (l22.mono HB_18.out.size))
  have l_23 := Lib.hid (ownz_below l_18.out l22 (Nat.le_refl _))
  clear l_18
  have m_23 := Lib.hid (ownz_below m_18.out l22 (Nat.le_refl _))
  clear m_18
  have e_23 := Lib.hid (ownz_below e_18.out l22 (Nat.le_refl _))
  clear e_18
  have u_23 := Lib.hid (u_18.out.below l22 (Nat.le_refl _))
  clear u_18
  have t_23 := Lib.hid (t_18.out.below l22 (Nat.le_refl _))
  clear t_18
  have T3_23 := Lib.hid (T3_18.out.below l22 T3_18.out.lt)
  clear T3_18
  have T5_23 := Lib.hid (T5_18.out.below l22 T5_18.out.lt)
  clear T5_18
  have T8_23 := Lib.hid (X17_T8.out.below l22 X17_T8.out.lt)
  clear X17_T8
  clear l22
  have c24_T3_0 := T3_23.out.at 0 (v := .int .i64 l.x) rfl
  have c24_T3_1 := T3_23.out.at 1 (v := .slice a_l l.q.length c_l) rfl
  have c25_T5_0 := T5_23.out.at 0 (v := .int .i64 m.x) rfl
  have c25_T5_1 := T5_23.out.at 1 (v := .slice a_m m.q.length c_m) rfl
  have c26_T8_0 := T8_23.out.at 0 (v := .int .i64 m.x) rfl
  have c26_T8_1 := T8_23.out.at 1 (v := .slice a_u m.q.length c_u) rfl
  go_wp2_with fail
  refine (vTexts_any _ _ ev ev _ (rowz_own e_23.out) t_23.out).mono ?_
  rintro e W27 ⟨rfl, k9, hk9⟩
  have l27 : Below W22.heap.size W22 W27 := by rw [hk9]; exact bdrewN _ _ _
  clear hk9
  clear c24_T3_0 c24_T3_1
  clear c25_T5_0 c25_T5_1
  clear c26_T8_0 c26_T8_1
  have HB_28 := Lib.hid (HB_23.out.trans (l27.mono HB_23.out.size))
  have l_28 := Lib.hid (ownz_below l_23.out l27 (Nat.le_refl _))
  clear l_23
  have m_28 := Lib.hid (ownz_below m_23.out l27 (Nat.le_refl _))
  clear m_23
  have e_28 := Lib.hid (ownz_below e_23.out l27 (Nat.le_refl _))
  clear e_23
  have u_28 := Lib.hid (u_23.out.below l27 (Nat.le_refl _))
  clear u_23
  have t_28 := Lib.hid (t_23.out.below l27 (Nat.le_refl _))
  clear t_23
  have T3_28 := Lib.hid (T3_23.out.below l27 T3_23.out.lt)
  clear T3_23
  have T5_28 := Lib.hid (T5_23.out.below l27 T5_23.out.lt)
  clear T5_23
  have T8_28 := Lib.hid (T8_23.out.below l27 T8_23.out.lt)
  clear T8_23
  clear l27
  have c29_T3_0 := T3_28.out.at 0 (v := .int .i64 l.x) rfl
  have c29_T3_1 := T3_28.out.at 1 (v := .slice a_l l.q.length c_l) rfl
  have c30_T5_0 := T5_28.out.at 0 (v := .int .i64 m.x) rfl
  have c30_T5_1 := T5_28.out.at 1 (v := .slice a_m m.q.length c_m) rfl
  have c31_T8_0 := T8_28.out.at 0 (v := .int .i64 m.x) rfl
  have c31_T8_1 := T8_28.out.at 1 (v := .slice a_u m.q.length c_u) rfl
  rw [decide_eq_true (rfl : ev = ev)]
  clear u_28
  clear t_28
  clear c31_T8_0 c31_T8_1
  clear T8_28
  go_upto_if 76 with fail
  go_cut [] from 11 to 150 (fun wx => Hid (Below W27.heap.size W27 wx))
  case first => as_aux_lemma =>
    cases ok with
    | false =>
      have HZ := Lib.hid (Below.refl W27.heap.size W27)
      clear HF HCl
      go_wp2_with fail
      go_meet
      case rel => exact HZ
    | true =>
      obtain ⟨e1, e2, e3, e4, e5, e6, hm9, e7⟩ := HF.out rfl
      have HE7 := Lib.hid e7
      clear HF e7
      have HGp := Lib.hid (fun W => implGap_any l.x m.x W)
      have HBp := Lib.hid (fun W => implBefore_any m.x x W)
      have HVm := Lib.hid (fun W h => implIsRw_any (.slice a_m m.q.length c_m) m W h hm9)
      have HCm := Lib.hid (fun W h => implCnt_any (.slice a_m m.q.length c_m) m W h hm9)
      rw [e1, e2] at HGp
      rw [e3, e4] at HBp
      rw [e5] at HVm HCm
      rw [e6] at HCl
      clear e1 e2 e3 e4 e5 e6 hm9
      generalize cntV m = cm at HCm HE7
      obtain ⟨_, _, _, hcE1, hcE2⟩ := ownz_slice e_28.out
      have hne : ev.length ≤ 2 ^ 63 - 1 := Nat.le_trans hcE1 (by unfold maxLen at hcE2; exact hcE2)
      clear hcE1 hcE2
      have HZ := Lib.hid (Below.refl W27.heap.size W27)
      go_wp2_with fail
      refine (HGp.out _).mono ?_
      rintro e W32 ⟨rfl, l32⟩
      clear c29_T3_0 c29_T3_1
      clear c30_T5_0 c30_T5_1
      have HB_33 := Lib.hid (HZ.out.trans (l32.mono HZ.out.size))
      have l_33 := Lib.hid (ownz_below l_28.out l32 (Nat.le_refl _))
      clear l_28
      have m_33 := Lib.hid (ownz_below m_28.out l32 (Nat.le_refl _))
      clear m_28
      have e_33 := Lib.hid (ownz_below e_28.out l32 (Nat.le_refl _))
      clear e_28
      have T3_33 := Lib.hid (T3_28.out.below l32 T3_28.out.lt)
      clear T3_28
      have T5_33 := Lib.hid (T5_28.out.below l32 T5_28.out.lt)
      clear T5_28
      clear l32
      have c34_T3_0 := T3_33.out.at 0 (v := .int .i64 l.x) rfl
      have c34_T3_1 := T3_33.out.at 1 (v := .slice a_l l.q.length c_l) rfl
      have c35_T5_0 := T5_33.out.at 0 (v := .int .i64 m.x) rfl
      have c35_T5_1 := T5_33.out.at 1 (v := .slice a_m m.q.length c_m) rfl
      go_wp2_with fail
      refine (HBp.out _).mono ?_
      rintro e W36 ⟨rfl, l36⟩
      clear c34_T3_0 c34_T3_1
      clear c35_T5_0 c35_T5_1
      have HB_37 := Lib.hid (HB_33.out.trans (l36.mono HB_33.out.size))
      have l_37 := Lib.hid (ownz_below l_33.out l36 (Nat.le_refl _))
      clear l_33
      have m_37 := Lib.hid (ownz_below m_33.out l36 (Nat.le_refl _))
      clear m_33
      have e_37 := Lib.hid (ownz_below e_33.out l36 (Nat.le_refl _))
      clear e_33
      have T3_37 := Lib.hid (T3_33.out.below l36 T3_33.out.lt)
      clear T3_33
      have T5_37 := Lib.hid (T5_33.out.below l36 T5_33.out.lt)
      clear T5_33
      clear l36
      have c38_T3_0 := T3_37.out.at 0 (v := .int .i64 l.x) rfl
      have c38_T3_1 := T3_37.out.at 1 (v := .slice a_l l.q.length c_l) rfl
      have c39_T5_0 := T5_37.out.at 0 (v := .int .i64 m.x) rfl
      have c39_T5_1 := T5_37.out.at 1 (v := .slice a_m m.q.length c_m) rfl
      go_wp2_with fail
      refine (HVm.out _ (rowz_own m_37.out)).mono ?_
      rintro e W40 ⟨rfl, l40⟩
      clear c38_T3_0 c38_T3_1
      clear c39_T5_0 c39_T5_1
      have HB_41 := Lib.hid (HB_37.out.trans (l40.mono HB_37.out.size))
      have l_41 := Lib.hid (ownz_below l_37.out l40 (Nat.le_refl _))
      clear l_37
      have m_41 := Lib.hid (ownz_below m_37.out l40 (Nat.le_refl _))
      clear m_37
      have e_41 := Lib.hid (ownz_below e_37.out l40 (Nat.le_refl _))
      clear e_37
      have T3_41 := Lib.hid (T3_37.out.below l40 T3_37.out.lt)
      clear T3_37
      have T5_41 := Lib.hid (T5_37.out.below l40 T5_37.out.lt)
      clear T5_37
      clear l40
      have c42_T3_0 := T3_41.out.at 0 (v := .int .i64 l.x) rfl
      have c42_T3_1 := T3_41.out.at 1 (v := .slice a_l l.q.length c_l) rfl
      have c43_T5_0 := T5_41.out.at 0 (v := .int .i64 m.x) rfl
      have c43_T5_1 := T5_41.out.at 1 (v := .slice a_m m.q.length c_m) rfl
      go_wp2_with fail
      refine (HCl.out _ (rowz_own l_41.out)).mono ?_
      rintro e W44 ⟨rfl, l44⟩
      clear c42_T3_0 c42_T3_1
      clear c43_T5_0 c43_T5_1
      have HB_45 := Lib.hid (HB_41.out.trans (l44.mono HB_41.out.size))
      have l_45 := Lib.hid (ownz_below l_41.out l44 (Nat.le_refl _))
      clear l_41
      have m_45 := Lib.hid (ownz_below m_41.out l44 (Nat.le_refl _))
      clear m_41
      have e_45 := Lib.hid (ownz_below e_41.out l44 (Nat.le_refl _))
      clear e_41
      have T3_45 := Lib.hid (T3_41.out.below l44 T3_41.out.lt)
      clear T3_41
      have T5_45 := Lib.hid (T5_41.out.below l44 T5_41.out.lt)
      clear T5_41
      clear l44
      have c46_T3_0 := T3_45.out.at 0 (v := .int .i64 l.x) rfl
      have c46_T3_1 := T3_45.out.at 1 (v := .slice a_l l.q.length c_l) rfl
      have c47_T5_0 := T5_45.out.at 0 (v := .int .i64 m.x) rfl
      have c47_T5_1 := T5_45.out.at 1 (v := .slice a_m m.q.length c_m) rfl
      go_wp2_with fail
      refine (HCm.out _ (rowz_own m_45.out)).mono ?_
      rintro e W48 ⟨rfl, l48⟩
      clear c46_T3_0 c46_T3_1
      clear c47_T5_0 c47_T5_1
      have HB_49 := Lib.hid (HB_45.out.trans (l48.mono HB_45.out.size))
      have l_49 := Lib.hid (ownz_below l_45.out l48 (Nat.le_refl _))
      clear l_45
      have m_49 := Lib.hid (ownz_below m_45.out l48 (Nat.le_refl _))
      clear m_45
      have e_49 := Lib.hid (ownz_below e_45.out l48 (Nat.le_refl _))
      clear e_45
      have T3_49 := Lib.hid (T3_45.out.below l48 T3_45.out.lt)
      clear T3_45
      have T5_49 := Lib.hid (T5_45.out.below l48 T5_45.out.lt)
      clear T5_45
      clear l48
      have c50_T3_0 := T3_49.out.at 0 (v := .int .i64 l.x) rfl
      have c50_T3_1 := T3_49.out.at 1 (v := .slice a_l l.q.length c_l) rfl
      have c51_T5_0 := T5_49.out.at 0 (v := .int .i64 m.x) rfl
      have c51_T5_1 := T5_49.out.at 1 (v := .slice a_m m.q.length c_m) rfl
      clear HGp HBp HVm HCl HCm
      go_wp2_with fail
      obtain ⟨_, _, eS, _, _, hcell⟩ := row_open (rowz_own e_49.out)
      injection eS with eS1 eS2 eS3
      rw [← eS1] at hcell
      have HC := Lib.hid hcell
      clear hcell eS1 eS2 eS3
      obtain ⟨n, hN⟩ : ∃ n, n = ev.length := ⟨_, rfl⟩
      rw [← hN] at hne ⊢
      have HN := Lib.hid hN
      clear hN
      go_loopw [21, 22] (fun r i wr => ∃ k c : Nat, k ≤ n ∧ c ≤ k ∧ r = .int .i64 c ∧ i = .int .i64 k ∧ Hid (c = tolN ev k) ∧ Hid (wr = W48)) (fun _ i _ => n - (RowKit.intOf i).toNat)
      case atStart => exact ⟨0, 0, Nat.zero_le _, Nat.le_refl _, rfl, rfl, Lib.hid (by unfold tolN; simp), Lib.hid rfl⟩
      case round =>
        obtain ⟨k, c, hk, hck, rfl, rfl, HT, HW⟩ := hrel
        have hW := HW.out
        subst hW
        clear HW
        by_cases hkn : k < n
        · have hks : k < ev.length := by rw [← HN.out]; exact hkn
          obtain ⟨b1, o1, hae, hb1, hx1⟩ := HC.out k hks
          subst hae
          obtain ⟨y, hy⟩ : ∃ y, y = ev[k] := ⟨_, rfl⟩
          rw [← hy] at hx1
          have HQy := Lib.hid (fun h => tolN_yes hks HT.out hy h)
          have HQn := Lib.hid (fun h => tolN_no hks HT.out hy h)
          clear hy hks HT
          by_cases hd : y = (⟨#[45]⟩ : ByteArray)
          · subst hd
            have HQ := Lib.hid (HQn.out told_no10)
            clear HQn HQy
            go_wp2_with fail
            go_roundw
            case rel => exact ⟨k + 1, c, by omega, by omega, rfl, by go_num, HQ, Lib.hid (by trivial)⟩
            case measure => (simp [RowKit.intOf]; omega)
          · have HQ := Lib.hid (HQy.out (told_yes10 hd))
            have hc1 := bytes_neq10 hd
            rw [show (⟨#[45]⟩ : ByteArray).toList = [45] by simp] at hc1
            clear HQn HQy hd
            go_wp2_with fail
            go_roundw
            case rel => exact ⟨k + 1, c + 1, by omega, by omega, by go_num, by go_num, HQ, Lib.hid (by trivial)⟩
            case measure => (simp [RowKit.intOf]; omega)
        · obtain rfl : k = n := by omega
          obtain ⟨h1, h2, h3⟩ := HE7.out c (by rw [HT.out, ← HN.out])
          have hw : IntKind.i64.wrap ((c : Int) + cm) = cl := by rw [h1]; exact IntWalk.i64_in _ (by omega)
          clear h1 h2 h3
          go_wp2_with fail
          have hN2 := HN.out
          clear HN HT hne HC
          subst hN2
          go_meet
          case rel => exact HB_49
  case rest => as_aux_lemma =>
    rename World => W52
    have l52 := hcut.out
    clear hcut HF HCl HM1 hq1
    clear l_28
    clear m_28
    clear e_28
    clear c29_T3_0 c29_T3_1
    clear T3_28
    clear c30_T5_0 c30_T5_1
    clear T5_28
    have HB_53 := Lib.hid (HB_28.out.trans (l52.mono HB_28.out.size))
    clear l52
    go_wp2_with fail
    refine (HD2.out _ (HR.out.below HB_53.out (Nat.le_refl _))).mono ?_
    rintro e W54 ⟨v_p, p, nu, rfl, o_p, hq2, hx2, l54⟩
    obtain ⟨a_p, c_p, rfl, _, _⟩ := ownz_slice o_p
    have O_p := Lib.hid (ownz_base o_p HB_53.out.size)
    clear o_p
    have HB_55 := Lib.hid (HB_53.out.trans (l54.mono HB_53.out.size))
    clear l54
    clear HD2
    go_upto_region 24 with fail
    obtain ⟨W56, hW56⟩ : ∃ W56, W56 = W54.alloc (.cells #[.int .i64 p.x, .slice a_p p.q.length c_p] 26) := ⟨_, rfl⟩
    have l56 : Below W54.heap.size W54 W56 := by rw [hW56]; exact (Below.refl _ _).alloc (Nat.le_refl _) _
    have X56_T23 : Hid (Bx W56 W54.heap.size #[.int .i64 p.x, .slice a_p p.q.length c_p] 26) := Lib.hid (by rw [hW56]; exact Bx.new _ _ _)
    rw [← hW56]
    clear hW56
    have BX_T23_p : Hid (∀ k, (.slice a_p p.q.length c_p : Value).ownBlock = some k → k ≠ W54.heap.size) := Lib.hid (fun k h1 h2 => absurd (O_p.out.lt k h1).2 (by omega))
    have HG_T23 : Hid (w.heap.size ≤ W54.heap.size) := Lib.hid HB_55.out.size
    obtain ⟨R_T23, hR_T23⟩ : ∃ X, X = W54.heap.size := ⟨_, rfl⟩
    rw [← hR_T23] at X56_T23 HG_T23 BX_T23_p ⊢
    clear hR_T23
    have HB_57 := Lib.hid (HB_55.out.trans (l56.mono HB_55.out.size))
    have p_57 := Lib.hid (ownz_below O_p.out l56 (Nat.le_refl _))
    clear O_p
    clear l56
    have c58_T23_0 := X56_T23.out.at 0 (v := .int .i64 p.x) rfl
    have c58_T23_1 := X56_T23.out.at 1 (v := .slice a_p p.q.length c_p) rfl
    have HM2 : Hid (∀ s ∈ p.q, s.s.size ≤ maxLen) := Lib.hid (fun s hs => le_maxLen10 (hq2.2 s hs))
    have HHi := Lib.hid (fun W h => implHave_any (.slice a_p p.q.length c_p) p W h HM2.out nu)
    have HHs := Lib.hid (fun W h => specHave_any (.slice a_p p.q.length c_p) p W h HM2.out nu)
    generalize haveV p nu = hv at HHi HHs
    generalize haveOk p nu = told at HHi HHs
    clear hx2 hq2
    go_wp2_with fail
    refine (HHi.out _ (rowz_own p_57.out)).mono ?_
    rintro e W59 ⟨rfl, l59⟩
    clear c58_T23_0 c58_T23_1
    have HB_60 := Lib.hid (HB_57.out.trans (l59.mono HB_57.out.size))
    have p_60 := Lib.hid (ownz_below p_57.out l59 (Nat.le_refl _))
    clear p_57
    have T23_60 := Lib.hid (X56_T23.out.below l59 X56_T23.out.lt)
    clear X56_T23
    clear l59
    have c61_T23_0 := T23_60.out.at 0 (v := .int .i64 p.x) rfl
    have c61_T23_1 := T23_60.out.at 1 (v := .slice a_p p.q.length c_p) rfl
    go_wp2_with fail
    refine (HHs.out _ (rowz_own p_60.out)).mono ?_
    rintro e W62 ⟨rfl, l62⟩
    clear c61_T23_0 c61_T23_1
    have HB_63 := Lib.hid (HB_60.out.trans (l62.mono HB_60.out.size))
    have p_63 := Lib.hid (ownz_below p_60.out l62 (Nat.le_refl _))
    clear p_60
    have T23_63 := Lib.hid (T23_60.out.below l62 T23_60.out.lt)
    clear T23_60
    clear l62
    have c64_T23_0 := T23_63.out.at 0 (v := .int .i64 p.x) rfl
    have c64_T23_1 := T23_63.out.at 1 (v := .slice a_p p.q.length c_p) rfl
    clear HHi HHs
    clear p_63
    clear c64_T23_0 c64_T23_1
    clear T23_63
    go_wp2_with fail
    refine (HD3.out _ (HR.out.below HB_63.out (Nat.le_refl _))).mono ?_
    rintro e W65 ⟨v_y, y, rfl, o_y, hq3, l65⟩
    obtain ⟨a_y, c_y, rfl, _, _⟩ := ownz_slice o_y
    have O_y := Lib.hid (ownz_base o_y HB_63.out.size)
    clear o_y
    have HB_66 := Lib.hid (HB_63.out.trans (l65.mono HB_63.out.size))
    clear l65
    clear HD3
    go_upto_region 29 with fail
    obtain ⟨W67, hW67⟩ : ∃ W67, W67 = W65.alloc (.cells #[.int .i64 y.x, .slice a_y y.q.length c_y] 26) := ⟨_, rfl⟩
    have l67 : Below W65.heap.size W65 W67 := by rw [hW67]; exact (Below.refl _ _).alloc (Nat.le_refl _) _
    have X67_T29 : Hid (Bx W67 W65.heap.size #[.int .i64 y.x, .slice a_y y.q.length c_y] 26) := Lib.hid (by rw [hW67]; exact Bx.new _ _ _)
    rw [← hW67]
    clear hW67
    have BX_T29_y : Hid (∀ k, (.slice a_y y.q.length c_y : Value).ownBlock = some k → k ≠ W65.heap.size) := Lib.hid (fun k h1 h2 => absurd (O_y.out.lt k h1).2 (by omega))
    have HG_T29 : Hid (w.heap.size ≤ W65.heap.size) := Lib.hid HB_66.out.size
    obtain ⟨R_T29, hR_T29⟩ : ∃ X, X = W65.heap.size := ⟨_, rfl⟩
    rw [← hR_T29] at X67_T29 HG_T29 BX_T29_y ⊢
    clear hR_T29
    have HB_68 := Lib.hid (HB_66.out.trans (l67.mono HB_66.out.size))
    have y_68 := Lib.hid (ownz_below O_y.out l67 (Nat.le_refl _))
    clear O_y
    clear l67
    have c69_T29_0 := X67_T29.out.at 0 (v := .int .i64 y.x) rfl
    have c69_T29_1 := X67_T29.out.at 1 (v := .slice a_y y.q.length c_y) rfl
    have HM3 : Hid (∀ s ∈ y.q, s.s.size ≤ maxLen) := Lib.hid (fun s hs => le_maxLen10 (hq3.2 s hs))
    have HGi := Lib.hid (fun W h => implHigh_any (.slice a_y y.q.length c_y) y W h HM3.out)
    have HGs := Lib.hid (fun W h => specHigh_any (.slice a_y y.q.length c_y) y W h HM3.out)
    have HCi := Lib.hid (fun W h => implCnt_any (.slice a_y y.q.length c_y) y W h HM3.out)
    have HCs := Lib.hid (fun W h => specCnt_any (.slice a_y y.q.length c_y) y W h HM3.out)
    have HF := Lib.hid (@cnt_all10 y)
    have hq4 := hq3.1
    generalize highV y = hi at HGi HGs
    generalize cntV y = ca at HCi HCs HF
    generalize cntF y = cb at HCi HCs HF
    generalize rwOk y = fine at HGi HGs HCi HCs HF
    clear hq3 HM3 HM2
    go_wp2_with fail
    refine (HGi.out _ (rowz_own y_68.out)).mono ?_
    rintro e W70 ⟨rfl, l70⟩
    clear c69_T29_0 c69_T29_1
    have HB_71 := Lib.hid (HB_68.out.trans (l70.mono HB_68.out.size))
    have y_71 := Lib.hid (ownz_below y_68.out l70 (Nat.le_refl _))
    clear y_68
    have T29_71 := Lib.hid (X67_T29.out.below l70 X67_T29.out.lt)
    clear X67_T29
    clear l70
    have c72_T29_0 := T29_71.out.at 0 (v := .int .i64 y.x) rfl
    have c72_T29_1 := T29_71.out.at 1 (v := .slice a_y y.q.length c_y) rfl
    go_wp2_with fail
    refine (HGs.out _ (rowz_own y_71.out)).mono ?_
    rintro e W73 ⟨rfl, l73⟩
    clear c72_T29_0 c72_T29_1
    have HB_74 := Lib.hid (HB_71.out.trans (l73.mono HB_71.out.size))
    have y_74 := Lib.hid (ownz_below y_71.out l73 (Nat.le_refl _))
    clear y_71
    have T29_74 := Lib.hid (T29_71.out.below l73 T29_71.out.lt)
    clear T29_71
    clear l73
    have c75_T29_0 := T29_74.out.at 0 (v := .int .i64 y.x) rfl
    have c75_T29_1 := T29_74.out.at 1 (v := .slice a_y y.q.length c_y) rfl
    go_wp2_with fail
    refine (HCi.out _ (rowz_own y_74.out)).mono ?_
    rintro e W76 ⟨rfl, l76⟩
    clear c75_T29_0 c75_T29_1
    have HB_77 := Lib.hid (HB_74.out.trans (l76.mono HB_74.out.size))
    have y_77 := Lib.hid (ownz_below y_74.out l76 (Nat.le_refl _))
    clear y_74
    have T29_77 := Lib.hid (T29_74.out.below l76 T29_74.out.lt)
    clear T29_74
    clear l76
    have c78_T29_0 := T29_77.out.at 0 (v := .int .i64 y.x) rfl
    have c78_T29_1 := T29_77.out.at 1 (v := .slice a_y y.q.length c_y) rfl
    go_wp2_with fail
    refine (HCs.out _ (rowz_own y_77.out)).mono ?_
    rintro e W79 ⟨rfl, l79⟩
    clear c78_T29_0 c78_T29_1
    have HB_80 := Lib.hid (HB_77.out.trans (l79.mono HB_77.out.size))
    have y_80 := Lib.hid (ownz_below y_77.out l79 (Nat.le_refl _))
    clear y_77
    have T29_80 := Lib.hid (T29_77.out.below l79 T29_77.out.lt)
    clear T29_77
    clear l79
    have c81_T29_0 := T29_80.out.at 0 (v := .int .i64 y.x) rfl
    have c81_T29_1 := T29_80.out.at 1 (v := .slice a_y y.q.length c_y) rfl
    clear HGi HGs HCi HCs
    cases fine with
    | false =>
      clear HF
      go_wp2_with fail
      go_ret
      exact ⟨by simp, HB_80.out⟩
    | true =>
      have h1 := HF.out rfl
      have hw : IntKind.i64.wrap (ca + cb) = (y.q.length : Int) := by rw [h1]; exact IntWalk.i64_in _ (by omega)
      clear HF h1
      go_wp2_with fail
      go_ret
      exact ⟨by simp, HB_80.out⟩
end Go.Proofs.Ytpmjdppipalfcaa
