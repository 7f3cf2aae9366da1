/-
  The draws of chapter 9: serials in or near a window, and what the laws draw.
-/
import Derived.Test.YtkijfneaglogmaaDrawSnd
namespace Go.Proofs.Ytkijfneaglogmaa
open Go.RowKit Go.Lib Go.Joins
set_option linter.unusedVariables false

def pushS : List ByteArray := [⟨#[]⟩, ⟨#[97]⟩, ⟨#[97, 98, 99]⟩, ⟨#[120, 121, 122]⟩, ⟨#[97, 98, 99, 100, 101, 102, 103, 104]⟩, ⟨#[97, 98, 99, 100, 101, 102, 103, 104, 105]⟩, ⟨#[65]⟩, ⟨#[104, 101, 108, 108, 111]⟩]
theorem pushS_size : ∀ x ∈ pushS, x.size ≤ 9 := by
  intro x hx
  simp only [pushS, List.mem_cons, List.not_mem_nil, or_false] at hx
  rcases hx with rfl | rfl | rfl | rfl | rfl | rfl | rfl | rfl <;> decide
def sizeL : List Int := [1, 2, 3, 5, 6, 7, 0]
set_option maxRecDepth 100000 in
set_option maxHeartbeats 2000000 in
theorem heldOf_any (B m : Nat) (z : List Int) (a : Option Addr) (cap : Nat) (l : Sw) (w : World) (h : Cu w B z m) (hm : m ≤ 600000) (hl : l.q.length ≤ 100) :
    Calls Try.prog 70 #[.pointer (some ⟨B, 0, none⟩), .agg #[.int .i64 l.t, .int .i64 l.z, .slice a l.q.length cap]] w fun e w' => ∃ x : Int, (-1 ≤ x ∧ x ≤ 65536) ∧ e = .returned (.int .i64 x) ∧ Cu w' B z (m + 20) ∧ w.grownBy w' (some B) := by
  obtain ⟨t, y, q⟩ := l
  dsimp only at hl ⊢
  obtain ⟨W0, R_T, hW0, hR_T, hX_T, hB0⟩ := entry1 w #[.int .i64 t, .int .i64 y, .slice a q.length cap] 26
  have HW0 := Lib.hid hW0
  have HB0 := Lib.hid hB0
  have HR_T := Lib.hid hR_T
  have HX_T := Lib.hid hX_T
  clear hW0 hB0 hR_T hX_T
  have hBT : B < R_T := by have := h.lt; have := HR_T.out; omega
  have HBT := Lib.hid hBT
  have HGr : Hid (w.grownBy W0 (some B)) := Lib.hid (by rw [HW0.out]; exact World.grownBy_alloc _ _ _)
  have HC := Lib.hid (h.grown (show w.grownBy W0 none by rw [HW0.out]; exact World.grownBy_alloc _ _ _))
  have HSer := Lib.hid (fun (W1 : World) => l2Good_any t W1)
  clear h hBT
  have hw1 : IntKind.i64.wrap ((q.length : Int) + 3) = (q.length : Int) + 3 := IntWalk.i64_in _ (by omega)
  cases hs : serB t with
  | false =>
    rw [hs] at HSer
    have c1_T_0 := HX_T.out.at 0 (v := .int .i64 t) rfl
    have c1_T_1 := HX_T.out.at 1 (v := .int .i64 y) rfl
    have c1_T_2 := HX_T.out.at 2 (v := .slice a q.length cap) rfl
    go_enter Try.func70, Try.ntmps70
    go_upto_region 1 with fail
    rw [← HW0.out, ← HR_T.out]
    go_wp2_with fail
    refine (HSer.out _).mono ?_
    rintro e _ ⟨rfl, rfl⟩
    go_wp2_with fail
    refine (anySerial_any B m z _ HC.out (by omega)).mono ?_
    rintro e w5 ⟨x, hx0, hx1, rfl, hc, hg⟩
    have HG5 := Lib.hid (g_trans HGr.out hg)
    have HC5 := Lib.hid hc
    clear hc hg
    go_wp2_with fail
    go_ret
    exact ⟨x, ⟨by omega, by omega⟩, rfl, HC5.out.mono (by omega), HG5.out⟩
  | true =>
    rw [hs] at HSer
    obtain ⟨t0, t1⟩ := serB_bd hs
    have c2_T_0 := HX_T.out.at 0 (v := .int .i64 t) rfl
    have c2_T_1 := HX_T.out.at 1 (v := .int .i64 y) rfl
    have c2_T_2 := HX_T.out.at 2 (v := .slice a q.length cap) rfl
    go_enter Try.func70, Try.ntmps70
    go_upto_region 1 with fail
    rw [← HW0.out, ← HR_T.out]
    go_wp2_with fail
    refine (HSer.out _).mono ?_
    rintro e _ ⟨rfl, rfl⟩
    go_wp2_with fail
    refine (one_any B m 12 z _ HC.out (by omega) (by omega) (by omega)).mono ?_
    rintro e w4 ⟨b, rfl, hc, hg⟩
    have HG4 := Lib.hid (g_trans HGr.out hg)
    have HT4 := Lib.hid (HX_T.out.grown hg (fun e => by have e2 : R_T = B := Option.some.inj e; have := HBT.out; omega))
    have HC4 := Lib.hid hc
    clear hc hg
    clear c2_T_0 c2_T_1 c2_T_2
    cases b with
    | true =>
      go_wp2_with fail
      refine (anySerial_any B (m + 2) z _ HC4.out (by omega)).mono ?_
      rintro e w5 ⟨x, hx0, hx1, rfl, hc, hg⟩
      have HG5 := Lib.hid (g_trans HG4.out hg)
      have HC5 := Lib.hid hc
      clear hc hg
      go_wp2_with fail
      go_ret
      exact ⟨x, ⟨by omega, by omega⟩, rfl, HC5.out.mono (by omega), HG5.out⟩
    | false =>
      have x0 := HT4.out.at 0 (v := .int .i64 t) rfl
      have x1 := HT4.out.at 1 (v := .int .i64 y) rfl
      have x2 := HT4.out.at 2 (v := .slice a q.length cap) rfl
      go_upto_region 3 with fail
      have HCd := Lib.hid (HC4.out.grown (gdrewB _ _))
      have HTd := Lib.hid (HT4.out.drew)
      have xd0 := HTd.out.at 0 (v := .int .i64 t) rfl
      have xd1 := HTd.out.at 1 (v := .int .i64 y) rfl
      have xd2 := HTd.out.at 2 (v := .slice a q.length cap) rfl
      go_region_law (first
        | (go_simp; go_at_call 92; refine (pickZ_any B (m + 2) _ z _ HCd.out (by omega) (by omega) (by omega)).mono ?_; rintro e w5 ⟨y5, hy, rfl, hc, hg⟩; have HG5 := Lib.hid (g_trans HG4.out (g_trans (gdrewB _ _) hg)); have HT5 := Lib.hid (HTd.out.grown hg (fun e => by have e2 : R_T = B := Option.some.inj e; have := HBT.out; omega)); have HC5 := Lib.hid hc; have xe0 := HT5.out.at 0 (v := .int .i64 t) rfl; have xe2 := HT5.out.at 2 (v := .slice a q.length cap) rfl; have hw2 : IntKind.i64.wrap ((y5 : Int) - 1) = (y5 : Int) - 1 := IntWalk.i64_in _ (by omega); clear hc hg; dsimp only)
        | (go_simp; go_at_call 75; refine (l2After_any t ((y5 : Int) - 1) _ t0 t1 (by omega) (by omega)).mono ?_; rintro e _ ⟨rfl, rfl⟩; dsimp only))
      all_goals go_wp2_with fail
      all_goals go_ret
      all_goals exact ⟨_, (by have := aftI_bd t ((y5 : Int) - 1); omega), rfl, HC5.out.mono (by omega), HG5.out⟩
set_option maxRecDepth 100000 in
set_option maxHeartbeats 2000000 in
theorem drawWin_any (v : Value) (z : List Int) (w : World) (hrow : Row w v z.length (z.map (Value.int .u8))) (hz : ∀ x ∈ z, 0 ≤ x ∧ x < 256) :
    Calls Try.prog 84 #[v] w fun e w' => ∃ (v' : Value) (l : Sw), e = .returned (.agg #[.int .i64 l.t, .int .i64 l.z, v']) ∧ w'.ownsRow w.heap.size 9 1 v' l.q.length (l.q.map Value.string) ∧ (l.q.length ≤ 7 ∧ ∀ s ∈ l.q, s.size ≤ 9) ∧ Below w.heap.size w w' := by
  obtain ⟨a0, cap0, rfl, _, _, _⟩ := row_open hrow
  obtain ⟨W0, R_A, R_C, hW0, hR_A, hR_C, hX_A, hX_C, hB0⟩ := entry2 w #[.int .i64 0, .int .i64 0, .slice none 0 0] #[.slice a0 z.length cap0, .int .i64 0, .int .u64 0] 26 74
  have HW0 := Lib.hid hW0
  have HB0 := Lib.hid hB0
  have HR_A := Lib.hid hR_A
  have HX_A := Lib.hid hX_A
  have HR_C := Lib.hid hR_C
  have HX_C := Lib.hid hX_C
  clear hW0 hB0 hR_A hX_A hR_C hX_C
  have CU0 := Lib.hid (cu_box HX_C.out (by have := HR_C.out; omega) HB0.out hrow hz)
  clear hrow hz
  have c3_A_0 := HX_A.out.at 0 (v := .int .i64 0) rfl
  have c3_A_1 := HX_A.out.at 1 (v := .int .i64 0) rfl
  have c3_A_2 := HX_A.out.at 2 (v := .slice none 0 0) rfl
  go_enter Try.func84, Try.ntmps84
  go_upto_region 2 with fail
  rw [← HW0.out, ← HR_C.out, ← HR_A.out]
  go_wp2_with fail
  refine (sendWindow_any R_C 0 z _ CU0.out (by omega)).mono ?_
  rintro e W4 ⟨v_l, l, rfl, o_l, hq, hc, hg⟩
  clear c3_A_0 c3_A_1 c3_A_2
  obtain ⟨a_l, c_l, rfl, _, _⟩ := own_someS0 o_l
  have O_l := Lib.hid (own_base o_l HB0.out.size)
  have BX_A_l : Hid (∀ k, (.slice a_l l.q.length c_l : Value).ownBlock = some k → k ≠ R_A) := Lib.hid (fun k h1 h2 => absurd HX_A.out.lt (Nat.not_lt.2 (by rw [← h2]; exact (o_l.lt k h1).1)))
  have BX_C_l : Hid (∀ k, (.slice a_l l.q.length c_l : Value).ownBlock = some k → k ≠ R_C) := Lib.hid (fun k h1 h2 => absurd CU0.out.lt (Nat.not_lt.2 (by rw [← h2]; exact (o_l.lt k h1).1)))
  clear o_l
  have HB_5 := Lib.hid (HB0.out.grown hg HB0.out.size (fun k hk => by have e2 : R_C = k := Option.some.inj hk; have := HR_C.out; omega))
  have A_5 := Lib.hid (HX_A.out.grown hg (by intro e; have e2 : R_A = R_C := Option.some.inj e; have h1 := HR_A.out; have h2 := HR_C.out; omega))
  have CU_5 := Lib.hid hc
  clear hc hg CU0
  have c6_A_0 := A_5.out.at 0 (v := .int .i64 0) rfl
  have c6_A_1 := A_5.out.at 1 (v := .int .i64 0) rfl
  have c6_A_2 := A_5.out.at 2 (v := .slice none 0 0) rfl
  have fr7_A_0 := A_5.out.free 0
  have fr7_A_1 := A_5.out.free 1
  have fr7_A_2 := A_5.out.free 2
  go_wp2_with fail
  obtain ⟨p1, q1⟩ := A_5.out.store3 (.int .i64 l.t) (.int .i64 l.z) (.slice a_l l.q.length c_l)
  refine bodyPost_ret (results_bx rfl isSw _ _ R_A rfl rfl p1) rfl ⟨_, l, rfl, (O_l.out.kept q1 (by
    cases hv : (.slice a_l l.q.length c_l : Value).ownBlock with
    | none => exact .inl rfl
    | some k => exact .inr (fun e => BX_A_l.out k hv (Option.some.inj e)))), hq, (HB_5.out.grown q1 HB_5.out.size (fun k hk => by have e2 : R_A = k := Option.some.inj hk; have := HR_A.out; omega))⟩
set_option maxRecDepth 100000 in
set_option maxHeartbeats 2000000 in
theorem drawStat_any (v : Value) (z : List Int) (w : World) (hrow : Row w v z.length (z.map (Value.int .u8))) (hz : ∀ x ∈ z, 0 ≤ x ∧ x < 256) :
    Calls Try.prog 41 #[v] w fun e w' => ∃ (v' : Value) (l : Sw), e = .returned (.agg #[.int .i64 l.t, .int .i64 l.z, v']) ∧ w'.ownsRow w.heap.size 9 1 v' l.q.length (l.q.map Value.string) ∧ (l.q.length ≤ 7 ∧ ∀ s ∈ l.q, s.size ≤ 9) ∧ Below w.heap.size w w' := by
  obtain ⟨a0, cap0, rfl, _, _, _⟩ := row_open hrow
  obtain ⟨W0, R_A, hW0, hR_A, hX_A, hB0⟩ := entry1 w #[.int .i64 0, .int .i64 0, .slice none 0 0] 26
  have HW0 := Lib.hid hW0
  have HB0 := Lib.hid hB0
  have HR_A := Lib.hid hR_A
  have HX_A := Lib.hid hX_A
  clear hW0 hB0 hR_A hX_A
  have HP := Lib.hid hrow
  have HZz := Lib.hid hz
  clear hrow hz
  have c8_A_0 := HX_A.out.at 0 (v := .int .i64 0) rfl
  have c8_A_1 := HX_A.out.at 1 (v := .int .i64 0) rfl
  have c8_A_2 := HX_A.out.at 2 (v := .slice none 0 0) rfl
  go_enter Try.func41, Try.ntmps41
  go_upto_region 1 with fail
  rw [← HW0.out, ← HR_A.out]
  go_wp2_with fail
  refine (drawWin_any (.slice a0 z.length cap0) z _ (HP.out.below HB0.out (Nat.le_refl _)) HZz.out).mono ?_
  rintro e W9 ⟨v_l, l, rfl, o_l, hq, l9⟩
  obtain ⟨a_l, c_l, rfl, _, _⟩ := own_someS0 o_l
  have O_l := Lib.hid (own_base o_l HB0.out.size)
  have BX_A_l : Hid (∀ k, (.slice a_l l.q.length c_l : Value).ownBlock = some k → k ≠ R_A) := Lib.hid (fun k h1 h2 => absurd HX_A.out.lt (Nat.not_lt.2 (by rw [← h2]; exact (o_l.lt k h1).1)))
  clear o_l
  clear c8_A_0 c8_A_1 c8_A_2
  have HB_10 := Lib.hid (HB0.out.trans (l9.mono HB0.out.size))
  have A_10 := Lib.hid (HX_A.out.below l9 HX_A.out.lt)
  clear l9
  have c11_A_0 := A_10.out.at 0 (v := .int .i64 0) rfl
  have c11_A_1 := A_10.out.at 1 (v := .int .i64 0) rfl
  have c11_A_2 := A_10.out.at 2 (v := .slice none 0 0) rfl
  have fr12_A_0 := A_10.out.free 0
  have fr12_A_1 := A_10.out.free 1
  have fr12_A_2 := A_10.out.free 2
  go_wp2_with fail
  obtain ⟨p1, q1⟩ := A_10.out.store3 (.int .i64 l.t) (.int .i64 l.z) (.slice a_l l.q.length c_l)
  refine bodyPost_ret (results_bx rfl isSw _ _ R_A rfl rfl p1) rfl ⟨_, l, rfl, (O_l.out.kept q1 (by
    cases hv : (.slice a_l l.q.length c_l : Value).ownBlock with
    | none => exact .inl rfl
    | some k => exact .inr (fun e => BX_A_l.out k hv (Option.some.inj e)))), hq, (HB_10.out.grown q1 HB_10.out.size (fun k hk => by have e2 : R_A = k := Option.some.inj hk; have := HR_A.out; omega))⟩
set_option maxRecDepth 100000 in
set_option maxHeartbeats 4000000 in
theorem drawHeld_any (v : Value) (z : List Int) (w : World) (hrow : Row w v z.length (z.map (Value.int .u8))) (hz : ∀ x ∈ z, 0 ≤ x ∧ x < 256) :
    Calls Try.prog 24 #[v] w fun e w' => ∃ (v' : Value) (l : Sw) (x : Int), e = .returned (.tuple #[.agg #[.int .i64 l.t, .int .i64 l.z, v'], .int .i64 x]) ∧ w'.ownsRow w.heap.size 9 1 v' l.q.length (l.q.map Value.string) ∧ (l.q.length ≤ 7 ∧ ∀ s ∈ l.q, s.size ≤ 9) ∧ (-1 ≤ x ∧ x ≤ 65536) ∧ Below w.heap.size w w' := by
  obtain ⟨a0, cap0, rfl, _, _, _⟩ := row_open hrow
  obtain ⟨W0, R_A, R_C, hW0, hR_A, hR_C, hX_A, hX_C, hB0⟩ := entry2 w #[.int .i64 0, .int .i64 0, .slice none 0 0] #[.slice a0 z.length cap0, .int .i64 0, .int .u64 0] 26 74
  have HW0 := Lib.hid hW0
  have HB0 := Lib.hid hB0
  have HR_A := Lib.hid hR_A
  have HX_A := Lib.hid hX_A
  have HR_C := Lib.hid hR_C
  have HX_C := Lib.hid hX_C
  clear hW0 hB0 hR_A hX_A hR_C hX_C
  have CU0 := Lib.hid (cu_box HX_C.out (by have := HR_C.out; omega) HB0.out hrow hz)
  clear hrow hz
  have c13_A_0 := HX_A.out.at 0 (v := .int .i64 0) rfl
  have c13_A_1 := HX_A.out.at 1 (v := .int .i64 0) rfl
  have c13_A_2 := HX_A.out.at 2 (v := .slice none 0 0) rfl
  go_enter Try.func24, Try.ntmps24
  go_upto_region 2 with fail
  rw [← HW0.out, ← HR_C.out, ← HR_A.out]
  go_wp2_with fail
  refine (sendWindow_any R_C 0 z _ CU0.out (by omega)).mono ?_
  rintro e W14 ⟨v_l, l, rfl, o_l, hq, hc, hg⟩
  clear c13_A_0 c13_A_1 c13_A_2
  obtain ⟨a_l, c_l, rfl, _, _⟩ := own_someS0 o_l
  have O_l := Lib.hid (own_base o_l HB0.out.size)
  have BX_A_l : Hid (∀ k, (.slice a_l l.q.length c_l : Value).ownBlock = some k → k ≠ R_A) := Lib.hid (fun k h1 h2 => absurd HX_A.out.lt (Nat.not_lt.2 (by rw [← h2]; exact (o_l.lt k h1).1)))
  have BX_C_l : Hid (∀ k, (.slice a_l l.q.length c_l : Value).ownBlock = some k → k ≠ R_C) := Lib.hid (fun k h1 h2 => absurd CU0.out.lt (Nat.not_lt.2 (by rw [← h2]; exact (o_l.lt k h1).1)))
  clear o_l
  have HB_15 := Lib.hid (HB0.out.grown hg HB0.out.size (fun k hk => by have e2 : R_C = k := Option.some.inj hk; have := HR_C.out; omega))
  have A_15 := Lib.hid (HX_A.out.grown hg (by intro e; have e2 : R_A = R_C := Option.some.inj e; have h1 := HR_A.out; have h2 := HR_C.out; omega))
  have CU_15 := Lib.hid hc
  clear hc hg CU0
  have c16_A_0 := A_15.out.at 0 (v := .int .i64 0) rfl
  have c16_A_1 := A_15.out.at 1 (v := .int .i64 0) rfl
  have c16_A_2 := A_15.out.at 2 (v := .slice none 0 0) rfl
  have hnc_O := CU_15.out.lt
  go_upto_region 3 with fail
  obtain ⟨W17, hW17⟩ : ∃ W17, W17 = W14.alloc (.cells #[.int .i64 l.t, .int .i64 l.z, .slice a_l l.q.length c_l] 26) := ⟨_, rfl⟩
  have l17 : Below W14.heap.size W14 W17 := by rw [hW17]; exact (Below.refl _ _).alloc (Nat.le_refl _) _
  have X17_O : Hid (Bx W17 W14.heap.size #[.int .i64 l.t, .int .i64 l.z, .slice a_l l.q.length c_l] 26) := Lib.hid (by rw [hW17]; exact Bx.new _ _ _)
  rw [← hW17]
  clear hW17
  have BX_O_l : Hid (∀ k, (.slice a_l l.q.length c_l : Value).ownBlock = some k → k ≠ W14.heap.size) := Lib.hid (fun k h1 h2 => absurd (O_l.out.lt k h1).2 (by omega))
  have HG_O : Hid (w.heap.size ≤ W14.heap.size) := Lib.hid HB_15.out.size
  have HN_O_A : Hid (R_A < W14.heap.size) := Lib.hid A_15.out.lt
  obtain ⟨R_O, hR_O⟩ : ∃ X, X = W14.heap.size := ⟨_, rfl⟩
  rw [← hR_O] at X17_O HG_O BX_O_l HN_O_A hnc_O ⊢
  clear hR_O
  have CU_18 := Lib.hid (cu_below CU_15.out l17)
  clear CU_15
  clear c16_A_0 c16_A_1 c16_A_2
  have HB_19 := Lib.hid (HB_15.out.trans (l17.mono HB_15.out.size))
  have l_19 := Lib.hid (own_below O_l.out l17 (Nat.le_refl _))
  clear O_l
  have A_19 := Lib.hid (A_15.out.below l17 A_15.out.lt)
  clear A_15
  clear l17
  have c20_A_0 := A_19.out.at 0 (v := .int .i64 0) rfl
  have c20_A_1 := A_19.out.at 1 (v := .int .i64 0) rfl
  have c20_A_2 := A_19.out.at 2 (v := .slice none 0 0) rfl
  have c21_O_0 := X17_O.out.at 0 (v := .int .i64 l.t) rfl
  have c21_O_1 := X17_O.out.at 1 (v := .int .i64 l.z) rfl
  have c21_O_2 := X17_O.out.at 2 (v := .slice a_l l.q.length c_l) rfl
  have HN_O_C : Hid (R_C < R_O) := Lib.hid hnc_O
  clear hnc_O
  clear c20_A_0 c20_A_1 c20_A_2
  have c22_A_0 := A_19.out.at 0 (v := .int .i64 0) rfl
  have c22_A_1 := A_19.out.at 1 (v := .int .i64 0) rfl
  have c22_A_2 := A_19.out.at 2 (v := .slice none 0 0) rfl
  clear c21_O_0 c21_O_1 c21_O_2
  have c23_O_0 := X17_O.out.at 0 (v := .int .i64 l.t) rfl
  have c23_O_1 := X17_O.out.at 1 (v := .int .i64 l.z) rfl
  have c23_O_2 := X17_O.out.at 2 (v := .slice a_l l.q.length c_l) rfl
  have fr24_A_0 := A_19.out.free 0
  have fr24_A_1 := A_19.out.free 1
  have fr24_A_2 := A_19.out.free 2
  have hdA := A_19.out.drew
  have hdO := X17_O.out.drew
  have xdA0 := hdA.at 0 (v := .int .i64 0) rfl
  have xdA1 := hdA.at 1 (v := .int .i64 0) rfl
  have xdA2 := hdA.at 2 (v := .slice none 0 0) rfl
  have xdO0 := hdO.at 0 (v := .int .i64 l.t) rfl
  have xdO1 := hdO.at 1 (v := .int .i64 l.z) rfl
  have xdO2 := hdO.at 2 (v := .slice a_l l.q.length c_l) rfl
  have fd0 := hdA.free 0
  have fd1 := hdA.free 1
  have fd2 := hdA.free 2
  have hneA : R_A ≠ R_O := fun e => absurd (congrArg some e) (by intro e; have e2 : R_A = R_O := Option.some.inj e; have h1 := HN_O_A.out; omega)
  have hneO : R_O ≠ R_A := fun e => hneA e.symm
  have HCd := Lib.hid (CU_18.out.grown (gdrewB _ _))
  go_region_law (first
    | (go_simp; go_at_call 70; refine (heldOf_any R_C _ z a_l c_l l _ HCd.out (by omega) (by omega)).mono ?_; rintro e w8 ⟨x, hx, rfl, hc, hg⟩; have h8O := hdO.grown hg (by intro e; have e2 : R_O = R_C := Option.some.inj e; have h1 := HN_O_C.out; omega); have h8A := hdA.grown hg (by intro e; have e2 : R_A = R_C := Option.some.inj e; have h1 := HR_A.out; have h2 := HR_C.out; omega); have zA0 := h8A.at 0 (v := .int .i64 0) rfl; have zA1 := h8A.at 1 (v := .int .i64 0) rfl; have zA2 := h8A.at 2 (v := .slice none 0 0) rfl; have zO0 := h8O.at 0 (v := .int .i64 l.t) rfl; have zO1 := h8O.at 1 (v := .int .i64 l.z) rfl; have zO2 := h8O.at 2 (v := .slice a_l l.q.length c_l) rfl; have fz0 := h8A.free 0; have fz1 := h8A.free 1; have fz2 := h8A.free 2; dsimp only))
  all_goals go_wp2_with fail
  all_goals
    have hg2 := g_trans (gdrewB _ _) hg
    obtain ⟨p1, q1⟩ := h8A.store3 (.int .i64 l.t) (.int .i64 l.z) (.slice a_l l.q.length c_l)
    have hB8 := HB_19.out.grown hg2 HB_19.out.size (fun k hk => by have e2 : R_C = k := Option.some.inj hk; have := HR_C.out; omega)
    have hB9 := hB8.grown q1 hB8.size (fun k hk => by have e2 : R_A = k := Option.some.inj hk; have := HR_A.out; omega)
    have ho8 := l_19.out.kept hg2 (by
      cases hv : (.slice a_l l.q.length c_l : Value).ownBlock with
      | none => exact .inl rfl
      | some k => exact .inr (fun e => BX_C_l.out k hv (Option.some.inj e)))
    have ho9 := ho8.kept q1 (by
      cases hv : (.slice a_l l.q.length c_l : Value).ownBlock with
      | none => exact .inl rfl
      | some k => exact .inr (fun e => BX_A_l.out k hv (Option.some.inj e)))
    refine bodyPost_ret (results_bx1 rfl isSw _ _ R_A rfl rfl rfl p1) rfl ⟨_, l, x, rfl, ho9, hq, hx, hB9⟩
set_option maxRecDepth 100000 in
set_option maxHeartbeats 2000000 in
theorem drawDrop9_any (v : Value) (z : List Int) (w : World) (hrow : Row w v z.length (z.map (Value.int .u8))) (hz : ∀ x ∈ z, 0 ≤ x ∧ x < 256) :
    Calls Try.prog 35 #[v] w fun e w' => ∃ (v' : Value) (l : Sw) (x : Int), e = .returned (.tuple #[.agg #[.int .i64 l.t, .int .i64 l.z, v'], .int .i64 x]) ∧ w'.ownsRow w.heap.size 9 1 v' l.q.length (l.q.map Value.string) ∧ (l.q.length ≤ 7 ∧ ∀ s ∈ l.q, s.size ≤ 9) ∧ (-1 ≤ x ∧ x ≤ 65536) ∧ Below w.heap.size w w' := by
  obtain ⟨a0, cap0, rfl, _, _, _⟩ := row_open hrow
  obtain ⟨W0, R_A, hW0, hR_A, hX_A, hB0⟩ := entry1 w #[.int .i64 0, .int .i64 0, .slice none 0 0] 26
  have HW0 := Lib.hid hW0
  have HB0 := Lib.hid hB0
  have HR_A := Lib.hid hR_A
  have HX_A := Lib.hid hX_A
  clear hW0 hB0 hR_A hX_A
  have HP := Lib.hid hrow
  have HZz := Lib.hid hz
  clear hrow hz
  have c25_A_0 := HX_A.out.at 0 (v := .int .i64 0) rfl
  have c25_A_1 := HX_A.out.at 1 (v := .int .i64 0) rfl
  have c25_A_2 := HX_A.out.at 2 (v := .slice none 0 0) rfl
  go_enter Try.func35, Try.ntmps35
  go_upto_region 1 with fail
  rw [← HW0.out, ← HR_A.out]
  go_wp2_with fail
  refine (drawHeld_any (.slice a0 z.length cap0) z _ (HP.out.below HB0.out (Nat.le_refl _)) HZz.out).mono ?_
  rintro e W26 ⟨v_l, l, x, rfl, o_l, hq, hx, l26⟩
  obtain ⟨a_l, c_l, rfl, _, _⟩ := own_someS0 o_l
  have O_l := Lib.hid (own_base o_l HB0.out.size)
  have BX_A_l : Hid (∀ k, (.slice a_l l.q.length c_l : Value).ownBlock = some k → k ≠ R_A) := Lib.hid (fun k h1 h2 => absurd HX_A.out.lt (Nat.not_lt.2 (by rw [← h2]; exact (o_l.lt k h1).1)))
  clear o_l
  clear c25_A_0 c25_A_1 c25_A_2
  have HB_27 := Lib.hid (HB0.out.trans (l26.mono HB0.out.size))
  have A_27 := Lib.hid (HX_A.out.below l26 HX_A.out.lt)
  clear l26
  have c28_A_0 := A_27.out.at 0 (v := .int .i64 0) rfl
  have c28_A_1 := A_27.out.at 1 (v := .int .i64 0) rfl
  have c28_A_2 := A_27.out.at 2 (v := .slice none 0 0) rfl
  have fr29_A_0 := A_27.out.free 0
  have fr29_A_1 := A_27.out.free 1
  have fr29_A_2 := A_27.out.free 2
  go_wp2_with fail
  obtain ⟨p1, q1⟩ := A_27.out.store3 (.int .i64 l.t) (.int .i64 l.z) (.slice a_l l.q.length c_l)
  refine bodyPost_ret (results_bx1 rfl isSw _ _ R_A rfl rfl rfl p1) rfl ⟨_, l, x, rfl, (O_l.out.kept q1 (by
    cases hv : (.slice a_l l.q.length c_l : Value).ownBlock with
    | none => exact .inl rfl
    | some k => exact .inr (fun e => BX_A_l.out k hv (Option.some.inj e)))), hq, hx, (HB_27.out.grown q1 HB_27.out.size (fun k hk => by have e2 : R_A = k := Option.some.inj hk; have := HR_A.out; omega))⟩
set_option maxRecDepth 100000 in
set_option maxHeartbeats 4000000 in
theorem drawPush9_any (v : Value) (z : List Int) (w : World) (hrow : Row w v z.length (z.map (Value.int .u8))) (hz : ∀ x ∈ z, 0 ≤ x ∧ x < 256) :
    Calls Try.prog 15 #[v] w fun e w' => ∃ (v' : Value) (l : Sw) (s : ByteArray), e = .returned (.tuple #[.agg #[.int .i64 l.t, .int .i64 l.z, v'], .string s]) ∧ w'.ownsRow w.heap.size 9 1 v' l.q.length (l.q.map Value.string) ∧ (l.q.length ≤ 7 ∧ ∀ s ∈ l.q, s.size ≤ 9) ∧ s.size ≤ 9 ∧ Below w.heap.size w w' := by
  obtain ⟨a0, cap0, rfl, _, _, _⟩ := row_open hrow
  obtain ⟨W0, R_A, R_C, hW0, hR_A, hR_C, hX_A, hX_C, hB0⟩ := entry2 w #[.int .i64 0, .int .i64 0, .slice none 0 0] #[.slice a0 z.length cap0, .int .i64 0, .int .u64 0] 26 74
  have HW0 := Lib.hid hW0
  have HB0 := Lib.hid hB0
  have HR_A := Lib.hid hR_A
  have HX_A := Lib.hid hX_A
  have HR_C := Lib.hid hR_C
  have HX_C := Lib.hid hX_C
  clear hW0 hB0 hR_A hX_A hR_C hX_C
  have CU0 := Lib.hid (cu_box HX_C.out (by have := HR_C.out; omega) HB0.out hrow hz)
  clear hrow hz
  have c30_A_0 := HX_A.out.at 0 (v := .int .i64 0) rfl
  have c30_A_1 := HX_A.out.at 1 (v := .int .i64 0) rfl
  have c30_A_2 := HX_A.out.at 2 (v := .slice none 0 0) rfl
  go_enter Try.func15, Try.ntmps15
  go_upto_region 2 with fail
  rw [← HW0.out, ← HR_C.out, ← HR_A.out]
  go_wp2_with fail
  refine (sendWindow_any R_C 0 z _ CU0.out (by omega)).mono ?_
  rintro e W31 ⟨v_l, l, rfl, o_l, hq, hc, hg⟩
  clear c30_A_0 c30_A_1 c30_A_2
  obtain ⟨a_l, c_l, rfl, _, _⟩ := own_someS0 o_l
  have O_l := Lib.hid (own_base o_l HB0.out.size)
  have BX_A_l : Hid (∀ k, (.slice a_l l.q.length c_l : Value).ownBlock = some k → k ≠ R_A) := Lib.hid (fun k h1 h2 => absurd HX_A.out.lt (Nat.not_lt.2 (by rw [← h2]; exact (o_l.lt k h1).1)))
  have BX_C_l : Hid (∀ k, (.slice a_l l.q.length c_l : Value).ownBlock = some k → k ≠ R_C) := Lib.hid (fun k h1 h2 => absurd CU0.out.lt (Nat.not_lt.2 (by rw [← h2]; exact (o_l.lt k h1).1)))
  clear o_l
  have HB_32 := Lib.hid (HB0.out.grown hg HB0.out.size (fun k hk => by have e2 : R_C = k := Option.some.inj hk; have := HR_C.out; omega))
  have A_32 := Lib.hid (HX_A.out.grown hg (by intro e; have e2 : R_A = R_C := Option.some.inj e; have h1 := HR_A.out; have h2 := HR_C.out; omega))
  have CU_32 := Lib.hid hc
  clear hc hg CU0
  have c33_A_0 := A_32.out.at 0 (v := .int .i64 0) rfl
  have c33_A_1 := A_32.out.at 1 (v := .int .i64 0) rfl
  have c33_A_2 := A_32.out.at 2 (v := .slice none 0 0) rfl
  have hnc_O := CU_32.out.lt
  go_upto_region 3 with fail
  obtain ⟨W34, hW34⟩ : ∃ W34, W34 = W31.alloc (.cells #[.int .i64 l.t, .int .i64 l.z, .slice a_l l.q.length c_l] 26) := ⟨_, rfl⟩
  have l34 : Below W31.heap.size W31 W34 := by rw [hW34]; exact (Below.refl _ _).alloc (Nat.le_refl _) _
  have X34_O : Hid (Bx W34 W31.heap.size #[.int .i64 l.t, .int .i64 l.z, .slice a_l l.q.length c_l] 26) := Lib.hid (by rw [hW34]; exact Bx.new _ _ _)
  rw [← hW34]
  clear hW34
  have BX_O_l : Hid (∀ k, (.slice a_l l.q.length c_l : Value).ownBlock = some k → k ≠ W31.heap.size) := Lib.hid (fun k h1 h2 => absurd (O_l.out.lt k h1).2 (by omega))
  have HG_O : Hid (w.heap.size ≤ W31.heap.size) := Lib.hid HB_32.out.size
  have HN_O_A : Hid (R_A < W31.heap.size) := Lib.hid A_32.out.lt
  obtain ⟨R_O, hR_O⟩ : ∃ X, X = W31.heap.size := ⟨_, rfl⟩
  rw [← hR_O] at X34_O HG_O BX_O_l HN_O_A hnc_O ⊢
  clear hR_O
  have CU_35 := Lib.hid (cu_below CU_32.out l34)
  clear CU_32
  clear c33_A_0 c33_A_1 c33_A_2
  have HB_36 := Lib.hid (HB_32.out.trans (l34.mono HB_32.out.size))
  have l_36 := Lib.hid (own_below O_l.out l34 (Nat.le_refl _))
  clear O_l
  have A_36 := Lib.hid (A_32.out.below l34 A_32.out.lt)
  clear A_32
  clear l34
  have c37_A_0 := A_36.out.at 0 (v := .int .i64 0) rfl
  have c37_A_1 := A_36.out.at 1 (v := .int .i64 0) rfl
  have c37_A_2 := A_36.out.at 2 (v := .slice none 0 0) rfl
  have c38_O_0 := X34_O.out.at 0 (v := .int .i64 l.t) rfl
  have c38_O_1 := X34_O.out.at 1 (v := .int .i64 l.z) rfl
  have c38_O_2 := X34_O.out.at 2 (v := .slice a_l l.q.length c_l) rfl
  have HN_O_C : Hid (R_C < R_O) := Lib.hid hnc_O
  clear hnc_O
  clear c37_A_0 c37_A_1 c37_A_2
  have c39_A_0 := A_36.out.at 0 (v := .int .i64 0) rfl
  have c39_A_1 := A_36.out.at 1 (v := .int .i64 0) rfl
  have c39_A_2 := A_36.out.at 2 (v := .slice none 0 0) rfl
  clear c38_O_0 c38_O_1 c38_O_2
  have c40_O_0 := X34_O.out.at 0 (v := .int .i64 l.t) rfl
  have c40_O_1 := X34_O.out.at 1 (v := .int .i64 l.z) rfl
  have c40_O_2 := X34_O.out.at 2 (v := .slice a_l l.q.length c_l) rfl
  have fr41_A_0 := A_36.out.free 0
  have fr41_A_1 := A_36.out.free 1
  have fr41_A_2 := A_36.out.free 2
  have hdA := A_36.out.drew
  have hdO := X34_O.out.drew
  have xdA0 := hdA.at 0 (v := .int .i64 0) rfl
  have xdA1 := hdA.at 1 (v := .int .i64 0) rfl
  have xdA2 := hdA.at 2 (v := .slice none 0 0) rfl
  have xdO0 := hdO.at 0 (v := .int .i64 l.t) rfl
  have xdO1 := hdO.at 1 (v := .int .i64 l.z) rfl
  have xdO2 := hdO.at 2 (v := .slice a_l l.q.length c_l) rfl
  have fd0 := hdA.free 0
  have fd1 := hdA.free 1
  have fd2 := hdA.free 2
  have hneA : R_A ≠ R_O := fun e => absurd (congrArg some e) (by intro e; have e2 : R_A = R_O := Option.some.inj e; have h1 := HN_O_A.out; omega)
  have hneO : R_O ≠ R_A := fun e => hneA e.symm
  have HCd := Lib.hid (CU_35.out.grown (gdrewB _ _))
  have hbA := A_36.out.alloc (.cells #[.string ⟨#[]⟩, .string ⟨#[97]⟩, .string ⟨#[97, 98, 99]⟩, .string ⟨#[120, 121, 122]⟩, .string ⟨#[97, 98, 99, 100, 101, 102, 103, 104]⟩, .string ⟨#[97, 98, 99, 100, 101, 102, 103, 104, 105]⟩, .string ⟨#[65]⟩, .string ⟨#[104, 101, 108, 108, 111]⟩] 9)
  have hbO := X34_O.out.alloc (.cells #[.string ⟨#[]⟩, .string ⟨#[97]⟩, .string ⟨#[97, 98, 99]⟩, .string ⟨#[120, 121, 122]⟩, .string ⟨#[97, 98, 99, 100, 101, 102, 103, 104]⟩, .string ⟨#[97, 98, 99, 100, 101, 102, 103, 104, 105]⟩, .string ⟨#[65]⟩, .string ⟨#[104, 101, 108, 108, 111]⟩] 9)
  have xbA0 := hbA.at 0 (v := .int .i64 0) rfl
  have xbA1 := hbA.at 1 (v := .int .i64 0) rfl
  have xbA2 := hbA.at 2 (v := .slice none 0 0) rfl
  have xbO0 := hbO.at 0 (v := .int .i64 l.t) rfl
  have xbO1 := hbO.at 1 (v := .int .i64 l.z) rfl
  have xbO2 := hbO.at 2 (v := .slice a_l l.q.length c_l) rfl
  go_region_law (first
    | (go_simp; go_at_call 56; refine (of_any R_C _ z _ pushS _ (by first | exact HCd.out.grown (World.grownBy_alloc _ _ none) | exact (CU_35.out.grown (World.grownBy_alloc _ (.cells (pushS.map Value.string).toArray 9) none)).grown (gdrewB _ _)) (by omega) (by decide) (by decide) (fun w' hg => by first | exact row_fresh (xs := pushS.map Value.string) (n := pushS.length) (List.length_map _).symm (by decide) CU_35.out.lt hg | exact row_fresh (xs := pushS.map Value.string) (n := pushS.length) (List.length_map _).symm (by decide) CU_35.out.lt (g_trans (gdrewB _ _) hg))).mono ?_; rintro e w8 ⟨s, hs, rfl, hc, hg8⟩; have hs9 := pushS_size s hs; have hg : W34.drew.grownBy w8 (some R_C) := g_trans (World.grownBy_alloc _ (.cells (pushS.map Value.string).toArray 9) _) hg8; have h8O := hdO.grown hg (by intro e; have e2 : R_O = R_C := Option.some.inj e; have h1 := HN_O_C.out; omega); have h8A := hdA.grown hg (by intro e; have e2 : R_A = R_C := Option.some.inj e; have h1 := HR_A.out; have h2 := HR_C.out; omega); have zA0 := h8A.at 0 (v := .int .i64 0) rfl; have zA1 := h8A.at 1 (v := .int .i64 0) rfl; have zA2 := h8A.at 2 (v := .slice none 0 0) rfl; have zO0 := h8O.at 0 (v := .int .i64 l.t) rfl; have zO1 := h8O.at 1 (v := .int .i64 l.z) rfl; have zO2 := h8O.at 2 (v := .slice a_l l.q.length c_l) rfl; have fz0 := h8A.free 0; have fz1 := h8A.free 1; have fz2 := h8A.free 2; dsimp only))
  all_goals go_wp2_with fail
  all_goals
    have hg2 := g_trans (gdrewB _ _) hg
    obtain ⟨p1, q1⟩ := h8A.store3 (.int .i64 l.t) (.int .i64 l.z) (.slice a_l l.q.length c_l)
    have hB8 := HB_36.out.grown hg2 HB_36.out.size (fun k hk => by have e2 : R_C = k := Option.some.inj hk; have := HR_C.out; omega)
    have hB9 := hB8.grown q1 hB8.size (fun k hk => by have e2 : R_A = k := Option.some.inj hk; have := HR_A.out; omega)
    have ho8 := l_36.out.kept hg2 (by
      cases hv : (.slice a_l l.q.length c_l : Value).ownBlock with
      | none => exact .inl rfl
      | some k => exact .inr (fun e => BX_C_l.out k hv (Option.some.inj e)))
    have ho9 := ho8.kept q1 (by
      cases hv : (.slice a_l l.q.length c_l : Value).ownBlock with
      | none => exact .inl rfl
      | some k => exact .inr (fun e => BX_A_l.out k hv (Option.some.inj e)))
    refine bodyPost_ret (results_bx1 rfl isSw _ _ R_A rfl rfl rfl p1) rfl ⟨_, l, s, rfl, ho9, hq, hs9, hB9⟩
set_option maxRecDepth 100000 in
set_option maxHeartbeats 4000000 in
theorem drawSize_any (v : Value) (z : List Int) (w : World) (hrow : Row w v z.length (z.map (Value.int .u8))) (hz : ∀ x ∈ z, 0 ≤ x ∧ x < 256) :
    Calls Try.prog 38 #[v] w fun e w' => ∃ (v' : Value) (l : Sw) (x : Int), e = .returned (.tuple #[.agg #[.int .i64 l.t, .int .i64 l.z, v'], .int .i64 x]) ∧ w'.ownsRow w.heap.size 9 1 v' l.q.length (l.q.map Value.string) ∧ (l.q.length ≤ 7 ∧ ∀ s ∈ l.q, s.size ≤ 9) ∧ Below w.heap.size w w' := by
  obtain ⟨a0, cap0, rfl, _, _, _⟩ := row_open hrow
  obtain ⟨W0, R_A, R_C, hW0, hR_A, hR_C, hX_A, hX_C, hB0⟩ := entry2 w #[.int .i64 0, .int .i64 0, .slice none 0 0] #[.slice a0 z.length cap0, .int .i64 0, .int .u64 0] 26 74
  have HW0 := Lib.hid hW0
  have HB0 := Lib.hid hB0
  have HR_A := Lib.hid hR_A
  have HX_A := Lib.hid hX_A
  have HR_C := Lib.hid hR_C
  have HX_C := Lib.hid hX_C
  clear hW0 hB0 hR_A hX_A hR_C hX_C
  have CU0 := Lib.hid (cu_box HX_C.out (by have := HR_C.out; omega) HB0.out hrow hz)
  clear hrow hz
  have c42_A_0 := HX_A.out.at 0 (v := .int .i64 0) rfl
  have c42_A_1 := HX_A.out.at 1 (v := .int .i64 0) rfl
  have c42_A_2 := HX_A.out.at 2 (v := .slice none 0 0) rfl
  go_enter Try.func38, Try.ntmps38
  go_upto_region 2 with fail
  rw [← HW0.out, ← HR_C.out, ← HR_A.out]
  go_wp2_with fail
  refine (sendWindow_any R_C 0 z _ CU0.out (by omega)).mono ?_
  rintro e W43 ⟨v_l, l, rfl, o_l, hq, hc, hg⟩
  clear c42_A_0 c42_A_1 c42_A_2
  obtain ⟨a_l, c_l, rfl, _, _⟩ := own_someS0 o_l
  have O_l := Lib.hid (own_base o_l HB0.out.size)
  have BX_A_l : Hid (∀ k, (.slice a_l l.q.length c_l : Value).ownBlock = some k → k ≠ R_A) := Lib.hid (fun k h1 h2 => absurd HX_A.out.lt (Nat.not_lt.2 (by rw [← h2]; exact (o_l.lt k h1).1)))
  have BX_C_l : Hid (∀ k, (.slice a_l l.q.length c_l : Value).ownBlock = some k → k ≠ R_C) := Lib.hid (fun k h1 h2 => absurd CU0.out.lt (Nat.not_lt.2 (by rw [← h2]; exact (o_l.lt k h1).1)))
  clear o_l
  have HB_44 := Lib.hid (HB0.out.grown hg HB0.out.size (fun k hk => by have e2 : R_C = k := Option.some.inj hk; have := HR_C.out; omega))
  have A_44 := Lib.hid (HX_A.out.grown hg (by intro e; have e2 : R_A = R_C := Option.some.inj e; have h1 := HR_A.out; have h2 := HR_C.out; omega))
  have CU_44 := Lib.hid hc
  clear hc hg CU0
  have c45_A_0 := A_44.out.at 0 (v := .int .i64 0) rfl
  have c45_A_1 := A_44.out.at 1 (v := .int .i64 0) rfl
  have c45_A_2 := A_44.out.at 2 (v := .slice none 0 0) rfl
  go_wp2_with fail
  refine (among_any R_C _ z _ sizeL _ (CU_44.out.grown (World.grownBy_alloc _ (.cells (sizeL.map (Value.int .i64)).toArray 3) none)) (by omega) (by decide) (by decide) (fun w' hg => row_fresh (xs := sizeL.map (Value.int .i64)) (n := sizeL.length) (List.length_map _).symm (by decide) CU_44.out.lt hg)).mono ?_
  rintro e w8 ⟨x, _, rfl, hc, hg8⟩
  have hg : W43.grownBy w8 (some R_C) := g_trans (World.grownBy_alloc _ (.cells (sizeL.map (Value.int .i64)).toArray 3) _) hg8
  clear hg8
  clear c45_A_0 c45_A_1 c45_A_2
  have HB_46 := Lib.hid (HB_44.out.grown hg HB_44.out.size (fun k hk => by have e2 : R_C = k := Option.some.inj hk; have := HR_C.out; omega))
  have l_46 := Lib.hid (O_l.out.kept hg (by
    cases hv : (.slice a_l l.q.length c_l : Value).ownBlock with
    | none => exact .inl rfl
    | some k => exact .inr (fun e => BX_C_l.out k hv (Option.some.inj e))))
  clear O_l
  have A_46 := Lib.hid (A_44.out.grown hg (by intro e; have e2 : R_A = R_C := Option.some.inj e; have h1 := HR_A.out; have h2 := HR_C.out; omega))
  clear A_44
  have CU_46 := Lib.hid hc
  clear hc hg CU_44
  have c47_A_0 := A_46.out.at 0 (v := .int .i64 0) rfl
  have c47_A_1 := A_46.out.at 1 (v := .int .i64 0) rfl
  have c47_A_2 := A_46.out.at 2 (v := .slice none 0 0) rfl
  have fr48_A_0 := A_46.out.free 0
  have fr48_A_1 := A_46.out.free 1
  have fr48_A_2 := A_46.out.free 2
  go_wp2_with fail
  obtain ⟨p1, q1⟩ := A_46.out.store3 (.int .i64 l.t) (.int .i64 l.z) (.slice a_l l.q.length c_l)
  refine bodyPost_ret (results_bx1 rfl isSw _ _ R_A rfl rfl rfl p1) rfl ⟨_, l, x, rfl, (l_46.out.kept q1 (by
    cases hv : (.slice a_l l.q.length c_l : Value).ownBlock with
    | none => exact .inl rfl
    | some k => exact .inr (fun e => BX_A_l.out k hv (Option.some.inj e)))), hq, (HB_46.out.grown q1 HB_46.out.size (fun k hk => by have e2 : R_A = k := Option.some.inj hk; have := HR_A.out; omega))⟩
set_option maxRecDepth 100000 in
set_option maxHeartbeats 8000000 in
theorem drawAns_any (v : Value) (z : List Int) (w : World) (hrow : Row w v z.length (z.map (Value.int .u8))) (hz : ∀ x ∈ z, 0 ≤ x ∧ x < 256) :
    Calls Try.prog 31 #[v] w fun e w' => ∃ (v' : Value) (l : Sw) (p : Pk), e = .returned (.tuple #[.agg #[.int .i64 l.t, .int .i64 l.z, v'], .agg #[.int .i64 p.k, .int .i64 p.n, .int .i64 p.t, .int .i64 p.l, .string p.d]]) ∧ w'.ownsRow w.heap.size 9 1 v' l.q.length (l.q.map Value.string) ∧ (l.q.length ≤ 7 ∧ ∀ s ∈ l.q, s.size ≤ 9) ∧ p.d.size ≤ 9 ∧ Below w.heap.size w w' := by
  obtain ⟨a0, cap0, rfl, _, _, _⟩ := row_open hrow
  obtain ⟨W0, R_A, R_B, R_C, hW0, hR_A, hR_B, hR_C, hX_A, hX_B, hX_C, hB0⟩ := entry3 w #[.int .i64 0, .int .i64 0, .slice none 0 0] #[.int .i64 0, .int .i64 0, .int .i64 0, .int .i64 0, .string ⟨#[]⟩] #[.slice a0 z.length cap0, .int .i64 0, .int .u64 0] 26 30 74
  have HW0 := Lib.hid hW0
  have HB0 := Lib.hid hB0
  have HR_A := Lib.hid hR_A
  have HX_A := Lib.hid hX_A
  have HR_B := Lib.hid hR_B
  have HX_B := Lib.hid hX_B
  have HR_C := Lib.hid hR_C
  have HX_C := Lib.hid hX_C
  clear hW0 hB0 hR_A hX_A hR_B hX_B hR_C hX_C
  have CU0 := Lib.hid (cu_box HX_C.out (by have := HR_C.out; omega) HB0.out hrow hz)
  clear hrow hz
  have c49_A_0 := HX_A.out.at 0 (v := .int .i64 0) rfl
  have c49_A_1 := HX_A.out.at 1 (v := .int .i64 0) rfl
  have c49_A_2 := HX_A.out.at 2 (v := .slice none 0 0) rfl
  have c50_B_0 := HX_B.out.at 0 (v := .int .i64 0) rfl
  have c50_B_1 := HX_B.out.at 1 (v := .int .i64 0) rfl
  have c50_B_2 := HX_B.out.at 2 (v := .int .i64 0) rfl
  have c50_B_3 := HX_B.out.at 3 (v := .int .i64 0) rfl
  have c50_B_4 := HX_B.out.at 4 (v := .string ⟨#[]⟩) rfl
  go_enter Try.func31, Try.ntmps31
  go_upto_region 2 with fail
  rw [← HW0.out, ← HR_C.out, ← HR_B.out, ← HR_A.out]
  go_wp2_with fail
  refine (sendWindow_any R_C 0 z _ CU0.out (by omega)).mono ?_
  rintro e W51 ⟨v_l, l, rfl, o_l, hq, hc, hg⟩
  clear c49_A_0 c49_A_1 c49_A_2
  clear c50_B_0 c50_B_1 c50_B_2 c50_B_3 c50_B_4
  obtain ⟨a_l, c_l, rfl, _, _⟩ := own_someS0 o_l
  have O_l := Lib.hid (own_base o_l HB0.out.size)
  have BX_A_l : Hid (∀ k, (.slice a_l l.q.length c_l : Value).ownBlock = some k → k ≠ R_A) := Lib.hid (fun k h1 h2 => absurd HX_A.out.lt (Nat.not_lt.2 (by rw [← h2]; exact (o_l.lt k h1).1)))
  have BX_B_l : Hid (∀ k, (.slice a_l l.q.length c_l : Value).ownBlock = some k → k ≠ R_B) := Lib.hid (fun k h1 h2 => absurd HX_B.out.lt (Nat.not_lt.2 (by rw [← h2]; exact (o_l.lt k h1).1)))
  have BX_C_l : Hid (∀ k, (.slice a_l l.q.length c_l : Value).ownBlock = some k → k ≠ R_C) := Lib.hid (fun k h1 h2 => absurd CU0.out.lt (Nat.not_lt.2 (by rw [← h2]; exact (o_l.lt k h1).1)))
  clear o_l
  have HB_52 := Lib.hid (HB0.out.grown hg HB0.out.size (fun k hk => by have e2 : R_C = k := Option.some.inj hk; have := HR_C.out; omega))
  have A_52 := Lib.hid (HX_A.out.grown hg (by intro e; have e2 : R_A = R_C := Option.some.inj e; have h1 := HR_A.out; have h2 := HR_C.out; omega))
  have B_52 := Lib.hid (HX_B.out.grown hg (by intro e; have e2 : R_B = R_C := Option.some.inj e; have h1 := HR_B.out; have h2 := HR_C.out; omega))
  have CU_52 := Lib.hid hc
  clear hc hg CU0
  have c53_A_0 := A_52.out.at 0 (v := .int .i64 0) rfl
  have c53_A_1 := A_52.out.at 1 (v := .int .i64 0) rfl
  have c53_A_2 := A_52.out.at 2 (v := .slice none 0 0) rfl
  have c54_B_0 := B_52.out.at 0 (v := .int .i64 0) rfl
  have c54_B_1 := B_52.out.at 1 (v := .int .i64 0) rfl
  have c54_B_2 := B_52.out.at 2 (v := .int .i64 0) rfl
  have c54_B_3 := B_52.out.at 3 (v := .int .i64 0) rfl
  have c54_B_4 := B_52.out.at 4 (v := .string ⟨#[]⟩) rfl
  have hnc_O := CU_52.out.lt
  go_upto_region 3 with fail
  obtain ⟨W55, hW55⟩ : ∃ W55, W55 = W51.alloc (.cells #[.int .i64 l.t, .int .i64 l.z, .slice a_l l.q.length c_l] 26) := ⟨_, rfl⟩
  have l55 : Below W51.heap.size W51 W55 := by rw [hW55]; exact (Below.refl _ _).alloc (Nat.le_refl _) _
  have X55_O : Hid (Bx W55 W51.heap.size #[.int .i64 l.t, .int .i64 l.z, .slice a_l l.q.length c_l] 26) := Lib.hid (by rw [hW55]; exact Bx.new _ _ _)
  rw [← hW55]
  clear hW55
  have BX_O_l : Hid (∀ k, (.slice a_l l.q.length c_l : Value).ownBlock = some k → k ≠ W51.heap.size) := Lib.hid (fun k h1 h2 => absurd (O_l.out.lt k h1).2 (by omega))
  have HG_O : Hid (w.heap.size ≤ W51.heap.size) := Lib.hid HB_52.out.size
  have HN_O_A : Hid (R_A < W51.heap.size) := Lib.hid A_52.out.lt
  have HN_O_B : Hid (R_B < W51.heap.size) := Lib.hid B_52.out.lt
  obtain ⟨R_O, hR_O⟩ : ∃ X, X = W51.heap.size := ⟨_, rfl⟩
  rw [← hR_O] at X55_O HG_O BX_O_l HN_O_A HN_O_B hnc_O ⊢
  clear hR_O
  have CU_56 := Lib.hid (cu_below CU_52.out l55)
  clear CU_52
  clear c53_A_0 c53_A_1 c53_A_2
  clear c54_B_0 c54_B_1 c54_B_2 c54_B_3 c54_B_4
  have HB_57 := Lib.hid (HB_52.out.trans (l55.mono HB_52.out.size))
  have l_57 := Lib.hid (own_below O_l.out l55 (Nat.le_refl _))
  clear O_l
  have A_57 := Lib.hid (A_52.out.below l55 A_52.out.lt)
  clear A_52
  have B_57 := Lib.hid (B_52.out.below l55 B_52.out.lt)
  clear B_52
  clear l55
  have c58_A_0 := A_57.out.at 0 (v := .int .i64 0) rfl
  have c58_A_1 := A_57.out.at 1 (v := .int .i64 0) rfl
  have c58_A_2 := A_57.out.at 2 (v := .slice none 0 0) rfl
  have c59_B_0 := B_57.out.at 0 (v := .int .i64 0) rfl
  have c59_B_1 := B_57.out.at 1 (v := .int .i64 0) rfl
  have c59_B_2 := B_57.out.at 2 (v := .int .i64 0) rfl
  have c59_B_3 := B_57.out.at 3 (v := .int .i64 0) rfl
  have c59_B_4 := B_57.out.at 4 (v := .string ⟨#[]⟩) rfl
  have c60_O_0 := X55_O.out.at 0 (v := .int .i64 l.t) rfl
  have c60_O_1 := X55_O.out.at 1 (v := .int .i64 l.z) rfl
  have c60_O_2 := X55_O.out.at 2 (v := .slice a_l l.q.length c_l) rfl
  have HN_O_C : Hid (R_C < R_O) := Lib.hid hnc_O
  clear hnc_O
  go_wp2_with fail
  refine (anyPacket_any R_C _ z _ CU_56.out (by omega)).mono ?_
  rintro e W61 ⟨pk, pn, pt, pl, pd, hpd, rfl, hc, hg⟩
  clear c58_A_0 c58_A_1 c58_A_2
  clear c59_B_0 c59_B_1 c59_B_2 c59_B_3 c59_B_4
  clear c60_O_0 c60_O_1 c60_O_2
  have HB_62 := Lib.hid (HB_57.out.grown hg HB_57.out.size (fun k hk => by have e2 : R_C = k := Option.some.inj hk; have := HR_C.out; omega))
  have l_62 := Lib.hid (l_57.out.kept hg (by
    cases hv : (.slice a_l l.q.length c_l : Value).ownBlock with
    | none => exact .inl rfl
    | some k => exact .inr (fun e => BX_C_l.out k hv (Option.some.inj e))))
  clear l_57
  have A_62 := Lib.hid (A_57.out.grown hg (by intro e; have e2 : R_A = R_C := Option.some.inj e; have h1 := HR_A.out; have h2 := HR_C.out; omega))
  clear A_57
  have B_62 := Lib.hid (B_57.out.grown hg (by intro e; have e2 : R_B = R_C := Option.some.inj e; have h1 := HR_B.out; have h2 := HR_C.out; omega))
  clear B_57
  have O_62 := Lib.hid (X55_O.out.grown hg (by intro e; have e2 : R_O = R_C := Option.some.inj e; have h1 := HN_O_C.out; omega))
  clear X55_O
  have CU_62 := Lib.hid hc
  clear hc hg CU_56
  have c63_A_0 := A_62.out.at 0 (v := .int .i64 0) rfl
  have c63_A_1 := A_62.out.at 1 (v := .int .i64 0) rfl
  have c63_A_2 := A_62.out.at 2 (v := .slice none 0 0) rfl
  have c64_B_0 := B_62.out.at 0 (v := .int .i64 0) rfl
  have c64_B_1 := B_62.out.at 1 (v := .int .i64 0) rfl
  have c64_B_2 := B_62.out.at 2 (v := .int .i64 0) rfl
  have c64_B_3 := B_62.out.at 3 (v := .int .i64 0) rfl
  have c64_B_4 := B_62.out.at 4 (v := .string ⟨#[]⟩) rfl
  have c65_O_0 := O_62.out.at 0 (v := .int .i64 l.t) rfl
  have c65_O_1 := O_62.out.at 1 (v := .int .i64 l.z) rfl
  have c65_O_2 := O_62.out.at 2 (v := .slice a_l l.q.length c_l) rfl
  obtain ⟨p, hp⟩ : ∃ p : Pk, p = ⟨pk, pn, pt, pl, pd⟩ := ⟨_, rfl⟩
  have e1 : pk = p.k := by rw [hp]
  have e2 : pn = p.n := by rw [hp]
  have e3 : pt = p.t := by rw [hp]
  have e4 : pl = p.l := by rw [hp]
  have e5 : pd = p.d := by rw [hp]
  rw [e5] at hpd
  unfold pv
  rw [e1, e2, e3, e4, e5]
  clear e1 e2 e3 e4 e5 hp
  have hnc_U := CU_62.out.lt
  go_upto_region 4 with fail
  obtain ⟨W66, hW66⟩ : ∃ W66, W66 = W61.alloc (.cells #[.int .i64 p.k, .int .i64 p.n, .int .i64 p.t, .int .i64 p.l, .string p.d] 30) := ⟨_, rfl⟩
  have l66 : Below W61.heap.size W61 W66 := by rw [hW66]; exact (Below.refl _ _).alloc (Nat.le_refl _) _
  have X66_U : Hid (Bx W66 W61.heap.size #[.int .i64 p.k, .int .i64 p.n, .int .i64 p.t, .int .i64 p.l, .string p.d] 30) := Lib.hid (by rw [hW66]; exact Bx.new _ _ _)
  rw [← hW66]
  clear hW66
  have BX_U_l : Hid (∀ k, (.slice a_l l.q.length c_l : Value).ownBlock = some k → k ≠ W61.heap.size) := Lib.hid (fun k h1 h2 => absurd (l_62.out.lt k h1).2 (by omega))
  have HG_U : Hid (w.heap.size ≤ W61.heap.size) := Lib.hid HB_62.out.size
  have HN_U_A : Hid (R_A < W61.heap.size) := Lib.hid A_62.out.lt
  have HN_U_B : Hid (R_B < W61.heap.size) := Lib.hid B_62.out.lt
  have HN_U_O : Hid (R_O < W61.heap.size) := Lib.hid O_62.out.lt
  obtain ⟨R_U, hR_U⟩ : ∃ X, X = W61.heap.size := ⟨_, rfl⟩
  rw [← hR_U] at X66_U HG_U BX_U_l HN_U_A HN_U_B HN_U_O hnc_U ⊢
  clear hR_U
  have CU_67 := Lib.hid (cu_below CU_62.out l66)
  clear CU_62
  clear c63_A_0 c63_A_1 c63_A_2
  clear c64_B_0 c64_B_1 c64_B_2 c64_B_3 c64_B_4
  clear c65_O_0 c65_O_1 c65_O_2
  have HB_68 := Lib.hid (HB_62.out.trans (l66.mono HB_62.out.size))
  have l_68 := Lib.hid (own_below l_62.out l66 (Nat.le_refl _))
  clear l_62
  have A_68 := Lib.hid (A_62.out.below l66 A_62.out.lt)
  clear A_62
  have B_68 := Lib.hid (B_62.out.below l66 B_62.out.lt)
  clear B_62
  have O_68 := Lib.hid (O_62.out.below l66 O_62.out.lt)
  clear O_62
  clear l66
  have c69_A_0 := A_68.out.at 0 (v := .int .i64 0) rfl
  have c69_A_1 := A_68.out.at 1 (v := .int .i64 0) rfl
  have c69_A_2 := A_68.out.at 2 (v := .slice none 0 0) rfl
  have c70_B_0 := B_68.out.at 0 (v := .int .i64 0) rfl
  have c70_B_1 := B_68.out.at 1 (v := .int .i64 0) rfl
  have c70_B_2 := B_68.out.at 2 (v := .int .i64 0) rfl
  have c70_B_3 := B_68.out.at 3 (v := .int .i64 0) rfl
  have c70_B_4 := B_68.out.at 4 (v := .string ⟨#[]⟩) rfl
  have c71_O_0 := O_68.out.at 0 (v := .int .i64 l.t) rfl
  have c71_O_1 := O_68.out.at 1 (v := .int .i64 l.z) rfl
  have c71_O_2 := O_68.out.at 2 (v := .slice a_l l.q.length c_l) rfl
  have c72_U_0 := X66_U.out.at 0 (v := .int .i64 p.k) rfl
  have c72_U_1 := X66_U.out.at 1 (v := .int .i64 p.n) rfl
  have c72_U_2 := X66_U.out.at 2 (v := .int .i64 p.t) rfl
  have c72_U_3 := X66_U.out.at 3 (v := .int .i64 p.l) rfl
  have c72_U_4 := X66_U.out.at 4 (v := .string p.d) rfl
  have HN_U_C : Hid (R_C < R_U) := Lib.hid hnc_U
  clear hnc_U
  go_wp2_with fail
  refine (one_any R_C _ 4 z _ CU_67.out (by omega) (by omega) (by omega)).mono ?_
  rintro e W73 ⟨b, rfl, hc, hg⟩
  clear c69_A_0 c69_A_1 c69_A_2
  clear c70_B_0 c70_B_1 c70_B_2 c70_B_3 c70_B_4
  clear c71_O_0 c71_O_1 c71_O_2
  clear c72_U_0 c72_U_1 c72_U_2 c72_U_3 c72_U_4
  have HB_74 := Lib.hid (HB_68.out.grown hg HB_68.out.size (fun k hk => by have e2 : R_C = k := Option.some.inj hk; have := HR_C.out; omega))
  have l_74 := Lib.hid (l_68.out.kept hg (by
    cases hv : (.slice a_l l.q.length c_l : Value).ownBlock with
    | none => exact .inl rfl
    | some k => exact .inr (fun e => BX_C_l.out k hv (Option.some.inj e))))
  clear l_68
  have A_74 := Lib.hid (A_68.out.grown hg (by intro e; have e2 : R_A = R_C := Option.some.inj e; have h1 := HR_A.out; have h2 := HR_C.out; omega))
  clear A_68
  have B_74 := Lib.hid (B_68.out.grown hg (by intro e; have e2 : R_B = R_C := Option.some.inj e; have h1 := HR_B.out; have h2 := HR_C.out; omega))
  clear B_68
  have O_74 := Lib.hid (O_68.out.grown hg (by intro e; have e2 : R_O = R_C := Option.some.inj e; have h1 := HN_O_C.out; omega))
  clear O_68
  have U_74 := Lib.hid (X66_U.out.grown hg (by intro e; have e2 : R_U = R_C := Option.some.inj e; have h1 := HN_U_C.out; omega))
  clear X66_U
  have CU_74 := Lib.hid hc
  clear hc hg CU_67
  have c75_A_0 := A_74.out.at 0 (v := .int .i64 0) rfl
  have c75_A_1 := A_74.out.at 1 (v := .int .i64 0) rfl
  have c75_A_2 := A_74.out.at 2 (v := .slice none 0 0) rfl
  have c76_B_0 := B_74.out.at 0 (v := .int .i64 0) rfl
  have c76_B_1 := B_74.out.at 1 (v := .int .i64 0) rfl
  have c76_B_2 := B_74.out.at 2 (v := .int .i64 0) rfl
  have c76_B_3 := B_74.out.at 3 (v := .int .i64 0) rfl
  have c76_B_4 := B_74.out.at 4 (v := .string ⟨#[]⟩) rfl
  have c77_O_0 := O_74.out.at 0 (v := .int .i64 l.t) rfl
  have c77_O_1 := O_74.out.at 1 (v := .int .i64 l.z) rfl
  have c77_O_2 := O_74.out.at 2 (v := .slice a_l l.q.length c_l) rfl
  have c78_U_0 := U_74.out.at 0 (v := .int .i64 p.k) rfl
  have c78_U_1 := U_74.out.at 1 (v := .int .i64 p.n) rfl
  have c78_U_2 := U_74.out.at 2 (v := .int .i64 p.t) rfl
  have c78_U_3 := U_74.out.at 3 (v := .int .i64 p.l) rfl
  have c78_U_4 := U_74.out.at 4 (v := .string p.d) rfl
  cases b with
  | true =>
    go_upto_region 7 with fail
    have hne_O_U : R_O ≠ R_U := fun e => absurd (congrArg some e) (by intro e; have e2 : R_O = R_U := Option.some.inj e; have h1 := HN_U_O.out; omega)
    have hne_O_A : R_O ≠ R_A := fun e => absurd (congrArg some e) (by intro e; have e2 : R_O = R_A := Option.some.inj e; have h1 := HN_O_A.out; omega)
    have hne_O_B : R_O ≠ R_B := fun e => absurd (congrArg some e) (by intro e; have e2 : R_O = R_B := Option.some.inj e; have h1 := HN_O_B.out; omega)
    have hne_U_O : R_U ≠ R_O := fun e => absurd (congrArg some e) (by intro e; have e2 : R_U = R_O := Option.some.inj e; have h1 := HN_U_O.out; omega)
    have hne_U_A : R_U ≠ R_A := fun e => absurd (congrArg some e) (by intro e; have e2 : R_U = R_A := Option.some.inj e; have h1 := HN_U_A.out; omega)
    have hne_U_B : R_U ≠ R_B := fun e => absurd (congrArg some e) (by intro e; have e2 : R_U = R_B := Option.some.inj e; have h1 := HN_U_B.out; omega)
    have hne_A_O : R_A ≠ R_O := fun e => absurd (congrArg some e) (by intro e; have e2 : R_A = R_O := Option.some.inj e; have h1 := HN_O_A.out; omega)
    have hne_A_U : R_A ≠ R_U := fun e => absurd (congrArg some e) (by intro e; have e2 : R_A = R_U := Option.some.inj e; have h1 := HN_U_A.out; omega)
    have hne_A_B : R_A ≠ R_B := fun e => absurd (congrArg some e) (by intro e; have e2 : R_A = R_B := Option.some.inj e; have h1 := HR_A.out; have h2 := HR_B.out; omega)
    have hne_B_O : R_B ≠ R_O := fun e => absurd (congrArg some e) (by intro e; have e2 : R_B = R_O := Option.some.inj e; have h1 := HN_O_B.out; omega)
    have hne_B_U : R_B ≠ R_U := fun e => absurd (congrArg some e) (by intro e; have e2 : R_B = R_U := Option.some.inj e; have h1 := HN_U_B.out; omega)
    have hne_B_A : R_B ≠ R_A := fun e => absurd (congrArg some e) (by intro e; have e2 : R_B = R_A := Option.some.inj e; have h1 := HR_B.out; have h2 := HR_A.out; omega)
    have fr79_A_0 := A_74.out.free 0
    have fr79_A_1 := A_74.out.free 1
    have fr79_A_2 := A_74.out.free 2
    have fr80_B_0 := B_74.out.free 0
    have fr80_B_1 := B_74.out.free 1
    have fr80_B_2 := B_74.out.free 2
    have fr80_B_3 := B_74.out.free 3
    have fr80_B_4 := B_74.out.free 4
    go_region
    go_wp2_with fail
    obtain ⟨p1, q1⟩ := A_74.out.store3 (.int .i64 l.t) (.int .i64 l.z) (.slice a_l l.q.length c_l)
    obtain ⟨p2, q2⟩ := (B_74.out.grown q1 (by intro e; have e2 : R_B = R_A := Option.some.inj e; have h1 := HR_B.out; have h2 := HR_A.out; omega)).store5 (.int .i64 p.k) (.int .i64 p.n) (.int .i64 p.t) (.int .i64 p.l) (.string p.d)
    have hB9 := (HB_74.out.grown q1 HB_74.out.size (fun k hk => by have e2 : R_A = k := Option.some.inj hk; have := HR_A.out; omega))
    have hB10 := hB9.grown q2 hB9.size (fun k hk => by have e2 : R_B = k := Option.some.inj hk; have := HR_B.out; omega)
    obtain ⟨W9, hW9⟩ : ∃ W9, W9 = ((((((((W73.setCell ⟨R_A, 0, none⟩ (.int .i64 l.t)).setCell ⟨R_A, 1, none⟩ (.int .i64 l.z)).setCell ⟨R_A, 2, none⟩ (.slice a_l l.q.length c_l)).setCell ⟨R_B, 0, none⟩ (.int .i64 p.k)).setCell ⟨R_B, 1, none⟩ (.int .i64 p.n)).setCell ⟨R_B, 2, none⟩ (.int .i64 p.t)).setCell ⟨R_B, 3, none⟩ (.int .i64 p.l)).setCell ⟨R_B, 4, none⟩ (.string p.d)) := ⟨_, rfl⟩
    rw [← hW9] at p2 q2 hB10 ⊢
    clear hW9
    refine bodyPost_ret (results_bxx rfl isSw isPk _ _ R_A R_B rfl rfl rfl rfl (Bx.drew (p1.grown q2 (by intro e; have e2 : R_A = R_B := Option.some.inj e; have h1 := HR_A.out; have h2 := HR_B.out; omega))) (Bx.drew p2)) rfl ⟨_, l, p, rfl, ?_, hq, hpd, Below.drew hB10⟩
    refine World.ownsRow.drew ((l_74.out.kept q1 ?_).kept q2 ?_)
    · cases hv : (.slice a_l l.q.length c_l : Value).ownBlock with
      | none => exact .inl rfl
      | some k => exact .inr (fun e => BX_A_l.out k hv (Option.some.inj e))
    · cases hv : (.slice a_l l.q.length c_l : Value).ownBlock with
      | none => exact .inl rfl
      | some k => exact .inr (fun e => BX_B_l.out k hv (Option.some.inj e))
  | false =>
    go_wp2_with fail
    refine (heldOf_any R_C _ z a_l c_l l _ CU_74.out (by omega) (by omega)).mono ?_
    rintro e W81 ⟨x, hx, rfl, hc, hg⟩
    clear c75_A_0 c75_A_1 c75_A_2
    clear c76_B_0 c76_B_1 c76_B_2 c76_B_3 c76_B_4
    clear c77_O_0 c77_O_1 c77_O_2
    clear c78_U_0 c78_U_1 c78_U_2 c78_U_3 c78_U_4
    have HB_82 := Lib.hid (HB_74.out.grown hg HB_74.out.size (fun k hk => by have e2 : R_C = k := Option.some.inj hk; have := HR_C.out; omega))
    have l_82 := Lib.hid (l_74.out.kept hg (by
      cases hv : (.slice a_l l.q.length c_l : Value).ownBlock with
      | none => exact .inl rfl
      | some k => exact .inr (fun e => BX_C_l.out k hv (Option.some.inj e))))
    clear l_74
    have A_82 := Lib.hid (A_74.out.grown hg (by intro e; have e2 : R_A = R_C := Option.some.inj e; have h1 := HR_A.out; have h2 := HR_C.out; omega))
    clear A_74
    have B_82 := Lib.hid (B_74.out.grown hg (by intro e; have e2 : R_B = R_C := Option.some.inj e; have h1 := HR_B.out; have h2 := HR_C.out; omega))
    clear B_74
    have O_82 := Lib.hid (O_74.out.grown hg (by intro e; have e2 : R_O = R_C := Option.some.inj e; have h1 := HN_O_C.out; omega))
    clear O_74
    have U_82 := Lib.hid (U_74.out.grown hg (by intro e; have e2 : R_U = R_C := Option.some.inj e; have h1 := HN_U_C.out; omega))
    clear U_74
    have CU_82 := Lib.hid hc
    clear hc hg CU_74
    have c83_A_0 := A_82.out.at 0 (v := .int .i64 0) rfl
    have c83_A_1 := A_82.out.at 1 (v := .int .i64 0) rfl
    have c83_A_2 := A_82.out.at 2 (v := .slice none 0 0) rfl
    have c84_B_0 := B_82.out.at 0 (v := .int .i64 0) rfl
    have c84_B_1 := B_82.out.at 1 (v := .int .i64 0) rfl
    have c84_B_2 := B_82.out.at 2 (v := .int .i64 0) rfl
    have c84_B_3 := B_82.out.at 3 (v := .int .i64 0) rfl
    have c84_B_4 := B_82.out.at 4 (v := .string ⟨#[]⟩) rfl
    have c85_O_0 := O_82.out.at 0 (v := .int .i64 l.t) rfl
    have c85_O_1 := O_82.out.at 1 (v := .int .i64 l.z) rfl
    have c85_O_2 := O_82.out.at 2 (v := .slice a_l l.q.length c_l) rfl
    have c86_U_0 := U_82.out.at 0 (v := .int .i64 p.k) rfl
    have c86_U_1 := U_82.out.at 1 (v := .int .i64 p.n) rfl
    have c86_U_2 := U_82.out.at 2 (v := .int .i64 p.t) rfl
    have c86_U_3 := U_82.out.at 3 (v := .int .i64 p.l) rfl
    have c86_U_4 := U_82.out.at 4 (v := .string p.d) rfl
    have fr87_U_0 := U_82.out.free 0
    have fr87_U_1 := U_82.out.free 1
    have fr87_U_2 := U_82.out.free 2
    have fr87_U_3 := U_82.out.free 3
    have fr87_U_4 := U_82.out.free 4
    go_upto_region 7 with fail
    clear c83_A_0 c83_A_1 c83_A_2
    clear c84_B_0 c84_B_1 c84_B_2 c84_B_3 c84_B_4
    clear c85_O_0 c85_O_1 c85_O_2
    clear c86_U_0 c86_U_1 c86_U_2 c86_U_3 c86_U_4
    clear fr87_U_0 fr87_U_1 fr87_U_2 fr87_U_3 fr87_U_4
    obtain ⟨p88, q88⟩ := U_82.out.store5 (.int .i64 3) (.int .i64 x) (.int .i64 5) (.int .i64 9) (.string ⟨#[]⟩)
    obtain ⟨W88, hW88⟩ : ∃ W88, W88 = (((((W81.setCell ⟨R_U, 0, none⟩ (.int .i64 3)).setCell ⟨R_U, 1, none⟩ (.int .i64 x)).setCell ⟨R_U, 2, none⟩ (.int .i64 5)).setCell ⟨R_U, 3, none⟩ (.int .i64 9)).setCell ⟨R_U, 4, none⟩ (.string ⟨#[]⟩)) := ⟨_, rfl⟩
    rw [← hW88] at p88 q88 ⊢
    have X88_U : Hid (Bx W88 R_U #[.int .i64 3, .int .i64 x, .int .i64 5, .int .i64 9, .string ⟨#[]⟩] 30) := Lib.hid p88
    have HB_89 := Lib.hid (HB_82.out.grown q88 HB_82.out.size (fun k hk => by have e2 : R_U = k := Option.some.inj hk; have := HG_U.out; omega))
    have l_89 := Lib.hid (l_82.out.kept q88 (by
      cases hv : (.slice a_l l.q.length c_l : Value).ownBlock with
      | none => exact .inl rfl
      | some k => exact .inr (fun e => BX_U_l.out k hv (Option.some.inj e))))
    clear l_82
    have A_89 := Lib.hid (A_82.out.grown q88 (by intro e; have e2 : R_A = R_U := Option.some.inj e; have h1 := HN_U_A.out; omega))
    clear A_82
    have B_89 := Lib.hid (B_82.out.grown q88 (by intro e; have e2 : R_B = R_U := Option.some.inj e; have h1 := HN_U_B.out; omega))
    clear B_82
    have O_89 := Lib.hid (O_82.out.grown q88 (by intro e; have e2 : R_O = R_U := Option.some.inj e; have h1 := HN_U_O.out; omega))
    clear O_82
    clear U_82
    clear hW88 p88 q88
    have c90_A_0 := A_89.out.at 0 (v := .int .i64 0) rfl
    have c90_A_1 := A_89.out.at 1 (v := .int .i64 0) rfl
    have c90_A_2 := A_89.out.at 2 (v := .slice none 0 0) rfl
    have c91_B_0 := B_89.out.at 0 (v := .int .i64 0) rfl
    have c91_B_1 := B_89.out.at 1 (v := .int .i64 0) rfl
    have c91_B_2 := B_89.out.at 2 (v := .int .i64 0) rfl
    have c91_B_3 := B_89.out.at 3 (v := .int .i64 0) rfl
    have c91_B_4 := B_89.out.at 4 (v := .string ⟨#[]⟩) rfl
    have c92_O_0 := O_89.out.at 0 (v := .int .i64 l.t) rfl
    have c92_O_1 := O_89.out.at 1 (v := .int .i64 l.z) rfl
    have c92_O_2 := O_89.out.at 2 (v := .slice a_l l.q.length c_l) rfl
    have c93_U_0 := X88_U.out.at 0 (v := .int .i64 3) rfl
    have c93_U_1 := X88_U.out.at 1 (v := .int .i64 x) rfl
    have c93_U_2 := X88_U.out.at 2 (v := .int .i64 5) rfl
    have c93_U_3 := X88_U.out.at 3 (v := .int .i64 9) rfl
    have c93_U_4 := X88_U.out.at 4 (v := .string ⟨#[]⟩) rfl
    have hne_O_U : R_O ≠ R_U := fun e => absurd (congrArg some e) (by intro e; have e2 : R_O = R_U := Option.some.inj e; have h1 := HN_U_O.out; omega)
    have hne_O_A : R_O ≠ R_A := fun e => absurd (congrArg some e) (by intro e; have e2 : R_O = R_A := Option.some.inj e; have h1 := HN_O_A.out; omega)
    have hne_O_B : R_O ≠ R_B := fun e => absurd (congrArg some e) (by intro e; have e2 : R_O = R_B := Option.some.inj e; have h1 := HN_O_B.out; omega)
    have hne_U_O : R_U ≠ R_O := fun e => absurd (congrArg some e) (by intro e; have e2 : R_U = R_O := Option.some.inj e; have h1 := HN_U_O.out; omega)
    have hne_U_A : R_U ≠ R_A := fun e => absurd (congrArg some e) (by intro e; have e2 : R_U = R_A := Option.some.inj e; have h1 := HN_U_A.out; omega)
    have hne_U_B : R_U ≠ R_B := fun e => absurd (congrArg some e) (by intro e; have e2 : R_U = R_B := Option.some.inj e; have h1 := HN_U_B.out; omega)
    have hne_A_O : R_A ≠ R_O := fun e => absurd (congrArg some e) (by intro e; have e2 : R_A = R_O := Option.some.inj e; have h1 := HN_O_A.out; omega)
    have hne_A_U : R_A ≠ R_U := fun e => absurd (congrArg some e) (by intro e; have e2 : R_A = R_U := Option.some.inj e; have h1 := HN_U_A.out; omega)
    have hne_A_B : R_A ≠ R_B := fun e => absurd (congrArg some e) (by intro e; have e2 : R_A = R_B := Option.some.inj e; have h1 := HR_A.out; have h2 := HR_B.out; omega)
    have hne_B_O : R_B ≠ R_O := fun e => absurd (congrArg some e) (by intro e; have e2 : R_B = R_O := Option.some.inj e; have h1 := HN_O_B.out; omega)
    have hne_B_U : R_B ≠ R_U := fun e => absurd (congrArg some e) (by intro e; have e2 : R_B = R_U := Option.some.inj e; have h1 := HN_U_B.out; omega)
    have hne_B_A : R_B ≠ R_A := fun e => absurd (congrArg some e) (by intro e; have e2 : R_B = R_A := Option.some.inj e; have h1 := HR_B.out; have h2 := HR_A.out; omega)
    have fr94_A_0 := A_89.out.free 0
    have fr94_A_1 := A_89.out.free 1
    have fr94_A_2 := A_89.out.free 2
    have fr95_B_0 := B_89.out.free 0
    have fr95_B_1 := B_89.out.free 1
    have fr95_B_2 := B_89.out.free 2
    have fr95_B_3 := B_89.out.free 3
    have fr95_B_4 := B_89.out.free 4
    go_region
    go_wp2_with fail
    obtain ⟨p1, q1⟩ := A_89.out.store3 (.int .i64 l.t) (.int .i64 l.z) (.slice a_l l.q.length c_l)
    obtain ⟨p2, q2⟩ := (B_89.out.grown q1 (by intro e; have e2 : R_B = R_A := Option.some.inj e; have h1 := HR_B.out; have h2 := HR_A.out; omega)).store5 (.int .i64 3) (.int .i64 x) (.int .i64 5) (.int .i64 9) (.string ⟨#[]⟩)
    have hB9 := (HB_89.out.grown q1 HB_89.out.size (fun k hk => by have e2 : R_A = k := Option.some.inj hk; have := HR_A.out; omega))
    have hB10 := hB9.grown q2 hB9.size (fun k hk => by have e2 : R_B = k := Option.some.inj hk; have := HR_B.out; omega)
    obtain ⟨W9, hW9⟩ : ∃ W9, W9 = ((((((((W88.setCell ⟨R_A, 0, none⟩ (.int .i64 l.t)).setCell ⟨R_A, 1, none⟩ (.int .i64 l.z)).setCell ⟨R_A, 2, none⟩ (.slice a_l l.q.length c_l)).setCell ⟨R_B, 0, none⟩ (.int .i64 3)).setCell ⟨R_B, 1, none⟩ (.int .i64 x)).setCell ⟨R_B, 2, none⟩ (.int .i64 5)).setCell ⟨R_B, 3, none⟩ (.int .i64 9)).setCell ⟨R_B, 4, none⟩ (.string ⟨#[]⟩)) := ⟨_, rfl⟩
    rw [← hW9] at p2 q2 hB10 ⊢
    clear hW9
    refine bodyPost_ret (results_bxx rfl isSw isPk _ _ R_A R_B rfl rfl rfl rfl (Bx.drew (p1.grown q2 (by intro e; have e2 : R_A = R_B := Option.some.inj e; have h1 := HR_A.out; have h2 := HR_B.out; omega))) (Bx.drew p2)) rfl ⟨_, l, ⟨3, x, 5, 9, ⟨#[]⟩⟩, rfl, ?_, hq, (by show (⟨#[]⟩ : ByteArray).size ≤ 9; decide), Below.drew hB10⟩
    refine World.ownsRow.drew ((l_89.out.kept q1 ?_).kept q2 ?_)
    · cases hv : (.slice a_l l.q.length c_l : Value).ownBlock with
      | none => exact .inl rfl
      | some k => exact .inr (fun e => BX_A_l.out k hv (Option.some.inj e))
    · cases hv : (.slice a_l l.q.length c_l : Value).ownBlock with
      | none => exact .inl rfl
      | some k => exact .inr (fun e => BX_B_l.out k hv (Option.some.inj e))
end Go.Proofs.Ytkijfneaglogmaa
