/-
  Sources: ticks (the specification's).
-/
import Derived.Test.YtlendmiolhgecaaSrc2
import Derived.Test.YtlendmiolhgecaaPksB
import Derived.Deep.QuietTactic
import Derived.BigQuiet
import Derived.IntWalk
import Derived.Deep.CutRange
import Derived.WalkLawsBesides
import Derived.Lib.SmallJoins
import Derived.Deep.RegionHeld3
namespace Go.Proofs.Ytlendmiolhgecaa
open Go.RowKit Go.Lib Go.Joins
set_option linter.unusedVariables false

set_option maxRecDepth 100000 in
set_option maxHeartbeats 16000000 in
theorem l11Tick_any (v hv : Value) (s : So) (w : World) (hrow : Row w v s.w.q.length (s.w.q.map Value.string)) (hhr : Row w hv s.h.length (hdF s.h)) (hfit : FitA v s.w.q.length) (hok : soOk s = true) :
    Calls Try.prog 81 #[.agg #[.int .i64 s.w.t, .int .i64 s.w.z, v, .int .i64 s.c, .int .i64 s.u, hv]] w fun e w' => ∃ v' hv' pv, e = .returned (.tuple #[.agg #[.int .i64 (tickW s).w.t, .int .i64 (tickW s).w.z, v', .int .i64 (tickW s).c, .int .i64 (tickW s).u, hv'], pv]) ∧ w'.ownsRow w.heap.size 9 1 v' (tickW s).w.q.length ((tickW s).w.q.map Value.string) ∧ w'.ownsRow w.heap.size 82 2 hv' (tickW s).h.length (hdF (tickW s).h) ∧ (∀ k, v'.ownBlock = some k → hv'.ownBlock ≠ some k) ∧ w'.ownsRow w.heap.size 64 5 pv (tickE s).length (pqF (tickE s)) ∧ (∀ k, v'.ownBlock = some k → pv.ownBlock ≠ some k) ∧ (∀ k, hv'.ownBlock = some k → pv.ownBlock ≠ some k) ∧ Below w.heap.size w w' := by
  obtain ⟨⟨t, z, q⟩, c, u, h⟩ := s
  dsimp only at hrow hhr ⊢
  obtain ⟨a, cap, rfl, hc1, hm1, -⟩ := row_open hrow
  obtain ⟨b, caph, rfl, hc2, hm2, -⟩ := hd_open hhr
  unfold maxLen at hm1 hm2
  have HP := Lib.hid hrow
  have HH := Lib.hid hhr
  clear hrow hhr
  obtain ⟨k1, k2, k3, k4, k5⟩ := soOk_iff.1 hok
  have hl := (soOk_len hok).1
  have hl6 := (soOk_len hok).2
  dsimp only at k1 k2 k3 k4 hl hl6 hfit ⊢
  have hs : ∀ x ∈ h, serB x.n = true := fun x hx => (hd1_iff.1 (k4 x hx)).1
  have HS := Lib.hid hs
  have HFit := Lib.hid hfit
  have ht := (swOk_iff.1 k1).1
  dsimp only at ht
  have HT := Lib.hid ht
  obtain ⟨hc0, hc9⟩ := k2
  obtain ⟨hu0, hu9⟩ := k3
  have hdz := dropN_zero (w := ⟨t, z, q⟩) ht
  have HD := Lib.hid (fun (W1 : World) (hr : Row W1 (.slice a q.length cap) q.length (q.map Value.string)) => l9Drop_any (.slice a q.length cap) ⟨t, z, q⟩ 0 W1 hr HFit.out ht (Nat.zero_le _) (by dsimp only; omega))
  rw [hdz] at HD
  dsimp only at HD
  have HHo := Lib.hid (fun (v' : Value) (W1 : World) (hr : Row W1 v' q.length (q.map Value.string)) (hh : Row W1 (.slice b h.length caph) h.length (hdF h)) => l11Holds_any v' (.slice b h.length caph) ⟨t, z, q⟩ h (c + 1) W1 hr hh HT.out HS.out (by omega))
  have HSt := Lib.hid (fun (v' : Value) (W1 : World) (hr : Row W1 v' q.length (q.map Value.string)) => l9Status_any v' ⟨t, z, q⟩ W1 hr HT.out (by dsimp only; omega))
  dsimp only at HSt HHo
  have htw : tickW ⟨⟨t, z, q⟩, c, u, h⟩ = ⟨⟨t, z, q⟩, c + 1, if u = 3 then 0 else u + 1, keepH ⟨t, z, q⟩ (c + 1) h⟩ := rfl
  have hte : tickE ⟨⟨t, z, q⟩, c, u, h⟩ = if u = 3 then [⟨5, t, t, leadI ⟨t, z, q⟩, ⟨#[]⟩⟩] else [] := rfl
  rw [htw, hte]
  dsimp only
  generalize keepH ⟨t, z, q⟩ (c + 1) h = kp at HHo ⊢
  generalize leadI ⟨t, z, q⟩ = le at HSt ⊢
  clear htw hte hdz ht hs k1 k4 k5 hfit hok
  have w1 : IntKind.i64.wrap (c + 1) = c + 1 := IntWalk.i64_in _ (by omega)
  have w2 : IntKind.i64.wrap (u + 1) = u + 1 := IntWalk.i64_in _ (by omega)
  obtain ⟨W0, R_T, R_A, hW0, hR_T, hR_A, hX_T, hX_A, hB0⟩ := entry2 w #[.int .i64 t, .int .i64 z, .slice a q.length cap, .int .i64 c, .int .i64 u, .slice b h.length caph] #[.int .i64 0, .int .i64 0, .slice none 0 0, .int .i64 0, .int .i64 0, .slice none 0 0] 29 29
  have HW0 := Lib.hid hW0
  have HB0 := Lib.hid hB0
  have HR_T := Lib.hid hR_T
  have HX_T := Lib.hid hX_T
  have HR_A := Lib.hid hR_A
  have HX_A := Lib.hid hX_A
  clear hW0 hB0 hR_T hX_T hR_A hX_A
  by_cases hu : u = 3
  · have hu4 : ((u + 1 : Int) == 4) = true := by rw [beq_iff_eq]; omega
    rw [if_pos hu, if_pos hu]
    clear hu
    have c1_T_0 := HX_T.out.at 0 (v := .int .i64 t) rfl
    have c1_T_1 := HX_T.out.at 1 (v := .int .i64 z) rfl
    have c1_T_2 := HX_T.out.at 2 (v := .slice a q.length cap) rfl
    have c1_T_3 := HX_T.out.at 3 (v := .int .i64 c) rfl
    have c1_T_4 := HX_T.out.at 4 (v := .int .i64 u) rfl
    have c1_T_5 := HX_T.out.at 5 (v := .slice b h.length caph) rfl
    have c2_A_0 := HX_A.out.at 0 (v := .int .i64 0) rfl
    have c2_A_1 := HX_A.out.at 1 (v := .int .i64 0) rfl
    have c2_A_2 := HX_A.out.at 2 (v := .slice none 0 0) rfl
    have c2_A_3 := HX_A.out.at 3 (v := .int .i64 0) rfl
    have c2_A_4 := HX_A.out.at 4 (v := .int .i64 0) rfl
    have c2_A_5 := HX_A.out.at 5 (v := .slice none 0 0) rfl
    go_enter Try.func81, Try.ntmps81
    go_upto_region 1 with fail
    rw [← HW0.out, ← HR_A.out, ← HR_T.out]
    go_wp2_with fail
    refine (HD.out _ (HP.out.below HB0.out (Nat.le_refl _))).mono ?_
    rintro e W3 ⟨v_y, rfl, o_y, l3⟩
    obtain ⟨a_y, c_y, rfl, _, _⟩ := ownz_slice o_y
    have O_y := Lib.hid (ownz_base o_y HB0.out.size)
    have BX_T_y : Hid (∀ k, (.slice a_y q.length c_y : Value).ownBlock = some k → k ≠ R_T) := Lib.hid (fun k h1 h2 => absurd HX_T.out.lt (Nat.not_lt.2 (by rw [← h2]; exact (o_y.lt k h1).1)))
    have BX_A_y : Hid (∀ k, (.slice a_y q.length c_y : Value).ownBlock = some k → k ≠ R_A) := Lib.hid (fun k h1 h2 => absurd HX_A.out.lt (Nat.not_lt.2 (by rw [← h2]; exact (o_y.lt k h1).1)))
    clear o_y
    clear c1_T_0 c1_T_1 c1_T_2 c1_T_3 c1_T_4 c1_T_5
    clear c2_A_0 c2_A_1 c2_A_2 c2_A_3 c2_A_4 c2_A_5
    have HB_4 := Lib.hid (HB0.out.trans (l3.mono HB0.out.size))
    have T_4 := Lib.hid (HX_T.out.below l3 HX_T.out.lt)
    have A_4 := Lib.hid (HX_A.out.below l3 HX_A.out.lt)
    clear l3
    have c5_T_0 := T_4.out.at 0 (v := .int .i64 t) rfl
    have c5_T_1 := T_4.out.at 1 (v := .int .i64 z) rfl
    have c5_T_2 := T_4.out.at 2 (v := .slice a q.length cap) rfl
    have c5_T_3 := T_4.out.at 3 (v := .int .i64 c) rfl
    have c5_T_4 := T_4.out.at 4 (v := .int .i64 u) rfl
    have c5_T_5 := T_4.out.at 5 (v := .slice b h.length caph) rfl
    have c6_A_0 := A_4.out.at 0 (v := .int .i64 0) rfl
    have c6_A_1 := A_4.out.at 1 (v := .int .i64 0) rfl
    have c6_A_2 := A_4.out.at 2 (v := .slice none 0 0) rfl
    have c6_A_3 := A_4.out.at 3 (v := .int .i64 0) rfl
    have c6_A_4 := A_4.out.at 4 (v := .int .i64 0) rfl
    have c6_A_5 := A_4.out.at 5 (v := .slice none 0 0) rfl
    go_upto_region 2 with fail
    obtain ⟨W7, hW7⟩ : ∃ W7, W7 = W3.alloc (.cells #[.int .i64 t, .int .i64 z, .slice a_y q.length c_y] 26) := ⟨_, rfl⟩
    have l7 : Below W3.heap.size W3 W7 := by rw [hW7]; exact (Below.refl _ _).alloc (Nat.le_refl _) _
    have X7_U : Hid (Bx W7 W3.heap.size #[.int .i64 t, .int .i64 z, .slice a_y q.length c_y] 26) := Lib.hid (by rw [hW7]; exact Bx.new _ _ _)
    rw [← hW7]
    clear hW7
    have BX_U_y : Hid (∀ k, (.slice a_y q.length c_y : Value).ownBlock = some k → k ≠ W3.heap.size) := Lib.hid (fun k h1 h2 => absurd (O_y.out.lt k h1).2 (by omega))
    have HG_U : Hid (w.heap.size ≤ W3.heap.size) := Lib.hid HB_4.out.size
    have HN_U_T : Hid (R_T < W3.heap.size) := Lib.hid T_4.out.lt
    have HN_U_A : Hid (R_A < W3.heap.size) := Lib.hid A_4.out.lt
    obtain ⟨R_U, hR_U⟩ : ∃ X, X = W3.heap.size := ⟨_, rfl⟩
    rw [← hR_U] at X7_U HG_U BX_U_y HN_U_T HN_U_A ⊢
    clear hR_U
    clear c5_T_0 c5_T_1 c5_T_2 c5_T_3 c5_T_4 c5_T_5
    clear c6_A_0 c6_A_1 c6_A_2 c6_A_3 c6_A_4 c6_A_5
    have HB_8 := Lib.hid (HB_4.out.trans (l7.mono HB_4.out.size))
    have y_8 := Lib.hid (ownz_below O_y.out l7 (Nat.le_refl _))
    clear O_y
    have T_8 := Lib.hid (T_4.out.below l7 T_4.out.lt)
    clear T_4
    have A_8 := Lib.hid (A_4.out.below l7 A_4.out.lt)
    clear A_4
    clear l7
    have c9_T_0 := T_8.out.at 0 (v := .int .i64 t) rfl
    have c9_T_1 := T_8.out.at 1 (v := .int .i64 z) rfl
    have c9_T_2 := T_8.out.at 2 (v := .slice a q.length cap) rfl
    have c9_T_3 := T_8.out.at 3 (v := .int .i64 c) rfl
    have c9_T_4 := T_8.out.at 4 (v := .int .i64 u) rfl
    have c9_T_5 := T_8.out.at 5 (v := .slice b h.length caph) rfl
    have c10_A_0 := A_8.out.at 0 (v := .int .i64 0) rfl
    have c10_A_1 := A_8.out.at 1 (v := .int .i64 0) rfl
    have c10_A_2 := A_8.out.at 2 (v := .slice none 0 0) rfl
    have c10_A_3 := A_8.out.at 3 (v := .int .i64 0) rfl
    have c10_A_4 := A_8.out.at 4 (v := .int .i64 0) rfl
    have c10_A_5 := A_8.out.at 5 (v := .slice none 0 0) rfl
    have c11_U_0 := X7_U.out.at 0 (v := .int .i64 t) rfl
    have c11_U_1 := X7_U.out.at 1 (v := .int .i64 z) rfl
    have c11_U_2 := X7_U.out.at 2 (v := .slice a_y q.length c_y) rfl
    go_upto_region 2 with fail
    clear c9_T_0 c9_T_1 c9_T_2 c9_T_3 c9_T_4 c9_T_5
    clear c10_A_0 c10_A_1 c10_A_2 c10_A_3 c10_A_4 c10_A_5
    clear c11_U_0 c11_U_1 c11_U_2
    have l12 : Below W7.heap.size W7 W7.drew := Below.drew (Below.refl _ _)
    refine wp_region_held_drew (S := (fun w' => w'.cell? ⟨R_T, 0, none⟩ = some (.int .i64 t) ∧ w'.cell? ⟨R_T, 1, none⟩ = some (.int .i64 z) ∧ w'.cell? ⟨R_T, 2, none⟩ = some (.slice a q.length cap) ∧ w'.cell? ⟨R_T, 3, none⟩ = some (.int .i64 c) ∧ w'.cell? ⟨R_T, 4, none⟩ = some (.int .i64 u) ∧ w'.cell? ⟨R_T, 5, none⟩ = some (.slice b h.length caph) ∧ w'.cell? ⟨R_U, 0, none⟩ = some (.int .i64 t) ∧ w'.cell? ⟨R_U, 1, none⟩ = some (.int .i64 z) ∧ w'.cell? ⟨R_U, 2, none⟩ = some (.slice a_y q.length c_y) ∧ Below w.heap.size w w')) (by kernel_rfl) ?_ (fun hHeld => ?_)
    · exact ⟨T_8.out.at 0 (v := .int .i64 t) rfl, T_8.out.at 1 (v := .int .i64 z) rfl, T_8.out.at 2 (v := .slice a q.length cap) rfl, T_8.out.at 3 (v := .int .i64 c) rfl, T_8.out.at 4 (v := .int .i64 u) rfl, T_8.out.at 5 (v := .slice b h.length caph) rfl, X7_U.out.at 0 (v := .int .i64 t) rfl, X7_U.out.at 1 (v := .int .i64 z) rfl, X7_U.out.at 2 (v := .slice a_y q.length c_y) rfl, Below.drew HB_8.out⟩
    obtain ⟨W12, hW12⟩ : ∃ W12, W12 = W7.drew := ⟨_, rfl⟩
    rw [← hW12] at hHeld l12 ⊢
    clear hW12
    have HB_13 := Lib.hid (HB_8.out.trans (l12.mono HB_8.out.size))
    have y_13 := Lib.hid (ownz_below y_8.out l12 (Nat.le_refl _))
    clear y_8
    have T_13 := Lib.hid (T_8.out.below l12 T_8.out.lt)
    clear T_8
    have A_13 := Lib.hid (A_8.out.below l12 A_8.out.lt)
    clear A_8
    have U_13 := Lib.hid (X7_U.out.below l12 X7_U.out.lt)
    clear X7_U
    clear l12
    (refine wpAnyH_take (i := 0) (oi := { dst := some 9, op := Go.Op.load 26 (Go.Operand.tmp 4), type := 26, pos := "l11_source.go:102", after := #[], guard := none }) (v := (.agg #[.int .i64 t, .int .i64 z, .slice a_y q.length c_y])) rfl (by kernel_rfl) (by kernel_rfl) (by kernel_rfl) (fun _ _ _ h => h) (Or.inl ⟨by rfl, ?_⟩) (by assumption) ?_; (focus (intro w' hSw; (try dsimp only at hSw); go_simp; (try with_reducible rfl))); (try simp only [Act.put, List.setIfInBounds_toArray, List.set_cons_zero, List.set_cons_succ]))
    (refine wpAnyH_take (i := 1) (oi := { dst := some 10, op := Go.Op.fieldAddr 29 (Go.Operand.tmp 1) 1, type := 0, pos := "l11_source.go:102", after := #[], guard := none }) (v := (.pointer (some ⟨R_T, 3, none⟩))) rfl (by kernel_rfl) (by kernel_rfl) (by kernel_rfl) (fun _ _ _ h => h) (Or.inl ⟨by rfl, ?_⟩) (by assumption) ?_; (focus (intro w' hSw; (try dsimp only at hSw); go_simp; (try with_reducible rfl))); (try simp only [Act.put, List.setIfInBounds_toArray, List.set_cons_zero, List.set_cons_succ]))
    (refine wpAnyH_take (i := 2) (oi := { dst := some 11, op := Go.Op.load 3 (Go.Operand.tmp 10), type := 3, pos := "l11_source.go:102", after := #[{ on := 1, ground := Go.Ground.data }], guard := none }) (v := (.int .i64 c)) rfl (by kernel_rfl) (by kernel_rfl) (by kernel_rfl) (fun _ _ _ h => h) (Or.inl ⟨by rfl, ?_⟩) (by assumption) ?_; (focus (intro w' hSw; (try dsimp only at hSw); go_simp; (try with_reducible rfl))); (try simp only [Act.put, List.setIfInBounds_toArray, List.set_cons_zero, List.set_cons_succ]))
    (refine wpAnyH_take (i := 3) (oi := { dst := some 12, op := Go.Op.binOp Go.BinOp.add 3 (Go.Operand.tmp 11) (Go.Operand.const (Go.Value.int Go.IntKind.i64 1)) 3, type := 3, pos := "l11_source.go:102", after := #[{ on := 2, ground := Go.Ground.data }], guard := none }) (v := (.int .i64 (c + 1))) rfl (by kernel_rfl) (by kernel_rfl) (by kernel_rfl) (fun _ _ _ h => h) (Or.inl ⟨by rfl, ?_⟩) (by assumption) ?_; (focus (intro w' hSw; (try dsimp only at hSw); go_simp; (try with_reducible rfl))); (try simp only [Act.put, List.setIfInBounds_toArray, List.set_cons_zero, List.set_cons_succ]))
    (refine wpAnyH_take (i := 4) (oi := { dst := some 13, op := Go.Op.fieldAddr 29 (Go.Operand.tmp 1) 2, type := 0, pos := "l11_source.go:102", after := #[], guard := none }) (v := (.pointer (some ⟨R_T, 4, none⟩))) rfl (by kernel_rfl) (by kernel_rfl) (by kernel_rfl) (fun _ _ _ h => h) (Or.inl ⟨by rfl, ?_⟩) (by assumption) ?_; (focus (intro w' hSw; (try dsimp only at hSw); go_simp; (try with_reducible rfl))); (try simp only [Act.put, List.setIfInBounds_toArray, List.set_cons_zero, List.set_cons_succ]))
    (refine wpAnyH_take (i := 5) (oi := { dst := some 14, op := Go.Op.load 3 (Go.Operand.tmp 13), type := 3, pos := "l11_source.go:102", after := #[{ on := 4, ground := Go.Ground.data }], guard := none }) (v := (.int .i64 u)) rfl (by kernel_rfl) (by kernel_rfl) (by kernel_rfl) (fun _ _ _ h => h) (Or.inl ⟨by rfl, ?_⟩) (by assumption) ?_; (focus (intro w' hSw; (try dsimp only at hSw); go_simp; (try with_reducible rfl))); (try simp only [Act.put, List.setIfInBounds_toArray, List.set_cons_zero, List.set_cons_succ]))
    (refine wpAnyH_take (i := 6) (oi := { dst := some 15, op := Go.Op.binOp Go.BinOp.add 3 (Go.Operand.tmp 14) (Go.Operand.const (Go.Value.int Go.IntKind.i64 1)) 3, type := 3, pos := "l11_source.go:102", after := #[{ on := 5, ground := Go.Ground.data }], guard := none }) (v := (.int .i64 (u + 1))) rfl (by kernel_rfl) (by kernel_rfl) (by kernel_rfl) (fun _ _ _ h => h) (Or.inl ⟨by rfl, ?_⟩) (by assumption) ?_; (focus (intro w' hSw; (try dsimp only at hSw); go_simp; (try with_reducible rfl))); (try simp only [Act.put, List.setIfInBounds_toArray, List.set_cons_zero, List.set_cons_succ]))
    (refine wpAnyH_take (i := 7) (oi := { dst := some 16, op := Go.Op.fieldAddr 29 (Go.Operand.tmp 1) 3, type := 0, pos := "l11_source.go:102", after := #[], guard := none }) (v := (.pointer (some ⟨R_T, 5, none⟩))) rfl (by kernel_rfl) (by kernel_rfl) (by kernel_rfl) (fun _ _ _ h => h) (Or.inl ⟨by rfl, ?_⟩) (by assumption) ?_; (focus (intro w' hSw; (try dsimp only at hSw); go_simp; (try with_reducible rfl))); (try simp only [Act.put, List.setIfInBounds_toArray, List.set_cons_zero, List.set_cons_succ]))
    (refine wpAnyH_take (i := 8) (oi := { dst := some 17, op := Go.Op.load 27 (Go.Operand.tmp 16), type := 27, pos := "l11_source.go:102", after := #[{ on := 7, ground := Go.Ground.data }], guard := none }) (v := (.slice b h.length caph)) rfl (by kernel_rfl) (by kernel_rfl) (by kernel_rfl) (fun _ _ _ h => h) (Or.inl ⟨by rfl, ?_⟩) (by assumption) ?_; (focus (intro w' hSw; (try dsimp only at hSw); go_simp; (try with_reducible rfl))); (try simp only [Act.put, List.setIfInBounds_toArray, List.set_cons_zero, List.set_cons_succ]))
    (refine wpAnyH_take (i := 9) (oi := { dst := some 18, op := Go.Op.load 26 (Go.Operand.tmp 4), type := 26, pos := "l11_source.go:102", after := #[], guard := none }) (v := (.agg #[.int .i64 t, .int .i64 z, .slice a_y q.length c_y])) rfl (by kernel_rfl) (by kernel_rfl) (by kernel_rfl) (fun _ _ _ h => h) (Or.inl ⟨by rfl, ?_⟩) (by assumption) ?_; (focus (intro w' hSw; (try dsimp only at hSw); go_simp; (try with_reducible rfl))); (try simp only [Act.put, List.setIfInBounds_toArray, List.set_cons_zero, List.set_cons_succ]))
    (refine wpAnyH_take (i := 10) (oi := { dst := some 19, op := Go.Op.fieldAddr 29 (Go.Operand.tmp 1) 1, type := 0, pos := "l11_source.go:102", after := #[], guard := none }) (v := (.pointer (some ⟨R_T, 3, none⟩))) rfl (by kernel_rfl) (by kernel_rfl) (by kernel_rfl) (fun _ _ _ h => h) (Or.inl ⟨by rfl, ?_⟩) (by assumption) ?_; (focus (intro w' hSw; (try dsimp only at hSw); go_simp; (try with_reducible rfl))); (try simp only [Act.put, List.setIfInBounds_toArray, List.set_cons_zero, List.set_cons_succ]))
    (refine wpAnyH_take (i := 11) (oi := { dst := some 20, op := Go.Op.load 3 (Go.Operand.tmp 19), type := 3, pos := "l11_source.go:102", after := #[{ on := 10, ground := Go.Ground.data }], guard := none }) (v := (.int .i64 c)) rfl (by kernel_rfl) (by kernel_rfl) (by kernel_rfl) (fun _ _ _ h => h) (Or.inl ⟨by rfl, ?_⟩) (by assumption) ?_; (focus (intro w' hSw; (try dsimp only at hSw); go_simp; (try with_reducible rfl))); (try simp only [Act.put, List.setIfInBounds_toArray, List.set_cons_zero, List.set_cons_succ]))
    (refine wpAnyH_take (i := 12) (oi := { dst := some 21, op := Go.Op.binOp Go.BinOp.add 3 (Go.Operand.tmp 20) (Go.Operand.const (Go.Value.int Go.IntKind.i64 1)) 3, type := 3, pos := "l11_source.go:102", after := #[{ on := 11, ground := Go.Ground.data }], guard := none }) (v := (.int .i64 (c + 1))) rfl (by kernel_rfl) (by kernel_rfl) (by kernel_rfl) (fun _ _ _ h => h) (Or.inl ⟨by rfl, ?_⟩) (by assumption) ?_; (focus (intro w' hSw; (try dsimp only at hSw); go_simp; (try with_reducible rfl))); (try simp only [Act.put, List.setIfInBounds_toArray, List.set_cons_zero, List.set_cons_succ]))
    refine wpAnyH_ready (rs := [13, 15]) (by kernel_rfl) (by simp) ?_
    refine AllReadyH.cons rfl (fun K hK => ?_) (AllReadyH.cons rfl (fun K hK => ?_) AllReadyH.nil)
    · skip
      have c14_T_0 := T_13.out.at 0 (v := .int .i64 t) rfl
      have c14_T_1 := T_13.out.at 1 (v := .int .i64 z) rfl
      have c14_T_2 := T_13.out.at 2 (v := .slice a q.length cap) rfl
      have c14_T_3 := T_13.out.at 3 (v := .int .i64 c) rfl
      have c14_T_4 := T_13.out.at 4 (v := .int .i64 u) rfl
      have c14_T_5 := T_13.out.at 5 (v := .slice b h.length caph) rfl
      have c15_A_0 := A_13.out.at 0 (v := .int .i64 0) rfl
      have c15_A_1 := A_13.out.at 1 (v := .int .i64 0) rfl
      have c15_A_2 := A_13.out.at 2 (v := .slice none 0 0) rfl
      have c15_A_3 := A_13.out.at 3 (v := .int .i64 0) rfl
      have c15_A_4 := A_13.out.at 4 (v := .int .i64 0) rfl
      have c15_A_5 := A_13.out.at 5 (v := .slice none 0 0) rfl
      have c16_U_0 := U_13.out.at 0 (v := .int .i64 t) rfl
      have c16_U_1 := U_13.out.at 1 (v := .int .i64 z) rfl
      have c16_U_2 := U_13.out.at 2 (v := .slice a_y q.length c_y) rfl
      go_simp
      go_at_call 99
      refine (HHo.out _ _ (rowz_own y_13.out) (HH.out.below HB_13.out (Nat.le_refl _))).mono ?_
      rintro e W17 ⟨v_k, rfl, o_k, l17⟩
      obtain ⟨a_k, c_k, rfl, _, _⟩ := ownz_slice o_k
      have AP_y_k : Hid (∀ k, (.slice a_y q.length c_y : Value).ownBlock = some k → (.slice a_k kp.length c_k : Value).ownBlock ≠ some k) := Lib.hid (fun k h1 h2 => absurd (y_13.out.lt k h1).2 (Nat.not_lt.2 (o_k.lt k h2).1))
      have O_k := Lib.hid (ownz_base o_k HB_13.out.size)
      have BX_T_k : Hid (∀ k, (.slice a_k kp.length c_k : Value).ownBlock = some k → k ≠ R_T) := Lib.hid (fun k h1 h2 => absurd T_13.out.lt (Nat.not_lt.2 (by rw [← h2]; exact (o_k.lt k h1).1)))
      have BX_A_k : Hid (∀ k, (.slice a_k kp.length c_k : Value).ownBlock = some k → k ≠ R_A) := Lib.hid (fun k h1 h2 => absurd A_13.out.lt (Nat.not_lt.2 (by rw [← h2]; exact (o_k.lt k h1).1)))
      have BX_U_k : Hid (∀ k, (.slice a_k kp.length c_k : Value).ownBlock = some k → k ≠ R_U) := Lib.hid (fun k h1 h2 => absurd U_13.out.lt (Nat.not_lt.2 (by rw [← h2]; exact (o_k.lt k h1).1)))
      clear o_k
      clear c14_T_0 c14_T_1 c14_T_2 c14_T_3 c14_T_4 c14_T_5
      clear c15_A_0 c15_A_1 c15_A_2 c15_A_3 c15_A_4 c15_A_5
      clear c16_U_0 c16_U_1 c16_U_2
      have HB_18 := Lib.hid (HB_13.out.trans (l17.mono HB_13.out.size))
      have y_18 := Lib.hid (ownz_below y_13.out l17 (Nat.le_refl _))
      clear y_13
      have T_18 := Lib.hid (T_13.out.below l17 T_13.out.lt)
      clear T_13
      have A_18 := Lib.hid (A_13.out.below l17 A_13.out.lt)
      clear A_13
      have U_18 := Lib.hid (U_13.out.below l17 U_13.out.lt)
      clear U_13
      clear l17
      have c19_T_0 := T_18.out.at 0 (v := .int .i64 t) rfl
      have c19_T_1 := T_18.out.at 1 (v := .int .i64 z) rfl
      have c19_T_2 := T_18.out.at 2 (v := .slice a q.length cap) rfl
      have c19_T_3 := T_18.out.at 3 (v := .int .i64 c) rfl
      have c19_T_4 := T_18.out.at 4 (v := .int .i64 u) rfl
      have c19_T_5 := T_18.out.at 5 (v := .slice b h.length caph) rfl
      have c20_A_0 := A_18.out.at 0 (v := .int .i64 0) rfl
      have c20_A_1 := A_18.out.at 1 (v := .int .i64 0) rfl
      have c20_A_2 := A_18.out.at 2 (v := .slice none 0 0) rfl
      have c20_A_3 := A_18.out.at 3 (v := .int .i64 0) rfl
      have c20_A_4 := A_18.out.at 4 (v := .int .i64 0) rfl
      have c20_A_5 := A_18.out.at 5 (v := .slice none 0 0) rfl
      have c21_U_0 := U_18.out.at 0 (v := .int .i64 t) rfl
      have c21_U_1 := U_18.out.at 1 (v := .int .i64 z) rfl
      have c21_U_2 := U_18.out.at 2 (v := .slice a_y q.length c_y) rfl
      clear c19_T_0 c19_T_1 c19_T_2 c19_T_3 c19_T_4 c19_T_5
      clear c20_A_0 c20_A_1 c20_A_2 c20_A_3 c20_A_4 c20_A_5
      clear c21_U_0 c21_U_1 c21_U_2
      refine hK.out _ _ ?S1 (fun hHeld1 => ?rest1)
      case S1 =>
        (try dsimp only)
        exact ⟨T_18.out.at 0 (v := .int .i64 t) rfl, T_18.out.at 1 (v := .int .i64 z) rfl, T_18.out.at 2 (v := .slice a q.length cap) rfl, T_18.out.at 3 (v := .int .i64 c) rfl, T_18.out.at 4 (v := .int .i64 u) rfl, T_18.out.at 5 (v := .slice b h.length caph) rfl, U_18.out.at 0 (v := .int .i64 t) rfl, U_18.out.at 1 (v := .int .i64 z) rfl, U_18.out.at 2 (v := .slice a_y q.length c_y) rfl, HB_18.out⟩
      case rest1 =>
        clear hK K
        clear hHeld
        (try simp only [Act.put, List.setIfInBounds_toArray, List.set_cons_zero, List.set_cons_succ])
        (refine wpAnyH_take (i := 14) (oi := { dst := some 23, op := Go.Op.build 29 #[(0, Go.Operand.tmp 9), (1, Go.Operand.tmp 12), (2, Go.Operand.tmp 15), (3, Go.Operand.tmp 22)], type := 29, pos := "l11_source.go:102", after := #[{ on := 0, ground := Go.Ground.data }, { on := 3, ground := Go.Ground.data }, { on := 6, ground := Go.Ground.data }, { on := 13, ground := Go.Ground.data }], guard := none }) (v := (.agg #[.int .i64 t, .int .i64 z, .slice a_y q.length c_y, .int .i64 (c + 1), .int .i64 (u + 1), .slice a_k kp.length c_k])) rfl (by kernel_rfl) (by kernel_rfl) (by kernel_rfl) (fun _ _ _ h => h) (Or.inl ⟨by rfl, ?_⟩) (by assumption) ?_; (focus (intro w' hSw; (try dsimp only at hSw); go_simp; (try with_reducible rfl))); (try simp only [Act.put, List.setIfInBounds_toArray, List.set_cons_zero, List.set_cons_succ]))
        refine wpAnyH_ready (rs := [15]) (by kernel_rfl) (by simp) ?_
        refine AllReadyH.cons rfl (fun K hK => ?_) AllReadyH.nil
        go_simp
        obtain ⟨W22, hW22⟩ : ∃ W22, W22 = W17.alloc (.cells #[.int .i64 0, .int .i64 0, .slice none 0 0, .int .i64 0, .int .i64 0, .slice none 0 0] 29) := ⟨_, rfl⟩
        have l22 : Below W17.heap.size W17 W22 := by rw [hW22]; exact (Below.refl _ _).alloc (Nat.le_refl _) _
        have X22_X : Hid (Bx W22 W17.heap.size #[.int .i64 0, .int .i64 0, .slice none 0 0, .int .i64 0, .int .i64 0, .slice none 0 0] 29) := Lib.hid (by rw [hW22]; exact Bx.new _ _ _)
        rw [← hW22]
        clear hW22
        have BX_X_y : Hid (∀ k, (.slice a_y q.length c_y : Value).ownBlock = some k → k ≠ W17.heap.size) := Lib.hid (fun k h1 h2 => absurd (y_18.out.lt k h1).2 (by omega))
        have BX_X_k : Hid (∀ k, (.slice a_k kp.length c_k : Value).ownBlock = some k → k ≠ W17.heap.size) := Lib.hid (fun k h1 h2 => absurd (O_k.out.lt k h1).2 (by omega))
        have HG_X : Hid (w.heap.size ≤ W17.heap.size) := Lib.hid HB_18.out.size
        have HN_X_T : Hid (R_T < W17.heap.size) := Lib.hid T_18.out.lt
        have HN_X_A : Hid (R_A < W17.heap.size) := Lib.hid A_18.out.lt
        have HN_X_U : Hid (R_U < W17.heap.size) := Lib.hid U_18.out.lt
        obtain ⟨R_X, hR_X⟩ : ∃ X, X = W17.heap.size := ⟨_, rfl⟩
        rw [← hR_X] at X22_X HG_X BX_X_y BX_X_k HN_X_T HN_X_A HN_X_U ⊢
        clear hR_X
        have HB_23 := Lib.hid (HB_18.out.trans (l22.mono HB_18.out.size))
        have y_23 := Lib.hid (ownz_below y_18.out l22 (Nat.le_refl _))
        clear y_18
        have k_23 := Lib.hid (ownz_below O_k.out l22 (Nat.le_refl _))
        clear O_k
        have T_23 := Lib.hid (T_18.out.below l22 T_18.out.lt)
        clear T_18
        have A_23 := Lib.hid (A_18.out.below l22 A_18.out.lt)
        clear A_18
        have U_23 := Lib.hid (U_18.out.below l22 U_18.out.lt)
        clear U_18
        clear l22
        have c24_T_0 := T_23.out.at 0 (v := .int .i64 t) rfl
        have c24_T_1 := T_23.out.at 1 (v := .int .i64 z) rfl
        have c24_T_2 := T_23.out.at 2 (v := .slice a q.length cap) rfl
        have c24_T_3 := T_23.out.at 3 (v := .int .i64 c) rfl
        have c24_T_4 := T_23.out.at 4 (v := .int .i64 u) rfl
        have c24_T_5 := T_23.out.at 5 (v := .slice b h.length caph) rfl
        have c25_A_0 := A_23.out.at 0 (v := .int .i64 0) rfl
        have c25_A_1 := A_23.out.at 1 (v := .int .i64 0) rfl
        have c25_A_2 := A_23.out.at 2 (v := .slice none 0 0) rfl
        have c25_A_3 := A_23.out.at 3 (v := .int .i64 0) rfl
        have c25_A_4 := A_23.out.at 4 (v := .int .i64 0) rfl
        have c25_A_5 := A_23.out.at 5 (v := .slice none 0 0) rfl
        have c26_U_0 := U_23.out.at 0 (v := .int .i64 t) rfl
        have c26_U_1 := U_23.out.at 1 (v := .int .i64 z) rfl
        have c26_U_2 := U_23.out.at 2 (v := .slice a_y q.length c_y) rfl
        have c27_X_0 := X22_X.out.at 0 (v := .int .i64 0) rfl
        have c27_X_1 := X22_X.out.at 1 (v := .int .i64 0) rfl
        have c27_X_2 := X22_X.out.at 2 (v := .slice none 0 0) rfl
        have c27_X_3 := X22_X.out.at 3 (v := .int .i64 0) rfl
        have c27_X_4 := X22_X.out.at 4 (v := .int .i64 0) rfl
        have c27_X_5 := X22_X.out.at 5 (v := .slice none 0 0) rfl
        clear c24_T_0 c24_T_1 c24_T_2 c24_T_3 c24_T_4 c24_T_5
        clear c25_A_0 c25_A_1 c25_A_2 c25_A_3 c25_A_4 c25_A_5
        clear c26_U_0 c26_U_1 c26_U_2
        clear c27_X_0 c27_X_1 c27_X_2 c27_X_3 c27_X_4 c27_X_5
        refine hK.out _ _ ?S2 (fun hHeld2 => ?rest2)
        case S2 =>
          (try dsimp only)
          exact ⟨T_23.out.at 0 (v := .int .i64 t) rfl, T_23.out.at 1 (v := .int .i64 z) rfl, T_23.out.at 2 (v := .slice a q.length cap) rfl, T_23.out.at 3 (v := .int .i64 c) rfl, T_23.out.at 4 (v := .int .i64 u) rfl, T_23.out.at 5 (v := .slice b h.length caph) rfl, U_23.out.at 0 (v := .int .i64 t) rfl, U_23.out.at 1 (v := .int .i64 z) rfl, U_23.out.at 2 (v := .slice a_y q.length c_y) rfl, HB_23.out⟩
        case rest2 =>
          clear hK K
          clear hHeld1
          (try simp only [Act.put, List.setIfInBounds_toArray, List.set_cons_zero, List.set_cons_succ])
          refine wpAnyH_ready (rs := [16]) (by kernel_rfl) (by simp) ?_
          refine AllReadyH.cons rfl (fun K hK => ?_) AllReadyH.nil
          have c28_X_0 := X22_X.out.at 0 (v := .int .i64 0) rfl
          have c28_X_1 := X22_X.out.at 1 (v := .int .i64 0) rfl
          have c28_X_2 := X22_X.out.at 2 (v := .slice none 0 0) rfl
          have c28_X_3 := X22_X.out.at 3 (v := .int .i64 0) rfl
          have c28_X_4 := X22_X.out.at 4 (v := .int .i64 0) rfl
          have c28_X_5 := X22_X.out.at 5 (v := .slice none 0 0) rfl
          have fr29_X_0 := X22_X.out.free 0
          have fr29_X_1 := X22_X.out.free 1
          have fr29_X_2 := X22_X.out.free 2
          have fr29_X_3 := X22_X.out.free 3
          have fr29_X_4 := X22_X.out.free 4
          have fr29_X_5 := X22_X.out.free 5
          go_simp
          clear c28_X_0 c28_X_1 c28_X_2 c28_X_3 c28_X_4 c28_X_5
          clear fr29_X_0 fr29_X_1 fr29_X_2 fr29_X_3 fr29_X_4 fr29_X_5
          obtain ⟨p30, q30⟩ := X22_X.out.store6 (.int .i64 t) (.int .i64 z) (.slice a_y q.length c_y) (.int .i64 (c + 1)) (.int .i64 (u + 1)) (.slice a_k kp.length c_k)
          obtain ⟨W30, hW30⟩ : ∃ W30, W30 = ((((((W22.setCell ⟨R_X, 0, none⟩ (.int .i64 t)).setCell ⟨R_X, 1, none⟩ (.int .i64 z)).setCell ⟨R_X, 2, none⟩ (.slice a_y q.length c_y)).setCell ⟨R_X, 3, none⟩ (.int .i64 (c + 1))).setCell ⟨R_X, 4, none⟩ (.int .i64 (u + 1))).setCell ⟨R_X, 5, none⟩ (.slice a_k kp.length c_k)) := ⟨_, rfl⟩
          rw [← hW30] at p30 q30 ⊢
          have X30_X : Hid (Bx W30 R_X #[.int .i64 t, .int .i64 z, .slice a_y q.length c_y, .int .i64 (c + 1), .int .i64 (u + 1), .slice a_k kp.length c_k] 29) := Lib.hid p30
          have HB_31 := Lib.hid (HB_23.out.grown q30 HB_23.out.size (fun k hk => by have e2 : R_X = k := Option.some.inj hk; have := HG_X.out; omega))
          have y_31 := Lib.hid (y_23.out.kept q30 (by
            cases hv : (.slice a_y q.length c_y : Value).ownBlock with
            | none => exact .inl rfl
            | some k => exact .inr (fun e => BX_X_y.out k hv (Option.some.inj e))))
          clear y_23
          have k_31 := Lib.hid (k_23.out.kept q30 (by
            cases hv : (.slice a_k kp.length c_k : Value).ownBlock with
            | none => exact .inl rfl
            | some k => exact .inr (fun e => BX_X_k.out k hv (Option.some.inj e))))
          clear k_23
          have T_31 := Lib.hid (T_23.out.grown q30 (by intro e; have e2 : R_T = R_X := Option.some.inj e; have h1 := HN_X_T.out; omega))
          clear T_23
          have A_31 := Lib.hid (A_23.out.grown q30 (by intro e; have e2 : R_A = R_X := Option.some.inj e; have h1 := HN_X_A.out; omega))
          clear A_23
          have U_31 := Lib.hid (U_23.out.grown q30 (by intro e; have e2 : R_U = R_X := Option.some.inj e; have h1 := HN_X_U.out; omega))
          clear U_23
          clear X22_X
          clear hW30 p30 q30
          have c32_T_0 := T_31.out.at 0 (v := .int .i64 t) rfl
          have c32_T_1 := T_31.out.at 1 (v := .int .i64 z) rfl
          have c32_T_2 := T_31.out.at 2 (v := .slice a q.length cap) rfl
          have c32_T_3 := T_31.out.at 3 (v := .int .i64 c) rfl
          have c32_T_4 := T_31.out.at 4 (v := .int .i64 u) rfl
          have c32_T_5 := T_31.out.at 5 (v := .slice b h.length caph) rfl
          have c33_A_0 := A_31.out.at 0 (v := .int .i64 0) rfl
          have c33_A_1 := A_31.out.at 1 (v := .int .i64 0) rfl
          have c33_A_2 := A_31.out.at 2 (v := .slice none 0 0) rfl
          have c33_A_3 := A_31.out.at 3 (v := .int .i64 0) rfl
          have c33_A_4 := A_31.out.at 4 (v := .int .i64 0) rfl
          have c33_A_5 := A_31.out.at 5 (v := .slice none 0 0) rfl
          have c34_U_0 := U_31.out.at 0 (v := .int .i64 t) rfl
          have c34_U_1 := U_31.out.at 1 (v := .int .i64 z) rfl
          have c34_U_2 := U_31.out.at 2 (v := .slice a_y q.length c_y) rfl
          have c35_X_0 := X30_X.out.at 0 (v := .int .i64 t) rfl
          have c35_X_1 := X30_X.out.at 1 (v := .int .i64 z) rfl
          have c35_X_2 := X30_X.out.at 2 (v := .slice a_y q.length c_y) rfl
          have c35_X_3 := X30_X.out.at 3 (v := .int .i64 (c + 1)) rfl
          have c35_X_4 := X30_X.out.at 4 (v := .int .i64 (u + 1)) rfl
          have c35_X_5 := X30_X.out.at 5 (v := .slice a_k kp.length c_k) rfl
          clear c32_T_0 c32_T_1 c32_T_2 c32_T_3 c32_T_4 c32_T_5
          clear c33_A_0 c33_A_1 c33_A_2 c33_A_3 c33_A_4 c33_A_5
          clear c34_U_0 c34_U_1 c34_U_2
          clear c35_X_0 c35_X_1 c35_X_2 c35_X_3 c35_X_4 c35_X_5
          refine hK.out _ _ ?S3 (fun hHeld3 => ?rest3)
          case S3 =>
            (try dsimp only)
            exact ⟨T_31.out.at 0 (v := .int .i64 t) rfl, T_31.out.at 1 (v := .int .i64 z) rfl, T_31.out.at 2 (v := .slice a q.length cap) rfl, T_31.out.at 3 (v := .int .i64 c) rfl, T_31.out.at 4 (v := .int .i64 u) rfl, T_31.out.at 5 (v := .slice b h.length caph) rfl, U_31.out.at 0 (v := .int .i64 t) rfl, U_31.out.at 1 (v := .int .i64 z) rfl, U_31.out.at 2 (v := .slice a_y q.length c_y) rfl, HB_31.out⟩
          case rest3 =>
            clear hK K
            clear hHeld2
            (try simp only [Act.put, List.setIfInBounds_toArray, List.set_cons_zero, List.set_cons_succ])
            refine wpAnyH_done (by kernel_rfl) ?_ _
            clear hHeld3
            have c36_T_0 := T_31.out.at 0 (v := .int .i64 t) rfl
            have c36_T_1 := T_31.out.at 1 (v := .int .i64 z) rfl
            have c36_T_2 := T_31.out.at 2 (v := .slice a q.length cap) rfl
            have c36_T_3 := T_31.out.at 3 (v := .int .i64 c) rfl
            have c36_T_4 := T_31.out.at 4 (v := .int .i64 u) rfl
            have c36_T_5 := T_31.out.at 5 (v := .slice b h.length caph) rfl
            have c37_A_0 := A_31.out.at 0 (v := .int .i64 0) rfl
            have c37_A_1 := A_31.out.at 1 (v := .int .i64 0) rfl
            have c37_A_2 := A_31.out.at 2 (v := .slice none 0 0) rfl
            have c37_A_3 := A_31.out.at 3 (v := .int .i64 0) rfl
            have c37_A_4 := A_31.out.at 4 (v := .int .i64 0) rfl
            have c37_A_5 := A_31.out.at 5 (v := .slice none 0 0) rfl
            have c38_U_0 := U_31.out.at 0 (v := .int .i64 t) rfl
            have c38_U_1 := U_31.out.at 1 (v := .int .i64 z) rfl
            have c38_U_2 := U_31.out.at 2 (v := .slice a_y q.length c_y) rfl
            have c39_X_0 := X30_X.out.at 0 (v := .int .i64 t) rfl
            have c39_X_1 := X30_X.out.at 1 (v := .int .i64 z) rfl
            have c39_X_2 := X30_X.out.at 2 (v := .slice a_y q.length c_y) rfl
            have c39_X_3 := X30_X.out.at 3 (v := .int .i64 (c + 1)) rfl
            have c39_X_4 := X30_X.out.at 4 (v := .int .i64 (u + 1)) rfl
            have c39_X_5 := X30_X.out.at 5 (v := .slice a_k kp.length c_k) rfl
            have fr40_X_0 := X30_X.out.free 0
            have fr40_X_1 := X30_X.out.free 1
            have fr40_X_2 := X30_X.out.free 2
            have fr40_X_3 := X30_X.out.free 3
            have fr40_X_4 := X30_X.out.free 4
            have fr40_X_5 := X30_X.out.free 5
            go_upto_region 5 with fail
            clear c36_T_0 c36_T_1 c36_T_2 c36_T_3 c36_T_4 c36_T_5
            clear c37_A_0 c37_A_1 c37_A_2 c37_A_3 c37_A_4 c37_A_5
            clear c38_U_0 c38_U_1 c38_U_2
            clear c39_X_0 c39_X_1 c39_X_2 c39_X_3 c39_X_4 c39_X_5
            clear fr40_X_0 fr40_X_1 fr40_X_2 fr40_X_3 fr40_X_4 fr40_X_5
            obtain ⟨p41, q41⟩ := X30_X.out.set 4 (.int .i64 0)
            obtain ⟨W41, hW41⟩ : ∃ W41, W41 = (W30.setCell ⟨R_X, 4, none⟩ (.int .i64 0)) := ⟨_, rfl⟩
            rw [← hW41] at p41 q41 ⊢
            have X41_X : Hid (Bx W41 R_X #[.int .i64 t, .int .i64 z, .slice a_y q.length c_y, .int .i64 (c + 1), .int .i64 0, .slice a_k kp.length c_k] 29) := Lib.hid p41
            have HB_42 := Lib.hid (HB_31.out.grown q41 HB_31.out.size (fun k hk => by have e2 : R_X = k := Option.some.inj hk; have := HG_X.out; omega))
            have y_42 := Lib.hid (y_31.out.kept q41 (by
              cases hv : (.slice a_y q.length c_y : Value).ownBlock with
              | none => exact .inl rfl
              | some k => exact .inr (fun e => BX_X_y.out k hv (Option.some.inj e))))
            clear y_31
            have k_42 := Lib.hid (k_31.out.kept q41 (by
              cases hv : (.slice a_k kp.length c_k : Value).ownBlock with
              | none => exact .inl rfl
              | some k => exact .inr (fun e => BX_X_k.out k hv (Option.some.inj e))))
            clear k_31
            have T_42 := Lib.hid (T_31.out.grown q41 (by intro e; have e2 : R_T = R_X := Option.some.inj e; have h1 := HN_X_T.out; omega))
            clear T_31
            have A_42 := Lib.hid (A_31.out.grown q41 (by intro e; have e2 : R_A = R_X := Option.some.inj e; have h1 := HN_X_A.out; omega))
            clear A_31
            have U_42 := Lib.hid (U_31.out.grown q41 (by intro e; have e2 : R_U = R_X := Option.some.inj e; have h1 := HN_X_U.out; omega))
            clear U_31
            clear X30_X
            clear hW41 p41 q41
            have c43_T_0 := T_42.out.at 0 (v := .int .i64 t) rfl
            have c43_T_1 := T_42.out.at 1 (v := .int .i64 z) rfl
            have c43_T_2 := T_42.out.at 2 (v := .slice a q.length cap) rfl
            have c43_T_3 := T_42.out.at 3 (v := .int .i64 c) rfl
            have c43_T_4 := T_42.out.at 4 (v := .int .i64 u) rfl
            have c43_T_5 := T_42.out.at 5 (v := .slice b h.length caph) rfl
            have c44_A_0 := A_42.out.at 0 (v := .int .i64 0) rfl
            have c44_A_1 := A_42.out.at 1 (v := .int .i64 0) rfl
            have c44_A_2 := A_42.out.at 2 (v := .slice none 0 0) rfl
            have c44_A_3 := A_42.out.at 3 (v := .int .i64 0) rfl
            have c44_A_4 := A_42.out.at 4 (v := .int .i64 0) rfl
            have c44_A_5 := A_42.out.at 5 (v := .slice none 0 0) rfl
            have c45_U_0 := U_42.out.at 0 (v := .int .i64 t) rfl
            have c45_U_1 := U_42.out.at 1 (v := .int .i64 z) rfl
            have c45_U_2 := U_42.out.at 2 (v := .slice a_y q.length c_y) rfl
            have c46_X_0 := X41_X.out.at 0 (v := .int .i64 t) rfl
            have c46_X_1 := X41_X.out.at 1 (v := .int .i64 z) rfl
            have c46_X_2 := X41_X.out.at 2 (v := .slice a_y q.length c_y) rfl
            have c46_X_3 := X41_X.out.at 3 (v := .int .i64 (c + 1)) rfl
            have c46_X_4 := X41_X.out.at 4 (v := .int .i64 0) rfl
            have c46_X_5 := X41_X.out.at 5 (v := .slice a_k kp.length c_k) rfl
            clear c43_T_0 c43_T_1 c43_T_2 c43_T_3 c43_T_4 c43_T_5
            clear c44_A_0 c44_A_1 c44_A_2 c44_A_3 c44_A_4 c44_A_5
            clear c45_U_0 c45_U_1 c45_U_2
            clear c46_X_0 c46_X_1 c46_X_2 c46_X_3 c46_X_4 c46_X_5
            have l47 : Below W41.heap.size W41 W41.drew := Below.drew (Below.refl _ _)
            refine wp_region_held_drew (S := (fun w' => w'.cell? ⟨R_X, 0, none⟩ = some (.int .i64 t) ∧ w'.cell? ⟨R_X, 1, none⟩ = some (.int .i64 z) ∧ w'.cell? ⟨R_X, 2, none⟩ = some (.slice a_y q.length c_y) ∧ w'.cell? ⟨R_X, 3, none⟩ = some (.int .i64 (c + 1)) ∧ w'.cell? ⟨R_X, 4, none⟩ = some (.int .i64 0) ∧ w'.cell? ⟨R_X, 5, none⟩ = some (.slice a_k kp.length c_k) ∧ w'.cell? ⟨R_U, 0, none⟩ = some (.int .i64 t) ∧ w'.cell? ⟨R_U, 1, none⟩ = some (.int .i64 z) ∧ w'.cell? ⟨R_U, 2, none⟩ = some (.slice a_y q.length c_y) ∧ Below w.heap.size w w')) (by kernel_rfl) ?_ (fun hHeld => ?_)
            · exact ⟨X41_X.out.at 0 (v := .int .i64 t) rfl, X41_X.out.at 1 (v := .int .i64 z) rfl, X41_X.out.at 2 (v := .slice a_y q.length c_y) rfl, X41_X.out.at 3 (v := .int .i64 (c + 1)) rfl, X41_X.out.at 4 (v := .int .i64 0) rfl, X41_X.out.at 5 (v := .slice a_k kp.length c_k) rfl, U_42.out.at 0 (v := .int .i64 t) rfl, U_42.out.at 1 (v := .int .i64 z) rfl, U_42.out.at 2 (v := .slice a_y q.length c_y) rfl, Below.drew HB_42.out⟩
            obtain ⟨W47, hW47⟩ : ∃ W47, W47 = W41.drew := ⟨_, rfl⟩
            rw [← hW47] at hHeld l47 ⊢
            clear hW47
            have HB_48 := Lib.hid (HB_42.out.trans (l47.mono HB_42.out.size))
            have y_48 := Lib.hid (ownz_below y_42.out l47 (Nat.le_refl _))
            clear y_42
            have k_48 := Lib.hid (ownz_below k_42.out l47 (Nat.le_refl _))
            clear k_42
            have T_48 := Lib.hid (T_42.out.below l47 T_42.out.lt)
            clear T_42
            have A_48 := Lib.hid (A_42.out.below l47 A_42.out.lt)
            clear A_42
            have U_48 := Lib.hid (U_42.out.below l47 U_42.out.lt)
            clear U_42
            have X_48 := Lib.hid (X41_X.out.below l47 X41_X.out.lt)
            clear X41_X
            clear l47
            (refine wpAnyH_take (i := 0) (oi := { dst := some 28, op := Go.Op.load 29 (Go.Operand.tmp 5), type := 29, pos := "l11_source.go:105", after := #[], guard := none }) (v := (.agg #[.int .i64 t, .int .i64 z, .slice a_y q.length c_y, .int .i64 (c + 1), .int .i64 0, .slice a_k kp.length c_k])) rfl (by kernel_rfl) (by kernel_rfl) (by kernel_rfl) (fun _ _ _ h => h) (Or.inl ⟨by rfl, ?_⟩) (by assumption) ?_; (focus (intro w' hSw; (try dsimp only at hSw); go_simp; (try with_reducible rfl))); (try simp only [Act.put, List.setIfInBounds_toArray, List.set_cons_zero, List.set_cons_succ]))
            (refine wpAnyH_take (i := 1) (oi := { dst := some 29, op := Go.Op.load 26 (Go.Operand.tmp 4), type := 26, pos := "l11_source.go:105", after := #[], guard := none }) (v := (.agg #[.int .i64 t, .int .i64 z, .slice a_y q.length c_y])) rfl (by kernel_rfl) (by kernel_rfl) (by kernel_rfl) (fun _ _ _ h => h) (Or.inl ⟨by rfl, ?_⟩) (by assumption) ?_; (focus (intro w' hSw; (try dsimp only at hSw); go_simp; (try with_reducible rfl))); (try simp only [Act.put, List.setIfInBounds_toArray, List.set_cons_zero, List.set_cons_succ]))
            refine wpAnyH_ready (rs := [2]) (by kernel_rfl) (by simp) ?_
            refine AllReadyH.cons rfl (fun K hK => ?_) AllReadyH.nil
            have c49_T_0 := T_48.out.at 0 (v := .int .i64 t) rfl
            have c49_T_1 := T_48.out.at 1 (v := .int .i64 z) rfl
            have c49_T_2 := T_48.out.at 2 (v := .slice a q.length cap) rfl
            have c49_T_3 := T_48.out.at 3 (v := .int .i64 c) rfl
            have c49_T_4 := T_48.out.at 4 (v := .int .i64 u) rfl
            have c49_T_5 := T_48.out.at 5 (v := .slice b h.length caph) rfl
            have c50_A_0 := A_48.out.at 0 (v := .int .i64 0) rfl
            have c50_A_1 := A_48.out.at 1 (v := .int .i64 0) rfl
            have c50_A_2 := A_48.out.at 2 (v := .slice none 0 0) rfl
            have c50_A_3 := A_48.out.at 3 (v := .int .i64 0) rfl
            have c50_A_4 := A_48.out.at 4 (v := .int .i64 0) rfl
            have c50_A_5 := A_48.out.at 5 (v := .slice none 0 0) rfl
            have c51_U_0 := U_48.out.at 0 (v := .int .i64 t) rfl
            have c51_U_1 := U_48.out.at 1 (v := .int .i64 z) rfl
            have c51_U_2 := U_48.out.at 2 (v := .slice a_y q.length c_y) rfl
            have c52_X_0 := X_48.out.at 0 (v := .int .i64 t) rfl
            have c52_X_1 := X_48.out.at 1 (v := .int .i64 z) rfl
            have c52_X_2 := X_48.out.at 2 (v := .slice a_y q.length c_y) rfl
            have c52_X_3 := X_48.out.at 3 (v := .int .i64 (c + 1)) rfl
            have c52_X_4 := X_48.out.at 4 (v := .int .i64 0) rfl
            have c52_X_5 := X_48.out.at 5 (v := .slice a_k kp.length c_k) rfl
            go_simp
            go_at_call 118
            refine (HSt.out _ _ (rowz_own y_48.out)).mono ?_
            rintro e W53 ⟨rfl, l53⟩
            clear c49_T_0 c49_T_1 c49_T_2 c49_T_3 c49_T_4 c49_T_5
            clear c50_A_0 c50_A_1 c50_A_2 c50_A_3 c50_A_4 c50_A_5
            clear c51_U_0 c51_U_1 c51_U_2
            clear c52_X_0 c52_X_1 c52_X_2 c52_X_3 c52_X_4 c52_X_5
            have HB_54 := Lib.hid (HB_48.out.trans (l53.mono HB_48.out.size))
            have y_54 := Lib.hid (ownz_below y_48.out l53 (Nat.le_refl _))
            clear y_48
            have k_54 := Lib.hid (ownz_below k_48.out l53 (Nat.le_refl _))
            clear k_48
            have T_54 := Lib.hid (T_48.out.below l53 T_48.out.lt)
            clear T_48
            have A_54 := Lib.hid (A_48.out.below l53 A_48.out.lt)
            clear A_48
            have U_54 := Lib.hid (U_48.out.below l53 U_48.out.lt)
            clear U_48
            have X_54 := Lib.hid (X_48.out.below l53 X_48.out.lt)
            clear X_48
            clear l53
            refine hK.out _ _ ?S4 (fun hHeld4 => ?rest4)
            case S4 =>
              (try dsimp only)
              exact ⟨X_54.out.at 0 (v := .int .i64 t) rfl, X_54.out.at 1 (v := .int .i64 z) rfl, X_54.out.at 2 (v := .slice a_y q.length c_y) rfl, X_54.out.at 3 (v := .int .i64 (c + 1)) rfl, X_54.out.at 4 (v := .int .i64 0) rfl, X_54.out.at 5 (v := .slice a_k kp.length c_k) rfl, U_54.out.at 0 (v := .int .i64 t) rfl, U_54.out.at 1 (v := .int .i64 z) rfl, U_54.out.at 2 (v := .slice a_y q.length c_y) rfl, HB_54.out⟩
            case rest4 =>
              clear hK K
              clear hHeld
              (try simp only [Act.put, List.setIfInBounds_toArray, List.set_cons_zero, List.set_cons_succ])
              refine wpAnyH_ready (rs := [3, 4]) (by kernel_rfl) (by simp) ?_
              refine AllReadyH.cons rfl (fun K hK => ?_) (AllReadyH.cons rfl (fun K hK => ?_) AllReadyH.nil)
              · skip
                go_simp
                obtain ⟨W55, hW55⟩ : ∃ W55, W55 = W53.alloc (.cells #[.int .i64 5, .int .i64 t, .int .i64 t, .int .i64 le, .string ⟨#[]⟩] 64) := ⟨_, rfl⟩
                have l55 : Below W53.heap.size W53 W55 := by rw [hW55]; exact (Below.refl _ _).alloc (Nat.le_refl _) _
                have X55_Lp : Hid (Bx W55 W53.heap.size #[.int .i64 5, .int .i64 t, .int .i64 t, .int .i64 le, .string ⟨#[]⟩] 64) := Lib.hid (by rw [hW55]; exact Bx.new _ _ _)
                rw [← hW55]
                clear hW55
                have BX_Lp_y : Hid (∀ k, (.slice a_y q.length c_y : Value).ownBlock = some k → k ≠ W53.heap.size) := Lib.hid (fun k h1 h2 => absurd (y_54.out.lt k h1).2 (by omega))
                have BX_Lp_k : Hid (∀ k, (.slice a_k kp.length c_k : Value).ownBlock = some k → k ≠ W53.heap.size) := Lib.hid (fun k h1 h2 => absurd (k_54.out.lt k h1).2 (by omega))
                have HG_Lp : Hid (w.heap.size ≤ W53.heap.size) := Lib.hid HB_54.out.size
                have HN_Lp_T : Hid (R_T < W53.heap.size) := Lib.hid T_54.out.lt
                have HN_Lp_A : Hid (R_A < W53.heap.size) := Lib.hid A_54.out.lt
                have HN_Lp_U : Hid (R_U < W53.heap.size) := Lib.hid U_54.out.lt
                have HN_Lp_X : Hid (R_X < W53.heap.size) := Lib.hid X_54.out.lt
                obtain ⟨R_Lp, hR_Lp⟩ : ∃ X, X = W53.heap.size := ⟨_, rfl⟩
                rw [← hR_Lp] at X55_Lp HG_Lp BX_Lp_y BX_Lp_k HN_Lp_T HN_Lp_A HN_Lp_U HN_Lp_X ⊢
                clear hR_Lp
                have HB_56 := Lib.hid (HB_54.out.trans (l55.mono HB_54.out.size))
                have y_56 := Lib.hid (ownz_below y_54.out l55 (Nat.le_refl _))
                clear y_54
                have k_56 := Lib.hid (ownz_below k_54.out l55 (Nat.le_refl _))
                clear k_54
                have T_56 := Lib.hid (T_54.out.below l55 T_54.out.lt)
                clear T_54
                have A_56 := Lib.hid (A_54.out.below l55 A_54.out.lt)
                clear A_54
                have U_56 := Lib.hid (U_54.out.below l55 U_54.out.lt)
                clear U_54
                have X_56 := Lib.hid (X_54.out.below l55 X_54.out.lt)
                clear X_54
                clear l55
                have c57_T_0 := T_56.out.at 0 (v := .int .i64 t) rfl
                have c57_T_1 := T_56.out.at 1 (v := .int .i64 z) rfl
                have c57_T_2 := T_56.out.at 2 (v := .slice a q.length cap) rfl
                have c57_T_3 := T_56.out.at 3 (v := .int .i64 c) rfl
                have c57_T_4 := T_56.out.at 4 (v := .int .i64 u) rfl
                have c57_T_5 := T_56.out.at 5 (v := .slice b h.length caph) rfl
                have c58_A_0 := A_56.out.at 0 (v := .int .i64 0) rfl
                have c58_A_1 := A_56.out.at 1 (v := .int .i64 0) rfl
                have c58_A_2 := A_56.out.at 2 (v := .slice none 0 0) rfl
                have c58_A_3 := A_56.out.at 3 (v := .int .i64 0) rfl
                have c58_A_4 := A_56.out.at 4 (v := .int .i64 0) rfl
                have c58_A_5 := A_56.out.at 5 (v := .slice none 0 0) rfl
                have c59_U_0 := U_56.out.at 0 (v := .int .i64 t) rfl
                have c59_U_1 := U_56.out.at 1 (v := .int .i64 z) rfl
                have c59_U_2 := U_56.out.at 2 (v := .slice a_y q.length c_y) rfl
                have c60_X_0 := X_56.out.at 0 (v := .int .i64 t) rfl
                have c60_X_1 := X_56.out.at 1 (v := .int .i64 z) rfl
                have c60_X_2 := X_56.out.at 2 (v := .slice a_y q.length c_y) rfl
                have c60_X_3 := X_56.out.at 3 (v := .int .i64 (c + 1)) rfl
                have c60_X_4 := X_56.out.at 4 (v := .int .i64 0) rfl
                have c60_X_5 := X_56.out.at 5 (v := .slice a_k kp.length c_k) rfl
                have c61_Lp_0 := X55_Lp.out.at 0 (v := .int .i64 5) rfl
                have c61_Lp_1 := X55_Lp.out.at 1 (v := .int .i64 t) rfl
                have c61_Lp_2 := X55_Lp.out.at 2 (v := .int .i64 t) rfl
                have c61_Lp_3 := X55_Lp.out.at 3 (v := .int .i64 le) rfl
                have c61_Lp_4 := X55_Lp.out.at 4 (v := .string ⟨#[]⟩) rfl
                have AP_y_p : Hid (∀ k, (.slice a_y q.length c_y : Value).ownBlock = some k → (.slice (some ⟨R_Lp, 0, none⟩) 1 1 : Value).ownBlock ≠ some k) := Lib.hid (fun k h1 h2 => BX_Lp_y.out k h1 (Option.some.inj h2).symm)
                have AP_k_p : Hid (∀ k, (.slice a_k kp.length c_k : Value).ownBlock = some k → (.slice (some ⟨R_Lp, 0, none⟩) 1 1 : Value).ownBlock ≠ some k) := Lib.hid (fun k h1 h2 => BX_Lp_k.out k h1 (Option.some.inj h2).symm)
                have O_p := Lib.hid (ownPq_one (p := ⟨5, t, t, le, ⟨#[]⟩⟩) X55_Lp.out HG_Lp.out)
                have BX_T_p : Hid (∀ k, (.slice (some ⟨R_Lp, 0, none⟩) 1 1 : Value).ownBlock = some k → k ≠ R_T) := Lib.hid (fun k h1 h2 => by have e1 : R_Lp = k := Option.some.inj h1; have e2 := HN_Lp_T.out; omega)
                have BX_A_p : Hid (∀ k, (.slice (some ⟨R_Lp, 0, none⟩) 1 1 : Value).ownBlock = some k → k ≠ R_A) := Lib.hid (fun k h1 h2 => by have e1 : R_Lp = k := Option.some.inj h1; have e2 := HN_Lp_A.out; omega)
                have BX_U_p : Hid (∀ k, (.slice (some ⟨R_Lp, 0, none⟩) 1 1 : Value).ownBlock = some k → k ≠ R_U) := Lib.hid (fun k h1 h2 => by have e1 : R_Lp = k := Option.some.inj h1; have e2 := HN_Lp_U.out; omega)
                have BX_X_p : Hid (∀ k, (.slice (some ⟨R_Lp, 0, none⟩) 1 1 : Value).ownBlock = some k → k ≠ R_X) := Lib.hid (fun k h1 h2 => by have e1 : R_Lp = k := Option.some.inj h1; have e2 := HN_Lp_X.out; omega)
                clear c61_Lp_0 c61_Lp_1 c61_Lp_2 c61_Lp_3 c61_Lp_4
                clear X55_Lp
                clear c57_T_0 c57_T_1 c57_T_2 c57_T_3 c57_T_4 c57_T_5
                clear c58_A_0 c58_A_1 c58_A_2 c58_A_3 c58_A_4 c58_A_5
                clear c59_U_0 c59_U_1 c59_U_2
                clear c60_X_0 c60_X_1 c60_X_2 c60_X_3 c60_X_4 c60_X_5
                refine hK.out _ _ ?S5 (fun hHeld5 => ?rest5)
                case S5 =>
                  (try dsimp only)
                  exact ⟨X_56.out.at 0 (v := .int .i64 t) rfl, X_56.out.at 1 (v := .int .i64 z) rfl, X_56.out.at 2 (v := .slice a_y q.length c_y) rfl, X_56.out.at 3 (v := .int .i64 (c + 1)) rfl, X_56.out.at 4 (v := .int .i64 0) rfl, X_56.out.at 5 (v := .slice a_k kp.length c_k) rfl, U_56.out.at 0 (v := .int .i64 t) rfl, U_56.out.at 1 (v := .int .i64 z) rfl, U_56.out.at 2 (v := .slice a_y q.length c_y) rfl, HB_56.out⟩
                case rest5 =>
                  clear hK K
                  clear hHeld4
                  (try simp only [Act.put, List.setIfInBounds_toArray, List.set_cons_zero, List.set_cons_succ])
                  refine wpAnyH_ready (rs := [4]) (by kernel_rfl) (by simp) ?_
                  refine AllReadyH.cons rfl (fun K hK => ?_) AllReadyH.nil
                  have c62_A_0 := A_56.out.at 0 (v := .int .i64 0) rfl
                  have c62_A_1 := A_56.out.at 1 (v := .int .i64 0) rfl
                  have c62_A_2 := A_56.out.at 2 (v := .slice none 0 0) rfl
                  have c62_A_3 := A_56.out.at 3 (v := .int .i64 0) rfl
                  have c62_A_4 := A_56.out.at 4 (v := .int .i64 0) rfl
                  have c62_A_5 := A_56.out.at 5 (v := .slice none 0 0) rfl
                  have fr63_A_0 := A_56.out.free 0
                  have fr63_A_1 := A_56.out.free 1
                  have fr63_A_2 := A_56.out.free 2
                  have fr63_A_3 := A_56.out.free 3
                  have fr63_A_4 := A_56.out.free 4
                  have fr63_A_5 := A_56.out.free 5
                  go_simp
                  clear c62_A_0 c62_A_1 c62_A_2 c62_A_3 c62_A_4 c62_A_5
                  clear fr63_A_0 fr63_A_1 fr63_A_2 fr63_A_3 fr63_A_4 fr63_A_5
                  obtain ⟨p64, q64⟩ := A_56.out.store6 (.int .i64 t) (.int .i64 z) (.slice a_y q.length c_y) (.int .i64 (c + 1)) (.int .i64 0) (.slice a_k kp.length c_k)
                  obtain ⟨W64, hW64⟩ : ∃ W64, W64 = ((((((W55.setCell ⟨R_A, 0, none⟩ (.int .i64 t)).setCell ⟨R_A, 1, none⟩ (.int .i64 z)).setCell ⟨R_A, 2, none⟩ (.slice a_y q.length c_y)).setCell ⟨R_A, 3, none⟩ (.int .i64 (c + 1))).setCell ⟨R_A, 4, none⟩ (.int .i64 0)).setCell ⟨R_A, 5, none⟩ (.slice a_k kp.length c_k)) := ⟨_, rfl⟩
                  rw [← hW64] at p64 q64 ⊢
                  have X64_A : Hid (Bx W64 R_A #[.int .i64 t, .int .i64 z, .slice a_y q.length c_y, .int .i64 (c + 1), .int .i64 0, .slice a_k kp.length c_k] 29) := Lib.hid p64
                  have HB_65 := Lib.hid (HB_56.out.grown q64 HB_56.out.size (fun k hk => by have e2 : R_A = k := Option.some.inj hk; have := HR_A.out; omega))
                  have y_65 := Lib.hid (y_56.out.kept q64 (by
                    cases hv : (.slice a_y q.length c_y : Value).ownBlock with
                    | none => exact .inl rfl
                    | some k => exact .inr (fun e => BX_A_y.out k hv (Option.some.inj e))))
                  clear y_56
                  have k_65 := Lib.hid (k_56.out.kept q64 (by
                    cases hv : (.slice a_k kp.length c_k : Value).ownBlock with
                    | none => exact .inl rfl
                    | some k => exact .inr (fun e => BX_A_k.out k hv (Option.some.inj e))))
                  clear k_56
                  have p_65 := Lib.hid (O_p.out.kept q64 (by
                    cases hv : (.slice (some ⟨R_Lp, 0, none⟩) 1 1 : Value).ownBlock with
                    | none => exact .inl rfl
                    | some k => exact .inr (fun e => BX_A_p.out k hv (Option.some.inj e))))
                  clear O_p
                  have T_65 := Lib.hid (T_56.out.grown q64 (by intro e; have e2 : R_T = R_A := Option.some.inj e; have h1 := HR_T.out; have h2 := HR_A.out; omega))
                  clear T_56
                  have U_65 := Lib.hid (U_56.out.grown q64 (by intro e; have e2 : R_U = R_A := Option.some.inj e; have h1 := HN_U_A.out; omega))
                  clear U_56
                  have X_65 := Lib.hid (X_56.out.grown q64 (by intro e; have e2 : R_X = R_A := Option.some.inj e; have h1 := HN_X_A.out; omega))
                  clear X_56
                  clear A_56
                  clear hW64 p64 q64
                  have c66_T_0 := T_65.out.at 0 (v := .int .i64 t) rfl
                  have c66_T_1 := T_65.out.at 1 (v := .int .i64 z) rfl
                  have c66_T_2 := T_65.out.at 2 (v := .slice a q.length cap) rfl
                  have c66_T_3 := T_65.out.at 3 (v := .int .i64 c) rfl
                  have c66_T_4 := T_65.out.at 4 (v := .int .i64 u) rfl
                  have c66_T_5 := T_65.out.at 5 (v := .slice b h.length caph) rfl
                  have c67_A_0 := X64_A.out.at 0 (v := .int .i64 t) rfl
                  have c67_A_1 := X64_A.out.at 1 (v := .int .i64 z) rfl
                  have c67_A_2 := X64_A.out.at 2 (v := .slice a_y q.length c_y) rfl
                  have c67_A_3 := X64_A.out.at 3 (v := .int .i64 (c + 1)) rfl
                  have c67_A_4 := X64_A.out.at 4 (v := .int .i64 0) rfl
                  have c67_A_5 := X64_A.out.at 5 (v := .slice a_k kp.length c_k) rfl
                  have c68_U_0 := U_65.out.at 0 (v := .int .i64 t) rfl
                  have c68_U_1 := U_65.out.at 1 (v := .int .i64 z) rfl
                  have c68_U_2 := U_65.out.at 2 (v := .slice a_y q.length c_y) rfl
                  have c69_X_0 := X_65.out.at 0 (v := .int .i64 t) rfl
                  have c69_X_1 := X_65.out.at 1 (v := .int .i64 z) rfl
                  have c69_X_2 := X_65.out.at 2 (v := .slice a_y q.length c_y) rfl
                  have c69_X_3 := X_65.out.at 3 (v := .int .i64 (c + 1)) rfl
                  have c69_X_4 := X_65.out.at 4 (v := .int .i64 0) rfl
                  have c69_X_5 := X_65.out.at 5 (v := .slice a_k kp.length c_k) rfl
                  clear c66_T_0 c66_T_1 c66_T_2 c66_T_3 c66_T_4 c66_T_5
                  clear c67_A_0 c67_A_1 c67_A_2 c67_A_3 c67_A_4 c67_A_5
                  clear c68_U_0 c68_U_1 c68_U_2
                  clear c69_X_0 c69_X_1 c69_X_2 c69_X_3 c69_X_4 c69_X_5
                  refine hK.out _ _ ?S6 (fun hHeld6 => ?rest6)
                  case S6 =>
                    (try dsimp only)
                    exact ⟨X_65.out.at 0 (v := .int .i64 t) rfl, X_65.out.at 1 (v := .int .i64 z) rfl, X_65.out.at 2 (v := .slice a_y q.length c_y) rfl, X_65.out.at 3 (v := .int .i64 (c + 1)) rfl, X_65.out.at 4 (v := .int .i64 0) rfl, X_65.out.at 5 (v := .slice a_k kp.length c_k) rfl, U_65.out.at 0 (v := .int .i64 t) rfl, U_65.out.at 1 (v := .int .i64 z) rfl, U_65.out.at 2 (v := .slice a_y q.length c_y) rfl, HB_65.out⟩
                  case rest6 =>
                    clear hK K
                    clear hHeld5
                    (try simp only [Act.put, List.setIfInBounds_toArray, List.set_cons_zero, List.set_cons_succ])
                    (refine wpAnyH_take (i := 5) (oi := { dst := some 3, op := Go.Op.assign (Go.Operand.tmp 31), type := 46, pos := "l11_source.go:105", after := #[{ on := 3, ground := Go.Ground.data }, { on := 4, ground := Go.Ground.chain }, { on := 0, ground := Go.Ground.phase }, { on := 1, ground := Go.Ground.phase }, { on := 2, ground := Go.Ground.phase }, { on := 3, ground := Go.Ground.phase }, { on := 4, ground := Go.Ground.phase }], guard := none }) (v := (.slice (some ⟨R_Lp, 0, none⟩) 1 1)) rfl (by kernel_rfl) (by kernel_rfl) (by kernel_rfl) (fun _ _ _ h => h) (Or.inl ⟨by rfl, ?_⟩) (by assumption) ?_; (focus (intro w' hSw; (try dsimp only at hSw); go_simp; (try with_reducible rfl))); (try simp only [Act.put, List.setIfInBounds_toArray, List.set_cons_zero, List.set_cons_succ]))
                    refine wpAnyH_done (by kernel_rfl) ?_ _
                    clear hHeld6
                    go_wp2_with fail
                    refine bodyPost_ret (results_bx1 rfl isSo _ _ R_A rfl rfl rfl X64_A.out) rfl ⟨.slice a_y q.length c_y, .slice a_k kp.length c_k, .slice (some ⟨R_Lp, 0, none⟩) 1 1, rfl, y_65.out, k_65.out, AP_y_k.out, p_65.out, AP_y_p.out, AP_k_p.out, HB_65.out⟩
              · skip
                have c70_A_0 := A_54.out.at 0 (v := .int .i64 0) rfl
                have c70_A_1 := A_54.out.at 1 (v := .int .i64 0) rfl
                have c70_A_2 := A_54.out.at 2 (v := .slice none 0 0) rfl
                have c70_A_3 := A_54.out.at 3 (v := .int .i64 0) rfl
                have c70_A_4 := A_54.out.at 4 (v := .int .i64 0) rfl
                have c70_A_5 := A_54.out.at 5 (v := .slice none 0 0) rfl
                have fr71_A_0 := A_54.out.free 0
                have fr71_A_1 := A_54.out.free 1
                have fr71_A_2 := A_54.out.free 2
                have fr71_A_3 := A_54.out.free 3
                have fr71_A_4 := A_54.out.free 4
                have fr71_A_5 := A_54.out.free 5
                go_simp
                clear c70_A_0 c70_A_1 c70_A_2 c70_A_3 c70_A_4 c70_A_5
                clear fr71_A_0 fr71_A_1 fr71_A_2 fr71_A_3 fr71_A_4 fr71_A_5
                obtain ⟨p72, q72⟩ := A_54.out.store6 (.int .i64 t) (.int .i64 z) (.slice a_y q.length c_y) (.int .i64 (c + 1)) (.int .i64 0) (.slice a_k kp.length c_k)
                obtain ⟨W72, hW72⟩ : ∃ W72, W72 = ((((((W53.setCell ⟨R_A, 0, none⟩ (.int .i64 t)).setCell ⟨R_A, 1, none⟩ (.int .i64 z)).setCell ⟨R_A, 2, none⟩ (.slice a_y q.length c_y)).setCell ⟨R_A, 3, none⟩ (.int .i64 (c + 1))).setCell ⟨R_A, 4, none⟩ (.int .i64 0)).setCell ⟨R_A, 5, none⟩ (.slice a_k kp.length c_k)) := ⟨_, rfl⟩
                rw [← hW72] at p72 q72 ⊢
                have X72_A : Hid (Bx W72 R_A #[.int .i64 t, .int .i64 z, .slice a_y q.length c_y, .int .i64 (c + 1), .int .i64 0, .slice a_k kp.length c_k] 29) := Lib.hid p72
                have HB_73 := Lib.hid (HB_54.out.grown q72 HB_54.out.size (fun k hk => by have e2 : R_A = k := Option.some.inj hk; have := HR_A.out; omega))
                have y_73 := Lib.hid (y_54.out.kept q72 (by
                  cases hv : (.slice a_y q.length c_y : Value).ownBlock with
                  | none => exact .inl rfl
                  | some k => exact .inr (fun e => BX_A_y.out k hv (Option.some.inj e))))
                clear y_54
                have k_73 := Lib.hid (k_54.out.kept q72 (by
                  cases hv : (.slice a_k kp.length c_k : Value).ownBlock with
                  | none => exact .inl rfl
                  | some k => exact .inr (fun e => BX_A_k.out k hv (Option.some.inj e))))
                clear k_54
                have T_73 := Lib.hid (T_54.out.grown q72 (by intro e; have e2 : R_T = R_A := Option.some.inj e; have h1 := HR_T.out; have h2 := HR_A.out; omega))
                clear T_54
                have U_73 := Lib.hid (U_54.out.grown q72 (by intro e; have e2 : R_U = R_A := Option.some.inj e; have h1 := HN_U_A.out; omega))
                clear U_54
                have X_73 := Lib.hid (X_54.out.grown q72 (by intro e; have e2 : R_X = R_A := Option.some.inj e; have h1 := HN_X_A.out; omega))
                clear X_54
                clear A_54
                clear hW72 p72 q72
                have c74_T_0 := T_73.out.at 0 (v := .int .i64 t) rfl
                have c74_T_1 := T_73.out.at 1 (v := .int .i64 z) rfl
                have c74_T_2 := T_73.out.at 2 (v := .slice a q.length cap) rfl
                have c74_T_3 := T_73.out.at 3 (v := .int .i64 c) rfl
                have c74_T_4 := T_73.out.at 4 (v := .int .i64 u) rfl
                have c74_T_5 := T_73.out.at 5 (v := .slice b h.length caph) rfl
                have c75_A_0 := X72_A.out.at 0 (v := .int .i64 t) rfl
                have c75_A_1 := X72_A.out.at 1 (v := .int .i64 z) rfl
                have c75_A_2 := X72_A.out.at 2 (v := .slice a_y q.length c_y) rfl
                have c75_A_3 := X72_A.out.at 3 (v := .int .i64 (c + 1)) rfl
                have c75_A_4 := X72_A.out.at 4 (v := .int .i64 0) rfl
                have c75_A_5 := X72_A.out.at 5 (v := .slice a_k kp.length c_k) rfl
                have c76_U_0 := U_73.out.at 0 (v := .int .i64 t) rfl
                have c76_U_1 := U_73.out.at 1 (v := .int .i64 z) rfl
                have c76_U_2 := U_73.out.at 2 (v := .slice a_y q.length c_y) rfl
                have c77_X_0 := X_73.out.at 0 (v := .int .i64 t) rfl
                have c77_X_1 := X_73.out.at 1 (v := .int .i64 z) rfl
                have c77_X_2 := X_73.out.at 2 (v := .slice a_y q.length c_y) rfl
                have c77_X_3 := X_73.out.at 3 (v := .int .i64 (c + 1)) rfl
                have c77_X_4 := X_73.out.at 4 (v := .int .i64 0) rfl
                have c77_X_5 := X_73.out.at 5 (v := .slice a_k kp.length c_k) rfl
                clear c74_T_0 c74_T_1 c74_T_2 c74_T_3 c74_T_4 c74_T_5
                clear c75_A_0 c75_A_1 c75_A_2 c75_A_3 c75_A_4 c75_A_5
                clear c76_U_0 c76_U_1 c76_U_2
                clear c77_X_0 c77_X_1 c77_X_2 c77_X_3 c77_X_4 c77_X_5
                refine hK.out _ _ ?S7 (fun hHeld7 => ?rest7)
                case S7 =>
                  (try dsimp only)
                  exact ⟨X_73.out.at 0 (v := .int .i64 t) rfl, X_73.out.at 1 (v := .int .i64 z) rfl, X_73.out.at 2 (v := .slice a_y q.length c_y) rfl, X_73.out.at 3 (v := .int .i64 (c + 1)) rfl, X_73.out.at 4 (v := .int .i64 0) rfl, X_73.out.at 5 (v := .slice a_k kp.length c_k) rfl, U_73.out.at 0 (v := .int .i64 t) rfl, U_73.out.at 1 (v := .int .i64 z) rfl, U_73.out.at 2 (v := .slice a_y q.length c_y) rfl, HB_73.out⟩
                case rest7 =>
                  clear hK K
                  clear hHeld4
                  (try simp only [Act.put, List.setIfInBounds_toArray, List.set_cons_zero, List.set_cons_succ])
                  refine wpAnyH_ready (rs := [3]) (by kernel_rfl) (by simp) ?_
                  refine AllReadyH.cons rfl (fun K hK => ?_) AllReadyH.nil
                  go_simp
                  obtain ⟨W78, hW78⟩ : ∃ W78, W78 = W72.alloc (.cells #[.int .i64 5, .int .i64 t, .int .i64 t, .int .i64 le, .string ⟨#[]⟩] 64) := ⟨_, rfl⟩
                  have l78 : Below W72.heap.size W72 W78 := by rw [hW78]; exact (Below.refl _ _).alloc (Nat.le_refl _) _
                  have X78_Lp : Hid (Bx W78 W72.heap.size #[.int .i64 5, .int .i64 t, .int .i64 t, .int .i64 le, .string ⟨#[]⟩] 64) := Lib.hid (by rw [hW78]; exact Bx.new _ _ _)
                  rw [← hW78]
                  clear hW78
                  have BX_Lp_y : Hid (∀ k, (.slice a_y q.length c_y : Value).ownBlock = some k → k ≠ W72.heap.size) := Lib.hid (fun k h1 h2 => absurd (y_73.out.lt k h1).2 (by omega))
                  have BX_Lp_k : Hid (∀ k, (.slice a_k kp.length c_k : Value).ownBlock = some k → k ≠ W72.heap.size) := Lib.hid (fun k h1 h2 => absurd (k_73.out.lt k h1).2 (by omega))
                  have HG_Lp : Hid (w.heap.size ≤ W72.heap.size) := Lib.hid HB_73.out.size
                  have HN_Lp_T : Hid (R_T < W72.heap.size) := Lib.hid T_73.out.lt
                  have HN_Lp_A : Hid (R_A < W72.heap.size) := Lib.hid X72_A.out.lt
                  have HN_Lp_U : Hid (R_U < W72.heap.size) := Lib.hid U_73.out.lt
                  have HN_Lp_X : Hid (R_X < W72.heap.size) := Lib.hid X_73.out.lt
                  obtain ⟨R_Lp, hR_Lp⟩ : ∃ X, X = W72.heap.size := ⟨_, rfl⟩
                  rw [← hR_Lp] at X78_Lp HG_Lp BX_Lp_y BX_Lp_k HN_Lp_T HN_Lp_A HN_Lp_U HN_Lp_X ⊢
                  clear hR_Lp
                  have HB_79 := Lib.hid (HB_73.out.trans (l78.mono HB_73.out.size))
                  have y_79 := Lib.hid (ownz_below y_73.out l78 (Nat.le_refl _))
                  clear y_73
                  have k_79 := Lib.hid (ownz_below k_73.out l78 (Nat.le_refl _))
                  clear k_73
                  have T_79 := Lib.hid (T_73.out.below l78 T_73.out.lt)
                  clear T_73
                  have A_79 := Lib.hid (X72_A.out.below l78 X72_A.out.lt)
                  clear X72_A
                  have U_79 := Lib.hid (U_73.out.below l78 U_73.out.lt)
                  clear U_73
                  have X_79 := Lib.hid (X_73.out.below l78 X_73.out.lt)
                  clear X_73
                  clear l78
                  have c80_T_0 := T_79.out.at 0 (v := .int .i64 t) rfl
                  have c80_T_1 := T_79.out.at 1 (v := .int .i64 z) rfl
                  have c80_T_2 := T_79.out.at 2 (v := .slice a q.length cap) rfl
                  have c80_T_3 := T_79.out.at 3 (v := .int .i64 c) rfl
                  have c80_T_4 := T_79.out.at 4 (v := .int .i64 u) rfl
                  have c80_T_5 := T_79.out.at 5 (v := .slice b h.length caph) rfl
                  have c81_A_0 := A_79.out.at 0 (v := .int .i64 t) rfl
                  have c81_A_1 := A_79.out.at 1 (v := .int .i64 z) rfl
                  have c81_A_2 := A_79.out.at 2 (v := .slice a_y q.length c_y) rfl
                  have c81_A_3 := A_79.out.at 3 (v := .int .i64 (c + 1)) rfl
                  have c81_A_4 := A_79.out.at 4 (v := .int .i64 0) rfl
                  have c81_A_5 := A_79.out.at 5 (v := .slice a_k kp.length c_k) rfl
                  have c82_U_0 := U_79.out.at 0 (v := .int .i64 t) rfl
                  have c82_U_1 := U_79.out.at 1 (v := .int .i64 z) rfl
                  have c82_U_2 := U_79.out.at 2 (v := .slice a_y q.length c_y) rfl
                  have c83_X_0 := X_79.out.at 0 (v := .int .i64 t) rfl
                  have c83_X_1 := X_79.out.at 1 (v := .int .i64 z) rfl
                  have c83_X_2 := X_79.out.at 2 (v := .slice a_y q.length c_y) rfl
                  have c83_X_3 := X_79.out.at 3 (v := .int .i64 (c + 1)) rfl
                  have c83_X_4 := X_79.out.at 4 (v := .int .i64 0) rfl
                  have c83_X_5 := X_79.out.at 5 (v := .slice a_k kp.length c_k) rfl
                  have c84_Lp_0 := X78_Lp.out.at 0 (v := .int .i64 5) rfl
                  have c84_Lp_1 := X78_Lp.out.at 1 (v := .int .i64 t) rfl
                  have c84_Lp_2 := X78_Lp.out.at 2 (v := .int .i64 t) rfl
                  have c84_Lp_3 := X78_Lp.out.at 3 (v := .int .i64 le) rfl
                  have c84_Lp_4 := X78_Lp.out.at 4 (v := .string ⟨#[]⟩) rfl
                  have AP_y_p : Hid (∀ k, (.slice a_y q.length c_y : Value).ownBlock = some k → (.slice (some ⟨R_Lp, 0, none⟩) 1 1 : Value).ownBlock ≠ some k) := Lib.hid (fun k h1 h2 => BX_Lp_y.out k h1 (Option.some.inj h2).symm)
                  have AP_k_p : Hid (∀ k, (.slice a_k kp.length c_k : Value).ownBlock = some k → (.slice (some ⟨R_Lp, 0, none⟩) 1 1 : Value).ownBlock ≠ some k) := Lib.hid (fun k h1 h2 => BX_Lp_k.out k h1 (Option.some.inj h2).symm)
                  have O_p := Lib.hid (ownPq_one (p := ⟨5, t, t, le, ⟨#[]⟩⟩) X78_Lp.out HG_Lp.out)
                  have BX_T_p : Hid (∀ k, (.slice (some ⟨R_Lp, 0, none⟩) 1 1 : Value).ownBlock = some k → k ≠ R_T) := Lib.hid (fun k h1 h2 => by have e1 : R_Lp = k := Option.some.inj h1; have e2 := HN_Lp_T.out; omega)
                  have BX_A_p : Hid (∀ k, (.slice (some ⟨R_Lp, 0, none⟩) 1 1 : Value).ownBlock = some k → k ≠ R_A) := Lib.hid (fun k h1 h2 => by have e1 : R_Lp = k := Option.some.inj h1; have e2 := HN_Lp_A.out; omega)
                  have BX_U_p : Hid (∀ k, (.slice (some ⟨R_Lp, 0, none⟩) 1 1 : Value).ownBlock = some k → k ≠ R_U) := Lib.hid (fun k h1 h2 => by have e1 : R_Lp = k := Option.some.inj h1; have e2 := HN_Lp_U.out; omega)
                  have BX_X_p : Hid (∀ k, (.slice (some ⟨R_Lp, 0, none⟩) 1 1 : Value).ownBlock = some k → k ≠ R_X) := Lib.hid (fun k h1 h2 => by have e1 : R_Lp = k := Option.some.inj h1; have e2 := HN_Lp_X.out; omega)
                  clear c84_Lp_0 c84_Lp_1 c84_Lp_2 c84_Lp_3 c84_Lp_4
                  clear X78_Lp
                  clear c80_T_0 c80_T_1 c80_T_2 c80_T_3 c80_T_4 c80_T_5
                  clear c81_A_0 c81_A_1 c81_A_2 c81_A_3 c81_A_4 c81_A_5
                  clear c82_U_0 c82_U_1 c82_U_2
                  clear c83_X_0 c83_X_1 c83_X_2 c83_X_3 c83_X_4 c83_X_5
                  refine hK.out _ _ ?S8 (fun hHeld8 => ?rest8)
                  case S8 =>
                    (try dsimp only)
                    exact ⟨X_79.out.at 0 (v := .int .i64 t) rfl, X_79.out.at 1 (v := .int .i64 z) rfl, X_79.out.at 2 (v := .slice a_y q.length c_y) rfl, X_79.out.at 3 (v := .int .i64 (c + 1)) rfl, X_79.out.at 4 (v := .int .i64 0) rfl, X_79.out.at 5 (v := .slice a_k kp.length c_k) rfl, U_79.out.at 0 (v := .int .i64 t) rfl, U_79.out.at 1 (v := .int .i64 z) rfl, U_79.out.at 2 (v := .slice a_y q.length c_y) rfl, HB_79.out⟩
                  case rest8 =>
                    clear hK K
                    clear hHeld7
                    (try simp only [Act.put, List.setIfInBounds_toArray, List.set_cons_zero, List.set_cons_succ])
                    (refine wpAnyH_take (i := 5) (oi := { dst := some 3, op := Go.Op.assign (Go.Operand.tmp 31), type := 46, pos := "l11_source.go:105", after := #[{ on := 3, ground := Go.Ground.data }, { on := 4, ground := Go.Ground.chain }, { on := 0, ground := Go.Ground.phase }, { on := 1, ground := Go.Ground.phase }, { on := 2, ground := Go.Ground.phase }, { on := 3, ground := Go.Ground.phase }, { on := 4, ground := Go.Ground.phase }], guard := none }) (v := (.slice (some ⟨R_Lp, 0, none⟩) 1 1)) rfl (by kernel_rfl) (by kernel_rfl) (by kernel_rfl) (fun _ _ _ h => h) (Or.inl ⟨by rfl, ?_⟩) (by assumption) ?_; (focus (intro w' hSw; (try dsimp only at hSw); go_simp; (try with_reducible rfl))); (try simp only [Act.put, List.setIfInBounds_toArray, List.set_cons_zero, List.set_cons_succ]))
                    refine wpAnyH_done (by kernel_rfl) ?_ _
                    clear hHeld8
                    go_wp2_with fail
                    refine bodyPost_ret (results_bx1 rfl isSo _ _ R_A rfl rfl rfl A_79.out) rfl ⟨.slice a_y q.length c_y, .slice a_k kp.length c_k, .slice (some ⟨R_Lp, 0, none⟩) 1 1, rfl, y_79.out, k_79.out, AP_y_k.out, O_p.out, AP_y_p.out, AP_k_p.out, HB_79.out⟩
    · skip
      go_simp
      obtain ⟨W85, hW85⟩ : ∃ W85, W85 = W12.alloc (.cells #[.int .i64 0, .int .i64 0, .slice none 0 0, .int .i64 0, .int .i64 0, .slice none 0 0] 29) := ⟨_, rfl⟩
      have l85 : Below W12.heap.size W12 W85 := by rw [hW85]; exact (Below.refl _ _).alloc (Nat.le_refl _) _
      have X85_X : Hid (Bx W85 W12.heap.size #[.int .i64 0, .int .i64 0, .slice none 0 0, .int .i64 0, .int .i64 0, .slice none 0 0] 29) := Lib.hid (by rw [hW85]; exact Bx.new _ _ _)
      rw [← hW85]
      clear hW85
      have BX_X_y : Hid (∀ k, (.slice a_y q.length c_y : Value).ownBlock = some k → k ≠ W12.heap.size) := Lib.hid (fun k h1 h2 => absurd (y_13.out.lt k h1).2 (by omega))
      have HG_X : Hid (w.heap.size ≤ W12.heap.size) := Lib.hid HB_13.out.size
      have HN_X_T : Hid (R_T < W12.heap.size) := Lib.hid T_13.out.lt
      have HN_X_A : Hid (R_A < W12.heap.size) := Lib.hid A_13.out.lt
      have HN_X_U : Hid (R_U < W12.heap.size) := Lib.hid U_13.out.lt
      obtain ⟨R_X, hR_X⟩ : ∃ X, X = W12.heap.size := ⟨_, rfl⟩
      rw [← hR_X] at X85_X HG_X BX_X_y HN_X_T HN_X_A HN_X_U ⊢
      clear hR_X
      have HB_86 := Lib.hid (HB_13.out.trans (l85.mono HB_13.out.size))
      have y_86 := Lib.hid (ownz_below y_13.out l85 (Nat.le_refl _))
      clear y_13
      have T_86 := Lib.hid (T_13.out.below l85 T_13.out.lt)
      clear T_13
      have A_86 := Lib.hid (A_13.out.below l85 A_13.out.lt)
      clear A_13
      have U_86 := Lib.hid (U_13.out.below l85 U_13.out.lt)
      clear U_13
      clear l85
      have c87_T_0 := T_86.out.at 0 (v := .int .i64 t) rfl
      have c87_T_1 := T_86.out.at 1 (v := .int .i64 z) rfl
      have c87_T_2 := T_86.out.at 2 (v := .slice a q.length cap) rfl
      have c87_T_3 := T_86.out.at 3 (v := .int .i64 c) rfl
      have c87_T_4 := T_86.out.at 4 (v := .int .i64 u) rfl
      have c87_T_5 := T_86.out.at 5 (v := .slice b h.length caph) rfl
      have c88_A_0 := A_86.out.at 0 (v := .int .i64 0) rfl
      have c88_A_1 := A_86.out.at 1 (v := .int .i64 0) rfl
      have c88_A_2 := A_86.out.at 2 (v := .slice none 0 0) rfl
      have c88_A_3 := A_86.out.at 3 (v := .int .i64 0) rfl
      have c88_A_4 := A_86.out.at 4 (v := .int .i64 0) rfl
      have c88_A_5 := A_86.out.at 5 (v := .slice none 0 0) rfl
      have c89_U_0 := U_86.out.at 0 (v := .int .i64 t) rfl
      have c89_U_1 := U_86.out.at 1 (v := .int .i64 z) rfl
      have c89_U_2 := U_86.out.at 2 (v := .slice a_y q.length c_y) rfl
      have c90_X_0 := X85_X.out.at 0 (v := .int .i64 0) rfl
      have c90_X_1 := X85_X.out.at 1 (v := .int .i64 0) rfl
      have c90_X_2 := X85_X.out.at 2 (v := .slice none 0 0) rfl
      have c90_X_3 := X85_X.out.at 3 (v := .int .i64 0) rfl
      have c90_X_4 := X85_X.out.at 4 (v := .int .i64 0) rfl
      have c90_X_5 := X85_X.out.at 5 (v := .slice none 0 0) rfl
      clear c87_T_0 c87_T_1 c87_T_2 c87_T_3 c87_T_4 c87_T_5
      clear c88_A_0 c88_A_1 c88_A_2 c88_A_3 c88_A_4 c88_A_5
      clear c89_U_0 c89_U_1 c89_U_2
      clear c90_X_0 c90_X_1 c90_X_2 c90_X_3 c90_X_4 c90_X_5
      refine hK.out _ _ ?S9 (fun hHeld9 => ?rest9)
      case S9 =>
        (try dsimp only)
        exact ⟨T_86.out.at 0 (v := .int .i64 t) rfl, T_86.out.at 1 (v := .int .i64 z) rfl, T_86.out.at 2 (v := .slice a q.length cap) rfl, T_86.out.at 3 (v := .int .i64 c) rfl, T_86.out.at 4 (v := .int .i64 u) rfl, T_86.out.at 5 (v := .slice b h.length caph) rfl, U_86.out.at 0 (v := .int .i64 t) rfl, U_86.out.at 1 (v := .int .i64 z) rfl, U_86.out.at 2 (v := .slice a_y q.length c_y) rfl, HB_86.out⟩
      case rest9 =>
        clear hK K
        clear hHeld
        (try simp only [Act.put, List.setIfInBounds_toArray, List.set_cons_zero, List.set_cons_succ])
        refine wpAnyH_ready (rs := [13]) (by kernel_rfl) (by simp) ?_
        refine AllReadyH.cons rfl (fun K hK => ?_) AllReadyH.nil
        have c91_T_0 := T_86.out.at 0 (v := .int .i64 t) rfl
        have c91_T_1 := T_86.out.at 1 (v := .int .i64 z) rfl
        have c91_T_2 := T_86.out.at 2 (v := .slice a q.length cap) rfl
        have c91_T_3 := T_86.out.at 3 (v := .int .i64 c) rfl
        have c91_T_4 := T_86.out.at 4 (v := .int .i64 u) rfl
        have c91_T_5 := T_86.out.at 5 (v := .slice b h.length caph) rfl
        have c92_A_0 := A_86.out.at 0 (v := .int .i64 0) rfl
        have c92_A_1 := A_86.out.at 1 (v := .int .i64 0) rfl
        have c92_A_2 := A_86.out.at 2 (v := .slice none 0 0) rfl
        have c92_A_3 := A_86.out.at 3 (v := .int .i64 0) rfl
        have c92_A_4 := A_86.out.at 4 (v := .int .i64 0) rfl
        have c92_A_5 := A_86.out.at 5 (v := .slice none 0 0) rfl
        have c93_U_0 := U_86.out.at 0 (v := .int .i64 t) rfl
        have c93_U_1 := U_86.out.at 1 (v := .int .i64 z) rfl
        have c93_U_2 := U_86.out.at 2 (v := .slice a_y q.length c_y) rfl
        have c94_X_0 := X85_X.out.at 0 (v := .int .i64 0) rfl
        have c94_X_1 := X85_X.out.at 1 (v := .int .i64 0) rfl
        have c94_X_2 := X85_X.out.at 2 (v := .slice none 0 0) rfl
        have c94_X_3 := X85_X.out.at 3 (v := .int .i64 0) rfl
        have c94_X_4 := X85_X.out.at 4 (v := .int .i64 0) rfl
        have c94_X_5 := X85_X.out.at 5 (v := .slice none 0 0) rfl
        go_simp
        go_at_call 99
        refine (HHo.out _ _ (rowz_own y_86.out) (HH.out.below HB_86.out (Nat.le_refl _))).mono ?_
        rintro e W95 ⟨v_k, rfl, o_k, l95⟩
        obtain ⟨a_k, c_k, rfl, _, _⟩ := ownz_slice o_k
        have AP_y_k : Hid (∀ k, (.slice a_y q.length c_y : Value).ownBlock = some k → (.slice a_k kp.length c_k : Value).ownBlock ≠ some k) := Lib.hid (fun k h1 h2 => absurd (y_86.out.lt k h1).2 (Nat.not_lt.2 (o_k.lt k h2).1))
        have O_k := Lib.hid (ownz_base o_k HB_86.out.size)
        have BX_T_k : Hid (∀ k, (.slice a_k kp.length c_k : Value).ownBlock = some k → k ≠ R_T) := Lib.hid (fun k h1 h2 => absurd T_86.out.lt (Nat.not_lt.2 (by rw [← h2]; exact (o_k.lt k h1).1)))
        have BX_A_k : Hid (∀ k, (.slice a_k kp.length c_k : Value).ownBlock = some k → k ≠ R_A) := Lib.hid (fun k h1 h2 => absurd A_86.out.lt (Nat.not_lt.2 (by rw [← h2]; exact (o_k.lt k h1).1)))
        have BX_U_k : Hid (∀ k, (.slice a_k kp.length c_k : Value).ownBlock = some k → k ≠ R_U) := Lib.hid (fun k h1 h2 => absurd U_86.out.lt (Nat.not_lt.2 (by rw [← h2]; exact (o_k.lt k h1).1)))
        have BX_X_k : Hid (∀ k, (.slice a_k kp.length c_k : Value).ownBlock = some k → k ≠ R_X) := Lib.hid (fun k h1 h2 => absurd X85_X.out.lt (Nat.not_lt.2 (by rw [← h2]; exact (o_k.lt k h1).1)))
        clear o_k
        clear c91_T_0 c91_T_1 c91_T_2 c91_T_3 c91_T_4 c91_T_5
        clear c92_A_0 c92_A_1 c92_A_2 c92_A_3 c92_A_4 c92_A_5
        clear c93_U_0 c93_U_1 c93_U_2
        clear c94_X_0 c94_X_1 c94_X_2 c94_X_3 c94_X_4 c94_X_5
        have HB_96 := Lib.hid (HB_86.out.trans (l95.mono HB_86.out.size))
        have y_96 := Lib.hid (ownz_below y_86.out l95 (Nat.le_refl _))
        clear y_86
        have T_96 := Lib.hid (T_86.out.below l95 T_86.out.lt)
        clear T_86
        have A_96 := Lib.hid (A_86.out.below l95 A_86.out.lt)
        clear A_86
        have U_96 := Lib.hid (U_86.out.below l95 U_86.out.lt)
        clear U_86
        have X_96 := Lib.hid (X85_X.out.below l95 X85_X.out.lt)
        clear X85_X
        clear l95
        have c97_T_0 := T_96.out.at 0 (v := .int .i64 t) rfl
        have c97_T_1 := T_96.out.at 1 (v := .int .i64 z) rfl
        have c97_T_2 := T_96.out.at 2 (v := .slice a q.length cap) rfl
        have c97_T_3 := T_96.out.at 3 (v := .int .i64 c) rfl
        have c97_T_4 := T_96.out.at 4 (v := .int .i64 u) rfl
        have c97_T_5 := T_96.out.at 5 (v := .slice b h.length caph) rfl
        have c98_A_0 := A_96.out.at 0 (v := .int .i64 0) rfl
        have c98_A_1 := A_96.out.at 1 (v := .int .i64 0) rfl
        have c98_A_2 := A_96.out.at 2 (v := .slice none 0 0) rfl
        have c98_A_3 := A_96.out.at 3 (v := .int .i64 0) rfl
        have c98_A_4 := A_96.out.at 4 (v := .int .i64 0) rfl
        have c98_A_5 := A_96.out.at 5 (v := .slice none 0 0) rfl
        have c99_U_0 := U_96.out.at 0 (v := .int .i64 t) rfl
        have c99_U_1 := U_96.out.at 1 (v := .int .i64 z) rfl
        have c99_U_2 := U_96.out.at 2 (v := .slice a_y q.length c_y) rfl
        have c100_X_0 := X_96.out.at 0 (v := .int .i64 0) rfl
        have c100_X_1 := X_96.out.at 1 (v := .int .i64 0) rfl
        have c100_X_2 := X_96.out.at 2 (v := .slice none 0 0) rfl
        have c100_X_3 := X_96.out.at 3 (v := .int .i64 0) rfl
        have c100_X_4 := X_96.out.at 4 (v := .int .i64 0) rfl
        have c100_X_5 := X_96.out.at 5 (v := .slice none 0 0) rfl
        clear c97_T_0 c97_T_1 c97_T_2 c97_T_3 c97_T_4 c97_T_5
        clear c98_A_0 c98_A_1 c98_A_2 c98_A_3 c98_A_4 c98_A_5
        clear c99_U_0 c99_U_1 c99_U_2
        clear c100_X_0 c100_X_1 c100_X_2 c100_X_3 c100_X_4 c100_X_5
        refine hK.out _ _ ?S10 (fun hHeld10 => ?rest10)
        case S10 =>
          (try dsimp only)
          exact ⟨T_96.out.at 0 (v := .int .i64 t) rfl, T_96.out.at 1 (v := .int .i64 z) rfl, T_96.out.at 2 (v := .slice a q.length cap) rfl, T_96.out.at 3 (v := .int .i64 c) rfl, T_96.out.at 4 (v := .int .i64 u) rfl, T_96.out.at 5 (v := .slice b h.length caph) rfl, U_96.out.at 0 (v := .int .i64 t) rfl, U_96.out.at 1 (v := .int .i64 z) rfl, U_96.out.at 2 (v := .slice a_y q.length c_y) rfl, HB_96.out⟩
        case rest10 =>
          clear hK K
          clear hHeld9
          (try simp only [Act.put, List.setIfInBounds_toArray, List.set_cons_zero, List.set_cons_succ])
          (refine wpAnyH_take (i := 14) (oi := { dst := some 23, op := Go.Op.build 29 #[(0, Go.Operand.tmp 9), (1, Go.Operand.tmp 12), (2, Go.Operand.tmp 15), (3, Go.Operand.tmp 22)], type := 29, pos := "l11_source.go:102", after := #[{ on := 0, ground := Go.Ground.data }, { on := 3, ground := Go.Ground.data }, { on := 6, ground := Go.Ground.data }, { on := 13, ground := Go.Ground.data }], guard := none }) (v := (.agg #[.int .i64 t, .int .i64 z, .slice a_y q.length c_y, .int .i64 (c + 1), .int .i64 (u + 1), .slice a_k kp.length c_k])) rfl (by kernel_rfl) (by kernel_rfl) (by kernel_rfl) (fun _ _ _ h => h) (Or.inl ⟨by rfl, ?_⟩) (by assumption) ?_; (focus (intro w' hSw; (try dsimp only at hSw); go_simp; (try with_reducible rfl))); (try simp only [Act.put, List.setIfInBounds_toArray, List.set_cons_zero, List.set_cons_succ]))
          refine wpAnyH_ready (rs := [16]) (by kernel_rfl) (by simp) ?_
          refine AllReadyH.cons rfl (fun K hK => ?_) AllReadyH.nil
          have c101_X_0 := X_96.out.at 0 (v := .int .i64 0) rfl
          have c101_X_1 := X_96.out.at 1 (v := .int .i64 0) rfl
          have c101_X_2 := X_96.out.at 2 (v := .slice none 0 0) rfl
          have c101_X_3 := X_96.out.at 3 (v := .int .i64 0) rfl
          have c101_X_4 := X_96.out.at 4 (v := .int .i64 0) rfl
          have c101_X_5 := X_96.out.at 5 (v := .slice none 0 0) rfl
          have fr102_X_0 := X_96.out.free 0
          have fr102_X_1 := X_96.out.free 1
          have fr102_X_2 := X_96.out.free 2
          have fr102_X_3 := X_96.out.free 3
          have fr102_X_4 := X_96.out.free 4
          have fr102_X_5 := X_96.out.free 5
          go_simp
          clear c101_X_0 c101_X_1 c101_X_2 c101_X_3 c101_X_4 c101_X_5
          clear fr102_X_0 fr102_X_1 fr102_X_2 fr102_X_3 fr102_X_4 fr102_X_5
          obtain ⟨p103, q103⟩ := X_96.out.store6 (.int .i64 t) (.int .i64 z) (.slice a_y q.length c_y) (.int .i64 (c + 1)) (.int .i64 (u + 1)) (.slice a_k kp.length c_k)
          obtain ⟨W103, hW103⟩ : ∃ W103, W103 = ((((((W95.setCell ⟨R_X, 0, none⟩ (.int .i64 t)).setCell ⟨R_X, 1, none⟩ (.int .i64 z)).setCell ⟨R_X, 2, none⟩ (.slice a_y q.length c_y)).setCell ⟨R_X, 3, none⟩ (.int .i64 (c + 1))).setCell ⟨R_X, 4, none⟩ (.int .i64 (u + 1))).setCell ⟨R_X, 5, none⟩ (.slice a_k kp.length c_k)) := ⟨_, rfl⟩
          rw [← hW103] at p103 q103 ⊢
          have X103_X : Hid (Bx W103 R_X #[.int .i64 t, .int .i64 z, .slice a_y q.length c_y, .int .i64 (c + 1), .int .i64 (u + 1), .slice a_k kp.length c_k] 29) := Lib.hid p103
          have HB_104 := Lib.hid (HB_96.out.grown q103 HB_96.out.size (fun k hk => by have e2 : R_X = k := Option.some.inj hk; have := HG_X.out; omega))
          have y_104 := Lib.hid (y_96.out.kept q103 (by
            cases hv : (.slice a_y q.length c_y : Value).ownBlock with
            | none => exact .inl rfl
            | some k => exact .inr (fun e => BX_X_y.out k hv (Option.some.inj e))))
          clear y_96
          have k_104 := Lib.hid (O_k.out.kept q103 (by
            cases hv : (.slice a_k kp.length c_k : Value).ownBlock with
            | none => exact .inl rfl
            | some k => exact .inr (fun e => BX_X_k.out k hv (Option.some.inj e))))
          clear O_k
          have T_104 := Lib.hid (T_96.out.grown q103 (by intro e; have e2 : R_T = R_X := Option.some.inj e; have h1 := HN_X_T.out; omega))
          clear T_96
          have A_104 := Lib.hid (A_96.out.grown q103 (by intro e; have e2 : R_A = R_X := Option.some.inj e; have h1 := HN_X_A.out; omega))
          clear A_96
          have U_104 := Lib.hid (U_96.out.grown q103 (by intro e; have e2 : R_U = R_X := Option.some.inj e; have h1 := HN_X_U.out; omega))
          clear U_96
          clear X_96
          clear hW103 p103 q103
          have c105_T_0 := T_104.out.at 0 (v := .int .i64 t) rfl
          have c105_T_1 := T_104.out.at 1 (v := .int .i64 z) rfl
          have c105_T_2 := T_104.out.at 2 (v := .slice a q.length cap) rfl
          have c105_T_3 := T_104.out.at 3 (v := .int .i64 c) rfl
          have c105_T_4 := T_104.out.at 4 (v := .int .i64 u) rfl
          have c105_T_5 := T_104.out.at 5 (v := .slice b h.length caph) rfl
          have c106_A_0 := A_104.out.at 0 (v := .int .i64 0) rfl
          have c106_A_1 := A_104.out.at 1 (v := .int .i64 0) rfl
          have c106_A_2 := A_104.out.at 2 (v := .slice none 0 0) rfl
          have c106_A_3 := A_104.out.at 3 (v := .int .i64 0) rfl
          have c106_A_4 := A_104.out.at 4 (v := .int .i64 0) rfl
          have c106_A_5 := A_104.out.at 5 (v := .slice none 0 0) rfl
          have c107_U_0 := U_104.out.at 0 (v := .int .i64 t) rfl
          have c107_U_1 := U_104.out.at 1 (v := .int .i64 z) rfl
          have c107_U_2 := U_104.out.at 2 (v := .slice a_y q.length c_y) rfl
          have c108_X_0 := X103_X.out.at 0 (v := .int .i64 t) rfl
          have c108_X_1 := X103_X.out.at 1 (v := .int .i64 z) rfl
          have c108_X_2 := X103_X.out.at 2 (v := .slice a_y q.length c_y) rfl
          have c108_X_3 := X103_X.out.at 3 (v := .int .i64 (c + 1)) rfl
          have c108_X_4 := X103_X.out.at 4 (v := .int .i64 (u + 1)) rfl
          have c108_X_5 := X103_X.out.at 5 (v := .slice a_k kp.length c_k) rfl
          clear c105_T_0 c105_T_1 c105_T_2 c105_T_3 c105_T_4 c105_T_5
          clear c106_A_0 c106_A_1 c106_A_2 c106_A_3 c106_A_4 c106_A_5
          clear c107_U_0 c107_U_1 c107_U_2
          clear c108_X_0 c108_X_1 c108_X_2 c108_X_3 c108_X_4 c108_X_5
          refine hK.out _ _ ?S11 (fun hHeld11 => ?rest11)
          case S11 =>
            (try dsimp only)
            exact ⟨T_104.out.at 0 (v := .int .i64 t) rfl, T_104.out.at 1 (v := .int .i64 z) rfl, T_104.out.at 2 (v := .slice a q.length cap) rfl, T_104.out.at 3 (v := .int .i64 c) rfl, T_104.out.at 4 (v := .int .i64 u) rfl, T_104.out.at 5 (v := .slice b h.length caph) rfl, U_104.out.at 0 (v := .int .i64 t) rfl, U_104.out.at 1 (v := .int .i64 z) rfl, U_104.out.at 2 (v := .slice a_y q.length c_y) rfl, HB_104.out⟩
          case rest11 =>
            clear hK K
            clear hHeld10
            (try simp only [Act.put, List.setIfInBounds_toArray, List.set_cons_zero, List.set_cons_succ])
            refine wpAnyH_done (by kernel_rfl) ?_ _
            clear hHeld11
            have c109_T_0 := T_104.out.at 0 (v := .int .i64 t) rfl
            have c109_T_1 := T_104.out.at 1 (v := .int .i64 z) rfl
            have c109_T_2 := T_104.out.at 2 (v := .slice a q.length cap) rfl
            have c109_T_3 := T_104.out.at 3 (v := .int .i64 c) rfl
            have c109_T_4 := T_104.out.at 4 (v := .int .i64 u) rfl
            have c109_T_5 := T_104.out.at 5 (v := .slice b h.length caph) rfl
            have c110_A_0 := A_104.out.at 0 (v := .int .i64 0) rfl
            have c110_A_1 := A_104.out.at 1 (v := .int .i64 0) rfl
            have c110_A_2 := A_104.out.at 2 (v := .slice none 0 0) rfl
            have c110_A_3 := A_104.out.at 3 (v := .int .i64 0) rfl
            have c110_A_4 := A_104.out.at 4 (v := .int .i64 0) rfl
            have c110_A_5 := A_104.out.at 5 (v := .slice none 0 0) rfl
            have c111_U_0 := U_104.out.at 0 (v := .int .i64 t) rfl
            have c111_U_1 := U_104.out.at 1 (v := .int .i64 z) rfl
            have c111_U_2 := U_104.out.at 2 (v := .slice a_y q.length c_y) rfl
            have c112_X_0 := X103_X.out.at 0 (v := .int .i64 t) rfl
            have c112_X_1 := X103_X.out.at 1 (v := .int .i64 z) rfl
            have c112_X_2 := X103_X.out.at 2 (v := .slice a_y q.length c_y) rfl
            have c112_X_3 := X103_X.out.at 3 (v := .int .i64 (c + 1)) rfl
            have c112_X_4 := X103_X.out.at 4 (v := .int .i64 (u + 1)) rfl
            have c112_X_5 := X103_X.out.at 5 (v := .slice a_k kp.length c_k) rfl
            have fr113_X_0 := X103_X.out.free 0
            have fr113_X_1 := X103_X.out.free 1
            have fr113_X_2 := X103_X.out.free 2
            have fr113_X_3 := X103_X.out.free 3
            have fr113_X_4 := X103_X.out.free 4
            have fr113_X_5 := X103_X.out.free 5
            go_upto_region 5 with fail
            clear c109_T_0 c109_T_1 c109_T_2 c109_T_3 c109_T_4 c109_T_5
            clear c110_A_0 c110_A_1 c110_A_2 c110_A_3 c110_A_4 c110_A_5
            clear c111_U_0 c111_U_1 c111_U_2
            clear c112_X_0 c112_X_1 c112_X_2 c112_X_3 c112_X_4 c112_X_5
            clear fr113_X_0 fr113_X_1 fr113_X_2 fr113_X_3 fr113_X_4 fr113_X_5
            obtain ⟨p114, q114⟩ := X103_X.out.set 4 (.int .i64 0)
            obtain ⟨W114, hW114⟩ : ∃ W114, W114 = (W103.setCell ⟨R_X, 4, none⟩ (.int .i64 0)) := ⟨_, rfl⟩
            rw [← hW114] at p114 q114 ⊢
            have X114_X : Hid (Bx W114 R_X #[.int .i64 t, .int .i64 z, .slice a_y q.length c_y, .int .i64 (c + 1), .int .i64 0, .slice a_k kp.length c_k] 29) := Lib.hid p114
            have HB_115 := Lib.hid (HB_104.out.grown q114 HB_104.out.size (fun k hk => by have e2 : R_X = k := Option.some.inj hk; have := HG_X.out; omega))
            have y_115 := Lib.hid (y_104.out.kept q114 (by
              cases hv : (.slice a_y q.length c_y : Value).ownBlock with
              | none => exact .inl rfl
              | some k => exact .inr (fun e => BX_X_y.out k hv (Option.some.inj e))))
            clear y_104
            have k_115 := Lib.hid (k_104.out.kept q114 (by
              cases hv : (.slice a_k kp.length c_k : Value).ownBlock with
              | none => exact .inl rfl
              | some k => exact .inr (fun e => BX_X_k.out k hv (Option.some.inj e))))
            clear k_104
            have T_115 := Lib.hid (T_104.out.grown q114 (by intro e; have e2 : R_T = R_X := Option.some.inj e; have h1 := HN_X_T.out; omega))
            clear T_104
            have A_115 := Lib.hid (A_104.out.grown q114 (by intro e; have e2 : R_A = R_X := Option.some.inj e; have h1 := HN_X_A.out; omega))
            clear A_104
            have U_115 := Lib.hid (U_104.out.grown q114 (by intro e; have e2 : R_U = R_X := Option.some.inj e; have h1 := HN_X_U.out; omega))
            clear U_104
            clear X103_X
            clear hW114 p114 q114
            have c116_T_0 := T_115.out.at 0 (v := .int .i64 t) rfl
            have c116_T_1 := T_115.out.at 1 (v := .int .i64 z) rfl
            have c116_T_2 := T_115.out.at 2 (v := .slice a q.length cap) rfl
            have c116_T_3 := T_115.out.at 3 (v := .int .i64 c) rfl
            have c116_T_4 := T_115.out.at 4 (v := .int .i64 u) rfl
            have c116_T_5 := T_115.out.at 5 (v := .slice b h.length caph) rfl
            have c117_A_0 := A_115.out.at 0 (v := .int .i64 0) rfl
            have c117_A_1 := A_115.out.at 1 (v := .int .i64 0) rfl
            have c117_A_2 := A_115.out.at 2 (v := .slice none 0 0) rfl
            have c117_A_3 := A_115.out.at 3 (v := .int .i64 0) rfl
            have c117_A_4 := A_115.out.at 4 (v := .int .i64 0) rfl
            have c117_A_5 := A_115.out.at 5 (v := .slice none 0 0) rfl
            have c118_U_0 := U_115.out.at 0 (v := .int .i64 t) rfl
            have c118_U_1 := U_115.out.at 1 (v := .int .i64 z) rfl
            have c118_U_2 := U_115.out.at 2 (v := .slice a_y q.length c_y) rfl
            have c119_X_0 := X114_X.out.at 0 (v := .int .i64 t) rfl
            have c119_X_1 := X114_X.out.at 1 (v := .int .i64 z) rfl
            have c119_X_2 := X114_X.out.at 2 (v := .slice a_y q.length c_y) rfl
            have c119_X_3 := X114_X.out.at 3 (v := .int .i64 (c + 1)) rfl
            have c119_X_4 := X114_X.out.at 4 (v := .int .i64 0) rfl
            have c119_X_5 := X114_X.out.at 5 (v := .slice a_k kp.length c_k) rfl
            clear c116_T_0 c116_T_1 c116_T_2 c116_T_3 c116_T_4 c116_T_5
            clear c117_A_0 c117_A_1 c117_A_2 c117_A_3 c117_A_4 c117_A_5
            clear c118_U_0 c118_U_1 c118_U_2
            clear c119_X_0 c119_X_1 c119_X_2 c119_X_3 c119_X_4 c119_X_5
            have l120 : Below W114.heap.size W114 W114.drew := Below.drew (Below.refl _ _)
            refine wp_region_held_drew (S := (fun w' => w'.cell? ⟨R_X, 0, none⟩ = some (.int .i64 t) ∧ w'.cell? ⟨R_X, 1, none⟩ = some (.int .i64 z) ∧ w'.cell? ⟨R_X, 2, none⟩ = some (.slice a_y q.length c_y) ∧ w'.cell? ⟨R_X, 3, none⟩ = some (.int .i64 (c + 1)) ∧ w'.cell? ⟨R_X, 4, none⟩ = some (.int .i64 0) ∧ w'.cell? ⟨R_X, 5, none⟩ = some (.slice a_k kp.length c_k) ∧ w'.cell? ⟨R_U, 0, none⟩ = some (.int .i64 t) ∧ w'.cell? ⟨R_U, 1, none⟩ = some (.int .i64 z) ∧ w'.cell? ⟨R_U, 2, none⟩ = some (.slice a_y q.length c_y) ∧ Below w.heap.size w w')) (by kernel_rfl) ?_ (fun hHeld => ?_)
            · exact ⟨X114_X.out.at 0 (v := .int .i64 t) rfl, X114_X.out.at 1 (v := .int .i64 z) rfl, X114_X.out.at 2 (v := .slice a_y q.length c_y) rfl, X114_X.out.at 3 (v := .int .i64 (c + 1)) rfl, X114_X.out.at 4 (v := .int .i64 0) rfl, X114_X.out.at 5 (v := .slice a_k kp.length c_k) rfl, U_115.out.at 0 (v := .int .i64 t) rfl, U_115.out.at 1 (v := .int .i64 z) rfl, U_115.out.at 2 (v := .slice a_y q.length c_y) rfl, Below.drew HB_115.out⟩
            obtain ⟨W120, hW120⟩ : ∃ W120, W120 = W114.drew := ⟨_, rfl⟩
            rw [← hW120] at hHeld l120 ⊢
            clear hW120
            have HB_121 := Lib.hid (HB_115.out.trans (l120.mono HB_115.out.size))
            have y_121 := Lib.hid (ownz_below y_115.out l120 (Nat.le_refl _))
            clear y_115
            have k_121 := Lib.hid (ownz_below k_115.out l120 (Nat.le_refl _))
            clear k_115
            have T_121 := Lib.hid (T_115.out.below l120 T_115.out.lt)
            clear T_115
            have A_121 := Lib.hid (A_115.out.below l120 A_115.out.lt)
            clear A_115
            have U_121 := Lib.hid (U_115.out.below l120 U_115.out.lt)
            clear U_115
            have X_121 := Lib.hid (X114_X.out.below l120 X114_X.out.lt)
            clear X114_X
            clear l120
            (refine wpAnyH_take (i := 0) (oi := { dst := some 28, op := Go.Op.load 29 (Go.Operand.tmp 5), type := 29, pos := "l11_source.go:105", after := #[], guard := none }) (v := (.agg #[.int .i64 t, .int .i64 z, .slice a_y q.length c_y, .int .i64 (c + 1), .int .i64 0, .slice a_k kp.length c_k])) rfl (by kernel_rfl) (by kernel_rfl) (by kernel_rfl) (fun _ _ _ h => h) (Or.inl ⟨by rfl, ?_⟩) (by assumption) ?_; (focus (intro w' hSw; (try dsimp only at hSw); go_simp; (try with_reducible rfl))); (try simp only [Act.put, List.setIfInBounds_toArray, List.set_cons_zero, List.set_cons_succ]))
            (refine wpAnyH_take (i := 1) (oi := { dst := some 29, op := Go.Op.load 26 (Go.Operand.tmp 4), type := 26, pos := "l11_source.go:105", after := #[], guard := none }) (v := (.agg #[.int .i64 t, .int .i64 z, .slice a_y q.length c_y])) rfl (by kernel_rfl) (by kernel_rfl) (by kernel_rfl) (fun _ _ _ h => h) (Or.inl ⟨by rfl, ?_⟩) (by assumption) ?_; (focus (intro w' hSw; (try dsimp only at hSw); go_simp; (try with_reducible rfl))); (try simp only [Act.put, List.setIfInBounds_toArray, List.set_cons_zero, List.set_cons_succ]))
            refine wpAnyH_ready (rs := [2]) (by kernel_rfl) (by simp) ?_
            refine AllReadyH.cons rfl (fun K hK => ?_) AllReadyH.nil
            have c122_T_0 := T_121.out.at 0 (v := .int .i64 t) rfl
            have c122_T_1 := T_121.out.at 1 (v := .int .i64 z) rfl
            have c122_T_2 := T_121.out.at 2 (v := .slice a q.length cap) rfl
            have c122_T_3 := T_121.out.at 3 (v := .int .i64 c) rfl
            have c122_T_4 := T_121.out.at 4 (v := .int .i64 u) rfl
            have c122_T_5 := T_121.out.at 5 (v := .slice b h.length caph) rfl
            have c123_A_0 := A_121.out.at 0 (v := .int .i64 0) rfl
            have c123_A_1 := A_121.out.at 1 (v := .int .i64 0) rfl
            have c123_A_2 := A_121.out.at 2 (v := .slice none 0 0) rfl
            have c123_A_3 := A_121.out.at 3 (v := .int .i64 0) rfl
            have c123_A_4 := A_121.out.at 4 (v := .int .i64 0) rfl
            have c123_A_5 := A_121.out.at 5 (v := .slice none 0 0) rfl
            have c124_U_0 := U_121.out.at 0 (v := .int .i64 t) rfl
            have c124_U_1 := U_121.out.at 1 (v := .int .i64 z) rfl
            have c124_U_2 := U_121.out.at 2 (v := .slice a_y q.length c_y) rfl
            have c125_X_0 := X_121.out.at 0 (v := .int .i64 t) rfl
            have c125_X_1 := X_121.out.at 1 (v := .int .i64 z) rfl
            have c125_X_2 := X_121.out.at 2 (v := .slice a_y q.length c_y) rfl
            have c125_X_3 := X_121.out.at 3 (v := .int .i64 (c + 1)) rfl
            have c125_X_4 := X_121.out.at 4 (v := .int .i64 0) rfl
            have c125_X_5 := X_121.out.at 5 (v := .slice a_k kp.length c_k) rfl
            go_simp
            go_at_call 118
            refine (HSt.out _ _ (rowz_own y_121.out)).mono ?_
            rintro e W126 ⟨rfl, l126⟩
            clear c122_T_0 c122_T_1 c122_T_2 c122_T_3 c122_T_4 c122_T_5
            clear c123_A_0 c123_A_1 c123_A_2 c123_A_3 c123_A_4 c123_A_5
            clear c124_U_0 c124_U_1 c124_U_2
            clear c125_X_0 c125_X_1 c125_X_2 c125_X_3 c125_X_4 c125_X_5
            have HB_127 := Lib.hid (HB_121.out.trans (l126.mono HB_121.out.size))
            have y_127 := Lib.hid (ownz_below y_121.out l126 (Nat.le_refl _))
            clear y_121
            have k_127 := Lib.hid (ownz_below k_121.out l126 (Nat.le_refl _))
            clear k_121
            have T_127 := Lib.hid (T_121.out.below l126 T_121.out.lt)
            clear T_121
            have A_127 := Lib.hid (A_121.out.below l126 A_121.out.lt)
            clear A_121
            have U_127 := Lib.hid (U_121.out.below l126 U_121.out.lt)
            clear U_121
            have X_127 := Lib.hid (X_121.out.below l126 X_121.out.lt)
            clear X_121
            clear l126
            refine hK.out _ _ ?S12 (fun hHeld12 => ?rest12)
            case S12 =>
              (try dsimp only)
              exact ⟨X_127.out.at 0 (v := .int .i64 t) rfl, X_127.out.at 1 (v := .int .i64 z) rfl, X_127.out.at 2 (v := .slice a_y q.length c_y) rfl, X_127.out.at 3 (v := .int .i64 (c + 1)) rfl, X_127.out.at 4 (v := .int .i64 0) rfl, X_127.out.at 5 (v := .slice a_k kp.length c_k) rfl, U_127.out.at 0 (v := .int .i64 t) rfl, U_127.out.at 1 (v := .int .i64 z) rfl, U_127.out.at 2 (v := .slice a_y q.length c_y) rfl, HB_127.out⟩
            case rest12 =>
              clear hK K
              clear hHeld
              (try simp only [Act.put, List.setIfInBounds_toArray, List.set_cons_zero, List.set_cons_succ])
              refine wpAnyH_ready (rs := [3, 4]) (by kernel_rfl) (by simp) ?_
              refine AllReadyH.cons rfl (fun K hK => ?_) (AllReadyH.cons rfl (fun K hK => ?_) AllReadyH.nil)
              · skip
                go_simp
                obtain ⟨W128, hW128⟩ : ∃ W128, W128 = W126.alloc (.cells #[.int .i64 5, .int .i64 t, .int .i64 t, .int .i64 le, .string ⟨#[]⟩] 64) := ⟨_, rfl⟩
                have l128 : Below W126.heap.size W126 W128 := by rw [hW128]; exact (Below.refl _ _).alloc (Nat.le_refl _) _
                have X128_Lp : Hid (Bx W128 W126.heap.size #[.int .i64 5, .int .i64 t, .int .i64 t, .int .i64 le, .string ⟨#[]⟩] 64) := Lib.hid (by rw [hW128]; exact Bx.new _ _ _)
                rw [← hW128]
                clear hW128
                have BX_Lp_y : Hid (∀ k, (.slice a_y q.length c_y : Value).ownBlock = some k → k ≠ W126.heap.size) := Lib.hid (fun k h1 h2 => absurd (y_127.out.lt k h1).2 (by omega))
                have BX_Lp_k : Hid (∀ k, (.slice a_k kp.length c_k : Value).ownBlock = some k → k ≠ W126.heap.size) := Lib.hid (fun k h1 h2 => absurd (k_127.out.lt k h1).2 (by omega))
                have HG_Lp : Hid (w.heap.size ≤ W126.heap.size) := Lib.hid HB_127.out.size
                have HN_Lp_T : Hid (R_T < W126.heap.size) := Lib.hid T_127.out.lt
                have HN_Lp_A : Hid (R_A < W126.heap.size) := Lib.hid A_127.out.lt
                have HN_Lp_U : Hid (R_U < W126.heap.size) := Lib.hid U_127.out.lt
                have HN_Lp_X : Hid (R_X < W126.heap.size) := Lib.hid X_127.out.lt
                obtain ⟨R_Lp, hR_Lp⟩ : ∃ X, X = W126.heap.size := ⟨_, rfl⟩
                rw [← hR_Lp] at X128_Lp HG_Lp BX_Lp_y BX_Lp_k HN_Lp_T HN_Lp_A HN_Lp_U HN_Lp_X ⊢
                clear hR_Lp
                have HB_129 := Lib.hid (HB_127.out.trans (l128.mono HB_127.out.size))
                have y_129 := Lib.hid (ownz_below y_127.out l128 (Nat.le_refl _))
                clear y_127
                have k_129 := Lib.hid (ownz_below k_127.out l128 (Nat.le_refl _))
                clear k_127
                have T_129 := Lib.hid (T_127.out.below l128 T_127.out.lt)
                clear T_127
                have A_129 := Lib.hid (A_127.out.below l128 A_127.out.lt)
                clear A_127
                have U_129 := Lib.hid (U_127.out.below l128 U_127.out.lt)
                clear U_127
                have X_129 := Lib.hid (X_127.out.below l128 X_127.out.lt)
                clear X_127
                clear l128
                have c130_T_0 := T_129.out.at 0 (v := .int .i64 t) rfl
                have c130_T_1 := T_129.out.at 1 (v := .int .i64 z) rfl
                have c130_T_2 := T_129.out.at 2 (v := .slice a q.length cap) rfl
                have c130_T_3 := T_129.out.at 3 (v := .int .i64 c) rfl
                have c130_T_4 := T_129.out.at 4 (v := .int .i64 u) rfl
                have c130_T_5 := T_129.out.at 5 (v := .slice b h.length caph) rfl
                have c131_A_0 := A_129.out.at 0 (v := .int .i64 0) rfl
                have c131_A_1 := A_129.out.at 1 (v := .int .i64 0) rfl
                have c131_A_2 := A_129.out.at 2 (v := .slice none 0 0) rfl
                have c131_A_3 := A_129.out.at 3 (v := .int .i64 0) rfl
                have c131_A_4 := A_129.out.at 4 (v := .int .i64 0) rfl
                have c131_A_5 := A_129.out.at 5 (v := .slice none 0 0) rfl
                have c132_U_0 := U_129.out.at 0 (v := .int .i64 t) rfl
                have c132_U_1 := U_129.out.at 1 (v := .int .i64 z) rfl
                have c132_U_2 := U_129.out.at 2 (v := .slice a_y q.length c_y) rfl
                have c133_X_0 := X_129.out.at 0 (v := .int .i64 t) rfl
                have c133_X_1 := X_129.out.at 1 (v := .int .i64 z) rfl
                have c133_X_2 := X_129.out.at 2 (v := .slice a_y q.length c_y) rfl
                have c133_X_3 := X_129.out.at 3 (v := .int .i64 (c + 1)) rfl
                have c133_X_4 := X_129.out.at 4 (v := .int .i64 0) rfl
                have c133_X_5 := X_129.out.at 5 (v := .slice a_k kp.length c_k) rfl
                have c134_Lp_0 := X128_Lp.out.at 0 (v := .int .i64 5) rfl
                have c134_Lp_1 := X128_Lp.out.at 1 (v := .int .i64 t) rfl
                have c134_Lp_2 := X128_Lp.out.at 2 (v := .int .i64 t) rfl
                have c134_Lp_3 := X128_Lp.out.at 3 (v := .int .i64 le) rfl
                have c134_Lp_4 := X128_Lp.out.at 4 (v := .string ⟨#[]⟩) rfl
                have AP_y_p : Hid (∀ k, (.slice a_y q.length c_y : Value).ownBlock = some k → (.slice (some ⟨R_Lp, 0, none⟩) 1 1 : Value).ownBlock ≠ some k) := Lib.hid (fun k h1 h2 => BX_Lp_y.out k h1 (Option.some.inj h2).symm)
                have AP_k_p : Hid (∀ k, (.slice a_k kp.length c_k : Value).ownBlock = some k → (.slice (some ⟨R_Lp, 0, none⟩) 1 1 : Value).ownBlock ≠ some k) := Lib.hid (fun k h1 h2 => BX_Lp_k.out k h1 (Option.some.inj h2).symm)
                have O_p := Lib.hid (ownPq_one (p := ⟨5, t, t, le, ⟨#[]⟩⟩) X128_Lp.out HG_Lp.out)
                have BX_T_p : Hid (∀ k, (.slice (some ⟨R_Lp, 0, none⟩) 1 1 : Value).ownBlock = some k → k ≠ R_T) := Lib.hid (fun k h1 h2 => by have e1 : R_Lp = k := Option.some.inj h1; have e2 := HN_Lp_T.out; omega)
                have BX_A_p : Hid (∀ k, (.slice (some ⟨R_Lp, 0, none⟩) 1 1 : Value).ownBlock = some k → k ≠ R_A) := Lib.hid (fun k h1 h2 => by have e1 : R_Lp = k := Option.some.inj h1; have e2 := HN_Lp_A.out; omega)
                have BX_U_p : Hid (∀ k, (.slice (some ⟨R_Lp, 0, none⟩) 1 1 : Value).ownBlock = some k → k ≠ R_U) := Lib.hid (fun k h1 h2 => by have e1 : R_Lp = k := Option.some.inj h1; have e2 := HN_Lp_U.out; omega)
                have BX_X_p : Hid (∀ k, (.slice (some ⟨R_Lp, 0, none⟩) 1 1 : Value).ownBlock = some k → k ≠ R_X) := Lib.hid (fun k h1 h2 => by have e1 : R_Lp = k := Option.some.inj h1; have e2 := HN_Lp_X.out; omega)
                clear c134_Lp_0 c134_Lp_1 c134_Lp_2 c134_Lp_3 c134_Lp_4
                clear X128_Lp
                clear c130_T_0 c130_T_1 c130_T_2 c130_T_3 c130_T_4 c130_T_5
                clear c131_A_0 c131_A_1 c131_A_2 c131_A_3 c131_A_4 c131_A_5
                clear c132_U_0 c132_U_1 c132_U_2
                clear c133_X_0 c133_X_1 c133_X_2 c133_X_3 c133_X_4 c133_X_5
                refine hK.out _ _ ?S13 (fun hHeld13 => ?rest13)
                case S13 =>
                  (try dsimp only)
                  exact ⟨X_129.out.at 0 (v := .int .i64 t) rfl, X_129.out.at 1 (v := .int .i64 z) rfl, X_129.out.at 2 (v := .slice a_y q.length c_y) rfl, X_129.out.at 3 (v := .int .i64 (c + 1)) rfl, X_129.out.at 4 (v := .int .i64 0) rfl, X_129.out.at 5 (v := .slice a_k kp.length c_k) rfl, U_129.out.at 0 (v := .int .i64 t) rfl, U_129.out.at 1 (v := .int .i64 z) rfl, U_129.out.at 2 (v := .slice a_y q.length c_y) rfl, HB_129.out⟩
                case rest13 =>
                  clear hK K
                  clear hHeld12
                  (try simp only [Act.put, List.setIfInBounds_toArray, List.set_cons_zero, List.set_cons_succ])
                  refine wpAnyH_ready (rs := [4]) (by kernel_rfl) (by simp) ?_
                  refine AllReadyH.cons rfl (fun K hK => ?_) AllReadyH.nil
                  have c135_A_0 := A_129.out.at 0 (v := .int .i64 0) rfl
                  have c135_A_1 := A_129.out.at 1 (v := .int .i64 0) rfl
                  have c135_A_2 := A_129.out.at 2 (v := .slice none 0 0) rfl
                  have c135_A_3 := A_129.out.at 3 (v := .int .i64 0) rfl
                  have c135_A_4 := A_129.out.at 4 (v := .int .i64 0) rfl
                  have c135_A_5 := A_129.out.at 5 (v := .slice none 0 0) rfl
                  have fr136_A_0 := A_129.out.free 0
                  have fr136_A_1 := A_129.out.free 1
                  have fr136_A_2 := A_129.out.free 2
                  have fr136_A_3 := A_129.out.free 3
                  have fr136_A_4 := A_129.out.free 4
                  have fr136_A_5 := A_129.out.free 5
                  go_simp
                  clear c135_A_0 c135_A_1 c135_A_2 c135_A_3 c135_A_4 c135_A_5
                  clear fr136_A_0 fr136_A_1 fr136_A_2 fr136_A_3 fr136_A_4 fr136_A_5
                  obtain ⟨p137, q137⟩ := A_129.out.store6 (.int .i64 t) (.int .i64 z) (.slice a_y q.length c_y) (.int .i64 (c + 1)) (.int .i64 0) (.slice a_k kp.length c_k)
                  obtain ⟨W137, hW137⟩ : ∃ W137, W137 = ((((((W128.setCell ⟨R_A, 0, none⟩ (.int .i64 t)).setCell ⟨R_A, 1, none⟩ (.int .i64 z)).setCell ⟨R_A, 2, none⟩ (.slice a_y q.length c_y)).setCell ⟨R_A, 3, none⟩ (.int .i64 (c + 1))).setCell ⟨R_A, 4, none⟩ (.int .i64 0)).setCell ⟨R_A, 5, none⟩ (.slice a_k kp.length c_k)) := ⟨_, rfl⟩
                  rw [← hW137] at p137 q137 ⊢
                  have X137_A : Hid (Bx W137 R_A #[.int .i64 t, .int .i64 z, .slice a_y q.length c_y, .int .i64 (c + 1), .int .i64 0, .slice a_k kp.length c_k] 29) := Lib.hid p137
                  have HB_138 := Lib.hid (HB_129.out.grown q137 HB_129.out.size (fun k hk => by have e2 : R_A = k := Option.some.inj hk; have := HR_A.out; omega))
                  have y_138 := Lib.hid (y_129.out.kept q137 (by
                    cases hv : (.slice a_y q.length c_y : Value).ownBlock with
                    | none => exact .inl rfl
                    | some k => exact .inr (fun e => BX_A_y.out k hv (Option.some.inj e))))
                  clear y_129
                  have k_138 := Lib.hid (k_129.out.kept q137 (by
                    cases hv : (.slice a_k kp.length c_k : Value).ownBlock with
                    | none => exact .inl rfl
                    | some k => exact .inr (fun e => BX_A_k.out k hv (Option.some.inj e))))
                  clear k_129
                  have p_138 := Lib.hid (O_p.out.kept q137 (by
                    cases hv : (.slice (some ⟨R_Lp, 0, none⟩) 1 1 : Value).ownBlock with
                    | none => exact .inl rfl
                    | some k => exact .inr (fun e => BX_A_p.out k hv (Option.some.inj e))))
                  clear O_p
                  have T_138 := Lib.hid (T_129.out.grown q137 (by intro e; have e2 : R_T = R_A := Option.some.inj e; have h1 := HR_T.out; have h2 := HR_A.out; omega))
                  clear T_129
                  have U_138 := Lib.hid (U_129.out.grown q137 (by intro e; have e2 : R_U = R_A := Option.some.inj e; have h1 := HN_U_A.out; omega))
                  clear U_129
                  have X_138 := Lib.hid (X_129.out.grown q137 (by intro e; have e2 : R_X = R_A := Option.some.inj e; have h1 := HN_X_A.out; omega))
                  clear X_129
                  clear A_129
                  clear hW137 p137 q137
                  have c139_T_0 := T_138.out.at 0 (v := .int .i64 t) rfl
                  have c139_T_1 := T_138.out.at 1 (v := .int .i64 z) rfl
                  have c139_T_2 := T_138.out.at 2 (v := .slice a q.length cap) rfl
                  have c139_T_3 := T_138.out.at 3 (v := .int .i64 c) rfl
                  have c139_T_4 := T_138.out.at 4 (v := .int .i64 u) rfl
                  have c139_T_5 := T_138.out.at 5 (v := .slice b h.length caph) rfl
                  have c140_A_0 := X137_A.out.at 0 (v := .int .i64 t) rfl
                  have c140_A_1 := X137_A.out.at 1 (v := .int .i64 z) rfl
                  have c140_A_2 := X137_A.out.at 2 (v := .slice a_y q.length c_y) rfl
                  have c140_A_3 := X137_A.out.at 3 (v := .int .i64 (c + 1)) rfl
                  have c140_A_4 := X137_A.out.at 4 (v := .int .i64 0) rfl
                  have c140_A_5 := X137_A.out.at 5 (v := .slice a_k kp.length c_k) rfl
                  have c141_U_0 := U_138.out.at 0 (v := .int .i64 t) rfl
                  have c141_U_1 := U_138.out.at 1 (v := .int .i64 z) rfl
                  have c141_U_2 := U_138.out.at 2 (v := .slice a_y q.length c_y) rfl
                  have c142_X_0 := X_138.out.at 0 (v := .int .i64 t) rfl
                  have c142_X_1 := X_138.out.at 1 (v := .int .i64 z) rfl
                  have c142_X_2 := X_138.out.at 2 (v := .slice a_y q.length c_y) rfl
                  have c142_X_3 := X_138.out.at 3 (v := .int .i64 (c + 1)) rfl
                  have c142_X_4 := X_138.out.at 4 (v := .int .i64 0) rfl
                  have c142_X_5 := X_138.out.at 5 (v := .slice a_k kp.length c_k) rfl
                  clear c139_T_0 c139_T_1 c139_T_2 c139_T_3 c139_T_4 c139_T_5
                  clear c140_A_0 c140_A_1 c140_A_2 c140_A_3 c140_A_4 c140_A_5
                  clear c141_U_0 c141_U_1 c141_U_2
                  clear c142_X_0 c142_X_1 c142_X_2 c142_X_3 c142_X_4 c142_X_5
                  refine hK.out _ _ ?S14 (fun hHeld14 => ?rest14)
                  case S14 =>
                    (try dsimp only)
                    exact ⟨X_138.out.at 0 (v := .int .i64 t) rfl, X_138.out.at 1 (v := .int .i64 z) rfl, X_138.out.at 2 (v := .slice a_y q.length c_y) rfl, X_138.out.at 3 (v := .int .i64 (c + 1)) rfl, X_138.out.at 4 (v := .int .i64 0) rfl, X_138.out.at 5 (v := .slice a_k kp.length c_k) rfl, U_138.out.at 0 (v := .int .i64 t) rfl, U_138.out.at 1 (v := .int .i64 z) rfl, U_138.out.at 2 (v := .slice a_y q.length c_y) rfl, HB_138.out⟩
                  case rest14 =>
                    clear hK K
                    clear hHeld13
                    (try simp only [Act.put, List.setIfInBounds_toArray, List.set_cons_zero, List.set_cons_succ])
                    (refine wpAnyH_take (i := 5) (oi := { dst := some 3, op := Go.Op.assign (Go.Operand.tmp 31), type := 46, pos := "l11_source.go:105", after := #[{ on := 3, ground := Go.Ground.data }, { on := 4, ground := Go.Ground.chain }, { on := 0, ground := Go.Ground.phase }, { on := 1, ground := Go.Ground.phase }, { on := 2, ground := Go.Ground.phase }, { on := 3, ground := Go.Ground.phase }, { on := 4, ground := Go.Ground.phase }], guard := none }) (v := (.slice (some ⟨R_Lp, 0, none⟩) 1 1)) rfl (by kernel_rfl) (by kernel_rfl) (by kernel_rfl) (fun _ _ _ h => h) (Or.inl ⟨by rfl, ?_⟩) (by assumption) ?_; (focus (intro w' hSw; (try dsimp only at hSw); go_simp; (try with_reducible rfl))); (try simp only [Act.put, List.setIfInBounds_toArray, List.set_cons_zero, List.set_cons_succ]))
                    refine wpAnyH_done (by kernel_rfl) ?_ _
                    clear hHeld14
                    go_wp2_with fail
                    refine bodyPost_ret (results_bx1 rfl isSo _ _ R_A rfl rfl rfl X137_A.out) rfl ⟨.slice a_y q.length c_y, .slice a_k kp.length c_k, .slice (some ⟨R_Lp, 0, none⟩) 1 1, rfl, y_138.out, k_138.out, AP_y_k.out, p_138.out, AP_y_p.out, AP_k_p.out, HB_138.out⟩
              · skip
                have c143_A_0 := A_127.out.at 0 (v := .int .i64 0) rfl
                have c143_A_1 := A_127.out.at 1 (v := .int .i64 0) rfl
                have c143_A_2 := A_127.out.at 2 (v := .slice none 0 0) rfl
                have c143_A_3 := A_127.out.at 3 (v := .int .i64 0) rfl
                have c143_A_4 := A_127.out.at 4 (v := .int .i64 0) rfl
                have c143_A_5 := A_127.out.at 5 (v := .slice none 0 0) rfl
                have fr144_A_0 := A_127.out.free 0
                have fr144_A_1 := A_127.out.free 1
                have fr144_A_2 := A_127.out.free 2
                have fr144_A_3 := A_127.out.free 3
                have fr144_A_4 := A_127.out.free 4
                have fr144_A_5 := A_127.out.free 5
                go_simp
                clear c143_A_0 c143_A_1 c143_A_2 c143_A_3 c143_A_4 c143_A_5
                clear fr144_A_0 fr144_A_1 fr144_A_2 fr144_A_3 fr144_A_4 fr144_A_5
                obtain ⟨p145, q145⟩ := A_127.out.store6 (.int .i64 t) (.int .i64 z) (.slice a_y q.length c_y) (.int .i64 (c + 1)) (.int .i64 0) (.slice a_k kp.length c_k)
                obtain ⟨W145, hW145⟩ : ∃ W145, W145 = ((((((W126.setCell ⟨R_A, 0, none⟩ (.int .i64 t)).setCell ⟨R_A, 1, none⟩ (.int .i64 z)).setCell ⟨R_A, 2, none⟩ (.slice a_y q.length c_y)).setCell ⟨R_A, 3, none⟩ (.int .i64 (c + 1))).setCell ⟨R_A, 4, none⟩ (.int .i64 0)).setCell ⟨R_A, 5, none⟩ (.slice a_k kp.length c_k)) := ⟨_, rfl⟩
                rw [← hW145] at p145 q145 ⊢
                have X145_A : Hid (Bx W145 R_A #[.int .i64 t, .int .i64 z, .slice a_y q.length c_y, .int .i64 (c + 1), .int .i64 0, .slice a_k kp.length c_k] 29) := Lib.hid p145
                have HB_146 := Lib.hid (HB_127.out.grown q145 HB_127.out.size (fun k hk => by have e2 : R_A = k := Option.some.inj hk; have := HR_A.out; omega))
                have y_146 := Lib.hid (y_127.out.kept q145 (by
                  cases hv : (.slice a_y q.length c_y : Value).ownBlock with
                  | none => exact .inl rfl
                  | some k => exact .inr (fun e => BX_A_y.out k hv (Option.some.inj e))))
                clear y_127
                have k_146 := Lib.hid (k_127.out.kept q145 (by
                  cases hv : (.slice a_k kp.length c_k : Value).ownBlock with
                  | none => exact .inl rfl
                  | some k => exact .inr (fun e => BX_A_k.out k hv (Option.some.inj e))))
                clear k_127
                have T_146 := Lib.hid (T_127.out.grown q145 (by intro e; have e2 : R_T = R_A := Option.some.inj e; have h1 := HR_T.out; have h2 := HR_A.out; omega))
                clear T_127
                have U_146 := Lib.hid (U_127.out.grown q145 (by intro e; have e2 : R_U = R_A := Option.some.inj e; have h1 := HN_U_A.out; omega))
                clear U_127
                have X_146 := Lib.hid (X_127.out.grown q145 (by intro e; have e2 : R_X = R_A := Option.some.inj e; have h1 := HN_X_A.out; omega))
                clear X_127
                clear A_127
                clear hW145 p145 q145
                have c147_T_0 := T_146.out.at 0 (v := .int .i64 t) rfl
                have c147_T_1 := T_146.out.at 1 (v := .int .i64 z) rfl
                have c147_T_2 := T_146.out.at 2 (v := .slice a q.length cap) rfl
                have c147_T_3 := T_146.out.at 3 (v := .int .i64 c) rfl
                have c147_T_4 := T_146.out.at 4 (v := .int .i64 u) rfl
                have c147_T_5 := T_146.out.at 5 (v := .slice b h.length caph) rfl
                have c148_A_0 := X145_A.out.at 0 (v := .int .i64 t) rfl
                have c148_A_1 := X145_A.out.at 1 (v := .int .i64 z) rfl
                have c148_A_2 := X145_A.out.at 2 (v := .slice a_y q.length c_y) rfl
                have c148_A_3 := X145_A.out.at 3 (v := .int .i64 (c + 1)) rfl
                have c148_A_4 := X145_A.out.at 4 (v := .int .i64 0) rfl
                have c148_A_5 := X145_A.out.at 5 (v := .slice a_k kp.length c_k) rfl
                have c149_U_0 := U_146.out.at 0 (v := .int .i64 t) rfl
                have c149_U_1 := U_146.out.at 1 (v := .int .i64 z) rfl
                have c149_U_2 := U_146.out.at 2 (v := .slice a_y q.length c_y) rfl
                have c150_X_0 := X_146.out.at 0 (v := .int .i64 t) rfl
                have c150_X_1 := X_146.out.at 1 (v := .int .i64 z) rfl
                have c150_X_2 := X_146.out.at 2 (v := .slice a_y q.length c_y) rfl
                have c150_X_3 := X_146.out.at 3 (v := .int .i64 (c + 1)) rfl
                have c150_X_4 := X_146.out.at 4 (v := .int .i64 0) rfl
                have c150_X_5 := X_146.out.at 5 (v := .slice a_k kp.length c_k) rfl
                clear c147_T_0 c147_T_1 c147_T_2 c147_T_3 c147_T_4 c147_T_5
                clear c148_A_0 c148_A_1 c148_A_2 c148_A_3 c148_A_4 c148_A_5
                clear c149_U_0 c149_U_1 c149_U_2
                clear c150_X_0 c150_X_1 c150_X_2 c150_X_3 c150_X_4 c150_X_5
                refine hK.out _ _ ?S15 (fun hHeld15 => ?rest15)
                case S15 =>
                  (try dsimp only)
                  exact ⟨X_146.out.at 0 (v := .int .i64 t) rfl, X_146.out.at 1 (v := .int .i64 z) rfl, X_146.out.at 2 (v := .slice a_y q.length c_y) rfl, X_146.out.at 3 (v := .int .i64 (c + 1)) rfl, X_146.out.at 4 (v := .int .i64 0) rfl, X_146.out.at 5 (v := .slice a_k kp.length c_k) rfl, U_146.out.at 0 (v := .int .i64 t) rfl, U_146.out.at 1 (v := .int .i64 z) rfl, U_146.out.at 2 (v := .slice a_y q.length c_y) rfl, HB_146.out⟩
                case rest15 =>
                  clear hK K
                  clear hHeld12
                  (try simp only [Act.put, List.setIfInBounds_toArray, List.set_cons_zero, List.set_cons_succ])
                  refine wpAnyH_ready (rs := [3]) (by kernel_rfl) (by simp) ?_
                  refine AllReadyH.cons rfl (fun K hK => ?_) AllReadyH.nil
                  go_simp
                  obtain ⟨W151, hW151⟩ : ∃ W151, W151 = W145.alloc (.cells #[.int .i64 5, .int .i64 t, .int .i64 t, .int .i64 le, .string ⟨#[]⟩] 64) := ⟨_, rfl⟩
                  have l151 : Below W145.heap.size W145 W151 := by rw [hW151]; exact (Below.refl _ _).alloc (Nat.le_refl _) _
                  have X151_Lp : Hid (Bx W151 W145.heap.size #[.int .i64 5, .int .i64 t, .int .i64 t, .int .i64 le, .string ⟨#[]⟩] 64) := Lib.hid (by rw [hW151]; exact Bx.new _ _ _)
                  rw [← hW151]
                  clear hW151
                  have BX_Lp_y : Hid (∀ k, (.slice a_y q.length c_y : Value).ownBlock = some k → k ≠ W145.heap.size) := Lib.hid (fun k h1 h2 => absurd (y_146.out.lt k h1).2 (by omega))
                  have BX_Lp_k : Hid (∀ k, (.slice a_k kp.length c_k : Value).ownBlock = some k → k ≠ W145.heap.size) := Lib.hid (fun k h1 h2 => absurd (k_146.out.lt k h1).2 (by omega))
                  have HG_Lp : Hid (w.heap.size ≤ W145.heap.size) := Lib.hid HB_146.out.size
                  have HN_Lp_T : Hid (R_T < W145.heap.size) := Lib.hid T_146.out.lt
                  have HN_Lp_A : Hid (R_A < W145.heap.size) := Lib.hid X145_A.out.lt
                  have HN_Lp_U : Hid (R_U < W145.heap.size) := Lib.hid U_146.out.lt
                  have HN_Lp_X : Hid (R_X < W145.heap.size) := Lib.hid X_146.out.lt
                  obtain ⟨R_Lp, hR_Lp⟩ : ∃ X, X = W145.heap.size := ⟨_, rfl⟩
                  rw [← hR_Lp] at X151_Lp HG_Lp BX_Lp_y BX_Lp_k HN_Lp_T HN_Lp_A HN_Lp_U HN_Lp_X ⊢
                  clear hR_Lp
                  have HB_152 := Lib.hid (HB_146.out.trans (l151.mono HB_146.out.size))
                  have y_152 := Lib.hid (ownz_below y_146.out l151 (Nat.le_refl _))
                  clear y_146
                  have k_152 := Lib.hid (ownz_below k_146.out l151 (Nat.le_refl _))
                  clear k_146
                  have T_152 := Lib.hid (T_146.out.below l151 T_146.out.lt)
                  clear T_146
                  have A_152 := Lib.hid (X145_A.out.below l151 X145_A.out.lt)
                  clear X145_A
                  have U_152 := Lib.hid (U_146.out.below l151 U_146.out.lt)
                  clear U_146
                  have X_152 := Lib.hid (X_146.out.below l151 X_146.out.lt)
                  clear X_146
                  clear l151
                  have c153_T_0 := T_152.out.at 0 (v := .int .i64 t) rfl
                  have c153_T_1 := T_152.out.at 1 (v := .int .i64 z) rfl
                  have c153_T_2 := T_152.out.at 2 (v := .slice a q.length cap) rfl
                  have c153_T_3 := T_152.out.at 3 (v := .int .i64 c) rfl
                  have c153_T_4 := T_152.out.at 4 (v := .int .i64 u) rfl
                  have c153_T_5 := T_152.out.at 5 (v := .slice b h.length caph) rfl
                  have c154_A_0 := A_152.out.at 0 (v := .int .i64 t) rfl
                  have c154_A_1 := A_152.out.at 1 (v := .int .i64 z) rfl
                  have c154_A_2 := A_152.out.at 2 (v := .slice a_y q.length c_y) rfl
                  have c154_A_3 := A_152.out.at 3 (v := .int .i64 (c + 1)) rfl
                  have c154_A_4 := A_152.out.at 4 (v := .int .i64 0) rfl
                  have c154_A_5 := A_152.out.at 5 (v := .slice a_k kp.length c_k) rfl
                  have c155_U_0 := U_152.out.at 0 (v := .int .i64 t) rfl
                  have c155_U_1 := U_152.out.at 1 (v := .int .i64 z) rfl
                  have c155_U_2 := U_152.out.at 2 (v := .slice a_y q.length c_y) rfl
                  have c156_X_0 := X_152.out.at 0 (v := .int .i64 t) rfl
                  have c156_X_1 := X_152.out.at 1 (v := .int .i64 z) rfl
                  have c156_X_2 := X_152.out.at 2 (v := .slice a_y q.length c_y) rfl
                  have c156_X_3 := X_152.out.at 3 (v := .int .i64 (c + 1)) rfl
                  have c156_X_4 := X_152.out.at 4 (v := .int .i64 0) rfl
                  have c156_X_5 := X_152.out.at 5 (v := .slice a_k kp.length c_k) rfl
                  have c157_Lp_0 := X151_Lp.out.at 0 (v := .int .i64 5) rfl
                  have c157_Lp_1 := X151_Lp.out.at 1 (v := .int .i64 t) rfl
                  have c157_Lp_2 := X151_Lp.out.at 2 (v := .int .i64 t) rfl
                  have c157_Lp_3 := X151_Lp.out.at 3 (v := .int .i64 le) rfl
                  have c157_Lp_4 := X151_Lp.out.at 4 (v := .string ⟨#[]⟩) rfl
                  have AP_y_p : Hid (∀ k, (.slice a_y q.length c_y : Value).ownBlock = some k → (.slice (some ⟨R_Lp, 0, none⟩) 1 1 : Value).ownBlock ≠ some k) := Lib.hid (fun k h1 h2 => BX_Lp_y.out k h1 (Option.some.inj h2).symm)
                  have AP_k_p : Hid (∀ k, (.slice a_k kp.length c_k : Value).ownBlock = some k → (.slice (some ⟨R_Lp, 0, none⟩) 1 1 : Value).ownBlock ≠ some k) := Lib.hid (fun k h1 h2 => BX_Lp_k.out k h1 (Option.some.inj h2).symm)
                  have O_p := Lib.hid (ownPq_one (p := ⟨5, t, t, le, ⟨#[]⟩⟩) X151_Lp.out HG_Lp.out)
                  have BX_T_p : Hid (∀ k, (.slice (some ⟨R_Lp, 0, none⟩) 1 1 : Value).ownBlock = some k → k ≠ R_T) := Lib.hid (fun k h1 h2 => by have e1 : R_Lp = k := Option.some.inj h1; have e2 := HN_Lp_T.out; omega)
                  have BX_A_p : Hid (∀ k, (.slice (some ⟨R_Lp, 0, none⟩) 1 1 : Value).ownBlock = some k → k ≠ R_A) := Lib.hid (fun k h1 h2 => by have e1 : R_Lp = k := Option.some.inj h1; have e2 := HN_Lp_A.out; omega)
                  have BX_U_p : Hid (∀ k, (.slice (some ⟨R_Lp, 0, none⟩) 1 1 : Value).ownBlock = some k → k ≠ R_U) := Lib.hid (fun k h1 h2 => by have e1 : R_Lp = k := Option.some.inj h1; have e2 := HN_Lp_U.out; omega)
                  have BX_X_p : Hid (∀ k, (.slice (some ⟨R_Lp, 0, none⟩) 1 1 : Value).ownBlock = some k → k ≠ R_X) := Lib.hid (fun k h1 h2 => by have e1 : R_Lp = k := Option.some.inj h1; have e2 := HN_Lp_X.out; omega)
                  clear c157_Lp_0 c157_Lp_1 c157_Lp_2 c157_Lp_3 c157_Lp_4
                  clear X151_Lp
                  clear c153_T_0 c153_T_1 c153_T_2 c153_T_3 c153_T_4 c153_T_5
                  clear c154_A_0 c154_A_1 c154_A_2 c154_A_3 c154_A_4 c154_A_5
                  clear c155_U_0 c155_U_1 c155_U_2
                  clear c156_X_0 c156_X_1 c156_X_2 c156_X_3 c156_X_4 c156_X_5
                  refine hK.out _ _ ?S16 (fun hHeld16 => ?rest16)
                  case S16 =>
                    (try dsimp only)
                    exact ⟨X_152.out.at 0 (v := .int .i64 t) rfl, X_152.out.at 1 (v := .int .i64 z) rfl, X_152.out.at 2 (v := .slice a_y q.length c_y) rfl, X_152.out.at 3 (v := .int .i64 (c + 1)) rfl, X_152.out.at 4 (v := .int .i64 0) rfl, X_152.out.at 5 (v := .slice a_k kp.length c_k) rfl, U_152.out.at 0 (v := .int .i64 t) rfl, U_152.out.at 1 (v := .int .i64 z) rfl, U_152.out.at 2 (v := .slice a_y q.length c_y) rfl, HB_152.out⟩
                  case rest16 =>
                    clear hK K
                    clear hHeld15
                    (try simp only [Act.put, List.setIfInBounds_toArray, List.set_cons_zero, List.set_cons_succ])
                    (refine wpAnyH_take (i := 5) (oi := { dst := some 3, op := Go.Op.assign (Go.Operand.tmp 31), type := 46, pos := "l11_source.go:105", after := #[{ on := 3, ground := Go.Ground.data }, { on := 4, ground := Go.Ground.chain }, { on := 0, ground := Go.Ground.phase }, { on := 1, ground := Go.Ground.phase }, { on := 2, ground := Go.Ground.phase }, { on := 3, ground := Go.Ground.phase }, { on := 4, ground := Go.Ground.phase }], guard := none }) (v := (.slice (some ⟨R_Lp, 0, none⟩) 1 1)) rfl (by kernel_rfl) (by kernel_rfl) (by kernel_rfl) (fun _ _ _ h => h) (Or.inl ⟨by rfl, ?_⟩) (by assumption) ?_; (focus (intro w' hSw; (try dsimp only at hSw); go_simp; (try with_reducible rfl))); (try simp only [Act.put, List.setIfInBounds_toArray, List.set_cons_zero, List.set_cons_succ]))
                    refine wpAnyH_done (by kernel_rfl) ?_ _
                    clear hHeld16
                    go_wp2_with fail
                    refine bodyPost_ret (results_bx1 rfl isSo _ _ R_A rfl rfl rfl A_152.out) rfl ⟨.slice a_y q.length c_y, .slice a_k kp.length c_k, .slice (some ⟨R_Lp, 0, none⟩) 1 1, rfl, y_152.out, k_152.out, AP_y_k.out, O_p.out, AP_y_p.out, AP_k_p.out, HB_152.out⟩
  · have hu4 : ((u + 1 : Int) == 4) = false := by rw [beq_eq_false_iff_ne]; omega
    rw [if_neg hu, if_neg hu]
    clear hu
    have c158_T_0 := HX_T.out.at 0 (v := .int .i64 t) rfl
    have c158_T_1 := HX_T.out.at 1 (v := .int .i64 z) rfl
    have c158_T_2 := HX_T.out.at 2 (v := .slice a q.length cap) rfl
    have c158_T_3 := HX_T.out.at 3 (v := .int .i64 c) rfl
    have c158_T_4 := HX_T.out.at 4 (v := .int .i64 u) rfl
    have c158_T_5 := HX_T.out.at 5 (v := .slice b h.length caph) rfl
    have c159_A_0 := HX_A.out.at 0 (v := .int .i64 0) rfl
    have c159_A_1 := HX_A.out.at 1 (v := .int .i64 0) rfl
    have c159_A_2 := HX_A.out.at 2 (v := .slice none 0 0) rfl
    have c159_A_3 := HX_A.out.at 3 (v := .int .i64 0) rfl
    have c159_A_4 := HX_A.out.at 4 (v := .int .i64 0) rfl
    have c159_A_5 := HX_A.out.at 5 (v := .slice none 0 0) rfl
    go_enter Try.func81, Try.ntmps81
    go_upto_region 1 with fail
    rw [← HW0.out, ← HR_A.out, ← HR_T.out]
    go_wp2_with fail
    refine (HD.out _ (HP.out.below HB0.out (Nat.le_refl _))).mono ?_
    rintro e W160 ⟨v_y, rfl, o_y, l160⟩
    obtain ⟨a_y, c_y, rfl, _, _⟩ := ownz_slice o_y
    have O_y := Lib.hid (ownz_base o_y HB0.out.size)
    have BX_T_y : Hid (∀ k, (.slice a_y q.length c_y : Value).ownBlock = some k → k ≠ R_T) := Lib.hid (fun k h1 h2 => absurd HX_T.out.lt (Nat.not_lt.2 (by rw [← h2]; exact (o_y.lt k h1).1)))
    have BX_A_y : Hid (∀ k, (.slice a_y q.length c_y : Value).ownBlock = some k → k ≠ R_A) := Lib.hid (fun k h1 h2 => absurd HX_A.out.lt (Nat.not_lt.2 (by rw [← h2]; exact (o_y.lt k h1).1)))
    clear o_y
    clear c158_T_0 c158_T_1 c158_T_2 c158_T_3 c158_T_4 c158_T_5
    clear c159_A_0 c159_A_1 c159_A_2 c159_A_3 c159_A_4 c159_A_5
    have HB_161 := Lib.hid (HB0.out.trans (l160.mono HB0.out.size))
    have T_161 := Lib.hid (HX_T.out.below l160 HX_T.out.lt)
    have A_161 := Lib.hid (HX_A.out.below l160 HX_A.out.lt)
    clear l160
    have c162_T_0 := T_161.out.at 0 (v := .int .i64 t) rfl
    have c162_T_1 := T_161.out.at 1 (v := .int .i64 z) rfl
    have c162_T_2 := T_161.out.at 2 (v := .slice a q.length cap) rfl
    have c162_T_3 := T_161.out.at 3 (v := .int .i64 c) rfl
    have c162_T_4 := T_161.out.at 4 (v := .int .i64 u) rfl
    have c162_T_5 := T_161.out.at 5 (v := .slice b h.length caph) rfl
    have c163_A_0 := A_161.out.at 0 (v := .int .i64 0) rfl
    have c163_A_1 := A_161.out.at 1 (v := .int .i64 0) rfl
    have c163_A_2 := A_161.out.at 2 (v := .slice none 0 0) rfl
    have c163_A_3 := A_161.out.at 3 (v := .int .i64 0) rfl
    have c163_A_4 := A_161.out.at 4 (v := .int .i64 0) rfl
    have c163_A_5 := A_161.out.at 5 (v := .slice none 0 0) rfl
    go_upto_region 2 with fail
    obtain ⟨W164, hW164⟩ : ∃ W164, W164 = W160.alloc (.cells #[.int .i64 t, .int .i64 z, .slice a_y q.length c_y] 26) := ⟨_, rfl⟩
    have l164 : Below W160.heap.size W160 W164 := by rw [hW164]; exact (Below.refl _ _).alloc (Nat.le_refl _) _
    have X164_U : Hid (Bx W164 W160.heap.size #[.int .i64 t, .int .i64 z, .slice a_y q.length c_y] 26) := Lib.hid (by rw [hW164]; exact Bx.new _ _ _)
    rw [← hW164]
    clear hW164
    have BX_U_y : Hid (∀ k, (.slice a_y q.length c_y : Value).ownBlock = some k → k ≠ W160.heap.size) := Lib.hid (fun k h1 h2 => absurd (O_y.out.lt k h1).2 (by omega))
    have HG_U : Hid (w.heap.size ≤ W160.heap.size) := Lib.hid HB_161.out.size
    have HN_U_T : Hid (R_T < W160.heap.size) := Lib.hid T_161.out.lt
    have HN_U_A : Hid (R_A < W160.heap.size) := Lib.hid A_161.out.lt
    obtain ⟨R_U, hR_U⟩ : ∃ X, X = W160.heap.size := ⟨_, rfl⟩
    rw [← hR_U] at X164_U HG_U BX_U_y HN_U_T HN_U_A ⊢
    clear hR_U
    clear c162_T_0 c162_T_1 c162_T_2 c162_T_3 c162_T_4 c162_T_5
    clear c163_A_0 c163_A_1 c163_A_2 c163_A_3 c163_A_4 c163_A_5
    have HB_165 := Lib.hid (HB_161.out.trans (l164.mono HB_161.out.size))
    have y_165 := Lib.hid (ownz_below O_y.out l164 (Nat.le_refl _))
    clear O_y
    have T_165 := Lib.hid (T_161.out.below l164 T_161.out.lt)
    clear T_161
    have A_165 := Lib.hid (A_161.out.below l164 A_161.out.lt)
    clear A_161
    clear l164
    have c166_T_0 := T_165.out.at 0 (v := .int .i64 t) rfl
    have c166_T_1 := T_165.out.at 1 (v := .int .i64 z) rfl
    have c166_T_2 := T_165.out.at 2 (v := .slice a q.length cap) rfl
    have c166_T_3 := T_165.out.at 3 (v := .int .i64 c) rfl
    have c166_T_4 := T_165.out.at 4 (v := .int .i64 u) rfl
    have c166_T_5 := T_165.out.at 5 (v := .slice b h.length caph) rfl
    have c167_A_0 := A_165.out.at 0 (v := .int .i64 0) rfl
    have c167_A_1 := A_165.out.at 1 (v := .int .i64 0) rfl
    have c167_A_2 := A_165.out.at 2 (v := .slice none 0 0) rfl
    have c167_A_3 := A_165.out.at 3 (v := .int .i64 0) rfl
    have c167_A_4 := A_165.out.at 4 (v := .int .i64 0) rfl
    have c167_A_5 := A_165.out.at 5 (v := .slice none 0 0) rfl
    have c168_U_0 := X164_U.out.at 0 (v := .int .i64 t) rfl
    have c168_U_1 := X164_U.out.at 1 (v := .int .i64 z) rfl
    have c168_U_2 := X164_U.out.at 2 (v := .slice a_y q.length c_y) rfl
    go_upto_region 2 with fail
    clear c166_T_0 c166_T_1 c166_T_2 c166_T_3 c166_T_4 c166_T_5
    clear c167_A_0 c167_A_1 c167_A_2 c167_A_3 c167_A_4 c167_A_5
    clear c168_U_0 c168_U_1 c168_U_2
    have l169 : Below W164.heap.size W164 W164.drew := Below.drew (Below.refl _ _)
    refine wp_region_held_drew (S := (fun w' => w'.cell? ⟨R_T, 0, none⟩ = some (.int .i64 t) ∧ w'.cell? ⟨R_T, 1, none⟩ = some (.int .i64 z) ∧ w'.cell? ⟨R_T, 2, none⟩ = some (.slice a q.length cap) ∧ w'.cell? ⟨R_T, 3, none⟩ = some (.int .i64 c) ∧ w'.cell? ⟨R_T, 4, none⟩ = some (.int .i64 u) ∧ w'.cell? ⟨R_T, 5, none⟩ = some (.slice b h.length caph) ∧ w'.cell? ⟨R_U, 0, none⟩ = some (.int .i64 t) ∧ w'.cell? ⟨R_U, 1, none⟩ = some (.int .i64 z) ∧ w'.cell? ⟨R_U, 2, none⟩ = some (.slice a_y q.length c_y) ∧ Below w.heap.size w w')) (by kernel_rfl) ?_ (fun hHeld => ?_)
    · exact ⟨T_165.out.at 0 (v := .int .i64 t) rfl, T_165.out.at 1 (v := .int .i64 z) rfl, T_165.out.at 2 (v := .slice a q.length cap) rfl, T_165.out.at 3 (v := .int .i64 c) rfl, T_165.out.at 4 (v := .int .i64 u) rfl, T_165.out.at 5 (v := .slice b h.length caph) rfl, X164_U.out.at 0 (v := .int .i64 t) rfl, X164_U.out.at 1 (v := .int .i64 z) rfl, X164_U.out.at 2 (v := .slice a_y q.length c_y) rfl, Below.drew HB_165.out⟩
    obtain ⟨W169, hW169⟩ : ∃ W169, W169 = W164.drew := ⟨_, rfl⟩
    rw [← hW169] at hHeld l169 ⊢
    clear hW169
    have HB_170 := Lib.hid (HB_165.out.trans (l169.mono HB_165.out.size))
    have y_170 := Lib.hid (ownz_below y_165.out l169 (Nat.le_refl _))
    clear y_165
    have T_170 := Lib.hid (T_165.out.below l169 T_165.out.lt)
    clear T_165
    have A_170 := Lib.hid (A_165.out.below l169 A_165.out.lt)
    clear A_165
    have U_170 := Lib.hid (X164_U.out.below l169 X164_U.out.lt)
    clear X164_U
    clear l169
    (refine wpAnyH_take (i := 0) (oi := { dst := some 9, op := Go.Op.load 26 (Go.Operand.tmp 4), type := 26, pos := "l11_source.go:102", after := #[], guard := none }) (v := (.agg #[.int .i64 t, .int .i64 z, .slice a_y q.length c_y])) rfl (by kernel_rfl) (by kernel_rfl) (by kernel_rfl) (fun _ _ _ h => h) (Or.inl ⟨by rfl, ?_⟩) (by assumption) ?_; (focus (intro w' hSw; (try dsimp only at hSw); go_simp; (try with_reducible rfl))); (try simp only [Act.put, List.setIfInBounds_toArray, List.set_cons_zero, List.set_cons_succ]))
    (refine wpAnyH_take (i := 1) (oi := { dst := some 10, op := Go.Op.fieldAddr 29 (Go.Operand.tmp 1) 1, type := 0, pos := "l11_source.go:102", after := #[], guard := none }) (v := (.pointer (some ⟨R_T, 3, none⟩))) rfl (by kernel_rfl) (by kernel_rfl) (by kernel_rfl) (fun _ _ _ h => h) (Or.inl ⟨by rfl, ?_⟩) (by assumption) ?_; (focus (intro w' hSw; (try dsimp only at hSw); go_simp; (try with_reducible rfl))); (try simp only [Act.put, List.setIfInBounds_toArray, List.set_cons_zero, List.set_cons_succ]))
    (refine wpAnyH_take (i := 2) (oi := { dst := some 11, op := Go.Op.load 3 (Go.Operand.tmp 10), type := 3, pos := "l11_source.go:102", after := #[{ on := 1, ground := Go.Ground.data }], guard := none }) (v := (.int .i64 c)) rfl (by kernel_rfl) (by kernel_rfl) (by kernel_rfl) (fun _ _ _ h => h) (Or.inl ⟨by rfl, ?_⟩) (by assumption) ?_; (focus (intro w' hSw; (try dsimp only at hSw); go_simp; (try with_reducible rfl))); (try simp only [Act.put, List.setIfInBounds_toArray, List.set_cons_zero, List.set_cons_succ]))
    (refine wpAnyH_take (i := 3) (oi := { dst := some 12, op := Go.Op.binOp Go.BinOp.add 3 (Go.Operand.tmp 11) (Go.Operand.const (Go.Value.int Go.IntKind.i64 1)) 3, type := 3, pos := "l11_source.go:102", after := #[{ on := 2, ground := Go.Ground.data }], guard := none }) (v := (.int .i64 (c + 1))) rfl (by kernel_rfl) (by kernel_rfl) (by kernel_rfl) (fun _ _ _ h => h) (Or.inl ⟨by rfl, ?_⟩) (by assumption) ?_; (focus (intro w' hSw; (try dsimp only at hSw); go_simp; (try with_reducible rfl))); (try simp only [Act.put, List.setIfInBounds_toArray, List.set_cons_zero, List.set_cons_succ]))
    (refine wpAnyH_take (i := 4) (oi := { dst := some 13, op := Go.Op.fieldAddr 29 (Go.Operand.tmp 1) 2, type := 0, pos := "l11_source.go:102", after := #[], guard := none }) (v := (.pointer (some ⟨R_T, 4, none⟩))) rfl (by kernel_rfl) (by kernel_rfl) (by kernel_rfl) (fun _ _ _ h => h) (Or.inl ⟨by rfl, ?_⟩) (by assumption) ?_; (focus (intro w' hSw; (try dsimp only at hSw); go_simp; (try with_reducible rfl))); (try simp only [Act.put, List.setIfInBounds_toArray, List.set_cons_zero, List.set_cons_succ]))
    (refine wpAnyH_take (i := 5) (oi := { dst := some 14, op := Go.Op.load 3 (Go.Operand.tmp 13), type := 3, pos := "l11_source.go:102", after := #[{ on := 4, ground := Go.Ground.data }], guard := none }) (v := (.int .i64 u)) rfl (by kernel_rfl) (by kernel_rfl) (by kernel_rfl) (fun _ _ _ h => h) (Or.inl ⟨by rfl, ?_⟩) (by assumption) ?_; (focus (intro w' hSw; (try dsimp only at hSw); go_simp; (try with_reducible rfl))); (try simp only [Act.put, List.setIfInBounds_toArray, List.set_cons_zero, List.set_cons_succ]))
    (refine wpAnyH_take (i := 6) (oi := { dst := some 15, op := Go.Op.binOp Go.BinOp.add 3 (Go.Operand.tmp 14) (Go.Operand.const (Go.Value.int Go.IntKind.i64 1)) 3, type := 3, pos := "l11_source.go:102", after := #[{ on := 5, ground := Go.Ground.data }], guard := none }) (v := (.int .i64 (u + 1))) rfl (by kernel_rfl) (by kernel_rfl) (by kernel_rfl) (fun _ _ _ h => h) (Or.inl ⟨by rfl, ?_⟩) (by assumption) ?_; (focus (intro w' hSw; (try dsimp only at hSw); go_simp; (try with_reducible rfl))); (try simp only [Act.put, List.setIfInBounds_toArray, List.set_cons_zero, List.set_cons_succ]))
    (refine wpAnyH_take (i := 7) (oi := { dst := some 16, op := Go.Op.fieldAddr 29 (Go.Operand.tmp 1) 3, type := 0, pos := "l11_source.go:102", after := #[], guard := none }) (v := (.pointer (some ⟨R_T, 5, none⟩))) rfl (by kernel_rfl) (by kernel_rfl) (by kernel_rfl) (fun _ _ _ h => h) (Or.inl ⟨by rfl, ?_⟩) (by assumption) ?_; (focus (intro w' hSw; (try dsimp only at hSw); go_simp; (try with_reducible rfl))); (try simp only [Act.put, List.setIfInBounds_toArray, List.set_cons_zero, List.set_cons_succ]))
    (refine wpAnyH_take (i := 8) (oi := { dst := some 17, op := Go.Op.load 27 (Go.Operand.tmp 16), type := 27, pos := "l11_source.go:102", after := #[{ on := 7, ground := Go.Ground.data }], guard := none }) (v := (.slice b h.length caph)) rfl (by kernel_rfl) (by kernel_rfl) (by kernel_rfl) (fun _ _ _ h => h) (Or.inl ⟨by rfl, ?_⟩) (by assumption) ?_; (focus (intro w' hSw; (try dsimp only at hSw); go_simp; (try with_reducible rfl))); (try simp only [Act.put, List.setIfInBounds_toArray, List.set_cons_zero, List.set_cons_succ]))
    (refine wpAnyH_take (i := 9) (oi := { dst := some 18, op := Go.Op.load 26 (Go.Operand.tmp 4), type := 26, pos := "l11_source.go:102", after := #[], guard := none }) (v := (.agg #[.int .i64 t, .int .i64 z, .slice a_y q.length c_y])) rfl (by kernel_rfl) (by kernel_rfl) (by kernel_rfl) (fun _ _ _ h => h) (Or.inl ⟨by rfl, ?_⟩) (by assumption) ?_; (focus (intro w' hSw; (try dsimp only at hSw); go_simp; (try with_reducible rfl))); (try simp only [Act.put, List.setIfInBounds_toArray, List.set_cons_zero, List.set_cons_succ]))
    (refine wpAnyH_take (i := 10) (oi := { dst := some 19, op := Go.Op.fieldAddr 29 (Go.Operand.tmp 1) 1, type := 0, pos := "l11_source.go:102", after := #[], guard := none }) (v := (.pointer (some ⟨R_T, 3, none⟩))) rfl (by kernel_rfl) (by kernel_rfl) (by kernel_rfl) (fun _ _ _ h => h) (Or.inl ⟨by rfl, ?_⟩) (by assumption) ?_; (focus (intro w' hSw; (try dsimp only at hSw); go_simp; (try with_reducible rfl))); (try simp only [Act.put, List.setIfInBounds_toArray, List.set_cons_zero, List.set_cons_succ]))
    (refine wpAnyH_take (i := 11) (oi := { dst := some 20, op := Go.Op.load 3 (Go.Operand.tmp 19), type := 3, pos := "l11_source.go:102", after := #[{ on := 10, ground := Go.Ground.data }], guard := none }) (v := (.int .i64 c)) rfl (by kernel_rfl) (by kernel_rfl) (by kernel_rfl) (fun _ _ _ h => h) (Or.inl ⟨by rfl, ?_⟩) (by assumption) ?_; (focus (intro w' hSw; (try dsimp only at hSw); go_simp; (try with_reducible rfl))); (try simp only [Act.put, List.setIfInBounds_toArray, List.set_cons_zero, List.set_cons_succ]))
    (refine wpAnyH_take (i := 12) (oi := { dst := some 21, op := Go.Op.binOp Go.BinOp.add 3 (Go.Operand.tmp 20) (Go.Operand.const (Go.Value.int Go.IntKind.i64 1)) 3, type := 3, pos := "l11_source.go:102", after := #[{ on := 11, ground := Go.Ground.data }], guard := none }) (v := (.int .i64 (c + 1))) rfl (by kernel_rfl) (by kernel_rfl) (by kernel_rfl) (fun _ _ _ h => h) (Or.inl ⟨by rfl, ?_⟩) (by assumption) ?_; (focus (intro w' hSw; (try dsimp only at hSw); go_simp; (try with_reducible rfl))); (try simp only [Act.put, List.setIfInBounds_toArray, List.set_cons_zero, List.set_cons_succ]))
    refine wpAnyH_ready (rs := [13, 15]) (by kernel_rfl) (by simp) ?_
    refine AllReadyH.cons rfl (fun K hK => ?_) (AllReadyH.cons rfl (fun K hK => ?_) AllReadyH.nil)
    · skip
      have c171_T_0 := T_170.out.at 0 (v := .int .i64 t) rfl
      have c171_T_1 := T_170.out.at 1 (v := .int .i64 z) rfl
      have c171_T_2 := T_170.out.at 2 (v := .slice a q.length cap) rfl
      have c171_T_3 := T_170.out.at 3 (v := .int .i64 c) rfl
      have c171_T_4 := T_170.out.at 4 (v := .int .i64 u) rfl
      have c171_T_5 := T_170.out.at 5 (v := .slice b h.length caph) rfl
      have c172_A_0 := A_170.out.at 0 (v := .int .i64 0) rfl
      have c172_A_1 := A_170.out.at 1 (v := .int .i64 0) rfl
      have c172_A_2 := A_170.out.at 2 (v := .slice none 0 0) rfl
      have c172_A_3 := A_170.out.at 3 (v := .int .i64 0) rfl
      have c172_A_4 := A_170.out.at 4 (v := .int .i64 0) rfl
      have c172_A_5 := A_170.out.at 5 (v := .slice none 0 0) rfl
      have c173_U_0 := U_170.out.at 0 (v := .int .i64 t) rfl
      have c173_U_1 := U_170.out.at 1 (v := .int .i64 z) rfl
      have c173_U_2 := U_170.out.at 2 (v := .slice a_y q.length c_y) rfl
      go_simp
      go_at_call 99
      refine (HHo.out _ _ (rowz_own y_170.out) (HH.out.below HB_170.out (Nat.le_refl _))).mono ?_
      rintro e W174 ⟨v_k, rfl, o_k, l174⟩
      obtain ⟨a_k, c_k, rfl, _, _⟩ := ownz_slice o_k
      have AP_y_k : Hid (∀ k, (.slice a_y q.length c_y : Value).ownBlock = some k → (.slice a_k kp.length c_k : Value).ownBlock ≠ some k) := Lib.hid (fun k h1 h2 => absurd (y_170.out.lt k h1).2 (Nat.not_lt.2 (o_k.lt k h2).1))
      have O_k := Lib.hid (ownz_base o_k HB_170.out.size)
      have BX_T_k : Hid (∀ k, (.slice a_k kp.length c_k : Value).ownBlock = some k → k ≠ R_T) := Lib.hid (fun k h1 h2 => absurd T_170.out.lt (Nat.not_lt.2 (by rw [← h2]; exact (o_k.lt k h1).1)))
      have BX_A_k : Hid (∀ k, (.slice a_k kp.length c_k : Value).ownBlock = some k → k ≠ R_A) := Lib.hid (fun k h1 h2 => absurd A_170.out.lt (Nat.not_lt.2 (by rw [← h2]; exact (o_k.lt k h1).1)))
      have BX_U_k : Hid (∀ k, (.slice a_k kp.length c_k : Value).ownBlock = some k → k ≠ R_U) := Lib.hid (fun k h1 h2 => absurd U_170.out.lt (Nat.not_lt.2 (by rw [← h2]; exact (o_k.lt k h1).1)))
      clear o_k
      clear c171_T_0 c171_T_1 c171_T_2 c171_T_3 c171_T_4 c171_T_5
      clear c172_A_0 c172_A_1 c172_A_2 c172_A_3 c172_A_4 c172_A_5
      clear c173_U_0 c173_U_1 c173_U_2
      have HB_175 := Lib.hid (HB_170.out.trans (l174.mono HB_170.out.size))
      have y_175 := Lib.hid (ownz_below y_170.out l174 (Nat.le_refl _))
      clear y_170
      have T_175 := Lib.hid (T_170.out.below l174 T_170.out.lt)
      clear T_170
      have A_175 := Lib.hid (A_170.out.below l174 A_170.out.lt)
      clear A_170
      have U_175 := Lib.hid (U_170.out.below l174 U_170.out.lt)
      clear U_170
      clear l174
      have c176_T_0 := T_175.out.at 0 (v := .int .i64 t) rfl
      have c176_T_1 := T_175.out.at 1 (v := .int .i64 z) rfl
      have c176_T_2 := T_175.out.at 2 (v := .slice a q.length cap) rfl
      have c176_T_3 := T_175.out.at 3 (v := .int .i64 c) rfl
      have c176_T_4 := T_175.out.at 4 (v := .int .i64 u) rfl
      have c176_T_5 := T_175.out.at 5 (v := .slice b h.length caph) rfl
      have c177_A_0 := A_175.out.at 0 (v := .int .i64 0) rfl
      have c177_A_1 := A_175.out.at 1 (v := .int .i64 0) rfl
      have c177_A_2 := A_175.out.at 2 (v := .slice none 0 0) rfl
      have c177_A_3 := A_175.out.at 3 (v := .int .i64 0) rfl
      have c177_A_4 := A_175.out.at 4 (v := .int .i64 0) rfl
      have c177_A_5 := A_175.out.at 5 (v := .slice none 0 0) rfl
      have c178_U_0 := U_175.out.at 0 (v := .int .i64 t) rfl
      have c178_U_1 := U_175.out.at 1 (v := .int .i64 z) rfl
      have c178_U_2 := U_175.out.at 2 (v := .slice a_y q.length c_y) rfl
      clear c176_T_0 c176_T_1 c176_T_2 c176_T_3 c176_T_4 c176_T_5
      clear c177_A_0 c177_A_1 c177_A_2 c177_A_3 c177_A_4 c177_A_5
      clear c178_U_0 c178_U_1 c178_U_2
      refine hK.out _ _ ?S17 (fun hHeld17 => ?rest17)
      case S17 =>
        (try dsimp only)
        exact ⟨T_175.out.at 0 (v := .int .i64 t) rfl, T_175.out.at 1 (v := .int .i64 z) rfl, T_175.out.at 2 (v := .slice a q.length cap) rfl, T_175.out.at 3 (v := .int .i64 c) rfl, T_175.out.at 4 (v := .int .i64 u) rfl, T_175.out.at 5 (v := .slice b h.length caph) rfl, U_175.out.at 0 (v := .int .i64 t) rfl, U_175.out.at 1 (v := .int .i64 z) rfl, U_175.out.at 2 (v := .slice a_y q.length c_y) rfl, HB_175.out⟩
      case rest17 =>
        clear hK K
        clear hHeld
        (try simp only [Act.put, List.setIfInBounds_toArray, List.set_cons_zero, List.set_cons_succ])
        (refine wpAnyH_take (i := 14) (oi := { dst := some 23, op := Go.Op.build 29 #[(0, Go.Operand.tmp 9), (1, Go.Operand.tmp 12), (2, Go.Operand.tmp 15), (3, Go.Operand.tmp 22)], type := 29, pos := "l11_source.go:102", after := #[{ on := 0, ground := Go.Ground.data }, { on := 3, ground := Go.Ground.data }, { on := 6, ground := Go.Ground.data }, { on := 13, ground := Go.Ground.data }], guard := none }) (v := (.agg #[.int .i64 t, .int .i64 z, .slice a_y q.length c_y, .int .i64 (c + 1), .int .i64 (u + 1), .slice a_k kp.length c_k])) rfl (by kernel_rfl) (by kernel_rfl) (by kernel_rfl) (fun _ _ _ h => h) (Or.inl ⟨by rfl, ?_⟩) (by assumption) ?_; (focus (intro w' hSw; (try dsimp only at hSw); go_simp; (try with_reducible rfl))); (try simp only [Act.put, List.setIfInBounds_toArray, List.set_cons_zero, List.set_cons_succ]))
        refine wpAnyH_ready (rs := [15]) (by kernel_rfl) (by simp) ?_
        refine AllReadyH.cons rfl (fun K hK => ?_) AllReadyH.nil
        go_simp
        obtain ⟨W179, hW179⟩ : ∃ W179, W179 = W174.alloc (.cells #[.int .i64 0, .int .i64 0, .slice none 0 0, .int .i64 0, .int .i64 0, .slice none 0 0] 29) := ⟨_, rfl⟩
        have l179 : Below W174.heap.size W174 W179 := by rw [hW179]; exact (Below.refl _ _).alloc (Nat.le_refl _) _
        have X179_X : Hid (Bx W179 W174.heap.size #[.int .i64 0, .int .i64 0, .slice none 0 0, .int .i64 0, .int .i64 0, .slice none 0 0] 29) := Lib.hid (by rw [hW179]; exact Bx.new _ _ _)
        rw [← hW179]
        clear hW179
        have BX_X_y : Hid (∀ k, (.slice a_y q.length c_y : Value).ownBlock = some k → k ≠ W174.heap.size) := Lib.hid (fun k h1 h2 => absurd (y_175.out.lt k h1).2 (by omega))
        have BX_X_k : Hid (∀ k, (.slice a_k kp.length c_k : Value).ownBlock = some k → k ≠ W174.heap.size) := Lib.hid (fun k h1 h2 => absurd (O_k.out.lt k h1).2 (by omega))
        have HG_X : Hid (w.heap.size ≤ W174.heap.size) := Lib.hid HB_175.out.size
        have HN_X_T : Hid (R_T < W174.heap.size) := Lib.hid T_175.out.lt
        have HN_X_A : Hid (R_A < W174.heap.size) := Lib.hid A_175.out.lt
        have HN_X_U : Hid (R_U < W174.heap.size) := Lib.hid U_175.out.lt
        obtain ⟨R_X, hR_X⟩ : ∃ X, X = W174.heap.size := ⟨_, rfl⟩
        rw [← hR_X] at X179_X HG_X BX_X_y BX_X_k HN_X_T HN_X_A HN_X_U ⊢
        clear hR_X
        have HB_180 := Lib.hid (HB_175.out.trans (l179.mono HB_175.out.size))
        have y_180 := Lib.hid (ownz_below y_175.out l179 (Nat.le_refl _))
        clear y_175
        have k_180 := Lib.hid (ownz_below O_k.out l179 (Nat.le_refl _))
        clear O_k
        have T_180 := Lib.hid (T_175.out.below l179 T_175.out.lt)
        clear T_175
        have A_180 := Lib.hid (A_175.out.below l179 A_175.out.lt)
        clear A_175
        have U_180 := Lib.hid (U_175.out.below l179 U_175.out.lt)
        clear U_175
        clear l179
        have c181_T_0 := T_180.out.at 0 (v := .int .i64 t) rfl
        have c181_T_1 := T_180.out.at 1 (v := .int .i64 z) rfl
        have c181_T_2 := T_180.out.at 2 (v := .slice a q.length cap) rfl
        have c181_T_3 := T_180.out.at 3 (v := .int .i64 c) rfl
        have c181_T_4 := T_180.out.at 4 (v := .int .i64 u) rfl
        have c181_T_5 := T_180.out.at 5 (v := .slice b h.length caph) rfl
        have c182_A_0 := A_180.out.at 0 (v := .int .i64 0) rfl
        have c182_A_1 := A_180.out.at 1 (v := .int .i64 0) rfl
        have c182_A_2 := A_180.out.at 2 (v := .slice none 0 0) rfl
        have c182_A_3 := A_180.out.at 3 (v := .int .i64 0) rfl
        have c182_A_4 := A_180.out.at 4 (v := .int .i64 0) rfl
        have c182_A_5 := A_180.out.at 5 (v := .slice none 0 0) rfl
        have c183_U_0 := U_180.out.at 0 (v := .int .i64 t) rfl
        have c183_U_1 := U_180.out.at 1 (v := .int .i64 z) rfl
        have c183_U_2 := U_180.out.at 2 (v := .slice a_y q.length c_y) rfl
        have c184_X_0 := X179_X.out.at 0 (v := .int .i64 0) rfl
        have c184_X_1 := X179_X.out.at 1 (v := .int .i64 0) rfl
        have c184_X_2 := X179_X.out.at 2 (v := .slice none 0 0) rfl
        have c184_X_3 := X179_X.out.at 3 (v := .int .i64 0) rfl
        have c184_X_4 := X179_X.out.at 4 (v := .int .i64 0) rfl
        have c184_X_5 := X179_X.out.at 5 (v := .slice none 0 0) rfl
        clear c181_T_0 c181_T_1 c181_T_2 c181_T_3 c181_T_4 c181_T_5
        clear c182_A_0 c182_A_1 c182_A_2 c182_A_3 c182_A_4 c182_A_5
        clear c183_U_0 c183_U_1 c183_U_2
        clear c184_X_0 c184_X_1 c184_X_2 c184_X_3 c184_X_4 c184_X_5
        refine hK.out _ _ ?S18 (fun hHeld18 => ?rest18)
        case S18 =>
          (try dsimp only)
          exact ⟨T_180.out.at 0 (v := .int .i64 t) rfl, T_180.out.at 1 (v := .int .i64 z) rfl, T_180.out.at 2 (v := .slice a q.length cap) rfl, T_180.out.at 3 (v := .int .i64 c) rfl, T_180.out.at 4 (v := .int .i64 u) rfl, T_180.out.at 5 (v := .slice b h.length caph) rfl, U_180.out.at 0 (v := .int .i64 t) rfl, U_180.out.at 1 (v := .int .i64 z) rfl, U_180.out.at 2 (v := .slice a_y q.length c_y) rfl, HB_180.out⟩
        case rest18 =>
          clear hK K
          clear hHeld17
          (try simp only [Act.put, List.setIfInBounds_toArray, List.set_cons_zero, List.set_cons_succ])
          refine wpAnyH_ready (rs := [16]) (by kernel_rfl) (by simp) ?_
          refine AllReadyH.cons rfl (fun K hK => ?_) AllReadyH.nil
          have c185_X_0 := X179_X.out.at 0 (v := .int .i64 0) rfl
          have c185_X_1 := X179_X.out.at 1 (v := .int .i64 0) rfl
          have c185_X_2 := X179_X.out.at 2 (v := .slice none 0 0) rfl
          have c185_X_3 := X179_X.out.at 3 (v := .int .i64 0) rfl
          have c185_X_4 := X179_X.out.at 4 (v := .int .i64 0) rfl
          have c185_X_5 := X179_X.out.at 5 (v := .slice none 0 0) rfl
          have fr186_X_0 := X179_X.out.free 0
          have fr186_X_1 := X179_X.out.free 1
          have fr186_X_2 := X179_X.out.free 2
          have fr186_X_3 := X179_X.out.free 3
          have fr186_X_4 := X179_X.out.free 4
          have fr186_X_5 := X179_X.out.free 5
          go_simp
          clear c185_X_0 c185_X_1 c185_X_2 c185_X_3 c185_X_4 c185_X_5
          clear fr186_X_0 fr186_X_1 fr186_X_2 fr186_X_3 fr186_X_4 fr186_X_5
          obtain ⟨p187, q187⟩ := X179_X.out.store6 (.int .i64 t) (.int .i64 z) (.slice a_y q.length c_y) (.int .i64 (c + 1)) (.int .i64 (u + 1)) (.slice a_k kp.length c_k)
          obtain ⟨W187, hW187⟩ : ∃ W187, W187 = ((((((W179.setCell ⟨R_X, 0, none⟩ (.int .i64 t)).setCell ⟨R_X, 1, none⟩ (.int .i64 z)).setCell ⟨R_X, 2, none⟩ (.slice a_y q.length c_y)).setCell ⟨R_X, 3, none⟩ (.int .i64 (c + 1))).setCell ⟨R_X, 4, none⟩ (.int .i64 (u + 1))).setCell ⟨R_X, 5, none⟩ (.slice a_k kp.length c_k)) := ⟨_, rfl⟩
          rw [← hW187] at p187 q187 ⊢
          have X187_X : Hid (Bx W187 R_X #[.int .i64 t, .int .i64 z, .slice a_y q.length c_y, .int .i64 (c + 1), .int .i64 (u + 1), .slice a_k kp.length c_k] 29) := Lib.hid p187
          have HB_188 := Lib.hid (HB_180.out.grown q187 HB_180.out.size (fun k hk => by have e2 : R_X = k := Option.some.inj hk; have := HG_X.out; omega))
          have y_188 := Lib.hid (y_180.out.kept q187 (by
            cases hv : (.slice a_y q.length c_y : Value).ownBlock with
            | none => exact .inl rfl
            | some k => exact .inr (fun e => BX_X_y.out k hv (Option.some.inj e))))
          clear y_180
          have k_188 := Lib.hid (k_180.out.kept q187 (by
            cases hv : (.slice a_k kp.length c_k : Value).ownBlock with
            | none => exact .inl rfl
            | some k => exact .inr (fun e => BX_X_k.out k hv (Option.some.inj e))))
          clear k_180
          have T_188 := Lib.hid (T_180.out.grown q187 (by intro e; have e2 : R_T = R_X := Option.some.inj e; have h1 := HN_X_T.out; omega))
          clear T_180
          have A_188 := Lib.hid (A_180.out.grown q187 (by intro e; have e2 : R_A = R_X := Option.some.inj e; have h1 := HN_X_A.out; omega))
          clear A_180
          have U_188 := Lib.hid (U_180.out.grown q187 (by intro e; have e2 : R_U = R_X := Option.some.inj e; have h1 := HN_X_U.out; omega))
          clear U_180
          clear X179_X
          clear hW187 p187 q187
          have c189_T_0 := T_188.out.at 0 (v := .int .i64 t) rfl
          have c189_T_1 := T_188.out.at 1 (v := .int .i64 z) rfl
          have c189_T_2 := T_188.out.at 2 (v := .slice a q.length cap) rfl
          have c189_T_3 := T_188.out.at 3 (v := .int .i64 c) rfl
          have c189_T_4 := T_188.out.at 4 (v := .int .i64 u) rfl
          have c189_T_5 := T_188.out.at 5 (v := .slice b h.length caph) rfl
          have c190_A_0 := A_188.out.at 0 (v := .int .i64 0) rfl
          have c190_A_1 := A_188.out.at 1 (v := .int .i64 0) rfl
          have c190_A_2 := A_188.out.at 2 (v := .slice none 0 0) rfl
          have c190_A_3 := A_188.out.at 3 (v := .int .i64 0) rfl
          have c190_A_4 := A_188.out.at 4 (v := .int .i64 0) rfl
          have c190_A_5 := A_188.out.at 5 (v := .slice none 0 0) rfl
          have c191_U_0 := U_188.out.at 0 (v := .int .i64 t) rfl
          have c191_U_1 := U_188.out.at 1 (v := .int .i64 z) rfl
          have c191_U_2 := U_188.out.at 2 (v := .slice a_y q.length c_y) rfl
          have c192_X_0 := X187_X.out.at 0 (v := .int .i64 t) rfl
          have c192_X_1 := X187_X.out.at 1 (v := .int .i64 z) rfl
          have c192_X_2 := X187_X.out.at 2 (v := .slice a_y q.length c_y) rfl
          have c192_X_3 := X187_X.out.at 3 (v := .int .i64 (c + 1)) rfl
          have c192_X_4 := X187_X.out.at 4 (v := .int .i64 (u + 1)) rfl
          have c192_X_5 := X187_X.out.at 5 (v := .slice a_k kp.length c_k) rfl
          clear c189_T_0 c189_T_1 c189_T_2 c189_T_3 c189_T_4 c189_T_5
          clear c190_A_0 c190_A_1 c190_A_2 c190_A_3 c190_A_4 c190_A_5
          clear c191_U_0 c191_U_1 c191_U_2
          clear c192_X_0 c192_X_1 c192_X_2 c192_X_3 c192_X_4 c192_X_5
          refine hK.out _ _ ?S19 (fun hHeld19 => ?rest19)
          case S19 =>
            (try dsimp only)
            exact ⟨T_188.out.at 0 (v := .int .i64 t) rfl, T_188.out.at 1 (v := .int .i64 z) rfl, T_188.out.at 2 (v := .slice a q.length cap) rfl, T_188.out.at 3 (v := .int .i64 c) rfl, T_188.out.at 4 (v := .int .i64 u) rfl, T_188.out.at 5 (v := .slice b h.length caph) rfl, U_188.out.at 0 (v := .int .i64 t) rfl, U_188.out.at 1 (v := .int .i64 z) rfl, U_188.out.at 2 (v := .slice a_y q.length c_y) rfl, HB_188.out⟩
          case rest19 =>
            clear hK K
            clear hHeld18
            (try simp only [Act.put, List.setIfInBounds_toArray, List.set_cons_zero, List.set_cons_succ])
            refine wpAnyH_done (by kernel_rfl) ?_ _
            clear hHeld19
            have c193_T_0 := T_188.out.at 0 (v := .int .i64 t) rfl
            have c193_T_1 := T_188.out.at 1 (v := .int .i64 z) rfl
            have c193_T_2 := T_188.out.at 2 (v := .slice a q.length cap) rfl
            have c193_T_3 := T_188.out.at 3 (v := .int .i64 c) rfl
            have c193_T_4 := T_188.out.at 4 (v := .int .i64 u) rfl
            have c193_T_5 := T_188.out.at 5 (v := .slice b h.length caph) rfl
            have c194_A_0 := A_188.out.at 0 (v := .int .i64 0) rfl
            have c194_A_1 := A_188.out.at 1 (v := .int .i64 0) rfl
            have c194_A_2 := A_188.out.at 2 (v := .slice none 0 0) rfl
            have c194_A_3 := A_188.out.at 3 (v := .int .i64 0) rfl
            have c194_A_4 := A_188.out.at 4 (v := .int .i64 0) rfl
            have c194_A_5 := A_188.out.at 5 (v := .slice none 0 0) rfl
            have c195_U_0 := U_188.out.at 0 (v := .int .i64 t) rfl
            have c195_U_1 := U_188.out.at 1 (v := .int .i64 z) rfl
            have c195_U_2 := U_188.out.at 2 (v := .slice a_y q.length c_y) rfl
            have c196_X_0 := X187_X.out.at 0 (v := .int .i64 t) rfl
            have c196_X_1 := X187_X.out.at 1 (v := .int .i64 z) rfl
            have c196_X_2 := X187_X.out.at 2 (v := .slice a_y q.length c_y) rfl
            have c196_X_3 := X187_X.out.at 3 (v := .int .i64 (c + 1)) rfl
            have c196_X_4 := X187_X.out.at 4 (v := .int .i64 (u + 1)) rfl
            have c196_X_5 := X187_X.out.at 5 (v := .slice a_k kp.length c_k) rfl
            have hAl := A_188.out.alloc (.cells #[] 64)
            have z0 := hAl.at 0 (v := .int .i64 0) rfl
            have y0 := hAl.free 0
            have z1 := hAl.at 1 (v := .int .i64 0) rfl
            have y1 := hAl.free 1
            have z2 := hAl.at 2 (v := .slice none 0 0) rfl
            have y2 := hAl.free 2
            have z3 := hAl.at 3 (v := .int .i64 0) rfl
            have y3 := hAl.free 3
            have z4 := hAl.at 4 (v := .int .i64 0) rfl
            have y4 := hAl.free 4
            have z5 := hAl.at 5 (v := .slice none 0 0) rfl
            have y5 := hAl.free 5
            have HAl := Lib.hid hAl
            clear hAl
            go_wp2_with fail
            obtain ⟨p1, q1⟩ := HAl.out.store6 (.int .i64 t) (.int .i64 z) (.slice a_y q.length c_y) (.int .i64 (c + 1)) (.int .i64 (u + 1)) (.slice a_k kp.length c_k)
            have hB9 := HB_188.out.alloc HB_188.out.size (.cells #[] 64)
            refine bodyPost_ret (results_bx1 rfl isSo _ _ R_A rfl rfl rfl p1) rfl ⟨_, _, _, rfl, ?_, ?_, AP_y_k.out, ?_, ?_, ?_, hB9.grown q1 hB9.size (fun k hk => by have e2 : R_A = k := Option.some.inj hk; have := HR_A.out; omega)⟩
            · exact (ownz_below y_188.out ((Below.refl _ _).alloc (Nat.le_refl _) (.cells #[] 64)) (Nat.le_refl _)).kept q1 (by
              cases hv : (.slice a_y q.length c_y : Value).ownBlock with
              | none => exact .inl rfl
              | some k => exact .inr (fun e => BX_A_y.out k hv (Option.some.inj e)))
            · exact (ownz_below k_188.out ((Below.refl _ _).alloc (Nat.le_refl _) (.cells #[] 64)) (Nat.le_refl _)).kept q1 (by
              cases hv : (.slice a_k kp.length c_k : Value).ownBlock with
              | none => exact .inl rfl
              | some k => exact .inr (fun e => BX_A_k.out k hv (Option.some.inj e)))
            · exact (litz W187 w.heap.size 64 5 HB_188.out.size).kept q1 (.inr (fun e => by have e2 : W187.heap.size = R_A := Option.some.inj e; have h1 := A_188.out.lt; omega))
            · exact fun k h1 h2 => by have e2 : W187.heap.size = k := Option.some.inj h2; have h3 := (y_188.out.lt k h1).2; omega
            · exact fun k h1 h2 => by have e2 : W187.heap.size = k := Option.some.inj h2; have h3 := (k_188.out.lt k h1).2; omega
    · skip
      go_simp
      obtain ⟨W197, hW197⟩ : ∃ W197, W197 = W169.alloc (.cells #[.int .i64 0, .int .i64 0, .slice none 0 0, .int .i64 0, .int .i64 0, .slice none 0 0] 29) := ⟨_, rfl⟩
      have l197 : Below W169.heap.size W169 W197 := by rw [hW197]; exact (Below.refl _ _).alloc (Nat.le_refl _) _
      have X197_X : Hid (Bx W197 W169.heap.size #[.int .i64 0, .int .i64 0, .slice none 0 0, .int .i64 0, .int .i64 0, .slice none 0 0] 29) := Lib.hid (by rw [hW197]; exact Bx.new _ _ _)
      rw [← hW197]
      clear hW197
      have BX_X_y : Hid (∀ k, (.slice a_y q.length c_y : Value).ownBlock = some k → k ≠ W169.heap.size) := Lib.hid (fun k h1 h2 => absurd (y_170.out.lt k h1).2 (by omega))
      have HG_X : Hid (w.heap.size ≤ W169.heap.size) := Lib.hid HB_170.out.size
      have HN_X_T : Hid (R_T < W169.heap.size) := Lib.hid T_170.out.lt
      have HN_X_A : Hid (R_A < W169.heap.size) := Lib.hid A_170.out.lt
      have HN_X_U : Hid (R_U < W169.heap.size) := Lib.hid U_170.out.lt
      obtain ⟨R_X, hR_X⟩ : ∃ X, X = W169.heap.size := ⟨_, rfl⟩
      rw [← hR_X] at X197_X HG_X BX_X_y HN_X_T HN_X_A HN_X_U ⊢
      clear hR_X
      have HB_198 := Lib.hid (HB_170.out.trans (l197.mono HB_170.out.size))
      have y_198 := Lib.hid (ownz_below y_170.out l197 (Nat.le_refl _))
      clear y_170
      have T_198 := Lib.hid (T_170.out.below l197 T_170.out.lt)
      clear T_170
      have A_198 := Lib.hid (A_170.out.below l197 A_170.out.lt)
      clear A_170
      have U_198 := Lib.hid (U_170.out.below l197 U_170.out.lt)
      clear U_170
      clear l197
      have c199_T_0 := T_198.out.at 0 (v := .int .i64 t) rfl
      have c199_T_1 := T_198.out.at 1 (v := .int .i64 z) rfl
      have c199_T_2 := T_198.out.at 2 (v := .slice a q.length cap) rfl
      have c199_T_3 := T_198.out.at 3 (v := .int .i64 c) rfl
      have c199_T_4 := T_198.out.at 4 (v := .int .i64 u) rfl
      have c199_T_5 := T_198.out.at 5 (v := .slice b h.length caph) rfl
      have c200_A_0 := A_198.out.at 0 (v := .int .i64 0) rfl
      have c200_A_1 := A_198.out.at 1 (v := .int .i64 0) rfl
      have c200_A_2 := A_198.out.at 2 (v := .slice none 0 0) rfl
      have c200_A_3 := A_198.out.at 3 (v := .int .i64 0) rfl
      have c200_A_4 := A_198.out.at 4 (v := .int .i64 0) rfl
      have c200_A_5 := A_198.out.at 5 (v := .slice none 0 0) rfl
      have c201_U_0 := U_198.out.at 0 (v := .int .i64 t) rfl
      have c201_U_1 := U_198.out.at 1 (v := .int .i64 z) rfl
      have c201_U_2 := U_198.out.at 2 (v := .slice a_y q.length c_y) rfl
      have c202_X_0 := X197_X.out.at 0 (v := .int .i64 0) rfl
      have c202_X_1 := X197_X.out.at 1 (v := .int .i64 0) rfl
      have c202_X_2 := X197_X.out.at 2 (v := .slice none 0 0) rfl
      have c202_X_3 := X197_X.out.at 3 (v := .int .i64 0) rfl
      have c202_X_4 := X197_X.out.at 4 (v := .int .i64 0) rfl
      have c202_X_5 := X197_X.out.at 5 (v := .slice none 0 0) rfl
      clear c199_T_0 c199_T_1 c199_T_2 c199_T_3 c199_T_4 c199_T_5
      clear c200_A_0 c200_A_1 c200_A_2 c200_A_3 c200_A_4 c200_A_5
      clear c201_U_0 c201_U_1 c201_U_2
      clear c202_X_0 c202_X_1 c202_X_2 c202_X_3 c202_X_4 c202_X_5
      refine hK.out _ _ ?S20 (fun hHeld20 => ?rest20)
      case S20 =>
        (try dsimp only)
        exact ⟨T_198.out.at 0 (v := .int .i64 t) rfl, T_198.out.at 1 (v := .int .i64 z) rfl, T_198.out.at 2 (v := .slice a q.length cap) rfl, T_198.out.at 3 (v := .int .i64 c) rfl, T_198.out.at 4 (v := .int .i64 u) rfl, T_198.out.at 5 (v := .slice b h.length caph) rfl, U_198.out.at 0 (v := .int .i64 t) rfl, U_198.out.at 1 (v := .int .i64 z) rfl, U_198.out.at 2 (v := .slice a_y q.length c_y) rfl, HB_198.out⟩
      case rest20 =>
        clear hK K
        clear hHeld
        (try simp only [Act.put, List.setIfInBounds_toArray, List.set_cons_zero, List.set_cons_succ])
        refine wpAnyH_ready (rs := [13]) (by kernel_rfl) (by simp) ?_
        refine AllReadyH.cons rfl (fun K hK => ?_) AllReadyH.nil
        have c203_T_0 := T_198.out.at 0 (v := .int .i64 t) rfl
        have c203_T_1 := T_198.out.at 1 (v := .int .i64 z) rfl
        have c203_T_2 := T_198.out.at 2 (v := .slice a q.length cap) rfl
        have c203_T_3 := T_198.out.at 3 (v := .int .i64 c) rfl
        have c203_T_4 := T_198.out.at 4 (v := .int .i64 u) rfl
        have c203_T_5 := T_198.out.at 5 (v := .slice b h.length caph) rfl
        have c204_A_0 := A_198.out.at 0 (v := .int .i64 0) rfl
        have c204_A_1 := A_198.out.at 1 (v := .int .i64 0) rfl
        have c204_A_2 := A_198.out.at 2 (v := .slice none 0 0) rfl
        have c204_A_3 := A_198.out.at 3 (v := .int .i64 0) rfl
        have c204_A_4 := A_198.out.at 4 (v := .int .i64 0) rfl
        have c204_A_5 := A_198.out.at 5 (v := .slice none 0 0) rfl
        have c205_U_0 := U_198.out.at 0 (v := .int .i64 t) rfl
        have c205_U_1 := U_198.out.at 1 (v := .int .i64 z) rfl
        have c205_U_2 := U_198.out.at 2 (v := .slice a_y q.length c_y) rfl
        have c206_X_0 := X197_X.out.at 0 (v := .int .i64 0) rfl
        have c206_X_1 := X197_X.out.at 1 (v := .int .i64 0) rfl
        have c206_X_2 := X197_X.out.at 2 (v := .slice none 0 0) rfl
        have c206_X_3 := X197_X.out.at 3 (v := .int .i64 0) rfl
        have c206_X_4 := X197_X.out.at 4 (v := .int .i64 0) rfl
        have c206_X_5 := X197_X.out.at 5 (v := .slice none 0 0) rfl
        go_simp
        go_at_call 99
        refine (HHo.out _ _ (rowz_own y_198.out) (HH.out.below HB_198.out (Nat.le_refl _))).mono ?_
        rintro e W207 ⟨v_k, rfl, o_k, l207⟩
        obtain ⟨a_k, c_k, rfl, _, _⟩ := ownz_slice o_k
        have AP_y_k : Hid (∀ k, (.slice a_y q.length c_y : Value).ownBlock = some k → (.slice a_k kp.length c_k : Value).ownBlock ≠ some k) := Lib.hid (fun k h1 h2 => absurd (y_198.out.lt k h1).2 (Nat.not_lt.2 (o_k.lt k h2).1))
        have O_k := Lib.hid (ownz_base o_k HB_198.out.size)
        have BX_T_k : Hid (∀ k, (.slice a_k kp.length c_k : Value).ownBlock = some k → k ≠ R_T) := Lib.hid (fun k h1 h2 => absurd T_198.out.lt (Nat.not_lt.2 (by rw [← h2]; exact (o_k.lt k h1).1)))
        have BX_A_k : Hid (∀ k, (.slice a_k kp.length c_k : Value).ownBlock = some k → k ≠ R_A) := Lib.hid (fun k h1 h2 => absurd A_198.out.lt (Nat.not_lt.2 (by rw [← h2]; exact (o_k.lt k h1).1)))
        have BX_U_k : Hid (∀ k, (.slice a_k kp.length c_k : Value).ownBlock = some k → k ≠ R_U) := Lib.hid (fun k h1 h2 => absurd U_198.out.lt (Nat.not_lt.2 (by rw [← h2]; exact (o_k.lt k h1).1)))
        have BX_X_k : Hid (∀ k, (.slice a_k kp.length c_k : Value).ownBlock = some k → k ≠ R_X) := Lib.hid (fun k h1 h2 => absurd X197_X.out.lt (Nat.not_lt.2 (by rw [← h2]; exact (o_k.lt k h1).1)))
        clear o_k
        clear c203_T_0 c203_T_1 c203_T_2 c203_T_3 c203_T_4 c203_T_5
        clear c204_A_0 c204_A_1 c204_A_2 c204_A_3 c204_A_4 c204_A_5
        clear c205_U_0 c205_U_1 c205_U_2
        clear c206_X_0 c206_X_1 c206_X_2 c206_X_3 c206_X_4 c206_X_5
        have HB_208 := Lib.hid (HB_198.out.trans (l207.mono HB_198.out.size))
        have y_208 := Lib.hid (ownz_below y_198.out l207 (Nat.le_refl _))
        clear y_198
        have T_208 := Lib.hid (T_198.out.below l207 T_198.out.lt)
        clear T_198
        have A_208 := Lib.hid (A_198.out.below l207 A_198.out.lt)
        clear A_198
        have U_208 := Lib.hid (U_198.out.below l207 U_198.out.lt)
        clear U_198
        have X_208 := Lib.hid (X197_X.out.below l207 X197_X.out.lt)
        clear X197_X
        clear l207
        have c209_T_0 := T_208.out.at 0 (v := .int .i64 t) rfl
        have c209_T_1 := T_208.out.at 1 (v := .int .i64 z) rfl
        have c209_T_2 := T_208.out.at 2 (v := .slice a q.length cap) rfl
        have c209_T_3 := T_208.out.at 3 (v := .int .i64 c) rfl
        have c209_T_4 := T_208.out.at 4 (v := .int .i64 u) rfl
        have c209_T_5 := T_208.out.at 5 (v := .slice b h.length caph) rfl
        have c210_A_0 := A_208.out.at 0 (v := .int .i64 0) rfl
        have c210_A_1 := A_208.out.at 1 (v := .int .i64 0) rfl
        have c210_A_2 := A_208.out.at 2 (v := .slice none 0 0) rfl
        have c210_A_3 := A_208.out.at 3 (v := .int .i64 0) rfl
        have c210_A_4 := A_208.out.at 4 (v := .int .i64 0) rfl
        have c210_A_5 := A_208.out.at 5 (v := .slice none 0 0) rfl
        have c211_U_0 := U_208.out.at 0 (v := .int .i64 t) rfl
        have c211_U_1 := U_208.out.at 1 (v := .int .i64 z) rfl
        have c211_U_2 := U_208.out.at 2 (v := .slice a_y q.length c_y) rfl
        have c212_X_0 := X_208.out.at 0 (v := .int .i64 0) rfl
        have c212_X_1 := X_208.out.at 1 (v := .int .i64 0) rfl
        have c212_X_2 := X_208.out.at 2 (v := .slice none 0 0) rfl
        have c212_X_3 := X_208.out.at 3 (v := .int .i64 0) rfl
        have c212_X_4 := X_208.out.at 4 (v := .int .i64 0) rfl
        have c212_X_5 := X_208.out.at 5 (v := .slice none 0 0) rfl
        clear c209_T_0 c209_T_1 c209_T_2 c209_T_3 c209_T_4 c209_T_5
        clear c210_A_0 c210_A_1 c210_A_2 c210_A_3 c210_A_4 c210_A_5
        clear c211_U_0 c211_U_1 c211_U_2
        clear c212_X_0 c212_X_1 c212_X_2 c212_X_3 c212_X_4 c212_X_5
        refine hK.out _ _ ?S21 (fun hHeld21 => ?rest21)
        case S21 =>
          (try dsimp only)
          exact ⟨T_208.out.at 0 (v := .int .i64 t) rfl, T_208.out.at 1 (v := .int .i64 z) rfl, T_208.out.at 2 (v := .slice a q.length cap) rfl, T_208.out.at 3 (v := .int .i64 c) rfl, T_208.out.at 4 (v := .int .i64 u) rfl, T_208.out.at 5 (v := .slice b h.length caph) rfl, U_208.out.at 0 (v := .int .i64 t) rfl, U_208.out.at 1 (v := .int .i64 z) rfl, U_208.out.at 2 (v := .slice a_y q.length c_y) rfl, HB_208.out⟩
        case rest21 =>
          clear hK K
          clear hHeld20
          (try simp only [Act.put, List.setIfInBounds_toArray, List.set_cons_zero, List.set_cons_succ])
          (refine wpAnyH_take (i := 14) (oi := { dst := some 23, op := Go.Op.build 29 #[(0, Go.Operand.tmp 9), (1, Go.Operand.tmp 12), (2, Go.Operand.tmp 15), (3, Go.Operand.tmp 22)], type := 29, pos := "l11_source.go:102", after := #[{ on := 0, ground := Go.Ground.data }, { on := 3, ground := Go.Ground.data }, { on := 6, ground := Go.Ground.data }, { on := 13, ground := Go.Ground.data }], guard := none }) (v := (.agg #[.int .i64 t, .int .i64 z, .slice a_y q.length c_y, .int .i64 (c + 1), .int .i64 (u + 1), .slice a_k kp.length c_k])) rfl (by kernel_rfl) (by kernel_rfl) (by kernel_rfl) (fun _ _ _ h => h) (Or.inl ⟨by rfl, ?_⟩) (by assumption) ?_; (focus (intro w' hSw; (try dsimp only at hSw); go_simp; (try with_reducible rfl))); (try simp only [Act.put, List.setIfInBounds_toArray, List.set_cons_zero, List.set_cons_succ]))
          refine wpAnyH_ready (rs := [16]) (by kernel_rfl) (by simp) ?_
          refine AllReadyH.cons rfl (fun K hK => ?_) AllReadyH.nil
          have c213_X_0 := X_208.out.at 0 (v := .int .i64 0) rfl
          have c213_X_1 := X_208.out.at 1 (v := .int .i64 0) rfl
          have c213_X_2 := X_208.out.at 2 (v := .slice none 0 0) rfl
          have c213_X_3 := X_208.out.at 3 (v := .int .i64 0) rfl
          have c213_X_4 := X_208.out.at 4 (v := .int .i64 0) rfl
          have c213_X_5 := X_208.out.at 5 (v := .slice none 0 0) rfl
          have fr214_X_0 := X_208.out.free 0
          have fr214_X_1 := X_208.out.free 1
          have fr214_X_2 := X_208.out.free 2
          have fr214_X_3 := X_208.out.free 3
          have fr214_X_4 := X_208.out.free 4
          have fr214_X_5 := X_208.out.free 5
          go_simp
          clear c213_X_0 c213_X_1 c213_X_2 c213_X_3 c213_X_4 c213_X_5
          clear fr214_X_0 fr214_X_1 fr214_X_2 fr214_X_3 fr214_X_4 fr214_X_5
          obtain ⟨p215, q215⟩ := X_208.out.store6 (.int .i64 t) (.int .i64 z) (.slice a_y q.length c_y) (.int .i64 (c + 1)) (.int .i64 (u + 1)) (.slice a_k kp.length c_k)
          obtain ⟨W215, hW215⟩ : ∃ W215, W215 = ((((((W207.setCell ⟨R_X, 0, none⟩ (.int .i64 t)).setCell ⟨R_X, 1, none⟩ (.int .i64 z)).setCell ⟨R_X, 2, none⟩ (.slice a_y q.length c_y)).setCell ⟨R_X, 3, none⟩ (.int .i64 (c + 1))).setCell ⟨R_X, 4, none⟩ (.int .i64 (u + 1))).setCell ⟨R_X, 5, none⟩ (.slice a_k kp.length c_k)) := ⟨_, rfl⟩
          rw [← hW215] at p215 q215 ⊢
          have X215_X : Hid (Bx W215 R_X #[.int .i64 t, .int .i64 z, .slice a_y q.length c_y, .int .i64 (c + 1), .int .i64 (u + 1), .slice a_k kp.length c_k] 29) := Lib.hid p215
          have HB_216 := Lib.hid (HB_208.out.grown q215 HB_208.out.size (fun k hk => by have e2 : R_X = k := Option.some.inj hk; have := HG_X.out; omega))
          have y_216 := Lib.hid (y_208.out.kept q215 (by
            cases hv : (.slice a_y q.length c_y : Value).ownBlock with
            | none => exact .inl rfl
            | some k => exact .inr (fun e => BX_X_y.out k hv (Option.some.inj e))))
          clear y_208
          have k_216 := Lib.hid (O_k.out.kept q215 (by
            cases hv : (.slice a_k kp.length c_k : Value).ownBlock with
            | none => exact .inl rfl
            | some k => exact .inr (fun e => BX_X_k.out k hv (Option.some.inj e))))
          clear O_k
          have T_216 := Lib.hid (T_208.out.grown q215 (by intro e; have e2 : R_T = R_X := Option.some.inj e; have h1 := HN_X_T.out; omega))
          clear T_208
          have A_216 := Lib.hid (A_208.out.grown q215 (by intro e; have e2 : R_A = R_X := Option.some.inj e; have h1 := HN_X_A.out; omega))
          clear A_208
          have U_216 := Lib.hid (U_208.out.grown q215 (by intro e; have e2 : R_U = R_X := Option.some.inj e; have h1 := HN_X_U.out; omega))
          clear U_208
          clear X_208
          clear hW215 p215 q215
          have c217_T_0 := T_216.out.at 0 (v := .int .i64 t) rfl
          have c217_T_1 := T_216.out.at 1 (v := .int .i64 z) rfl
          have c217_T_2 := T_216.out.at 2 (v := .slice a q.length cap) rfl
          have c217_T_3 := T_216.out.at 3 (v := .int .i64 c) rfl
          have c217_T_4 := T_216.out.at 4 (v := .int .i64 u) rfl
          have c217_T_5 := T_216.out.at 5 (v := .slice b h.length caph) rfl
          have c218_A_0 := A_216.out.at 0 (v := .int .i64 0) rfl
          have c218_A_1 := A_216.out.at 1 (v := .int .i64 0) rfl
          have c218_A_2 := A_216.out.at 2 (v := .slice none 0 0) rfl
          have c218_A_3 := A_216.out.at 3 (v := .int .i64 0) rfl
          have c218_A_4 := A_216.out.at 4 (v := .int .i64 0) rfl
          have c218_A_5 := A_216.out.at 5 (v := .slice none 0 0) rfl
          have c219_U_0 := U_216.out.at 0 (v := .int .i64 t) rfl
          have c219_U_1 := U_216.out.at 1 (v := .int .i64 z) rfl
          have c219_U_2 := U_216.out.at 2 (v := .slice a_y q.length c_y) rfl
          have c220_X_0 := X215_X.out.at 0 (v := .int .i64 t) rfl
          have c220_X_1 := X215_X.out.at 1 (v := .int .i64 z) rfl
          have c220_X_2 := X215_X.out.at 2 (v := .slice a_y q.length c_y) rfl
          have c220_X_3 := X215_X.out.at 3 (v := .int .i64 (c + 1)) rfl
          have c220_X_4 := X215_X.out.at 4 (v := .int .i64 (u + 1)) rfl
          have c220_X_5 := X215_X.out.at 5 (v := .slice a_k kp.length c_k) rfl
          clear c217_T_0 c217_T_1 c217_T_2 c217_T_3 c217_T_4 c217_T_5
          clear c218_A_0 c218_A_1 c218_A_2 c218_A_3 c218_A_4 c218_A_5
          clear c219_U_0 c219_U_1 c219_U_2
          clear c220_X_0 c220_X_1 c220_X_2 c220_X_3 c220_X_4 c220_X_5
          refine hK.out _ _ ?S22 (fun hHeld22 => ?rest22)
          case S22 =>
            (try dsimp only)
            exact ⟨T_216.out.at 0 (v := .int .i64 t) rfl, T_216.out.at 1 (v := .int .i64 z) rfl, T_216.out.at 2 (v := .slice a q.length cap) rfl, T_216.out.at 3 (v := .int .i64 c) rfl, T_216.out.at 4 (v := .int .i64 u) rfl, T_216.out.at 5 (v := .slice b h.length caph) rfl, U_216.out.at 0 (v := .int .i64 t) rfl, U_216.out.at 1 (v := .int .i64 z) rfl, U_216.out.at 2 (v := .slice a_y q.length c_y) rfl, HB_216.out⟩
          case rest22 =>
            clear hK K
            clear hHeld21
            (try simp only [Act.put, List.setIfInBounds_toArray, List.set_cons_zero, List.set_cons_succ])
            refine wpAnyH_done (by kernel_rfl) ?_ _
            clear hHeld22
            have c221_T_0 := T_216.out.at 0 (v := .int .i64 t) rfl
            have c221_T_1 := T_216.out.at 1 (v := .int .i64 z) rfl
            have c221_T_2 := T_216.out.at 2 (v := .slice a q.length cap) rfl
            have c221_T_3 := T_216.out.at 3 (v := .int .i64 c) rfl
            have c221_T_4 := T_216.out.at 4 (v := .int .i64 u) rfl
            have c221_T_5 := T_216.out.at 5 (v := .slice b h.length caph) rfl
            have c222_A_0 := A_216.out.at 0 (v := .int .i64 0) rfl
            have c222_A_1 := A_216.out.at 1 (v := .int .i64 0) rfl
            have c222_A_2 := A_216.out.at 2 (v := .slice none 0 0) rfl
            have c222_A_3 := A_216.out.at 3 (v := .int .i64 0) rfl
            have c222_A_4 := A_216.out.at 4 (v := .int .i64 0) rfl
            have c222_A_5 := A_216.out.at 5 (v := .slice none 0 0) rfl
            have c223_U_0 := U_216.out.at 0 (v := .int .i64 t) rfl
            have c223_U_1 := U_216.out.at 1 (v := .int .i64 z) rfl
            have c223_U_2 := U_216.out.at 2 (v := .slice a_y q.length c_y) rfl
            have c224_X_0 := X215_X.out.at 0 (v := .int .i64 t) rfl
            have c224_X_1 := X215_X.out.at 1 (v := .int .i64 z) rfl
            have c224_X_2 := X215_X.out.at 2 (v := .slice a_y q.length c_y) rfl
            have c224_X_3 := X215_X.out.at 3 (v := .int .i64 (c + 1)) rfl
            have c224_X_4 := X215_X.out.at 4 (v := .int .i64 (u + 1)) rfl
            have c224_X_5 := X215_X.out.at 5 (v := .slice a_k kp.length c_k) rfl
            have hAl := A_216.out.alloc (.cells #[] 64)
            have z0 := hAl.at 0 (v := .int .i64 0) rfl
            have y0 := hAl.free 0
            have z1 := hAl.at 1 (v := .int .i64 0) rfl
            have y1 := hAl.free 1
            have z2 := hAl.at 2 (v := .slice none 0 0) rfl
            have y2 := hAl.free 2
            have z3 := hAl.at 3 (v := .int .i64 0) rfl
            have y3 := hAl.free 3
            have z4 := hAl.at 4 (v := .int .i64 0) rfl
            have y4 := hAl.free 4
            have z5 := hAl.at 5 (v := .slice none 0 0) rfl
            have y5 := hAl.free 5
            have HAl := Lib.hid hAl
            clear hAl
            go_wp2_with fail
            obtain ⟨p1, q1⟩ := HAl.out.store6 (.int .i64 t) (.int .i64 z) (.slice a_y q.length c_y) (.int .i64 (c + 1)) (.int .i64 (u + 1)) (.slice a_k kp.length c_k)
            have hB9 := HB_216.out.alloc HB_216.out.size (.cells #[] 64)
            refine bodyPost_ret (results_bx1 rfl isSo _ _ R_A rfl rfl rfl p1) rfl ⟨_, _, _, rfl, ?_, ?_, AP_y_k.out, ?_, ?_, ?_, hB9.grown q1 hB9.size (fun k hk => by have e2 : R_A = k := Option.some.inj hk; have := HR_A.out; omega)⟩
            · exact (ownz_below y_216.out ((Below.refl _ _).alloc (Nat.le_refl _) (.cells #[] 64)) (Nat.le_refl _)).kept q1 (by
              cases hv : (.slice a_y q.length c_y : Value).ownBlock with
              | none => exact .inl rfl
              | some k => exact .inr (fun e => BX_A_y.out k hv (Option.some.inj e)))
            · exact (ownz_below k_216.out ((Below.refl _ _).alloc (Nat.le_refl _) (.cells #[] 64)) (Nat.le_refl _)).kept q1 (by
              cases hv : (.slice a_k kp.length c_k : Value).ownBlock with
              | none => exact .inl rfl
              | some k => exact .inr (fun e => BX_A_k.out k hv (Option.some.inj e)))
            · exact (litz W215 w.heap.size 64 5 HB_216.out.size).kept q1 (.inr (fun e => by have e2 : W215.heap.size = R_A := Option.some.inj e; have h1 := A_216.out.lt; omega))
            · exact fun k h1 h2 => by have e2 : W215.heap.size = k := Option.some.inj h2; have h3 := (y_216.out.lt k h1).2; omega
            · exact fun k h1 h2 => by have e2 : W215.heap.size = k := Option.some.inj h2; have h3 := (k_216.out.lt k h1).2; omega
set_option maxRecDepth 100000 in
set_option maxHeartbeats 8000000 in
theorem specTick_any (v hv : Value) (s : So) (w : World) (hrow : Row w v s.w.q.length (s.w.q.map Value.string)) (hhr : Row w hv s.h.length (hdF s.h)) (hs : ∀ x ∈ s.w.q, x.size ≤ maxLen) (hfit : FitA v s.w.q.length) :
    Calls Try.prog 39 #[.agg #[.int .i64 s.w.t, .int .i64 s.w.z, v, .int .i64 s.c, .int .i64 s.u, hv]] w fun e w' => ∃ v' hv' pv, e = .returned (.tuple #[.agg #[.int .i64 (tickV s).w.t, .int .i64 (tickV s).w.z, v', .int .i64 (tickV s).c, .int .i64 (tickV s).u, hv'], pv, .bool (tickOk s)]) ∧ w'.ownsRow w.heap.size 9 1 v' (tickV s).w.q.length ((tickV s).w.q.map Value.string) ∧ w'.ownsRow w.heap.size 82 2 hv' (tickV s).h.length (hdF (tickV s).h) ∧ (∀ k, v'.ownBlock = some k → hv'.ownBlock ≠ some k) ∧ w'.ownsRow w.heap.size 64 5 pv (tickL s).length (pqF (tickL s)) ∧ (∀ k, v'.ownBlock = some k → pv.ownBlock ≠ some k) ∧ (∀ k, hv'.ownBlock = some k → pv.ownBlock ≠ some k) ∧ Below w.heap.size w w' := by
  obtain ⟨⟨t, z, q⟩, c, u, h⟩ := s
  dsimp only at hrow hhr hs ⊢
  obtain ⟨a, cap, rfl, hc1, hm1, -⟩ := row_open hrow
  obtain ⟨b, caph, rfl, hc2, hm2, -⟩ := hd_open hhr
  unfold maxLen at hm1 hm2
  have HP := Lib.hid hrow
  have HH := Lib.hid hhr
  clear hrow hhr
  have HS := Lib.hid hs
  clear hs
  have HFit := Lib.hid hfit
  clear hfit
  dsimp only at HFit
  obtain ⟨W0, R_T, R_A, hW0, hR_T, hR_A, hX_T, hX_A, hB0⟩ := entry2 w #[.int .i64 t, .int .i64 z, .slice a q.length cap, .int .i64 c, .int .i64 u, .slice b h.length caph] #[.int .i64 0, .int .i64 0, .slice none 0 0, .int .i64 0, .int .i64 0, .slice none 0 0] 29 29
  have HW0 := Lib.hid hW0
  have HB0 := Lib.hid hB0
  have HR_T := Lib.hid hR_T
  have HX_T := Lib.hid hX_T
  have HR_A := Lib.hid hR_A
  have HX_A := Lib.hid hX_A
  clear hW0 hB0 hR_T hX_T hR_A hX_A
  have HG := Lib.hid (fun (W1 : World) (hr : Row W1 (.slice a q.length cap) q.length (q.map Value.string)) (hh : Row W1 (.slice b h.length caph) h.length (hdF h)) => l11Good_any (.slice a q.length cap) (.slice b h.length caph) ⟨⟨t, z, q⟩, c, u, h⟩ W1 hr hh HS.out)
  cases ok : soOk ⟨⟨t, z, q⟩, c, u, h⟩ with
  | false =>
    rw [ok] at HG
    have ho : tickOk ⟨⟨t, z, q⟩, c, u, h⟩ = false := by unfold tickOk; rw [ok]; rfl
    have hv : tickV ⟨⟨t, z, q⟩, c, u, h⟩ = so0 := by unfold tickV; rw [ho]; rfl
    have hl : tickL ⟨⟨t, z, q⟩, c, u, h⟩ = [] := by unfold tickL; rw [ho]; rfl
    rw [hv, ho, hl]
    clear hv ho hl
    (try clear hc)
    dsimp only [so0, sw0]
    have c225_T_0 := HX_T.out.at 0 (v := .int .i64 t) rfl
    have c225_T_1 := HX_T.out.at 1 (v := .int .i64 z) rfl
    have c225_T_2 := HX_T.out.at 2 (v := .slice a q.length cap) rfl
    have c225_T_3 := HX_T.out.at 3 (v := .int .i64 c) rfl
    have c225_T_4 := HX_T.out.at 4 (v := .int .i64 u) rfl
    have c225_T_5 := HX_T.out.at 5 (v := .slice b h.length caph) rfl
    have c226_A_0 := HX_A.out.at 0 (v := .int .i64 0) rfl
    have c226_A_1 := HX_A.out.at 1 (v := .int .i64 0) rfl
    have c226_A_2 := HX_A.out.at 2 (v := .slice none 0 0) rfl
    have c226_A_3 := HX_A.out.at 3 (v := .int .i64 0) rfl
    have c226_A_4 := HX_A.out.at 4 (v := .int .i64 0) rfl
    have c226_A_5 := HX_A.out.at 5 (v := .slice none 0 0) rfl
    go_enter Try.func39, Try.ntmps39
    go_upto_region 1 with fail
    rw [← HW0.out, ← HR_A.out, ← HR_T.out]
    go_wp2_with fail
    refine (HG.out _ (HP.out.below HB0.out (Nat.le_refl _)) (HH.out.below HB0.out (Nat.le_refl _))).mono ?_
    rintro e W227 ⟨rfl, l227⟩
    clear c225_T_0 c225_T_1 c225_T_2 c225_T_3 c225_T_4 c225_T_5
    clear c226_A_0 c226_A_1 c226_A_2 c226_A_3 c226_A_4 c226_A_5
    have HB_228 := Lib.hid (HB0.out.trans (l227.mono HB0.out.size))
    have T_228 := Lib.hid (HX_T.out.below l227 HX_T.out.lt)
    have A_228 := Lib.hid (HX_A.out.below l227 HX_A.out.lt)
    clear l227
    have c229_T_0 := T_228.out.at 0 (v := .int .i64 t) rfl
    have c229_T_1 := T_228.out.at 1 (v := .int .i64 z) rfl
    have c229_T_2 := T_228.out.at 2 (v := .slice a q.length cap) rfl
    have c229_T_3 := T_228.out.at 3 (v := .int .i64 c) rfl
    have c229_T_4 := T_228.out.at 4 (v := .int .i64 u) rfl
    have c229_T_5 := T_228.out.at 5 (v := .slice b h.length caph) rfl
    have c230_A_0 := A_228.out.at 0 (v := .int .i64 0) rfl
    have c230_A_1 := A_228.out.at 1 (v := .int .i64 0) rfl
    have c230_A_2 := A_228.out.at 2 (v := .slice none 0 0) rfl
    have c230_A_3 := A_228.out.at 3 (v := .int .i64 0) rfl
    have c230_A_4 := A_228.out.at 4 (v := .int .i64 0) rfl
    have c230_A_5 := A_228.out.at 5 (v := .slice none 0 0) rfl
    have hAl := A_228.out.alloc (.cells #[] 64)
    have z0 := hAl.at 0 (v := .int .i64 0) rfl
    have y0 := hAl.free 0
    have z1 := hAl.at 1 (v := .int .i64 0) rfl
    have y1 := hAl.free 1
    have z2 := hAl.at 2 (v := .slice none 0 0) rfl
    have y2 := hAl.free 2
    have z3 := hAl.at 3 (v := .int .i64 0) rfl
    have y3 := hAl.free 3
    have z4 := hAl.at 4 (v := .int .i64 0) rfl
    have y4 := hAl.free 4
    have z5 := hAl.at 5 (v := .slice none 0 0) rfl
    have y5 := hAl.free 5
    have HAl := Lib.hid hAl
    clear hAl
    go_wp2_with fail
    obtain ⟨p1, q1⟩ := HAl.out.store6 (.int .i64 0) (.int .i64 0) (.slice none 0 0) (.int .i64 0) (.int .i64 0) (.slice none 0 0)
    have hB9 := HB_228.out.alloc HB_228.out.size (.cells #[] 64)
    refine bodyPost_ret (results_bx2 rfl isSo _ _ R_A rfl rfl rfl rfl p1) rfl ?_
    exact ⟨_, _, _, rfl, World.ownsRow_nil _ _ _ _, World.ownsRow_nil _ _ _ _, (fun k h => by cases h), (litz W227 w.heap.size 64 5 HB_228.out.size).kept q1 (.inr (fun e => by have e2 : W227.heap.size = R_A := Option.some.inj e; have h1 := A_228.out.lt; omega)), (fun k h => by cases h), (fun k h => by cases h), hB9.grown q1 hB9.size (fun k hk => by have e2 : R_A = k := Option.some.inj hk; have := HR_A.out; omega)⟩
  | true =>
    rw [ok] at HG
    by_cases hc : c = 9999
    · have i1 : ((c : Int) == 9999) = true := by rw [beq_iff_eq]; exact hc
      have ho : tickOk ⟨⟨t, z, q⟩, c, u, h⟩ = false := by unfold tickOk; rw [ok, hc]; rfl
      have hv : tickV ⟨⟨t, z, q⟩, c, u, h⟩ = so0 := by unfold tickV; rw [ho]; rfl
      have hl : tickL ⟨⟨t, z, q⟩, c, u, h⟩ = [] := by unfold tickL; rw [ho]; rfl
      rw [hv, ho, hl]
      clear hv ho hl
      (try clear hc)
      dsimp only [so0, sw0]
      have c231_T_0 := HX_T.out.at 0 (v := .int .i64 t) rfl
      have c231_T_1 := HX_T.out.at 1 (v := .int .i64 z) rfl
      have c231_T_2 := HX_T.out.at 2 (v := .slice a q.length cap) rfl
      have c231_T_3 := HX_T.out.at 3 (v := .int .i64 c) rfl
      have c231_T_4 := HX_T.out.at 4 (v := .int .i64 u) rfl
      have c231_T_5 := HX_T.out.at 5 (v := .slice b h.length caph) rfl
      have c232_A_0 := HX_A.out.at 0 (v := .int .i64 0) rfl
      have c232_A_1 := HX_A.out.at 1 (v := .int .i64 0) rfl
      have c232_A_2 := HX_A.out.at 2 (v := .slice none 0 0) rfl
      have c232_A_3 := HX_A.out.at 3 (v := .int .i64 0) rfl
      have c232_A_4 := HX_A.out.at 4 (v := .int .i64 0) rfl
      have c232_A_5 := HX_A.out.at 5 (v := .slice none 0 0) rfl
      go_enter Try.func39, Try.ntmps39
      go_upto_region 1 with fail
      rw [← HW0.out, ← HR_A.out, ← HR_T.out]
      go_wp2_with fail
      refine (HG.out _ (HP.out.below HB0.out (Nat.le_refl _)) (HH.out.below HB0.out (Nat.le_refl _))).mono ?_
      rintro e W233 ⟨rfl, l233⟩
      clear c231_T_0 c231_T_1 c231_T_2 c231_T_3 c231_T_4 c231_T_5
      clear c232_A_0 c232_A_1 c232_A_2 c232_A_3 c232_A_4 c232_A_5
      have HB_234 := Lib.hid (HB0.out.trans (l233.mono HB0.out.size))
      have T_234 := Lib.hid (HX_T.out.below l233 HX_T.out.lt)
      have A_234 := Lib.hid (HX_A.out.below l233 HX_A.out.lt)
      clear l233
      have c235_T_0 := T_234.out.at 0 (v := .int .i64 t) rfl
      have c235_T_1 := T_234.out.at 1 (v := .int .i64 z) rfl
      have c235_T_2 := T_234.out.at 2 (v := .slice a q.length cap) rfl
      have c235_T_3 := T_234.out.at 3 (v := .int .i64 c) rfl
      have c235_T_4 := T_234.out.at 4 (v := .int .i64 u) rfl
      have c235_T_5 := T_234.out.at 5 (v := .slice b h.length caph) rfl
      have c236_A_0 := A_234.out.at 0 (v := .int .i64 0) rfl
      have c236_A_1 := A_234.out.at 1 (v := .int .i64 0) rfl
      have c236_A_2 := A_234.out.at 2 (v := .slice none 0 0) rfl
      have c236_A_3 := A_234.out.at 3 (v := .int .i64 0) rfl
      have c236_A_4 := A_234.out.at 4 (v := .int .i64 0) rfl
      have c236_A_5 := A_234.out.at 5 (v := .slice none 0 0) rfl
      have hAl := A_234.out.alloc (.cells #[] 64)
      have z0 := hAl.at 0 (v := .int .i64 0) rfl
      have y0 := hAl.free 0
      have z1 := hAl.at 1 (v := .int .i64 0) rfl
      have y1 := hAl.free 1
      have z2 := hAl.at 2 (v := .slice none 0 0) rfl
      have y2 := hAl.free 2
      have z3 := hAl.at 3 (v := .int .i64 0) rfl
      have y3 := hAl.free 3
      have z4 := hAl.at 4 (v := .int .i64 0) rfl
      have y4 := hAl.free 4
      have z5 := hAl.at 5 (v := .slice none 0 0) rfl
      have y5 := hAl.free 5
      have HAl := Lib.hid hAl
      clear hAl
      go_wp2_with fail
      obtain ⟨p1, q1⟩ := HAl.out.store6 (.int .i64 0) (.int .i64 0) (.slice none 0 0) (.int .i64 0) (.int .i64 0) (.slice none 0 0)
      have hB9 := HB_234.out.alloc HB_234.out.size (.cells #[] 64)
      refine bodyPost_ret (results_bx2 rfl isSo _ _ R_A rfl rfl rfl rfl p1) rfl ?_
      exact ⟨_, _, _, rfl, World.ownsRow_nil _ _ _ _, World.ownsRow_nil _ _ _ _, (fun k h => by cases h), (litz W233 w.heap.size 64 5 HB_234.out.size).kept q1 (.inr (fun e => by have e2 : W233.heap.size = R_A := Option.some.inj e; have h1 := A_234.out.lt; omega)), (fun k h => by cases h), (fun k h => by cases h), hB9.grown q1 hB9.size (fun k hk => by have e2 : R_A = k := Option.some.inj hk; have := HR_A.out; omega)⟩
    have i1 : ((c : Int) == 9999) = false := by rw [beq_eq_false_iff_ne]; exact hc
    have ho : tickOk ⟨⟨t, z, q⟩, c, u, h⟩ = true := by unfold tickOk; rw [ok, decide_eq_true hc]; rfl
    have hv : tickV ⟨⟨t, z, q⟩, c, u, h⟩ = tickW ⟨⟨t, z, q⟩, c, u, h⟩ := if_pos ho
    have hl : tickL ⟨⟨t, z, q⟩, c, u, h⟩ = tickE ⟨⟨t, z, q⟩, c, u, h⟩ := if_pos ho
    rw [hv, ho, hl]
    have HTi := Lib.hid (fun (W1 : World) (hr : Row W1 (.slice a q.length cap) q.length (q.map Value.string)) (hh : Row W1 (.slice b h.length caph) h.length (hdF h)) => l11Tick_any (.slice a q.length cap) (.slice b h.length caph) ⟨⟨t, z, q⟩, c, u, h⟩ W1 hr hh HFit.out ok)
    dsimp only at HTi
    clear hv ho hl hc ok
    generalize tickE ⟨⟨t, z, q⟩, c, u, h⟩ = pl at HTi ⊢
    generalize tickW ⟨⟨t, z, q⟩, c, u, h⟩ = y at HTi ⊢
    obtain ⟨⟨yt, yz, yq⟩, yc, yu, yh⟩ := y
    dsimp only at HTi ⊢
    have c237_T_0 := HX_T.out.at 0 (v := .int .i64 t) rfl
    have c237_T_1 := HX_T.out.at 1 (v := .int .i64 z) rfl
    have c237_T_2 := HX_T.out.at 2 (v := .slice a q.length cap) rfl
    have c237_T_3 := HX_T.out.at 3 (v := .int .i64 c) rfl
    have c237_T_4 := HX_T.out.at 4 (v := .int .i64 u) rfl
    have c237_T_5 := HX_T.out.at 5 (v := .slice b h.length caph) rfl
    have c238_A_0 := HX_A.out.at 0 (v := .int .i64 0) rfl
    have c238_A_1 := HX_A.out.at 1 (v := .int .i64 0) rfl
    have c238_A_2 := HX_A.out.at 2 (v := .slice none 0 0) rfl
    have c238_A_3 := HX_A.out.at 3 (v := .int .i64 0) rfl
    have c238_A_4 := HX_A.out.at 4 (v := .int .i64 0) rfl
    have c238_A_5 := HX_A.out.at 5 (v := .slice none 0 0) rfl
    go_enter Try.func39, Try.ntmps39
    go_upto_region 1 with fail
    rw [← HW0.out, ← HR_A.out, ← HR_T.out]
    go_wp2_with fail
    refine (HG.out _ (HP.out.below HB0.out (Nat.le_refl _)) (HH.out.below HB0.out (Nat.le_refl _))).mono ?_
    rintro e W239 ⟨rfl, l239⟩
    clear c237_T_0 c237_T_1 c237_T_2 c237_T_3 c237_T_4 c237_T_5
    clear c238_A_0 c238_A_1 c238_A_2 c238_A_3 c238_A_4 c238_A_5
    have HB_240 := Lib.hid (HB0.out.trans (l239.mono HB0.out.size))
    have T_240 := Lib.hid (HX_T.out.below l239 HX_T.out.lt)
    have A_240 := Lib.hid (HX_A.out.below l239 HX_A.out.lt)
    clear l239
    have c241_T_0 := T_240.out.at 0 (v := .int .i64 t) rfl
    have c241_T_1 := T_240.out.at 1 (v := .int .i64 z) rfl
    have c241_T_2 := T_240.out.at 2 (v := .slice a q.length cap) rfl
    have c241_T_3 := T_240.out.at 3 (v := .int .i64 c) rfl
    have c241_T_4 := T_240.out.at 4 (v := .int .i64 u) rfl
    have c241_T_5 := T_240.out.at 5 (v := .slice b h.length caph) rfl
    have c242_A_0 := A_240.out.at 0 (v := .int .i64 0) rfl
    have c242_A_1 := A_240.out.at 1 (v := .int .i64 0) rfl
    have c242_A_2 := A_240.out.at 2 (v := .slice none 0 0) rfl
    have c242_A_3 := A_240.out.at 3 (v := .int .i64 0) rfl
    have c242_A_4 := A_240.out.at 4 (v := .int .i64 0) rfl
    have c242_A_5 := A_240.out.at 5 (v := .slice none 0 0) rfl
    go_wp2_with fail
    refine (HTi.out _ (HP.out.below HB_240.out (Nat.le_refl _)) (HH.out.below HB_240.out (Nat.le_refl _))).mono ?_
    rintro e W243 ⟨v_y, v_k, v_p, rfl, o_y, o_k, ap_y_k, o_p, ap_y_p, ap_k_p, l243⟩
    obtain ⟨a_y, c_y, rfl, _, _⟩ := ownz_slice o_y
    have O_y := Lib.hid (ownz_base o_y HB_240.out.size)
    have BX_T_y : Hid (∀ k, (.slice a_y yq.length c_y : Value).ownBlock = some k → k ≠ R_T) := Lib.hid (fun k h1 h2 => absurd T_240.out.lt (Nat.not_lt.2 (by rw [← h2]; exact (o_y.lt k h1).1)))
    have BX_A_y : Hid (∀ k, (.slice a_y yq.length c_y : Value).ownBlock = some k → k ≠ R_A) := Lib.hid (fun k h1 h2 => absurd A_240.out.lt (Nat.not_lt.2 (by rw [← h2]; exact (o_y.lt k h1).1)))
    clear o_y
    obtain ⟨a_k, c_k, rfl, _, _⟩ := ownz_slice o_k
    have O_k := Lib.hid (ownz_base o_k HB_240.out.size)
    have BX_T_k : Hid (∀ k, (.slice a_k yh.length c_k : Value).ownBlock = some k → k ≠ R_T) := Lib.hid (fun k h1 h2 => absurd T_240.out.lt (Nat.not_lt.2 (by rw [← h2]; exact (o_k.lt k h1).1)))
    have BX_A_k : Hid (∀ k, (.slice a_k yh.length c_k : Value).ownBlock = some k → k ≠ R_A) := Lib.hid (fun k h1 h2 => absurd A_240.out.lt (Nat.not_lt.2 (by rw [← h2]; exact (o_k.lt k h1).1)))
    clear o_k
    obtain ⟨a_p, c_p, rfl, _, _⟩ := ownz_slice o_p
    have O_p := Lib.hid (ownz_base o_p HB_240.out.size)
    have BX_T_p : Hid (∀ k, (.slice a_p pl.length c_p : Value).ownBlock = some k → k ≠ R_T) := Lib.hid (fun k h1 h2 => absurd T_240.out.lt (Nat.not_lt.2 (by rw [← h2]; exact (o_p.lt k h1).1)))
    have BX_A_p : Hid (∀ k, (.slice a_p pl.length c_p : Value).ownBlock = some k → k ≠ R_A) := Lib.hid (fun k h1 h2 => absurd A_240.out.lt (Nat.not_lt.2 (by rw [← h2]; exact (o_p.lt k h1).1)))
    clear o_p
    have AP_y_k := Lib.hid ap_y_k
    clear ap_y_k
    have AP_y_p := Lib.hid ap_y_p
    clear ap_y_p
    have AP_k_p := Lib.hid ap_k_p
    clear ap_k_p
    clear c241_T_0 c241_T_1 c241_T_2 c241_T_3 c241_T_4 c241_T_5
    clear c242_A_0 c242_A_1 c242_A_2 c242_A_3 c242_A_4 c242_A_5
    have HB_244 := Lib.hid (HB_240.out.trans (l243.mono HB_240.out.size))
    have T_244 := Lib.hid (T_240.out.below l243 T_240.out.lt)
    clear T_240
    have A_244 := Lib.hid (A_240.out.below l243 A_240.out.lt)
    clear A_240
    clear l243
    have c245_T_0 := T_244.out.at 0 (v := .int .i64 t) rfl
    have c245_T_1 := T_244.out.at 1 (v := .int .i64 z) rfl
    have c245_T_2 := T_244.out.at 2 (v := .slice a q.length cap) rfl
    have c245_T_3 := T_244.out.at 3 (v := .int .i64 c) rfl
    have c245_T_4 := T_244.out.at 4 (v := .int .i64 u) rfl
    have c245_T_5 := T_244.out.at 5 (v := .slice b h.length caph) rfl
    have c246_A_0 := A_244.out.at 0 (v := .int .i64 0) rfl
    have c246_A_1 := A_244.out.at 1 (v := .int .i64 0) rfl
    have c246_A_2 := A_244.out.at 2 (v := .slice none 0 0) rfl
    have c246_A_3 := A_244.out.at 3 (v := .int .i64 0) rfl
    have c246_A_4 := A_244.out.at 4 (v := .int .i64 0) rfl
    have c246_A_5 := A_244.out.at 5 (v := .slice none 0 0) rfl
    go_upto_region 4 with fail
    obtain ⟨W247, hW247⟩ : ∃ W247, W247 = W243.alloc (.cells #[.int .i64 yt, .int .i64 yz, .slice a_y yq.length c_y, .int .i64 yc, .int .i64 yu, .slice a_k yh.length c_k] 29) := ⟨_, rfl⟩
    have l247 : Below W243.heap.size W243 W247 := by rw [hW247]; exact (Below.refl _ _).alloc (Nat.le_refl _) _
    have X247_X : Hid (Bx W247 W243.heap.size #[.int .i64 yt, .int .i64 yz, .slice a_y yq.length c_y, .int .i64 yc, .int .i64 yu, .slice a_k yh.length c_k] 29) := Lib.hid (by rw [hW247]; exact Bx.new _ _ _)
    rw [← hW247]
    clear hW247
    have BX_X_y : Hid (∀ k, (.slice a_y yq.length c_y : Value).ownBlock = some k → k ≠ W243.heap.size) := Lib.hid (fun k h1 h2 => absurd (O_y.out.lt k h1).2 (by omega))
    have BX_X_k : Hid (∀ k, (.slice a_k yh.length c_k : Value).ownBlock = some k → k ≠ W243.heap.size) := Lib.hid (fun k h1 h2 => absurd (O_k.out.lt k h1).2 (by omega))
    have BX_X_p : Hid (∀ k, (.slice a_p pl.length c_p : Value).ownBlock = some k → k ≠ W243.heap.size) := Lib.hid (fun k h1 h2 => absurd (O_p.out.lt k h1).2 (by omega))
    have HG_X : Hid (w.heap.size ≤ W243.heap.size) := Lib.hid HB_244.out.size
    have HN_X_T : Hid (R_T < W243.heap.size) := Lib.hid T_244.out.lt
    have HN_X_A : Hid (R_A < W243.heap.size) := Lib.hid A_244.out.lt
    obtain ⟨R_X, hR_X⟩ : ∃ X, X = W243.heap.size := ⟨_, rfl⟩
    rw [← hR_X] at X247_X HG_X BX_X_y BX_X_k BX_X_p HN_X_T HN_X_A ⊢
    clear hR_X
    clear c245_T_0 c245_T_1 c245_T_2 c245_T_3 c245_T_4 c245_T_5
    clear c246_A_0 c246_A_1 c246_A_2 c246_A_3 c246_A_4 c246_A_5
    have HB_248 := Lib.hid (HB_244.out.trans (l247.mono HB_244.out.size))
    have y_248 := Lib.hid (ownz_below O_y.out l247 (Nat.le_refl _))
    clear O_y
    have k_248 := Lib.hid (ownz_below O_k.out l247 (Nat.le_refl _))
    clear O_k
    have p_248 := Lib.hid (ownz_below O_p.out l247 (Nat.le_refl _))
    clear O_p
    have T_248 := Lib.hid (T_244.out.below l247 T_244.out.lt)
    clear T_244
    have A_248 := Lib.hid (A_244.out.below l247 A_244.out.lt)
    clear A_244
    clear l247
    have c249_T_0 := T_248.out.at 0 (v := .int .i64 t) rfl
    have c249_T_1 := T_248.out.at 1 (v := .int .i64 z) rfl
    have c249_T_2 := T_248.out.at 2 (v := .slice a q.length cap) rfl
    have c249_T_3 := T_248.out.at 3 (v := .int .i64 c) rfl
    have c249_T_4 := T_248.out.at 4 (v := .int .i64 u) rfl
    have c249_T_5 := T_248.out.at 5 (v := .slice b h.length caph) rfl
    have c250_A_0 := A_248.out.at 0 (v := .int .i64 0) rfl
    have c250_A_1 := A_248.out.at 1 (v := .int .i64 0) rfl
    have c250_A_2 := A_248.out.at 2 (v := .slice none 0 0) rfl
    have c250_A_3 := A_248.out.at 3 (v := .int .i64 0) rfl
    have c250_A_4 := A_248.out.at 4 (v := .int .i64 0) rfl
    have c250_A_5 := A_248.out.at 5 (v := .slice none 0 0) rfl
    have c251_X_0 := X247_X.out.at 0 (v := .int .i64 yt) rfl
    have c251_X_1 := X247_X.out.at 1 (v := .int .i64 yz) rfl
    have c251_X_2 := X247_X.out.at 2 (v := .slice a_y yq.length c_y) rfl
    have c251_X_3 := X247_X.out.at 3 (v := .int .i64 yc) rfl
    have c251_X_4 := X247_X.out.at 4 (v := .int .i64 yu) rfl
    have c251_X_5 := X247_X.out.at 5 (v := .slice a_k yh.length c_k) rfl
    have fr252_A_0 := A_248.out.free 0
    have fr252_A_1 := A_248.out.free 1
    have fr252_A_2 := A_248.out.free 2
    have fr252_A_3 := A_248.out.free 3
    have fr252_A_4 := A_248.out.free 4
    have fr252_A_5 := A_248.out.free 5
    go_wp2_with fail
    obtain ⟨p1, q1⟩ := A_248.out.store6 (.int .i64 yt) (.int .i64 yz) (.slice a_y yq.length c_y) (.int .i64 yc) (.int .i64 yu) (.slice a_k yh.length c_k)
    exact bodyPost_ret (results_bx2 rfl isSo _ _ R_A rfl rfl rfl rfl p1) rfl ⟨_, _, .slice a_p pl.length c_p, rfl, (y_248.out.kept q1 (by
      cases hv : (.slice a_y yq.length c_y : Value).ownBlock with
      | none => exact .inl rfl
      | some k => exact .inr (fun e => BX_A_y.out k hv (Option.some.inj e)))), (k_248.out.kept q1 (by
      cases hv : (.slice a_k yh.length c_k : Value).ownBlock with
      | none => exact .inl rfl
      | some k => exact .inr (fun e => BX_A_k.out k hv (Option.some.inj e)))), AP_y_k.out, (p_248.out.kept q1 (by
      cases hv : (.slice a_p pl.length c_p : Value).ownBlock with
      | none => exact .inl rfl
      | some k => exact .inr (fun e => BX_A_p.out k hv (Option.some.inj e)))), AP_y_p.out, AP_k_p.out, (HB_248.out.grown q1 HB_248.out.size (fun k hk => by have e2 : R_A = k := Option.some.inj hk; have := HR_A.out; omega))⟩
end Go.Proofs.Ytlendmiolhgecaa
