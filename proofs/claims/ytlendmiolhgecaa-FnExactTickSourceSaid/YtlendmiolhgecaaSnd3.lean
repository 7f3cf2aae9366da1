/-
  Windows of the source: held items, status, drops (the specification's).
-/
import Derived.Test.YtlendmiolhgecaaSnd2
import Derived.Deep.QuietTactic
import Derived.BigQuiet
import Derived.IntWalk
import Derived.Deep.CutRange
import Derived.WalkLawsBesides
import Derived.Lib.SmallJoins
import Derived.Deep.RegionHeld3
namespace Go.Proofs.Ytlendmiolhgecaa
open Go.RowKit Go.Lib Go.Joins
set_option linter.unusedVariables false

set_option maxRecDepth 100000 in
set_option maxHeartbeats 1000000 in
theorem l9Held_any (v : Value) (l : Sw) (x : Int) (w : World) (hrow : Row w v l.q.length (l.q.map Value.string)) (ht : 0 ≤ l.t ∧ l.t ≤ 65535) (hx : 0 ≤ x ∧ x ≤ 65535) :
    Calls Try.prog 98 #[.agg #[.int .i64 l.t, .int .i64 l.z, v], .int .i64 x] w fun e w' => e = .returned (.bool (heldB l x)) ∧ Below w.heap.size w w' := by
  have HC := Lib.hid (fun (W1 : World) => l2Gap_any l.t x W1 ht.1 ht.2 hx.1 hx.2)
  have hh : heldB l x = decide (gapI l.t x < (l.q.length : Int)) := rfl
  rw [hh]
  clear hh ht hx
  obtain ⟨t, z, q⟩ := l
  dsimp only at hrow ⊢
  obtain ⟨a, cap, rfl, hc1, hm1, _⟩ := row_open hrow
  unfold maxLen at hm1
  have HP := Lib.hid hrow
  clear hrow
  dsimp only at HC
  generalize gapI t x = y at HC ⊢
  obtain ⟨W0, R_T, hW0, hR_T, hX_T, hB0⟩ := entry1 w #[.int .i64 t, .int .i64 z, .slice a q.length cap] 26
  have HW0 := Lib.hid hW0
  have HB0 := Lib.hid hB0
  have HR_T := Lib.hid hR_T
  have HX_T := Lib.hid hX_T
  clear hW0 hB0 hR_T hX_T
  have c1_T_0 := HX_T.out.at 0 (v := .int .i64 t) rfl
  have c1_T_1 := HX_T.out.at 1 (v := .int .i64 z) rfl
  have c1_T_2 := HX_T.out.at 2 (v := .slice a q.length cap) rfl
  go_enter Try.func98, Try.ntmps98
  go_upto_region 1 with fail
  rw [← HW0.out, ← HR_T.out]
  go_quiet ((go_at_call 94; exact quietF (HC.out _)))
  go_wp2_with fail
  go_ret
  exact ⟨rfl, HB0.out.trans (bdrewN _ _ _)⟩
set_option maxRecDepth 100000 in
set_option maxHeartbeats 2000000 in
theorem l9Status_any (v : Value) (l : Sw) (w : World) (hrow : Row w v l.q.length (l.q.map Value.string)) (ht : 0 ≤ l.t ∧ l.t ≤ 65535) (hn : l.q.length ≤ 65536) :
    Calls Try.prog 118 #[.agg #[.int .i64 l.t, .int .i64 l.z, v]] w fun e w' => e = .returned (.agg #[.int .i64 5, .int .i64 l.t, .int .i64 l.t, .int .i64 (leadI l), .string ⟨#[]⟩]) ∧ Below w.heap.size w w' := by
  obtain ⟨t, z, q⟩ := l
  dsimp only at hrow ht hn ⊢
  obtain ⟨a, cap, rfl, hc1, hm1, _⟩ := row_open hrow
  unfold maxLen at hm1
  have HP := Lib.hid hrow
  obtain ⟨W0, R_T, R_B, hW0, hR_T, hR_B, hX_T, hX_B, hB0⟩ := entry2 w #[.int .i64 t, .int .i64 z, .slice a q.length cap] #[.int .i64 0, .int .i64 0, .int .i64 0, .int .i64 0, .string ⟨#[]⟩] 26 64
  have HW0 := Lib.hid hW0
  have HB0 := Lib.hid hB0
  have HR_T := Lib.hid hR_T
  have HX_T := Lib.hid hX_T
  have HR_B := Lib.hid hR_B
  have HX_B := Lib.hid hX_B
  clear hW0 hB0 hR_T hX_T hR_B hX_B
  have HL := Lib.hid (fun (W1 : World) (hr : Row W1 (.slice a q.length cap) q.length (q.map Value.string)) => l9Lead_any (.slice a q.length cap) ⟨t, z, q⟩ W1 hr ht hn)
  dsimp only at HL
  generalize leadI ⟨t, z, q⟩ = le at HL ⊢
  clear hrow ht hn
  have c24_T_0 := HX_T.out.at 0 (v := .int .i64 t) rfl
  have c24_T_1 := HX_T.out.at 1 (v := .int .i64 z) rfl
  have c24_T_2 := HX_T.out.at 2 (v := .slice a q.length cap) rfl
  have c25_B_0 := HX_B.out.at 0 (v := .int .i64 0) rfl
  have c25_B_1 := HX_B.out.at 1 (v := .int .i64 0) rfl
  have c25_B_2 := HX_B.out.at 2 (v := .int .i64 0) rfl
  have c25_B_3 := HX_B.out.at 3 (v := .int .i64 0) rfl
  have c25_B_4 := HX_B.out.at 4 (v := .string ⟨#[]⟩) rfl
  have HK1 := Lib.hid (fun (w' : World) (hb : Below W0.heap.size W0 w') => (show w'.cell? ⟨R_T, 0, none⟩ = some (.int .i64 t) ∧ w'.cell? ⟨R_T, 1, none⟩ = some (.int .i64 z) ∧ w'.cell? ⟨R_T, 2, none⟩ = some (.slice a q.length cap) ∧ Below w.heap.size w w' from ⟨(hb.cell (p := ⟨R_T, 0, none⟩) HX_T.out.lt).trans (HX_T.out.at 0 (v := .int .i64 t) rfl), (hb.cell (p := ⟨R_T, 1, none⟩) HX_T.out.lt).trans (HX_T.out.at 1 (v := .int .i64 z) rfl), (hb.cell (p := ⟨R_T, 2, none⟩) HX_T.out.lt).trans (HX_T.out.at 2 (v := .slice a q.length cap) rfl), HB0.out.trans (hb.mono HB0.out.size)⟩))
  have HA1_B := Lib.hid (fun (w' : World) (hb : Below W0.heap.size W0 w') => HX_B.out.below hb HX_B.out.lt)
  have HK1_0 := Lib.hid (fun (w' : World) (y0_0 y0_1 y0_2 y0_3 y0_4 : Value) (hb : Below W0.heap.size W0 w') => (show ((((((w'.setCell ⟨R_B, 0, none⟩ (y0_0)).setCell ⟨R_B, 1, none⟩ (y0_1)).setCell ⟨R_B, 2, none⟩ (y0_2)).setCell ⟨R_B, 3, none⟩ (y0_3)).setCell ⟨R_B, 4, none⟩ (y0_4))).cell? ⟨R_T, 0, none⟩ = some (.int .i64 t) ∧ ((((((w'.setCell ⟨R_B, 0, none⟩ (y0_0)).setCell ⟨R_B, 1, none⟩ (y0_1)).setCell ⟨R_B, 2, none⟩ (y0_2)).setCell ⟨R_B, 3, none⟩ (y0_3)).setCell ⟨R_B, 4, none⟩ (y0_4))).cell? ⟨R_T, 1, none⟩ = some (.int .i64 z) ∧ ((((((w'.setCell ⟨R_B, 0, none⟩ (y0_0)).setCell ⟨R_B, 1, none⟩ (y0_1)).setCell ⟨R_B, 2, none⟩ (y0_2)).setCell ⟨R_B, 3, none⟩ (y0_3)).setCell ⟨R_B, 4, none⟩ (y0_4))).cell? ⟨R_T, 2, none⟩ = some (.slice a q.length cap) ∧ Below w.heap.size w ((((((w'.setCell ⟨R_B, 0, none⟩ (y0_0)).setCell ⟨R_B, 1, none⟩ (y0_1)).setCell ⟨R_B, 2, none⟩ (y0_2)).setCell ⟨R_B, 3, none⟩ (y0_3)).setCell ⟨R_B, 4, none⟩ (y0_4))) by
    obtain ⟨z0, z1, z2, z3⟩ := HK1.out w' hb
    obtain ⟨_, q1⟩ := (HA1_B.out w' hb).store5 y0_0 y0_1 y0_2 y0_3 y0_4
    exact ⟨q1.cell z0 (by intro e; have e2 : R_T = R_B := Option.some.inj e; have h1 := HR_T.out; have h2 := HR_B.out; omega), q1.cell z1 (by intro e; have e2 : R_T = R_B := Option.some.inj e; have h1 := HR_T.out; have h2 := HR_B.out; omega), q1.cell z2 (by intro e; have e2 : R_T = R_B := Option.some.inj e; have h1 := HR_T.out; have h2 := HR_B.out; omega), z3.grown q1 z3.size (fun k hk => by have e2 : R_B = k := Option.some.inj hk; have := HR_B.out; omega)⟩))
  go_enter Try.func118, Try.ntmps118
  go_upto_region 1 with fail
  rw [← HW0.out, ← HR_B.out, ← HR_T.out]
  go_region_held3 (fun w' => w'.cell? ⟨R_T, 0, none⟩ = some (.int .i64 t) ∧ w'.cell? ⟨R_T, 1, none⟩ = some (.int .i64 z) ∧ w'.cell? ⟨R_T, 2, none⟩ = some (.slice a q.length cap) ∧ Below w.heap.size w w')
    ((first | (with_reducible refine HK1_0.out _ _ _ _ _ _ ?_; (repeat (first | with_reducible assumption | with_reducible exact Below.refl _ _ | with_reducible refine Below.drew ?_ | with_reducible refine below_alloc' ?_)); done) | (with_reducible refine HK1.out _ ?_; (repeat (first | with_reducible assumption | with_reducible exact Below.refl _ _ | with_reducible refine Below.drew ?_ | with_reducible refine below_alloc' ?_)); done)))
    (first
      | (go_at_call 121; refine (HL.out _ (HP.out.below (HB0.out.trans ((by repeat (first | with_reducible assumption | with_reducible exact Below.refl _ _ | with_reducible refine Below.drew ?_ | with_reducible refine below_alloc' ?_) : Below W0.heap.size W0 _).mono HB0.out.size)) (Nat.le_refl _))).mono ?_; rintro e w7 ⟨rfl, l7⟩; have hb7 := below_call7 (by repeat (first | with_reducible assumption | with_reducible exact Below.refl _ _ | with_reducible refine Below.drew ?_ | with_reducible refine below_alloc' ?_) : Below W0.heap.size W0 _) l7; have h7B := HA1_B.out w7 hb7; have yB0 := h7B.at 0 (v := .int .i64 0) rfl; have fB0 := h7B.free 0; have yB1 := h7B.at 1 (v := .int .i64 0) rfl; have fB1 := h7B.free 1; have yB2 := h7B.at 2 (v := .int .i64 0) rfl; have fB2 := h7B.free 2; have yB3 := h7B.at 3 (v := .int .i64 0) rfl; have fB3 := h7B.free 3; have yB4 := h7B.at 4 (v := .string ⟨#[]⟩) rfl; have fB4 := h7B.free 4; clear l7))
  all_goals go_wp2_with fail
  all_goals
    obtain ⟨p1, q1⟩ := h7B.store5 (.int .i64 5) (.int .i64 t) (.int .i64 t) (.int .i64 le) (.string ⟨#[]⟩)
    have hB8 := HB0.out.trans (hb7.mono HB0.out.size)
    refine bodyPost_ret (results_bx rfl isPk _ _ R_B rfl rfl p1) rfl ⟨rfl, hB8.grown q1 hB8.size (fun k hk => by have e2 : R_B = k := Option.some.inj hk; have := HR_B.out; omega)⟩
set_option maxRecDepth 100000 in
set_option maxHeartbeats 4000000 in
theorem specDrop9_any (v : Value) (l : Sw) (x : Int) (w : World) (hrow : Row w v l.q.length (l.q.map Value.string)) (hs : ∀ s ∈ l.q, s.size ≤ maxLen) (hfit : FitA v l.q.length) :
    Calls Try.prog 47 #[.agg #[.int .i64 l.t, .int .i64 l.z, v], .int .i64 x] w fun e w' => ∃ v', e = .returned (.tuple #[.agg #[.int .i64 (dropV l x).t, .int .i64 (dropV l x).z, v'], .int .i64 (dropC l x), .bool (dropOk l x)]) ∧ w'.ownsRow w.heap.size 9 1 v' (dropV l x).q.length ((dropV l x).q.map Value.string) ∧ Below w.heap.size w w' := by
  have HFit := Lib.hid hfit
  clear hfit
  obtain ⟨t, z, q⟩ := l
  dsimp only at hrow hs ⊢
  obtain ⟨a, cap, rfl, hc1, hm1, _⟩ := row_open hrow
  unfold maxLen at hm1
  have HP := Lib.hid hrow
  clear hrow
  have HS := Lib.hid hs
  clear hs
  dsimp only at HFit
  obtain ⟨W0, R_T, R_A, hW0, hR_T, hR_A, hX_T, hX_A, hB0⟩ := entry2 w #[.int .i64 t, .int .i64 z, .slice a q.length cap] #[.int .i64 0, .int .i64 0, .slice none 0 0] 26 26
  have HW0 := Lib.hid hW0
  have HB0 := Lib.hid hB0
  have HR_T := Lib.hid hR_T
  have HX_T := Lib.hid hX_T
  have HR_A := Lib.hid hR_A
  have HX_A := Lib.hid hX_A
  clear hW0 hB0 hR_T hX_T hR_A hX_A
  have HG := Lib.hid (fun (W1 : World) (hr : Row W1 (.slice a q.length cap) q.length (q.map Value.string)) => l9Good_any (.slice a q.length cap) ⟨t, z, q⟩ W1 hr HS.out)
  have HSer := Lib.hid (fun (W1 : World) => l2Good_any x W1)
  have HO : Hid (dropOk ⟨t, z, q⟩ x = (swOk ⟨t, z, q⟩ && (serB x && decide (gapI t x ≤ (q.length : Int))))) := Lib.hid rfl
  have HN := Lib.hid (@drop_no ⟨t, z, q⟩ x)
  cases hok : swOk ⟨t, z, q⟩ with
  | false =>
    rw [hok] at HG
    have hno : dropOk ⟨t, z, q⟩ x = false := by rw [HO.out, hok]; simp
    obtain ⟨e1, e2⟩ := HN.out hno
    rw [hno, e1, e2]
    dsimp only [sw0]
    clear hno e1 e2 HN HO
    have c44_T_0 := HX_T.out.at 0 (v := .int .i64 t) rfl
    have c44_T_1 := HX_T.out.at 1 (v := .int .i64 z) rfl
    have c44_T_2 := HX_T.out.at 2 (v := .slice a q.length cap) rfl
    have c45_A_0 := HX_A.out.at 0 (v := .int .i64 0) rfl
    have c45_A_1 := HX_A.out.at 1 (v := .int .i64 0) rfl
    have c45_A_2 := HX_A.out.at 2 (v := .slice none 0 0) rfl
    have HK2 := Lib.hid (fun (w' : World) (hb : Below W0.heap.size W0 w') => (show w'.cell? ⟨R_T, 0, none⟩ = some (.int .i64 t) ∧ w'.cell? ⟨R_T, 1, none⟩ = some (.int .i64 z) ∧ w'.cell? ⟨R_T, 2, none⟩ = some (.slice a q.length cap) ∧ Below w.heap.size w w' from ⟨(hb.cell (p := ⟨R_T, 0, none⟩) HX_T.out.lt).trans (HX_T.out.at 0 (v := .int .i64 t) rfl), (hb.cell (p := ⟨R_T, 1, none⟩) HX_T.out.lt).trans (HX_T.out.at 1 (v := .int .i64 z) rfl), (hb.cell (p := ⟨R_T, 2, none⟩) HX_T.out.lt).trans (HX_T.out.at 2 (v := .slice a q.length cap) rfl), HB0.out.trans (hb.mono HB0.out.size)⟩))
    go_enter Try.func47, Try.ntmps47
    go_upto_region 1 with fail
    rw [← HW0.out, ← HR_A.out, ← HR_T.out]
    refine wp_region_held_drew (S := (fun w' => w'.cell? ⟨R_T, 0, none⟩ = some (.int .i64 t) ∧ w'.cell? ⟨R_T, 1, none⟩ = some (.int .i64 z) ∧ w'.cell? ⟨R_T, 2, none⟩ = some (.slice a q.length cap) ∧ Below w.heap.size w w')) (by kernel_rfl) ?_ (fun hHeld => ?_)
    · exact HK2.out _ (Below.drew (Below.refl _ _))
    (refine wpAnyH_take (i := 0) (oi := { dst := some 8, op := Go.Op.load 26 (Go.Operand.tmp 2), type := 26, pos := "l9_sending.go:64", after := #[], guard := none }) (v := (.agg #[.int .i64 t, .int .i64 z, .slice a q.length cap])) rfl (by kernel_rfl) (by kernel_rfl) (by kernel_rfl) (fun _ _ _ h => h) (Or.inl ⟨by rfl, ?_⟩) (by assumption) ?_; (focus (intro w' hSw; (try dsimp only at hSw); go_simp; (try with_reducible rfl))); (try simp only [Act.put, List.setIfInBounds_toArray, List.set_cons_zero, List.set_cons_succ]))
    refine wpAnyH_ready (rs := [1]) (by kernel_rfl) (by simp) ?_
    refine AllReadyH.cons rfl (fun K hK => ?_) AllReadyH.nil
    go_simp
    (go_at_call 93; refine (HG.out _ (HP.out.below (HB0.out.trans ((by repeat (first | with_reducible assumption | with_reducible exact Below.refl _ _ | with_reducible refine Below.drew ?_ | with_reducible refine below_alloc' ?_) : Below W0.heap.size W0 _).mono HB0.out.size)) (Nat.le_refl _))).mono ?_; rintro e w7 ⟨rfl, l7⟩; have hb7 := below_call7 (by repeat (first | with_reducible assumption | with_reducible exact Below.refl _ _ | with_reducible refine Below.drew ?_ | with_reducible refine below_alloc' ?_) : Below W0.heap.size W0 _) l7; clear l7)
    refine hK.out _ _ ?S12 (fun hHeld1 => ?rest12)
    case S12 =>
      (try dsimp only)
      refine HK2.out _ ?_; (repeat (first | with_reducible assumption | with_reducible exact Below.refl _ _ | with_reducible refine Below.drew ?_ | with_reducible refine below_alloc' ?_)); done
    clear hK K
    clear hHeld
    (try simp only [Act.put, List.setIfInBounds_toArray, List.set_cons_zero, List.set_cons_succ])
    (refine wpAnyH_take (i := 2) (oi := { dst := some 10, op := Go.Op.unOp Go.UnOp.not 4 (Go.Operand.tmp 9), type := 4, pos := "l9_sending.go:64", after := #[{ on := 1, ground := Go.Ground.data }], guard := none }) (v := (.bool true)) rfl (by kernel_rfl) (by kernel_rfl) (by kernel_rfl) (fun _ _ _ h => h) (Or.inl ⟨by rfl, ?_⟩) (by assumption) ?_; (focus (intro w' hSw; (try dsimp only at hSw); go_simp; (try with_reducible rfl))); (try simp only [Act.put, List.setIfInBounds_toArray, List.set_cons_zero, List.set_cons_succ]))
    (refine wpAnyH_take (i := 3) (oi := { dst := some 11, op := Go.Op.move (Go.Operand.tmp 10), type := 4, pos := "l9_sending.go:64", after := #[{ on := 2, ground := Go.Ground.data }, { on := 1, ground := Go.Ground.chain }], guard := none }) (v := (.bool true)) rfl (by kernel_rfl) (by kernel_rfl) (by kernel_rfl) (fun _ _ _ h => h) (Or.inl ⟨by rfl, ?_⟩) (by assumption) ?_; (focus (intro w' hSw; (try dsimp only at hSw); go_simp; (try with_reducible rfl))); (try simp only [Act.put, List.setIfInBounds_toArray, List.set_cons_zero, List.set_cons_succ]))
    (refine wpAnyH_take (i := 4) (oi := { dst := some 12, op := Go.Op.move (Go.Operand.tmp 1), type := 3, pos := "l9_sending.go:64", after := #[{ on := 3, ground := Go.Ground.guard }], guard := some (3, false) }) (v := undef) rfl (by kernel_rfl) (by kernel_rfl) (by kernel_rfl) (fun _ _ _ h => h) (Or.inr ⟨by kernel_rfl, rfl⟩) (by assumption) ?_; (try simp only [Act.put, List.setIfInBounds_toArray, List.set_cons_zero, List.set_cons_succ]))
    (refine wpAnyH_take (i := 5) (oi := { dst := some 13, op := Go.Op.call { callee := Go.Callee.value (Go.Operand.func 66), args := #[Go.Operand.tmp 12], argTypes := #[3] }, type := 4, pos := "l9_sending.go:64", after := #[{ on := 4, ground := Go.Ground.data }, { on := 3, ground := Go.Ground.chain }, { on := 3, ground := Go.Ground.guard }], guard := some (3, false) }) (v := undef) rfl (by kernel_rfl) (by kernel_rfl) (by kernel_rfl) (fun _ _ _ h => h) (Or.inr ⟨by kernel_rfl, rfl⟩) (by assumption) ?_; (try simp only [Act.put, List.setIfInBounds_toArray, List.set_cons_zero, List.set_cons_succ]))
    (refine wpAnyH_take (i := 6) (oi := { dst := some 14, op := Go.Op.unOp Go.UnOp.not 4 (Go.Operand.tmp 13), type := 4, pos := "l9_sending.go:64", after := #[{ on := 5, ground := Go.Ground.data }, { on := 3, ground := Go.Ground.guard }], guard := some (3, false) }) (v := undef) rfl (by kernel_rfl) (by kernel_rfl) (by kernel_rfl) (fun _ _ _ h => h) (Or.inr ⟨by kernel_rfl, rfl⟩) (by assumption) ?_; (try simp only [Act.put, List.setIfInBounds_toArray, List.set_cons_zero, List.set_cons_succ]))
    (refine wpAnyH_take (i := 7) (oi := { dst := some 15, op := Go.Op.pick (Go.Operand.tmp 11) (Go.Operand.const (Go.Value.bool true)) (Go.Operand.tmp 14), type := 4, pos := "l9_sending.go:64", after := #[{ on := 3, ground := Go.Ground.data }, { on := 6, ground := Go.Ground.data }], guard := none }) (v := (.bool true)) rfl (by kernel_rfl) (by kernel_rfl) (by kernel_rfl) (fun _ _ _ h => h) (Or.inl ⟨by rfl, ?_⟩) (by assumption) ?_; (focus (intro w' hSw; (try dsimp only at hSw); go_simp; (try with_reducible rfl))); (try simp only [Act.put, List.setIfInBounds_toArray, List.set_cons_zero, List.set_cons_succ]))
    (refine wpAnyH_take (i := 8) (oi := { dst := some 16, op := Go.Op.move (Go.Operand.tmp 15), type := 4, pos := "l9_sending.go:64", after := #[{ on := 7, ground := Go.Ground.data }, { on := 5, ground := Go.Ground.chain }], guard := none }) (v := (.bool true)) rfl (by kernel_rfl) (by kernel_rfl) (by kernel_rfl) (fun _ _ _ h => h) (Or.inl ⟨by rfl, ?_⟩) (by assumption) ?_; (focus (intro w' hSw; (try dsimp only at hSw); go_simp; (try with_reducible rfl))); (try simp only [Act.put, List.setIfInBounds_toArray, List.set_cons_zero, List.set_cons_succ]))
    (refine wpAnyH_take (i := 9) (oi := { dst := some 17, op := Go.Op.fieldAddr 26 (Go.Operand.tmp 2) 0, type := 0, pos := "l9_sending.go:64", after := #[{ on := 8, ground := Go.Ground.guard }], guard := some (8, false) }) (v := undef) rfl (by kernel_rfl) (by kernel_rfl) (by kernel_rfl) (fun _ _ _ h => h) (Or.inr ⟨by kernel_rfl, rfl⟩) (by assumption) ?_; (try simp only [Act.put, List.setIfInBounds_toArray, List.set_cons_zero, List.set_cons_succ]))
    (refine wpAnyH_take (i := 10) (oi := { dst := some 18, op := Go.Op.load 3 (Go.Operand.tmp 17), type := 3, pos := "l9_sending.go:64", after := #[{ on := 9, ground := Go.Ground.data }, { on := 8, ground := Go.Ground.guard }], guard := some (8, false) }) (v := undef) rfl (by kernel_rfl) (by kernel_rfl) (by kernel_rfl) (fun _ _ _ h => h) (Or.inr ⟨by kernel_rfl, rfl⟩) (by assumption) ?_; (try simp only [Act.put, List.setIfInBounds_toArray, List.set_cons_zero, List.set_cons_succ]))
    (refine wpAnyH_take (i := 11) (oi := { dst := some 19, op := Go.Op.move (Go.Operand.tmp 1), type := 3, pos := "l9_sending.go:64", after := #[{ on := 8, ground := Go.Ground.guard }], guard := some (8, false) }) (v := undef) rfl (by kernel_rfl) (by kernel_rfl) (by kernel_rfl) (fun _ _ _ h => h) (Or.inr ⟨by kernel_rfl, rfl⟩) (by assumption) ?_; (try simp only [Act.put, List.setIfInBounds_toArray, List.set_cons_zero, List.set_cons_succ]))
    (refine wpAnyH_take (i := 12) (oi := { dst := some 20, op := Go.Op.call { callee := Go.Callee.value (Go.Operand.func 94), args := #[Go.Operand.tmp 18, Go.Operand.tmp 19], argTypes := #[3, 3] }, type := 3, pos := "l9_sending.go:64", after := #[{ on := 10, ground := Go.Ground.data }, { on := 11, ground := Go.Ground.data }, { on := 8, ground := Go.Ground.chain }, { on := 8, ground := Go.Ground.guard }], guard := some (8, false) }) (v := undef) rfl (by kernel_rfl) (by kernel_rfl) (by kernel_rfl) (fun _ _ _ h => h) (Or.inr ⟨by kernel_rfl, rfl⟩) (by assumption) ?_; (try simp only [Act.put, List.setIfInBounds_toArray, List.set_cons_zero, List.set_cons_succ]))
    (refine wpAnyH_take (i := 13) (oi := { dst := some 21, op := Go.Op.fieldAddr 26 (Go.Operand.tmp 2) 2, type := 0, pos := "l9_sending.go:64", after := #[{ on := 8, ground := Go.Ground.guard }], guard := some (8, false) }) (v := undef) rfl (by kernel_rfl) (by kernel_rfl) (by kernel_rfl) (fun _ _ _ h => h) (Or.inr ⟨by kernel_rfl, rfl⟩) (by assumption) ?_; (try simp only [Act.put, List.setIfInBounds_toArray, List.set_cons_zero, List.set_cons_succ]))
    (refine wpAnyH_take (i := 14) (oi := { dst := some 22, op := Go.Op.load 24 (Go.Operand.tmp 21), type := 24, pos := "l9_sending.go:64", after := #[{ on := 13, ground := Go.Ground.data }, { on := 8, ground := Go.Ground.guard }], guard := some (8, false) }) (v := undef) rfl (by kernel_rfl) (by kernel_rfl) (by kernel_rfl) (fun _ _ _ h => h) (Or.inr ⟨by kernel_rfl, rfl⟩) (by assumption) ?_; (try simp only [Act.put, List.setIfInBounds_toArray, List.set_cons_zero, List.set_cons_succ]))
    (refine wpAnyH_take (i := 15) (oi := { dst := some 23, op := Go.Op.call { callee := Go.Callee.builtin Go.Builtin.len, args := #[Go.Operand.tmp 22], argTypes := #[24] }, type := 3, pos := "l9_sending.go:64", after := #[{ on := 14, ground := Go.Ground.data }, { on := 8, ground := Go.Ground.guard }], guard := some (8, false) }) (v := undef) rfl (by kernel_rfl) (by kernel_rfl) (by kernel_rfl) (fun _ _ _ h => h) (Or.inr ⟨by kernel_rfl, rfl⟩) (by assumption) ?_; (try simp only [Act.put, List.setIfInBounds_toArray, List.set_cons_zero, List.set_cons_succ]))
    (refine wpAnyH_take (i := 16) (oi := { dst := some 24, op := Go.Op.binOp Go.BinOp.gtr 3 (Go.Operand.tmp 20) (Go.Operand.tmp 23) 3, type := 4, pos := "l9_sending.go:64", after := #[{ on := 12, ground := Go.Ground.data }, { on := 15, ground := Go.Ground.data }, { on := 8, ground := Go.Ground.guard }], guard := some (8, false) }) (v := undef) rfl (by kernel_rfl) (by kernel_rfl) (by kernel_rfl) (fun _ _ _ h => h) (Or.inr ⟨by kernel_rfl, rfl⟩) (by assumption) ?_; (try simp only [Act.put, List.setIfInBounds_toArray, List.set_cons_zero, List.set_cons_succ]))
    (refine wpAnyH_take (i := 17) (oi := { dst := some 25, op := Go.Op.pick (Go.Operand.tmp 16) (Go.Operand.const (Go.Value.bool true)) (Go.Operand.tmp 24), type := 4, pos := "l9_sending.go:64", after := #[{ on := 8, ground := Go.Ground.data }, { on := 16, ground := Go.Ground.data }], guard := none }) (v := (.bool true)) rfl (by kernel_rfl) (by kernel_rfl) (by kernel_rfl) (fun _ _ _ h => h) (Or.inl ⟨by rfl, ?_⟩) (by assumption) ?_; (focus (intro w' hSw; (try dsimp only at hSw); go_simp; (try with_reducible rfl))); (try simp only [Act.put, List.setIfInBounds_toArray, List.set_cons_zero, List.set_cons_succ]))
    refine wpAnyH_done (by kernel_rfl) ?_ _
    clear c44_T_0 c44_T_1 c44_T_2
    clear c45_A_0 c45_A_1 c45_A_2
    have HB_46 := Lib.hid (HB0.out.trans (hb7.mono HB0.out.size))
    have T_46 := Lib.hid (HX_T.out.below hb7 HX_T.out.lt)
    have A_46 := Lib.hid (HX_A.out.below hb7 HX_A.out.lt)
    clear hb7
    have c47_T_0 := T_46.out.at 0 (v := .int .i64 t) rfl
    have c47_T_1 := T_46.out.at 1 (v := .int .i64 z) rfl
    have c47_T_2 := T_46.out.at 2 (v := .slice a q.length cap) rfl
    have c48_A_0 := A_46.out.at 0 (v := .int .i64 0) rfl
    have c48_A_1 := A_46.out.at 1 (v := .int .i64 0) rfl
    have c48_A_2 := A_46.out.at 2 (v := .slice none 0 0) rfl
    have fr49_A_0 := A_46.out.free 0
    have fr49_A_1 := A_46.out.free 1
    have fr49_A_2 := A_46.out.free 2
    go_wp2_with fail
    obtain ⟨p1, q1⟩ := A_46.out.store3 (.int .i64 0) (.int .i64 0) (.slice none 0 0)
    refine bodyPost_ret (results_bx2 rfl isSw _ _ R_A rfl rfl rfl rfl p1) rfl ⟨_, rfl, ⟨rfl, .inl ⟨rfl, rfl⟩⟩, (HB_46.out.grown q1 HB_46.out.size (fun k hk => by have e2 : R_A = k := Option.some.inj hk; have := HR_A.out; omega))⟩
  | true =>
    rw [hok] at HG
    cases hs : serB x with
    | false =>
      rw [hs] at HSer
      have hno : dropOk ⟨t, z, q⟩ x = false := by rw [HO.out, hok, hs]; simp
      obtain ⟨e1, e2⟩ := HN.out hno
      rw [hno, e1, e2]
      dsimp only [sw0]
      clear hno e1 e2 HN HO
      have c50_T_0 := HX_T.out.at 0 (v := .int .i64 t) rfl
      have c50_T_1 := HX_T.out.at 1 (v := .int .i64 z) rfl
      have c50_T_2 := HX_T.out.at 2 (v := .slice a q.length cap) rfl
      have c51_A_0 := HX_A.out.at 0 (v := .int .i64 0) rfl
      have c51_A_1 := HX_A.out.at 1 (v := .int .i64 0) rfl
      have c51_A_2 := HX_A.out.at 2 (v := .slice none 0 0) rfl
      have HK3 := Lib.hid (fun (w' : World) (hb : Below W0.heap.size W0 w') => (show w'.cell? ⟨R_T, 0, none⟩ = some (.int .i64 t) ∧ w'.cell? ⟨R_T, 1, none⟩ = some (.int .i64 z) ∧ w'.cell? ⟨R_T, 2, none⟩ = some (.slice a q.length cap) ∧ Below w.heap.size w w' from ⟨(hb.cell (p := ⟨R_T, 0, none⟩) HX_T.out.lt).trans (HX_T.out.at 0 (v := .int .i64 t) rfl), (hb.cell (p := ⟨R_T, 1, none⟩) HX_T.out.lt).trans (HX_T.out.at 1 (v := .int .i64 z) rfl), (hb.cell (p := ⟨R_T, 2, none⟩) HX_T.out.lt).trans (HX_T.out.at 2 (v := .slice a q.length cap) rfl), HB0.out.trans (hb.mono HB0.out.size)⟩))
      go_enter Try.func47, Try.ntmps47
      go_upto_region 1 with fail
      rw [← HW0.out, ← HR_A.out, ← HR_T.out]
      refine wp_region_held_drew (S := (fun w' => w'.cell? ⟨R_T, 0, none⟩ = some (.int .i64 t) ∧ w'.cell? ⟨R_T, 1, none⟩ = some (.int .i64 z) ∧ w'.cell? ⟨R_T, 2, none⟩ = some (.slice a q.length cap) ∧ Below w.heap.size w w')) (by kernel_rfl) ?_ (fun hHeld => ?_)
      · exact HK3.out _ (Below.drew (Below.refl _ _))
      (refine wpAnyH_take (i := 0) (oi := { dst := some 8, op := Go.Op.load 26 (Go.Operand.tmp 2), type := 26, pos := "l9_sending.go:64", after := #[], guard := none }) (v := (.agg #[.int .i64 t, .int .i64 z, .slice a q.length cap])) rfl (by kernel_rfl) (by kernel_rfl) (by kernel_rfl) (fun _ _ _ h => h) (Or.inl ⟨by rfl, ?_⟩) (by assumption) ?_; (focus (intro w' hSw; (try dsimp only at hSw); go_simp; (try with_reducible rfl))); (try simp only [Act.put, List.setIfInBounds_toArray, List.set_cons_zero, List.set_cons_succ]))
      refine wpAnyH_ready (rs := [1]) (by kernel_rfl) (by simp) ?_
      refine AllReadyH.cons rfl (fun K hK => ?_) AllReadyH.nil
      go_simp
      (go_at_call 93; refine (HG.out _ (HP.out.below (HB0.out.trans ((by repeat (first | with_reducible assumption | with_reducible exact Below.refl _ _ | with_reducible refine Below.drew ?_ | with_reducible refine below_alloc' ?_) : Below W0.heap.size W0 _).mono HB0.out.size)) (Nat.le_refl _))).mono ?_; rintro e w7 ⟨rfl, l7⟩; have hb7 := below_call7 (by repeat (first | with_reducible assumption | with_reducible exact Below.refl _ _ | with_reducible refine Below.drew ?_ | with_reducible refine below_alloc' ?_) : Below W0.heap.size W0 _) l7; clear l7)
      refine hK.out _ _ ?S13 (fun hHeld1 => ?rest13)
      case S13 =>
        (try dsimp only)
        refine HK3.out _ ?_; (repeat (first | with_reducible assumption | with_reducible exact Below.refl _ _ | with_reducible refine Below.drew ?_ | with_reducible refine below_alloc' ?_)); done
      clear hK K
      clear hHeld
      (try simp only [Act.put, List.setIfInBounds_toArray, List.set_cons_zero, List.set_cons_succ])
      (refine wpAnyH_take (i := 2) (oi := { dst := some 10, op := Go.Op.unOp Go.UnOp.not 4 (Go.Operand.tmp 9), type := 4, pos := "l9_sending.go:64", after := #[{ on := 1, ground := Go.Ground.data }], guard := none }) (v := (.bool false)) rfl (by kernel_rfl) (by kernel_rfl) (by kernel_rfl) (fun _ _ _ h => h) (Or.inl ⟨by rfl, ?_⟩) (by assumption) ?_; (focus (intro w' hSw; (try dsimp only at hSw); go_simp; (try with_reducible rfl))); (try simp only [Act.put, List.setIfInBounds_toArray, List.set_cons_zero, List.set_cons_succ]))
      (refine wpAnyH_take (i := 3) (oi := { dst := some 11, op := Go.Op.move (Go.Operand.tmp 10), type := 4, pos := "l9_sending.go:64", after := #[{ on := 2, ground := Go.Ground.data }, { on := 1, ground := Go.Ground.chain }], guard := none }) (v := (.bool false)) rfl (by kernel_rfl) (by kernel_rfl) (by kernel_rfl) (fun _ _ _ h => h) (Or.inl ⟨by rfl, ?_⟩) (by assumption) ?_; (focus (intro w' hSw; (try dsimp only at hSw); go_simp; (try with_reducible rfl))); (try simp only [Act.put, List.setIfInBounds_toArray, List.set_cons_zero, List.set_cons_succ]))
      (refine wpAnyH_take (i := 4) (oi := { dst := some 12, op := Go.Op.move (Go.Operand.tmp 1), type := 3, pos := "l9_sending.go:64", after := #[{ on := 3, ground := Go.Ground.guard }], guard := some (3, false) }) (v := (.int .i64 x)) rfl (by kernel_rfl) (by kernel_rfl) (by kernel_rfl) (fun _ _ _ h => h) (Or.inl ⟨by rfl, ?_⟩) (by assumption) ?_; (focus (intro w' hSw; (try dsimp only at hSw); go_simp; (try with_reducible rfl))); (try simp only [Act.put, List.setIfInBounds_toArray, List.set_cons_zero, List.set_cons_succ]))
      refine wpAnyH_ready (rs := [5]) (by kernel_rfl) (by simp) ?_
      refine AllReadyH.cons rfl (fun K hK => ?_) AllReadyH.nil
      go_simp
      (go_at_call 66; refine (HSer.out _).mono ?_; rintro e _ ⟨rfl, rfl⟩)
      refine hK.out _ _ ?S23 (fun hHeld2 => ?rest23)
      case S23 =>
        (try dsimp only)
        refine HK3.out _ ?_; (repeat (first | with_reducible assumption | with_reducible exact Below.refl _ _ | with_reducible refine Below.drew ?_ | with_reducible refine below_alloc' ?_)); done
      clear hK K
      clear hHeld1
      (try simp only [Act.put, List.setIfInBounds_toArray, List.set_cons_zero, List.set_cons_succ])
      (refine wpAnyH_take (i := 6) (oi := { dst := some 14, op := Go.Op.unOp Go.UnOp.not 4 (Go.Operand.tmp 13), type := 4, pos := "l9_sending.go:64", after := #[{ on := 5, ground := Go.Ground.data }, { on := 3, ground := Go.Ground.guard }], guard := some (3, false) }) (v := (.bool true)) rfl (by kernel_rfl) (by kernel_rfl) (by kernel_rfl) (fun _ _ _ h => h) (Or.inl ⟨by rfl, ?_⟩) (by assumption) ?_; (focus (intro w' hSw; (try dsimp only at hSw); go_simp; (try with_reducible rfl))); (try simp only [Act.put, List.setIfInBounds_toArray, List.set_cons_zero, List.set_cons_succ]))
      (refine wpAnyH_take (i := 7) (oi := { dst := some 15, op := Go.Op.pick (Go.Operand.tmp 11) (Go.Operand.const (Go.Value.bool true)) (Go.Operand.tmp 14), type := 4, pos := "l9_sending.go:64", after := #[{ on := 3, ground := Go.Ground.data }, { on := 6, ground := Go.Ground.data }], guard := none }) (v := (.bool true)) rfl (by kernel_rfl) (by kernel_rfl) (by kernel_rfl) (fun _ _ _ h => h) (Or.inl ⟨by rfl, ?_⟩) (by assumption) ?_; (focus (intro w' hSw; (try dsimp only at hSw); go_simp; (try with_reducible rfl))); (try simp only [Act.put, List.setIfInBounds_toArray, List.set_cons_zero, List.set_cons_succ]))
      (refine wpAnyH_take (i := 8) (oi := { dst := some 16, op := Go.Op.move (Go.Operand.tmp 15), type := 4, pos := "l9_sending.go:64", after := #[{ on := 7, ground := Go.Ground.data }, { on := 5, ground := Go.Ground.chain }], guard := none }) (v := (.bool true)) rfl (by kernel_rfl) (by kernel_rfl) (by kernel_rfl) (fun _ _ _ h => h) (Or.inl ⟨by rfl, ?_⟩) (by assumption) ?_; (focus (intro w' hSw; (try dsimp only at hSw); go_simp; (try with_reducible rfl))); (try simp only [Act.put, List.setIfInBounds_toArray, List.set_cons_zero, List.set_cons_succ]))
      (refine wpAnyH_take (i := 9) (oi := { dst := some 17, op := Go.Op.fieldAddr 26 (Go.Operand.tmp 2) 0, type := 0, pos := "l9_sending.go:64", after := #[{ on := 8, ground := Go.Ground.guard }], guard := some (8, false) }) (v := undef) rfl (by kernel_rfl) (by kernel_rfl) (by kernel_rfl) (fun _ _ _ h => h) (Or.inr ⟨by kernel_rfl, rfl⟩) (by assumption) ?_; (try simp only [Act.put, List.setIfInBounds_toArray, List.set_cons_zero, List.set_cons_succ]))
      (refine wpAnyH_take (i := 10) (oi := { dst := some 18, op := Go.Op.load 3 (Go.Operand.tmp 17), type := 3, pos := "l9_sending.go:64", after := #[{ on := 9, ground := Go.Ground.data }, { on := 8, ground := Go.Ground.guard }], guard := some (8, false) }) (v := undef) rfl (by kernel_rfl) (by kernel_rfl) (by kernel_rfl) (fun _ _ _ h => h) (Or.inr ⟨by kernel_rfl, rfl⟩) (by assumption) ?_; (try simp only [Act.put, List.setIfInBounds_toArray, List.set_cons_zero, List.set_cons_succ]))
      (refine wpAnyH_take (i := 11) (oi := { dst := some 19, op := Go.Op.move (Go.Operand.tmp 1), type := 3, pos := "l9_sending.go:64", after := #[{ on := 8, ground := Go.Ground.guard }], guard := some (8, false) }) (v := undef) rfl (by kernel_rfl) (by kernel_rfl) (by kernel_rfl) (fun _ _ _ h => h) (Or.inr ⟨by kernel_rfl, rfl⟩) (by assumption) ?_; (try simp only [Act.put, List.setIfInBounds_toArray, List.set_cons_zero, List.set_cons_succ]))
      (refine wpAnyH_take (i := 12) (oi := { dst := some 20, op := Go.Op.call { callee := Go.Callee.value (Go.Operand.func 94), args := #[Go.Operand.tmp 18, Go.Operand.tmp 19], argTypes := #[3, 3] }, type := 3, pos := "l9_sending.go:64", after := #[{ on := 10, ground := Go.Ground.data }, { on := 11, ground := Go.Ground.data }, { on := 8, ground := Go.Ground.chain }, { on := 8, ground := Go.Ground.guard }], guard := some (8, false) }) (v := undef) rfl (by kernel_rfl) (by kernel_rfl) (by kernel_rfl) (fun _ _ _ h => h) (Or.inr ⟨by kernel_rfl, rfl⟩) (by assumption) ?_; (try simp only [Act.put, List.setIfInBounds_toArray, List.set_cons_zero, List.set_cons_succ]))
      (refine wpAnyH_take (i := 13) (oi := { dst := some 21, op := Go.Op.fieldAddr 26 (Go.Operand.tmp 2) 2, type := 0, pos := "l9_sending.go:64", after := #[{ on := 8, ground := Go.Ground.guard }], guard := some (8, false) }) (v := undef) rfl (by kernel_rfl) (by kernel_rfl) (by kernel_rfl) (fun _ _ _ h => h) (Or.inr ⟨by kernel_rfl, rfl⟩) (by assumption) ?_; (try simp only [Act.put, List.setIfInBounds_toArray, List.set_cons_zero, List.set_cons_succ]))
      (refine wpAnyH_take (i := 14) (oi := { dst := some 22, op := Go.Op.load 24 (Go.Operand.tmp 21), type := 24, pos := "l9_sending.go:64", after := #[{ on := 13, ground := Go.Ground.data }, { on := 8, ground := Go.Ground.guard }], guard := some (8, false) }) (v := undef) rfl (by kernel_rfl) (by kernel_rfl) (by kernel_rfl) (fun _ _ _ h => h) (Or.inr ⟨by kernel_rfl, rfl⟩) (by assumption) ?_; (try simp only [Act.put, List.setIfInBounds_toArray, List.set_cons_zero, List.set_cons_succ]))
      (refine wpAnyH_take (i := 15) (oi := { dst := some 23, op := Go.Op.call { callee := Go.Callee.builtin Go.Builtin.len, args := #[Go.Operand.tmp 22], argTypes := #[24] }, type := 3, pos := "l9_sending.go:64", after := #[{ on := 14, ground := Go.Ground.data }, { on := 8, ground := Go.Ground.guard }], guard := some (8, false) }) (v := undef) rfl (by kernel_rfl) (by kernel_rfl) (by kernel_rfl) (fun _ _ _ h => h) (Or.inr ⟨by kernel_rfl, rfl⟩) (by assumption) ?_; (try simp only [Act.put, List.setIfInBounds_toArray, List.set_cons_zero, List.set_cons_succ]))
      (refine wpAnyH_take (i := 16) (oi := { dst := some 24, op := Go.Op.binOp Go.BinOp.gtr 3 (Go.Operand.tmp 20) (Go.Operand.tmp 23) 3, type := 4, pos := "l9_sending.go:64", after := #[{ on := 12, ground := Go.Ground.data }, { on := 15, ground := Go.Ground.data }, { on := 8, ground := Go.Ground.guard }], guard := some (8, false) }) (v := undef) rfl (by kernel_rfl) (by kernel_rfl) (by kernel_rfl) (fun _ _ _ h => h) (Or.inr ⟨by kernel_rfl, rfl⟩) (by assumption) ?_; (try simp only [Act.put, List.setIfInBounds_toArray, List.set_cons_zero, List.set_cons_succ]))
      (refine wpAnyH_take (i := 17) (oi := { dst := some 25, op := Go.Op.pick (Go.Operand.tmp 16) (Go.Operand.const (Go.Value.bool true)) (Go.Operand.tmp 24), type := 4, pos := "l9_sending.go:64", after := #[{ on := 8, ground := Go.Ground.data }, { on := 16, ground := Go.Ground.data }], guard := none }) (v := (.bool true)) rfl (by kernel_rfl) (by kernel_rfl) (by kernel_rfl) (fun _ _ _ h => h) (Or.inl ⟨by rfl, ?_⟩) (by assumption) ?_; (focus (intro w' hSw; (try dsimp only at hSw); go_simp; (try with_reducible rfl))); (try simp only [Act.put, List.setIfInBounds_toArray, List.set_cons_zero, List.set_cons_succ]))
      refine wpAnyH_done (by kernel_rfl) ?_ _
      clear c50_T_0 c50_T_1 c50_T_2
      clear c51_A_0 c51_A_1 c51_A_2
      have HB_52 := Lib.hid (HB0.out.trans (hb7.mono HB0.out.size))
      have T_52 := Lib.hid (HX_T.out.below hb7 HX_T.out.lt)
      have A_52 := Lib.hid (HX_A.out.below hb7 HX_A.out.lt)
      clear hb7
      have c53_T_0 := T_52.out.at 0 (v := .int .i64 t) rfl
      have c53_T_1 := T_52.out.at 1 (v := .int .i64 z) rfl
      have c53_T_2 := T_52.out.at 2 (v := .slice a q.length cap) rfl
      have c54_A_0 := A_52.out.at 0 (v := .int .i64 0) rfl
      have c54_A_1 := A_52.out.at 1 (v := .int .i64 0) rfl
      have c54_A_2 := A_52.out.at 2 (v := .slice none 0 0) rfl
      have fr55_A_0 := A_52.out.free 0
      have fr55_A_1 := A_52.out.free 1
      have fr55_A_2 := A_52.out.free 2
      go_wp2_with fail
      obtain ⟨p1, q1⟩ := A_52.out.store3 (.int .i64 0) (.int .i64 0) (.slice none 0 0)
      refine bodyPost_ret (results_bx2 rfl isSw _ _ R_A rfl rfl rfl rfl p1) rfl ⟨_, rfl, ⟨rfl, .inl ⟨rfl, rfl⟩⟩, (HB_52.out.grown q1 HB_52.out.size (fun k hk => by have e2 : R_A = k := Option.some.inj hk; have := HR_A.out; omega))⟩
    | true =>
      rw [hs] at HSer
      have ht := (swOk_iff.1 hok).1
      dsimp only at ht
      have hx := serB_bd hs
      have HC := Lib.hid (fun (W1 : World) => l2Gap_any t x W1 ht.1 ht.2 hx.1 hx.2)
      have hgb := gapI_bd t x
      obtain ⟨k, hk⟩ : ∃ k : Nat, gapI t x = (k : Int) := ⟨(gapI t x).toNat, by omega⟩
      rw [hk] at HC HO
      by_cases hkq : k ≤ q.length
      rotate_left
      · have hkI : ¬ (k : Int) ≤ (q.length : Int) := by omega
        have hkd : decide (q.length < k) = true := decide_eq_true (by omega)
        rw [decide_eq_false hkI] at HO
        clear hk hgb ht hx hkI
        have hno : dropOk ⟨t, z, q⟩ x = false := by rw [HO.out, hok, hs]; simp
        obtain ⟨e1, e2⟩ := HN.out hno
        rw [hno, e1, e2]
        dsimp only [sw0]
        clear hno e1 e2 HN HO
        have c56_T_0 := HX_T.out.at 0 (v := .int .i64 t) rfl
        have c56_T_1 := HX_T.out.at 1 (v := .int .i64 z) rfl
        have c56_T_2 := HX_T.out.at 2 (v := .slice a q.length cap) rfl
        have c57_A_0 := HX_A.out.at 0 (v := .int .i64 0) rfl
        have c57_A_1 := HX_A.out.at 1 (v := .int .i64 0) rfl
        have c57_A_2 := HX_A.out.at 2 (v := .slice none 0 0) rfl
        have HK4 := Lib.hid (fun (w' : World) (hb : Below W0.heap.size W0 w') => (show w'.cell? ⟨R_T, 0, none⟩ = some (.int .i64 t) ∧ w'.cell? ⟨R_T, 1, none⟩ = some (.int .i64 z) ∧ w'.cell? ⟨R_T, 2, none⟩ = some (.slice a q.length cap) ∧ Below w.heap.size w w' from ⟨(hb.cell (p := ⟨R_T, 0, none⟩) HX_T.out.lt).trans (HX_T.out.at 0 (v := .int .i64 t) rfl), (hb.cell (p := ⟨R_T, 1, none⟩) HX_T.out.lt).trans (HX_T.out.at 1 (v := .int .i64 z) rfl), (hb.cell (p := ⟨R_T, 2, none⟩) HX_T.out.lt).trans (HX_T.out.at 2 (v := .slice a q.length cap) rfl), HB0.out.trans (hb.mono HB0.out.size)⟩))
        go_enter Try.func47, Try.ntmps47
        go_upto_region 1 with fail
        rw [← HW0.out, ← HR_A.out, ← HR_T.out]
        refine wp_region_held_drew (S := (fun w' => w'.cell? ⟨R_T, 0, none⟩ = some (.int .i64 t) ∧ w'.cell? ⟨R_T, 1, none⟩ = some (.int .i64 z) ∧ w'.cell? ⟨R_T, 2, none⟩ = some (.slice a q.length cap) ∧ Below w.heap.size w w')) (by kernel_rfl) ?_ (fun hHeld => ?_)
        · exact HK4.out _ (Below.drew (Below.refl _ _))
        (refine wpAnyH_take (i := 0) (oi := { dst := some 8, op := Go.Op.load 26 (Go.Operand.tmp 2), type := 26, pos := "l9_sending.go:64", after := #[], guard := none }) (v := (.agg #[.int .i64 t, .int .i64 z, .slice a q.length cap])) rfl (by kernel_rfl) (by kernel_rfl) (by kernel_rfl) (fun _ _ _ h => h) (Or.inl ⟨by rfl, ?_⟩) (by assumption) ?_; (focus (intro w' hSw; (try dsimp only at hSw); go_simp; (try with_reducible rfl))); (try simp only [Act.put, List.setIfInBounds_toArray, List.set_cons_zero, List.set_cons_succ]))
        refine wpAnyH_ready (rs := [1]) (by kernel_rfl) (by simp) ?_
        refine AllReadyH.cons rfl (fun K hK => ?_) AllReadyH.nil
        go_simp
        (go_at_call 93; refine (HG.out _ (HP.out.below (HB0.out.trans ((by repeat (first | with_reducible assumption | with_reducible exact Below.refl _ _ | with_reducible refine Below.drew ?_ | with_reducible refine below_alloc' ?_) : Below W0.heap.size W0 _).mono HB0.out.size)) (Nat.le_refl _))).mono ?_; rintro e w7 ⟨rfl, l7⟩; have hb7 := below_call7 (by repeat (first | with_reducible assumption | with_reducible exact Below.refl _ _ | with_reducible refine Below.drew ?_ | with_reducible refine below_alloc' ?_) : Below W0.heap.size W0 _) l7; clear l7)
        refine hK.out _ _ ?S14 (fun hHeld1 => ?rest14)
        case S14 =>
          (try dsimp only)
          refine HK4.out _ ?_; (repeat (first | with_reducible assumption | with_reducible exact Below.refl _ _ | with_reducible refine Below.drew ?_ | with_reducible refine below_alloc' ?_)); done
        clear hK K
        clear hHeld
        (try simp only [Act.put, List.setIfInBounds_toArray, List.set_cons_zero, List.set_cons_succ])
        (refine wpAnyH_take (i := 2) (oi := { dst := some 10, op := Go.Op.unOp Go.UnOp.not 4 (Go.Operand.tmp 9), type := 4, pos := "l9_sending.go:64", after := #[{ on := 1, ground := Go.Ground.data }], guard := none }) (v := (.bool false)) rfl (by kernel_rfl) (by kernel_rfl) (by kernel_rfl) (fun _ _ _ h => h) (Or.inl ⟨by rfl, ?_⟩) (by assumption) ?_; (focus (intro w' hSw; (try dsimp only at hSw); go_simp; (try with_reducible rfl))); (try simp only [Act.put, List.setIfInBounds_toArray, List.set_cons_zero, List.set_cons_succ]))
        (refine wpAnyH_take (i := 3) (oi := { dst := some 11, op := Go.Op.move (Go.Operand.tmp 10), type := 4, pos := "l9_sending.go:64", after := #[{ on := 2, ground := Go.Ground.data }, { on := 1, ground := Go.Ground.chain }], guard := none }) (v := (.bool false)) rfl (by kernel_rfl) (by kernel_rfl) (by kernel_rfl) (fun _ _ _ h => h) (Or.inl ⟨by rfl, ?_⟩) (by assumption) ?_; (focus (intro w' hSw; (try dsimp only at hSw); go_simp; (try with_reducible rfl))); (try simp only [Act.put, List.setIfInBounds_toArray, List.set_cons_zero, List.set_cons_succ]))
        (refine wpAnyH_take (i := 4) (oi := { dst := some 12, op := Go.Op.move (Go.Operand.tmp 1), type := 3, pos := "l9_sending.go:64", after := #[{ on := 3, ground := Go.Ground.guard }], guard := some (3, false) }) (v := (.int .i64 x)) rfl (by kernel_rfl) (by kernel_rfl) (by kernel_rfl) (fun _ _ _ h => h) (Or.inl ⟨by rfl, ?_⟩) (by assumption) ?_; (focus (intro w' hSw; (try dsimp only at hSw); go_simp; (try with_reducible rfl))); (try simp only [Act.put, List.setIfInBounds_toArray, List.set_cons_zero, List.set_cons_succ]))
        refine wpAnyH_ready (rs := [5]) (by kernel_rfl) (by simp) ?_
        refine AllReadyH.cons rfl (fun K hK => ?_) AllReadyH.nil
        go_simp
        (go_at_call 66; refine (HSer.out _).mono ?_; rintro e _ ⟨rfl, rfl⟩)
        refine hK.out _ _ ?S24 (fun hHeld2 => ?rest24)
        case S24 =>
          (try dsimp only)
          refine HK4.out _ ?_; (repeat (first | with_reducible assumption | with_reducible exact Below.refl _ _ | with_reducible refine Below.drew ?_ | with_reducible refine below_alloc' ?_)); done
        clear hK K
        clear hHeld1
        (try simp only [Act.put, List.setIfInBounds_toArray, List.set_cons_zero, List.set_cons_succ])
        (refine wpAnyH_take (i := 6) (oi := { dst := some 14, op := Go.Op.unOp Go.UnOp.not 4 (Go.Operand.tmp 13), type := 4, pos := "l9_sending.go:64", after := #[{ on := 5, ground := Go.Ground.data }, { on := 3, ground := Go.Ground.guard }], guard := some (3, false) }) (v := (.bool false)) rfl (by kernel_rfl) (by kernel_rfl) (by kernel_rfl) (fun _ _ _ h => h) (Or.inl ⟨by rfl, ?_⟩) (by assumption) ?_; (focus (intro w' hSw; (try dsimp only at hSw); go_simp; (try with_reducible rfl))); (try simp only [Act.put, List.setIfInBounds_toArray, List.set_cons_zero, List.set_cons_succ]))
        (refine wpAnyH_take (i := 7) (oi := { dst := some 15, op := Go.Op.pick (Go.Operand.tmp 11) (Go.Operand.const (Go.Value.bool true)) (Go.Operand.tmp 14), type := 4, pos := "l9_sending.go:64", after := #[{ on := 3, ground := Go.Ground.data }, { on := 6, ground := Go.Ground.data }], guard := none }) (v := (.bool false)) rfl (by kernel_rfl) (by kernel_rfl) (by kernel_rfl) (fun _ _ _ h => h) (Or.inl ⟨by rfl, ?_⟩) (by assumption) ?_; (focus (intro w' hSw; (try dsimp only at hSw); go_simp; (try with_reducible rfl))); (try simp only [Act.put, List.setIfInBounds_toArray, List.set_cons_zero, List.set_cons_succ]))
        (refine wpAnyH_take (i := 8) (oi := { dst := some 16, op := Go.Op.move (Go.Operand.tmp 15), type := 4, pos := "l9_sending.go:64", after := #[{ on := 7, ground := Go.Ground.data }, { on := 5, ground := Go.Ground.chain }], guard := none }) (v := (.bool false)) rfl (by kernel_rfl) (by kernel_rfl) (by kernel_rfl) (fun _ _ _ h => h) (Or.inl ⟨by rfl, ?_⟩) (by assumption) ?_; (focus (intro w' hSw; (try dsimp only at hSw); go_simp; (try with_reducible rfl))); (try simp only [Act.put, List.setIfInBounds_toArray, List.set_cons_zero, List.set_cons_succ]))
        (refine wpAnyH_take (i := 9) (oi := { dst := some 17, op := Go.Op.fieldAddr 26 (Go.Operand.tmp 2) 0, type := 0, pos := "l9_sending.go:64", after := #[{ on := 8, ground := Go.Ground.guard }], guard := some (8, false) }) (v := (.pointer (some ⟨R_T, 0, none⟩))) rfl (by kernel_rfl) (by kernel_rfl) (by kernel_rfl) (fun _ _ _ h => h) (Or.inl ⟨by rfl, ?_⟩) (by assumption) ?_; (focus (intro w' hSw; (try dsimp only at hSw); go_simp; (try with_reducible rfl))); (try simp only [Act.put, List.setIfInBounds_toArray, List.set_cons_zero, List.set_cons_succ]))
        (refine wpAnyH_take (i := 10) (oi := { dst := some 18, op := Go.Op.load 3 (Go.Operand.tmp 17), type := 3, pos := "l9_sending.go:64", after := #[{ on := 9, ground := Go.Ground.data }, { on := 8, ground := Go.Ground.guard }], guard := some (8, false) }) (v := (.int .i64 t)) rfl (by kernel_rfl) (by kernel_rfl) (by kernel_rfl) (fun _ _ _ h => h) (Or.inl ⟨by rfl, ?_⟩) (by assumption) ?_; (focus (intro w' hSw; (try dsimp only at hSw); go_simp; (try with_reducible rfl))); (try simp only [Act.put, List.setIfInBounds_toArray, List.set_cons_zero, List.set_cons_succ]))
        (refine wpAnyH_take (i := 11) (oi := { dst := some 19, op := Go.Op.move (Go.Operand.tmp 1), type := 3, pos := "l9_sending.go:64", after := #[{ on := 8, ground := Go.Ground.guard }], guard := some (8, false) }) (v := (.int .i64 x)) rfl (by kernel_rfl) (by kernel_rfl) (by kernel_rfl) (fun _ _ _ h => h) (Or.inl ⟨by rfl, ?_⟩) (by assumption) ?_; (focus (intro w' hSw; (try dsimp only at hSw); go_simp; (try with_reducible rfl))); (try simp only [Act.put, List.setIfInBounds_toArray, List.set_cons_zero, List.set_cons_succ]))
        (refine wpAnyH_take (i := 13) (oi := { dst := some 21, op := Go.Op.fieldAddr 26 (Go.Operand.tmp 2) 2, type := 0, pos := "l9_sending.go:64", after := #[{ on := 8, ground := Go.Ground.guard }], guard := some (8, false) }) (v := (.pointer (some ⟨R_T, 2, none⟩))) rfl (by kernel_rfl) (by kernel_rfl) (by kernel_rfl) (fun _ _ _ h => h) (Or.inl ⟨by rfl, ?_⟩) (by assumption) ?_; (focus (intro w' hSw; (try dsimp only at hSw); go_simp; (try with_reducible rfl))); (try simp only [Act.put, List.setIfInBounds_toArray, List.set_cons_zero, List.set_cons_succ]))
        (refine wpAnyH_take (i := 14) (oi := { dst := some 22, op := Go.Op.load 24 (Go.Operand.tmp 21), type := 24, pos := "l9_sending.go:64", after := #[{ on := 13, ground := Go.Ground.data }, { on := 8, ground := Go.Ground.guard }], guard := some (8, false) }) (v := (.slice a q.length cap)) rfl (by kernel_rfl) (by kernel_rfl) (by kernel_rfl) (fun _ _ _ h => h) (Or.inl ⟨by rfl, ?_⟩) (by assumption) ?_; (focus (intro w' hSw; (try dsimp only at hSw); go_simp; (try with_reducible rfl))); (try simp only [Act.put, List.setIfInBounds_toArray, List.set_cons_zero, List.set_cons_succ]))
        (refine wpAnyH_take (i := 15) (oi := { dst := some 23, op := Go.Op.call { callee := Go.Callee.builtin Go.Builtin.len, args := #[Go.Operand.tmp 22], argTypes := #[24] }, type := 3, pos := "l9_sending.go:64", after := #[{ on := 14, ground := Go.Ground.data }, { on := 8, ground := Go.Ground.guard }], guard := some (8, false) }) (v := (.int .i64 (q.length : Nat))) rfl (by kernel_rfl) (by kernel_rfl) (by kernel_rfl) (fun _ _ _ h => h) (Or.inl ⟨by rfl, ?_⟩) (by assumption) ?_; (focus (intro w' hSw; (try dsimp only at hSw); go_simp; (try with_reducible rfl))); (try simp only [Act.put, List.setIfInBounds_toArray, List.set_cons_zero, List.set_cons_succ]))
        refine wpAnyH_ready (rs := [12]) (by kernel_rfl) (by simp) ?_
        refine AllReadyH.cons rfl (fun K hK => ?_) AllReadyH.nil
        go_simp
        (go_at_call 94; refine (HC.out _).mono ?_; rintro e _ ⟨rfl, rfl⟩)
        refine hK.out _ _ ?S34 (fun hHeld3 => ?rest34)
        case S34 =>
          (try dsimp only)
          refine HK4.out _ ?_; (repeat (first | with_reducible assumption | with_reducible exact Below.refl _ _ | with_reducible refine Below.drew ?_ | with_reducible refine below_alloc' ?_)); done
        clear hK K
        clear hHeld2
        (try simp only [Act.put, List.setIfInBounds_toArray, List.set_cons_zero, List.set_cons_succ])
        (refine wpAnyH_take (i := 16) (oi := { dst := some 24, op := Go.Op.binOp Go.BinOp.gtr 3 (Go.Operand.tmp 20) (Go.Operand.tmp 23) 3, type := 4, pos := "l9_sending.go:64", after := #[{ on := 12, ground := Go.Ground.data }, { on := 15, ground := Go.Ground.data }, { on := 8, ground := Go.Ground.guard }], guard := some (8, false) }) (v := (.bool true)) rfl (by kernel_rfl) (by kernel_rfl) (by kernel_rfl) (fun _ _ _ h => h) (Or.inl ⟨by rfl, ?_⟩) (by assumption) ?_; (focus (intro w' hSw; (try dsimp only at hSw); go_simp; (try with_reducible rfl))); (try simp only [Act.put, List.setIfInBounds_toArray, List.set_cons_zero, List.set_cons_succ]))
        (refine wpAnyH_take (i := 17) (oi := { dst := some 25, op := Go.Op.pick (Go.Operand.tmp 16) (Go.Operand.const (Go.Value.bool true)) (Go.Operand.tmp 24), type := 4, pos := "l9_sending.go:64", after := #[{ on := 8, ground := Go.Ground.data }, { on := 16, ground := Go.Ground.data }], guard := none }) (v := (.bool true)) rfl (by kernel_rfl) (by kernel_rfl) (by kernel_rfl) (fun _ _ _ h => h) (Or.inl ⟨by rfl, ?_⟩) (by assumption) ?_; (focus (intro w' hSw; (try dsimp only at hSw); go_simp; (try with_reducible rfl))); (try simp only [Act.put, List.setIfInBounds_toArray, List.set_cons_zero, List.set_cons_succ]))
        refine wpAnyH_done (by kernel_rfl) ?_ _
        clear c56_T_0 c56_T_1 c56_T_2
        clear c57_A_0 c57_A_1 c57_A_2
        have HB_58 := Lib.hid (HB0.out.trans (hb7.mono HB0.out.size))
        have T_58 := Lib.hid (HX_T.out.below hb7 HX_T.out.lt)
        have A_58 := Lib.hid (HX_A.out.below hb7 HX_A.out.lt)
        clear hb7
        have c59_T_0 := T_58.out.at 0 (v := .int .i64 t) rfl
        have c59_T_1 := T_58.out.at 1 (v := .int .i64 z) rfl
        have c59_T_2 := T_58.out.at 2 (v := .slice a q.length cap) rfl
        have c60_A_0 := A_58.out.at 0 (v := .int .i64 0) rfl
        have c60_A_1 := A_58.out.at 1 (v := .int .i64 0) rfl
        have c60_A_2 := A_58.out.at 2 (v := .slice none 0 0) rfl
        have fr61_A_0 := A_58.out.free 0
        have fr61_A_1 := A_58.out.free 1
        have fr61_A_2 := A_58.out.free 2
        go_wp2_with fail
        obtain ⟨p1, q1⟩ := A_58.out.store3 (.int .i64 0) (.int .i64 0) (.slice none 0 0)
        refine bodyPost_ret (results_bx2 rfl isSw _ _ R_A rfl rfl rfl rfl p1) rfl ⟨_, rfl, ⟨rfl, .inl ⟨rfl, rfl⟩⟩, (HB_58.out.grown q1 HB_58.out.size (fun k hk => by have e2 : R_A = k := Option.some.inj hk; have := HR_A.out; omega))⟩
      have hkI : (k : Int) ≤ (q.length : Int) := by omega
      have hkd : decide (q.length < k) = false := decide_eq_false (by omega)
      have hkd2 : ¬ (q.length : Int) < (k : Int) := by omega
      rw [decide_eq_true hkI, hok, hs] at HO
      have hyes : dropOk ⟨t, z, q⟩ x = true := HO.out
      have e1 : dropV ⟨t, z, q⟩ x = dropN ⟨t, z, q⟩ k := by unfold dropV; rw [if_pos hyes]; show dropN ⟨t, z, q⟩ (gapI t x).toNat = _; rw [hk, Int.toNat_natCast]
      have e2 : dropC ⟨t, z, q⟩ x = (k : Int) := by unfold dropC; rw [if_pos hyes]; exact hk
      rw [hyes, e1, e2]
      have HD := Lib.hid (fun (W1 : World) (hr : Row W1 (.slice a q.length cap) q.length (q.map Value.string)) => l9Drop_any (.slice a q.length cap) ⟨t, z, q⟩ k W1 hr HFit.out ht hkq (by have h1 := (swOk_iff.1 hok).2.1.2; have h2 := (swOk_iff.1 hok).2.2.1; dsimp only at h1 h2 ⊢; omega))
      generalize dropN ⟨t, z, q⟩ k = y at HD ⊢
      clear hyes e1 e2 HN HO hk hgb ht hx hok hs hkd2
      have c62_T_0 := HX_T.out.at 0 (v := .int .i64 t) rfl
      have c62_T_1 := HX_T.out.at 1 (v := .int .i64 z) rfl
      have c62_T_2 := HX_T.out.at 2 (v := .slice a q.length cap) rfl
      have c63_A_0 := HX_A.out.at 0 (v := .int .i64 0) rfl
      have c63_A_1 := HX_A.out.at 1 (v := .int .i64 0) rfl
      have c63_A_2 := HX_A.out.at 2 (v := .slice none 0 0) rfl
      have HK5 := Lib.hid (fun (w' : World) (hb : Below W0.heap.size W0 w') => (show w'.cell? ⟨R_T, 0, none⟩ = some (.int .i64 t) ∧ w'.cell? ⟨R_T, 1, none⟩ = some (.int .i64 z) ∧ w'.cell? ⟨R_T, 2, none⟩ = some (.slice a q.length cap) ∧ Below w.heap.size w w' from ⟨(hb.cell (p := ⟨R_T, 0, none⟩) HX_T.out.lt).trans (HX_T.out.at 0 (v := .int .i64 t) rfl), (hb.cell (p := ⟨R_T, 1, none⟩) HX_T.out.lt).trans (HX_T.out.at 1 (v := .int .i64 z) rfl), (hb.cell (p := ⟨R_T, 2, none⟩) HX_T.out.lt).trans (HX_T.out.at 2 (v := .slice a q.length cap) rfl), HB0.out.trans (hb.mono HB0.out.size)⟩))
      go_enter Try.func47, Try.ntmps47
      go_upto_region 1 with fail
      rw [← HW0.out, ← HR_A.out, ← HR_T.out]
      refine wp_region_held_drew (S := (fun w' => w'.cell? ⟨R_T, 0, none⟩ = some (.int .i64 t) ∧ w'.cell? ⟨R_T, 1, none⟩ = some (.int .i64 z) ∧ w'.cell? ⟨R_T, 2, none⟩ = some (.slice a q.length cap) ∧ Below w.heap.size w w')) (by kernel_rfl) ?_ (fun hHeld => ?_)
      · exact HK5.out _ (Below.drew (Below.refl _ _))
      (refine wpAnyH_take (i := 0) (oi := { dst := some 8, op := Go.Op.load 26 (Go.Operand.tmp 2), type := 26, pos := "l9_sending.go:64", after := #[], guard := none }) (v := (.agg #[.int .i64 t, .int .i64 z, .slice a q.length cap])) rfl (by kernel_rfl) (by kernel_rfl) (by kernel_rfl) (fun _ _ _ h => h) (Or.inl ⟨by rfl, ?_⟩) (by assumption) ?_; (focus (intro w' hSw; (try dsimp only at hSw); go_simp; (try with_reducible rfl))); (try simp only [Act.put, List.setIfInBounds_toArray, List.set_cons_zero, List.set_cons_succ]))
      refine wpAnyH_ready (rs := [1]) (by kernel_rfl) (by simp) ?_
      refine AllReadyH.cons rfl (fun K hK => ?_) AllReadyH.nil
      go_simp
      (go_at_call 93; refine (HG.out _ (HP.out.below (HB0.out.trans ((by repeat (first | with_reducible assumption | with_reducible exact Below.refl _ _ | with_reducible refine Below.drew ?_ | with_reducible refine below_alloc' ?_) : Below W0.heap.size W0 _).mono HB0.out.size)) (Nat.le_refl _))).mono ?_; rintro e w7 ⟨rfl, l7⟩; have hb7 := below_call7 (by repeat (first | with_reducible assumption | with_reducible exact Below.refl _ _ | with_reducible refine Below.drew ?_ | with_reducible refine below_alloc' ?_) : Below W0.heap.size W0 _) l7; clear l7)
      refine hK.out _ _ ?S15 (fun hHeld1 => ?rest15)
      case S15 =>
        (try dsimp only)
        refine HK5.out _ ?_; (repeat (first | with_reducible assumption | with_reducible exact Below.refl _ _ | with_reducible refine Below.drew ?_ | with_reducible refine below_alloc' ?_)); done
      clear hK K
      clear hHeld
      (try simp only [Act.put, List.setIfInBounds_toArray, List.set_cons_zero, List.set_cons_succ])
      (refine wpAnyH_take (i := 2) (oi := { dst := some 10, op := Go.Op.unOp Go.UnOp.not 4 (Go.Operand.tmp 9), type := 4, pos := "l9_sending.go:64", after := #[{ on := 1, ground := Go.Ground.data }], guard := none }) (v := (.bool false)) rfl (by kernel_rfl) (by kernel_rfl) (by kernel_rfl) (fun _ _ _ h => h) (Or.inl ⟨by rfl, ?_⟩) (by assumption) ?_; (focus (intro w' hSw; (try dsimp only at hSw); go_simp; (try with_reducible rfl))); (try simp only [Act.put, List.setIfInBounds_toArray, List.set_cons_zero, List.set_cons_succ]))
      (refine wpAnyH_take (i := 3) (oi := { dst := some 11, op := Go.Op.move (Go.Operand.tmp 10), type := 4, pos := "l9_sending.go:64", after := #[{ on := 2, ground := Go.Ground.data }, { on := 1, ground := Go.Ground.chain }], guard := none }) (v := (.bool false)) rfl (by kernel_rfl) (by kernel_rfl) (by kernel_rfl) (fun _ _ _ h => h) (Or.inl ⟨by rfl, ?_⟩) (by assumption) ?_; (focus (intro w' hSw; (try dsimp only at hSw); go_simp; (try with_reducible rfl))); (try simp only [Act.put, List.setIfInBounds_toArray, List.set_cons_zero, List.set_cons_succ]))
      (refine wpAnyH_take (i := 4) (oi := { dst := some 12, op := Go.Op.move (Go.Operand.tmp 1), type := 3, pos := "l9_sending.go:64", after := #[{ on := 3, ground := Go.Ground.guard }], guard := some (3, false) }) (v := (.int .i64 x)) rfl (by kernel_rfl) (by kernel_rfl) (by kernel_rfl) (fun _ _ _ h => h) (Or.inl ⟨by rfl, ?_⟩) (by assumption) ?_; (focus (intro w' hSw; (try dsimp only at hSw); go_simp; (try with_reducible rfl))); (try simp only [Act.put, List.setIfInBounds_toArray, List.set_cons_zero, List.set_cons_succ]))
      refine wpAnyH_ready (rs := [5]) (by kernel_rfl) (by simp) ?_
      refine AllReadyH.cons rfl (fun K hK => ?_) AllReadyH.nil
      go_simp
      (go_at_call 66; refine (HSer.out _).mono ?_; rintro e _ ⟨rfl, rfl⟩)
      refine hK.out _ _ ?S25 (fun hHeld2 => ?rest25)
      case S25 =>
        (try dsimp only)
        refine HK5.out _ ?_; (repeat (first | with_reducible assumption | with_reducible exact Below.refl _ _ | with_reducible refine Below.drew ?_ | with_reducible refine below_alloc' ?_)); done
      clear hK K
      clear hHeld1
      (try simp only [Act.put, List.setIfInBounds_toArray, List.set_cons_zero, List.set_cons_succ])
      (refine wpAnyH_take (i := 6) (oi := { dst := some 14, op := Go.Op.unOp Go.UnOp.not 4 (Go.Operand.tmp 13), type := 4, pos := "l9_sending.go:64", after := #[{ on := 5, ground := Go.Ground.data }, { on := 3, ground := Go.Ground.guard }], guard := some (3, false) }) (v := (.bool false)) rfl (by kernel_rfl) (by kernel_rfl) (by kernel_rfl) (fun _ _ _ h => h) (Or.inl ⟨by rfl, ?_⟩) (by assumption) ?_; (focus (intro w' hSw; (try dsimp only at hSw); go_simp; (try with_reducible rfl))); (try simp only [Act.put, List.setIfInBounds_toArray, List.set_cons_zero, List.set_cons_succ]))
      (refine wpAnyH_take (i := 7) (oi := { dst := some 15, op := Go.Op.pick (Go.Operand.tmp 11) (Go.Operand.const (Go.Value.bool true)) (Go.Operand.tmp 14), type := 4, pos := "l9_sending.go:64", after := #[{ on := 3, ground := Go.Ground.data }, { on := 6, ground := Go.Ground.data }], guard := none }) (v := (.bool false)) rfl (by kernel_rfl) (by kernel_rfl) (by kernel_rfl) (fun _ _ _ h => h) (Or.inl ⟨by rfl, ?_⟩) (by assumption) ?_; (focus (intro w' hSw; (try dsimp only at hSw); go_simp; (try with_reducible rfl))); (try simp only [Act.put, List.setIfInBounds_toArray, List.set_cons_zero, List.set_cons_succ]))
      (refine wpAnyH_take (i := 8) (oi := { dst := some 16, op := Go.Op.move (Go.Operand.tmp 15), type := 4, pos := "l9_sending.go:64", after := #[{ on := 7, ground := Go.Ground.data }, { on := 5, ground := Go.Ground.chain }], guard := none }) (v := (.bool false)) rfl (by kernel_rfl) (by kernel_rfl) (by kernel_rfl) (fun _ _ _ h => h) (Or.inl ⟨by rfl, ?_⟩) (by assumption) ?_; (focus (intro w' hSw; (try dsimp only at hSw); go_simp; (try with_reducible rfl))); (try simp only [Act.put, List.setIfInBounds_toArray, List.set_cons_zero, List.set_cons_succ]))
      (refine wpAnyH_take (i := 9) (oi := { dst := some 17, op := Go.Op.fieldAddr 26 (Go.Operand.tmp 2) 0, type := 0, pos := "l9_sending.go:64", after := #[{ on := 8, ground := Go.Ground.guard }], guard := some (8, false) }) (v := (.pointer (some ⟨R_T, 0, none⟩))) rfl (by kernel_rfl) (by kernel_rfl) (by kernel_rfl) (fun _ _ _ h => h) (Or.inl ⟨by rfl, ?_⟩) (by assumption) ?_; (focus (intro w' hSw; (try dsimp only at hSw); go_simp; (try with_reducible rfl))); (try simp only [Act.put, List.setIfInBounds_toArray, List.set_cons_zero, List.set_cons_succ]))
      (refine wpAnyH_take (i := 10) (oi := { dst := some 18, op := Go.Op.load 3 (Go.Operand.tmp 17), type := 3, pos := "l9_sending.go:64", after := #[{ on := 9, ground := Go.Ground.data }, { on := 8, ground := Go.Ground.guard }], guard := some (8, false) }) (v := (.int .i64 t)) rfl (by kernel_rfl) (by kernel_rfl) (by kernel_rfl) (fun _ _ _ h => h) (Or.inl ⟨by rfl, ?_⟩) (by assumption) ?_; (focus (intro w' hSw; (try dsimp only at hSw); go_simp; (try with_reducible rfl))); (try simp only [Act.put, List.setIfInBounds_toArray, List.set_cons_zero, List.set_cons_succ]))
      (refine wpAnyH_take (i := 11) (oi := { dst := some 19, op := Go.Op.move (Go.Operand.tmp 1), type := 3, pos := "l9_sending.go:64", after := #[{ on := 8, ground := Go.Ground.guard }], guard := some (8, false) }) (v := (.int .i64 x)) rfl (by kernel_rfl) (by kernel_rfl) (by kernel_rfl) (fun _ _ _ h => h) (Or.inl ⟨by rfl, ?_⟩) (by assumption) ?_; (focus (intro w' hSw; (try dsimp only at hSw); go_simp; (try with_reducible rfl))); (try simp only [Act.put, List.setIfInBounds_toArray, List.set_cons_zero, List.set_cons_succ]))
      (refine wpAnyH_take (i := 13) (oi := { dst := some 21, op := Go.Op.fieldAddr 26 (Go.Operand.tmp 2) 2, type := 0, pos := "l9_sending.go:64", after := #[{ on := 8, ground := Go.Ground.guard }], guard := some (8, false) }) (v := (.pointer (some ⟨R_T, 2, none⟩))) rfl (by kernel_rfl) (by kernel_rfl) (by kernel_rfl) (fun _ _ _ h => h) (Or.inl ⟨by rfl, ?_⟩) (by assumption) ?_; (focus (intro w' hSw; (try dsimp only at hSw); go_simp; (try with_reducible rfl))); (try simp only [Act.put, List.setIfInBounds_toArray, List.set_cons_zero, List.set_cons_succ]))
      (refine wpAnyH_take (i := 14) (oi := { dst := some 22, op := Go.Op.load 24 (Go.Operand.tmp 21), type := 24, pos := "l9_sending.go:64", after := #[{ on := 13, ground := Go.Ground.data }, { on := 8, ground := Go.Ground.guard }], guard := some (8, false) }) (v := (.slice a q.length cap)) rfl (by kernel_rfl) (by kernel_rfl) (by kernel_rfl) (fun _ _ _ h => h) (Or.inl ⟨by rfl, ?_⟩) (by assumption) ?_; (focus (intro w' hSw; (try dsimp only at hSw); go_simp; (try with_reducible rfl))); (try simp only [Act.put, List.setIfInBounds_toArray, List.set_cons_zero, List.set_cons_succ]))
      (refine wpAnyH_take (i := 15) (oi := { dst := some 23, op := Go.Op.call { callee := Go.Callee.builtin Go.Builtin.len, args := #[Go.Operand.tmp 22], argTypes := #[24] }, type := 3, pos := "l9_sending.go:64", after := #[{ on := 14, ground := Go.Ground.data }, { on := 8, ground := Go.Ground.guard }], guard := some (8, false) }) (v := (.int .i64 (q.length : Nat))) rfl (by kernel_rfl) (by kernel_rfl) (by kernel_rfl) (fun _ _ _ h => h) (Or.inl ⟨by rfl, ?_⟩) (by assumption) ?_; (focus (intro w' hSw; (try dsimp only at hSw); go_simp; (try with_reducible rfl))); (try simp only [Act.put, List.setIfInBounds_toArray, List.set_cons_zero, List.set_cons_succ]))
      refine wpAnyH_ready (rs := [12]) (by kernel_rfl) (by simp) ?_
      refine AllReadyH.cons rfl (fun K hK => ?_) AllReadyH.nil
      go_simp
      (go_at_call 94; refine (HC.out _).mono ?_; rintro e _ ⟨rfl, rfl⟩)
      refine hK.out _ _ ?S35 (fun hHeld3 => ?rest35)
      case S35 =>
        (try dsimp only)
        refine HK5.out _ ?_; (repeat (first | with_reducible assumption | with_reducible exact Below.refl _ _ | with_reducible refine Below.drew ?_ | with_reducible refine below_alloc' ?_)); done
      clear hK K
      clear hHeld2
      (try simp only [Act.put, List.setIfInBounds_toArray, List.set_cons_zero, List.set_cons_succ])
      (refine wpAnyH_take (i := 16) (oi := { dst := some 24, op := Go.Op.binOp Go.BinOp.gtr 3 (Go.Operand.tmp 20) (Go.Operand.tmp 23) 3, type := 4, pos := "l9_sending.go:64", after := #[{ on := 12, ground := Go.Ground.data }, { on := 15, ground := Go.Ground.data }, { on := 8, ground := Go.Ground.guard }], guard := some (8, false) }) (v := (.bool false)) rfl (by kernel_rfl) (by kernel_rfl) (by kernel_rfl) (fun _ _ _ h => h) (Or.inl ⟨by rfl, ?_⟩) (by assumption) ?_; (focus (intro w' hSw; (try dsimp only at hSw); go_simp; (try with_reducible rfl))); (try simp only [Act.put, List.setIfInBounds_toArray, List.set_cons_zero, List.set_cons_succ]))
      (refine wpAnyH_take (i := 17) (oi := { dst := some 25, op := Go.Op.pick (Go.Operand.tmp 16) (Go.Operand.const (Go.Value.bool true)) (Go.Operand.tmp 24), type := 4, pos := "l9_sending.go:64", after := #[{ on := 8, ground := Go.Ground.data }, { on := 16, ground := Go.Ground.data }], guard := none }) (v := (.bool false)) rfl (by kernel_rfl) (by kernel_rfl) (by kernel_rfl) (fun _ _ _ h => h) (Or.inl ⟨by rfl, ?_⟩) (by assumption) ?_; (focus (intro w' hSw; (try dsimp only at hSw); go_simp; (try with_reducible rfl))); (try simp only [Act.put, List.setIfInBounds_toArray, List.set_cons_zero, List.set_cons_succ]))
      refine wpAnyH_done (by kernel_rfl) ?_ _
      clear c62_T_0 c62_T_1 c62_T_2
      clear c63_A_0 c63_A_1 c63_A_2
      have HB_64 := Lib.hid (HB0.out.trans (hb7.mono HB0.out.size))
      have T_64 := Lib.hid (HX_T.out.below hb7 HX_T.out.lt)
      have A_64 := Lib.hid (HX_A.out.below hb7 HX_A.out.lt)
      clear hb7
      have c65_T_0 := T_64.out.at 0 (v := .int .i64 t) rfl
      have c65_T_1 := T_64.out.at 1 (v := .int .i64 z) rfl
      have c65_T_2 := T_64.out.at 2 (v := .slice a q.length cap) rfl
      have c66_A_0 := A_64.out.at 0 (v := .int .i64 0) rfl
      have c66_A_1 := A_64.out.at 1 (v := .int .i64 0) rfl
      have c66_A_2 := A_64.out.at 2 (v := .slice none 0 0) rfl
      go_wp2_with fail
      refine (HC.out _).mono ?_
      rintro e _ ⟨rfl, rfl⟩
      go_wp2_with fail
      refine (HD.out _ (HP.out.below HB_64.out (Nat.le_refl _))).mono ?_
      rintro e W67 ⟨v_y, rfl, o_y, l67⟩
      obtain ⟨a_y, c_y, rfl, _, _⟩ := own_someS0 o_y
      have O_y := Lib.hid (own_base o_y HB_64.out.size)
      have BX_T_y : Hid (∀ k, (.slice a_y y.q.length c_y : Value).ownBlock = some k → k ≠ R_T) := Lib.hid (fun k h1 h2 => absurd T_64.out.lt (Nat.not_lt.2 (by rw [← h2]; exact (o_y.lt k h1).1)))
      have BX_A_y : Hid (∀ k, (.slice a_y y.q.length c_y : Value).ownBlock = some k → k ≠ R_A) := Lib.hid (fun k h1 h2 => absurd A_64.out.lt (Nat.not_lt.2 (by rw [← h2]; exact (o_y.lt k h1).1)))
      clear o_y
      clear c65_T_0 c65_T_1 c65_T_2
      clear c66_A_0 c66_A_1 c66_A_2
      have HB_68 := Lib.hid (HB_64.out.trans (l67.mono HB_64.out.size))
      have T_68 := Lib.hid (T_64.out.below l67 T_64.out.lt)
      clear T_64
      have A_68 := Lib.hid (A_64.out.below l67 A_64.out.lt)
      clear A_64
      clear l67
      have c69_T_0 := T_68.out.at 0 (v := .int .i64 t) rfl
      have c69_T_1 := T_68.out.at 1 (v := .int .i64 z) rfl
      have c69_T_2 := T_68.out.at 2 (v := .slice a q.length cap) rfl
      have c70_A_0 := A_68.out.at 0 (v := .int .i64 0) rfl
      have c70_A_1 := A_68.out.at 1 (v := .int .i64 0) rfl
      have c70_A_2 := A_68.out.at 2 (v := .slice none 0 0) rfl
      have fr71_A_0 := A_68.out.free 0
      have fr71_A_1 := A_68.out.free 1
      have fr71_A_2 := A_68.out.free 2
      go_wp2_with fail
      obtain ⟨p1, q1⟩ := A_68.out.store3 (.int .i64 y.t) (.int .i64 y.z) (.slice a_y y.q.length c_y)
      refine bodyPost_ret (results_bx2 rfl isSw _ _ R_A rfl rfl rfl rfl p1) rfl ⟨_, rfl, (O_y.out.kept q1 (by
        cases hv : (.slice a_y y.q.length c_y : Value).ownBlock with
        | none => exact .inl rfl
        | some k => exact .inr (fun e => BX_A_y.out k hv (Option.some.inj e)))), (HB_68.out.grown q1 HB_68.out.size (fun k hk => by have e2 : R_A = k := Option.some.inj hk; have := HR_A.out; omega))⟩
end Go.Proofs.Ytlendmiolhgecaa
