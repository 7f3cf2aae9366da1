/-
  Windows of the source: the program's functions that make windows and lists.
-/
import Derived.Test.YtlendmiolhgecaaSndI
import Derived.Test.YtlendmiolhgecaaSlS
import Derived.Test.YtlendmiolhgecaaSpan2
import Derived.Deep.QuietTactic
import Derived.BigQuiet
import Derived.IntWalk
import Derived.Deep.CutRange
import Derived.WalkLawsBesides
import Derived.Lib.SmallJoins
import Derived.Deep.RegionHeld3
namespace Go.Proofs.Ytlendmiolhgecaa
open Go.RowKit Go.Lib Go.Joins
set_option linter.unusedVariables false

set_option maxRecDepth 100000 in
set_option maxHeartbeats 4000000 in
theorem without_any (v : Value) (l : Sw) (n : Nat) (w : World) (hrow : Row w v l.q.length (l.q.map Value.string)) (hfit : FitA v l.q.length) (ht : 0 ≤ l.t ∧ l.t ≤ 65535) (hn : n ≤ l.q.length) (hl : l.q.length ≤ 1000) :
    Calls Try.prog 90 #[.agg #[.int .i64 l.t, .int .i64 l.z, v], .int .i64 n] w fun e w' => ∃ v', e = .returned (.agg #[.int .i64 (dropN l n).t, .int .i64 (dropN l n).z, v']) ∧ w'.ownsRow w.heap.size 9 1 v' (dropN l n).q.length ((dropN l n).q.map Value.string) ∧ Below w.heap.size w w' := by
  obtain ⟨t, z, q⟩ := l
  dsimp only at hrow hfit ht hn hl ⊢
  have HC := Lib.hid (fun (W1 : World) => implStep_any t n W1 ht.1 ht.2 (by omega) (by omega))
  clear ht
  rcases hfit with ⟨rfl, h0⟩ | ⟨ab, ao, cap, rfl⟩
  · obtain rfl : q = [] := List.eq_nil_of_length_eq_zero h0
    clear h0 hrow
    dsimp only [List.length_nil] at hn
    rw [show dropN ⟨t, z, []⟩ n = ⟨aftI t n, z, ([] : List ByteArray).drop n⟩ from rfl]
    dsimp only
    generalize aftI t n = y at HC ⊢
    obtain ⟨W0, R_T, R_A, hW0, hR_T, hR_A, hX_T, hX_A, hB0⟩ := entry2 w #[.int .i64 t, .int .i64 z, .slice none 0 0] #[.int .i64 0, .int .i64 0, .slice none 0 0] 26 26
    have HW0 := Lib.hid hW0
    have HB0 := Lib.hid hB0
    have HR_T := Lib.hid hR_T
    have HX_T := Lib.hid hX_T
    have HR_A := Lib.hid hR_A
    have HX_A := Lib.hid hX_A
    clear hW0 hB0 hR_T hX_T hR_A hX_A
    have c50_T_0 := HX_T.out.at 0 (v := .int .i64 t) rfl
    have c50_T_1 := HX_T.out.at 1 (v := .int .i64 z) rfl
    have c50_T_2 := HX_T.out.at 2 (v := .slice none 0 0) rfl
    have c51_A_0 := HX_A.out.at 0 (v := .int .i64 0) rfl
    have c51_A_1 := HX_A.out.at 1 (v := .int .i64 0) rfl
    have c51_A_2 := HX_A.out.at 2 (v := .slice none 0 0) rfl
    have hn0 : n = 0 := Nat.le_zero.1 hn
    subst hn0
    have HRt : Hid (Row W0 (.slice none 0 0) 0 (([] : List ByteArray).map Value.string)) := Lib.hid (row_none W0 none 0 (by unfold maxLen; omega))
    have HCl := Lib.hid (fun (v : Value) (W1 : World) (hr : Row W1 v (([] : List ByteArray)).length ((([] : List ByteArray)).map Value.string)) (hf : FitS v (([] : List ByteArray)).length) => cloneS_any v (([] : List ByteArray)) W1 hr hf (by exact Nat.zero_le _))
    have HK2 := Lib.hid (fun (w' : World) (hb : Below W0.heap.size W0 w') => (show w'.cell? ⟨R_T, 0, none⟩ = some (.int .i64 t) ∧ w'.cell? ⟨R_T, 1, none⟩ = some (.int .i64 z) ∧ w'.cell? ⟨R_T, 2, none⟩ = some (.slice none 0 0) ∧ Below w.heap.size w w' from ⟨(hb.cell (p := ⟨R_T, 0, none⟩) HX_T.out.lt).trans (HX_T.out.at 0 (v := .int .i64 t) rfl), (hb.cell (p := ⟨R_T, 1, none⟩) HX_T.out.lt).trans (HX_T.out.at 1 (v := .int .i64 z) rfl), (hb.cell (p := ⟨R_T, 2, none⟩) HX_T.out.lt).trans (HX_T.out.at 2 (v := .slice none 0 0) rfl), HB0.out.trans (hb.mono HB0.out.size)⟩))
    have HA2_A := Lib.hid (fun (w' : World) (hb : Below W0.heap.size W0 w') => HX_A.out.below hb HX_A.out.lt)
    have HK2_0 := Lib.hid (fun (w' : World) (y0_0 y0_1 y0_2 : Value) (hb : Below W0.heap.size W0 w') => (show ((((w'.setCell ⟨R_A, 0, none⟩ (y0_0)).setCell ⟨R_A, 1, none⟩ (y0_1)).setCell ⟨R_A, 2, none⟩ (y0_2))).cell? ⟨R_T, 0, none⟩ = some (.int .i64 t) ∧ ((((w'.setCell ⟨R_A, 0, none⟩ (y0_0)).setCell ⟨R_A, 1, none⟩ (y0_1)).setCell ⟨R_A, 2, none⟩ (y0_2))).cell? ⟨R_T, 1, none⟩ = some (.int .i64 z) ∧ ((((w'.setCell ⟨R_A, 0, none⟩ (y0_0)).setCell ⟨R_A, 1, none⟩ (y0_1)).setCell ⟨R_A, 2, none⟩ (y0_2))).cell? ⟨R_T, 2, none⟩ = some (.slice none 0 0) ∧ Below w.heap.size w ((((w'.setCell ⟨R_A, 0, none⟩ (y0_0)).setCell ⟨R_A, 1, none⟩ (y0_1)).setCell ⟨R_A, 2, none⟩ (y0_2))) by
      obtain ⟨z0, z1, z2, z3⟩ := HK2.out w' hb
      obtain ⟨_, q1⟩ := (HA2_A.out w' hb).store3 y0_0 y0_1 y0_2
      exact ⟨q1.cell z0 (by intro e; have e2 : R_T = R_A := Option.some.inj e; have h1 := HR_T.out; have h2 := HR_A.out; omega), q1.cell z1 (by intro e; have e2 : R_T = R_A := Option.some.inj e; have h1 := HR_T.out; have h2 := HR_A.out; omega), q1.cell z2 (by intro e; have e2 : R_T = R_A := Option.some.inj e; have h1 := HR_T.out; have h2 := HR_A.out; omega), z3.grown q1 z3.size (fun k hk => by have e2 : R_A = k := Option.some.inj hk; have := HR_A.out; omega)⟩))
    go_enter Try.func90, Try.ntmps90
    go_upto_region 1 with fail
    rw [← HW0.out, ← HR_A.out, ← HR_T.out]
    go_region_held3 (fun w' => w'.cell? ⟨R_T, 0, none⟩ = some (.int .i64 t) ∧ w'.cell? ⟨R_T, 1, none⟩ = some (.int .i64 z) ∧ w'.cell? ⟨R_T, 2, none⟩ = some (.slice none 0 0) ∧ Below w.heap.size w w')
      ((first | (with_reducible refine HK2_0.out _ _ _ _ ?_; (repeat (first | with_reducible assumption | with_reducible exact Below.refl _ _ | with_reducible refine Below.drew ?_ | with_reducible refine below_alloc' ?_)); done) | (with_reducible refine HK2.out _ ?_; (repeat (first | with_reducible assumption | with_reducible exact Below.refl _ _ | with_reducible refine Below.drew ?_ | with_reducible refine below_alloc' ?_)); done)))
      (first
        | (go_at_call 103; refine (HC.out _).mono ?_; rintro e _ ⟨rfl, rfl⟩)
        | (go_at_call 106; refine (HCl.out _ _ (HRt.out.below (by repeat (first | with_reducible assumption | with_reducible exact Below.refl _ _ | with_reducible refine Below.drew ?_ | with_reducible refine below_alloc' ?_) : Below W0.heap.size W0 _) (Nat.le_refl _)) (.inl ⟨rfl, rfl⟩)).mono ?_; rintro e w6 ⟨v2, rfl, hown2, l6⟩; obtain ⟨a2, c2, rfl, _, _⟩ := own_someS0 hown2; have hb6 := below_call7 (by repeat (first | with_reducible assumption | with_reducible exact Below.refl _ _ | with_reducible refine Below.drew ?_ | with_reducible refine below_alloc' ?_) : Below W0.heap.size W0 _) l6; have ho6 := own_base hown2 (below_size' (by repeat (first | with_reducible assumption | with_reducible exact Below.refl _ _ | with_reducible refine Below.drew ?_ | with_reducible refine below_alloc' ?_) : Below W0.heap.size W0 _)); have h7A := HA2_A.out w6 hb6; have yA0 := h7A.at 0 (v := .int .i64 0) rfl; have fA0 := h7A.free 0; have yA1 := h7A.at 1 (v := .int .i64 0) rfl; have fA1 := h7A.free 1; have yA2 := h7A.at 2 (v := .slice none 0 0) rfl; have fA2 := h7A.free 2; clear l6))
    all_goals go_wp2_with fail
    all_goals
      obtain ⟨p1, q1⟩ := h7A.store3 (.int .i64 y) (.int .i64 z) (.slice a2 0 c2)
      refine bodyPost_ret (results_bx rfl isSw _ _ R_A rfl rfl p1) rfl ⟨_, rfl, ?_, (HB0.out.trans (hb6.mono HB0.out.size)).grown q1 (HB0.out.trans (hb6.mono HB0.out.size)).size (fun k hk => by have e2 : R_A = k := Option.some.inj hk; have := HR_A.out; omega)⟩
      rw [List.drop_zero]
      refine own_base (ho6.kept q1 ?_) HB0.out.size
      cases hv : (Value.slice a2 0 c2).ownBlock with
      | none => exact .inl rfl
      | some k => exact .inr (fun e => by have e3 : k = R_A := Option.some.inj e; have := (ho6.lt k hv).1; have := HX_A.out.lt; omega)
  · have HP := Lib.hid hrow
    obtain ⟨_, _, hx, hc1, hm1, _⟩ := row_open hrow
    injection hx with hx1 hx2 hx3
    subst hx3
    clear hx1 hx2 hrow
    unfold maxLen at hm1
    rw [show dropN ⟨t, z, q⟩ n = ⟨aftI t n, z, (q).drop n⟩ from rfl]
    dsimp only
    generalize aftI t n = y at HC ⊢
    obtain ⟨W0, R_T, R_A, hW0, hR_T, hR_A, hX_T, hX_A, hB0⟩ := entry2 w #[.int .i64 t, .int .i64 z, .slice (some ⟨ab, ao, none⟩) q.length cap] #[.int .i64 0, .int .i64 0, .slice none 0 0] 26 26
    have HW0 := Lib.hid hW0
    have HB0 := Lib.hid hB0
    have HR_T := Lib.hid hR_T
    have HX_T := Lib.hid hX_T
    have HR_A := Lib.hid hR_A
    have HX_A := Lib.hid hX_A
    clear hW0 hB0 hR_T hX_T hR_A hX_A
    have c52_T_0 := HX_T.out.at 0 (v := .int .i64 t) rfl
    have c52_T_1 := HX_T.out.at 1 (v := .int .i64 z) rfl
    have c52_T_2 := HX_T.out.at 2 (v := .slice (some ⟨ab, ao, none⟩) q.length cap) rfl
    have c53_A_0 := HX_A.out.at 0 (v := .int .i64 0) rfl
    have c53_A_1 := HX_A.out.at 1 (v := .int .i64 0) rfl
    have c53_A_2 := HX_A.out.at 2 (v := .slice none 0 0) rfl
    obtain ⟨_, o2, ho2, hrt⟩ := row_slice (k := n) (HP.out.below HB0.out (Nat.le_refl _)) rfl hn
    have HRt := Lib.hid hrt
    clear hrt
    obtain ⟨q3, hq3⟩ : ∃ q3, q3 = q.drop n := ⟨_, rfl⟩
    rw [← hq3] at HRt ⊢
    have HL3 : Hid (q3.length = q.length - n) := Lib.hid (by rw [hq3, List.length_drop])
    have hl3 : q3.length ≤ 1000 := by rw [hq3, List.length_drop]; omega
    clear hq3
    rw [HL3.out] at HRt
    have i1 : (n : Int) ≤ (q.length : Int) := by omega
    have i2 : (q.length : Int) ≤ (cap : Int) := by omega
    have i3 : (0 : Int) ≤ (n : Int) := by omega
    have i8 : (n : Int) ≤ (cap : Int) := by omega
    have i9 : n ≤ cap := by omega
    have HCl := Lib.hid (fun (v : Value) (W1 : World) (hr : Row W1 v (q3).length ((q3).map Value.string)) (hf : FitS v (q3).length) => cloneS_any v (q3) W1 hr hf (by omega))
    rw [HL3.out] at HCl
    have HK3 := Lib.hid (fun (w' : World) (hb : Below W0.heap.size W0 w') => (show w'.cell? ⟨R_T, 0, none⟩ = some (.int .i64 t) ∧ w'.cell? ⟨R_T, 1, none⟩ = some (.int .i64 z) ∧ w'.cell? ⟨R_T, 2, none⟩ = some (.slice (some ⟨ab, ao, none⟩) q.length cap) ∧ Below w.heap.size w w' from ⟨(hb.cell (p := ⟨R_T, 0, none⟩) HX_T.out.lt).trans (HX_T.out.at 0 (v := .int .i64 t) rfl), (hb.cell (p := ⟨R_T, 1, none⟩) HX_T.out.lt).trans (HX_T.out.at 1 (v := .int .i64 z) rfl), (hb.cell (p := ⟨R_T, 2, none⟩) HX_T.out.lt).trans (HX_T.out.at 2 (v := .slice (some ⟨ab, ao, none⟩) q.length cap) rfl), HB0.out.trans (hb.mono HB0.out.size)⟩))
    have HA3_A := Lib.hid (fun (w' : World) (hb : Below W0.heap.size W0 w') => HX_A.out.below hb HX_A.out.lt)
    have HK3_0 := Lib.hid (fun (w' : World) (y0_0 y0_1 y0_2 : Value) (hb : Below W0.heap.size W0 w') => (show ((((w'.setCell ⟨R_A, 0, none⟩ (y0_0)).setCell ⟨R_A, 1, none⟩ (y0_1)).setCell ⟨R_A, 2, none⟩ (y0_2))).cell? ⟨R_T, 0, none⟩ = some (.int .i64 t) ∧ ((((w'.setCell ⟨R_A, 0, none⟩ (y0_0)).setCell ⟨R_A, 1, none⟩ (y0_1)).setCell ⟨R_A, 2, none⟩ (y0_2))).cell? ⟨R_T, 1, none⟩ = some (.int .i64 z) ∧ ((((w'.setCell ⟨R_A, 0, none⟩ (y0_0)).setCell ⟨R_A, 1, none⟩ (y0_1)).setCell ⟨R_A, 2, none⟩ (y0_2))).cell? ⟨R_T, 2, none⟩ = some (.slice (some ⟨ab, ao, none⟩) q.length cap) ∧ Below w.heap.size w ((((w'.setCell ⟨R_A, 0, none⟩ (y0_0)).setCell ⟨R_A, 1, none⟩ (y0_1)).setCell ⟨R_A, 2, none⟩ (y0_2))) by
      obtain ⟨z0, z1, z2, z3⟩ := HK3.out w' hb
      obtain ⟨_, q1⟩ := (HA3_A.out w' hb).store3 y0_0 y0_1 y0_2
      exact ⟨q1.cell z0 (by intro e; have e2 : R_T = R_A := Option.some.inj e; have h1 := HR_T.out; have h2 := HR_A.out; omega), q1.cell z1 (by intro e; have e2 : R_T = R_A := Option.some.inj e; have h1 := HR_T.out; have h2 := HR_A.out; omega), q1.cell z2 (by intro e; have e2 : R_T = R_A := Option.some.inj e; have h1 := HR_T.out; have h2 := HR_A.out; omega), z3.grown q1 z3.size (fun k hk => by have e2 : R_A = k := Option.some.inj hk; have := HR_A.out; omega)⟩))
    go_enter Try.func90, Try.ntmps90
    go_upto_region 1 with fail
    rw [← HW0.out, ← HR_A.out, ← HR_T.out]
    go_region_held3 (fun w' => w'.cell? ⟨R_T, 0, none⟩ = some (.int .i64 t) ∧ w'.cell? ⟨R_T, 1, none⟩ = some (.int .i64 z) ∧ w'.cell? ⟨R_T, 2, none⟩ = some (.slice (some ⟨ab, ao, none⟩) q.length cap) ∧ Below w.heap.size w w')
      ((first | (with_reducible refine HK3_0.out _ _ _ _ ?_; (repeat (first | with_reducible assumption | with_reducible exact Below.refl _ _ | with_reducible refine Below.drew ?_ | with_reducible refine below_alloc' ?_)); done) | (with_reducible refine HK3.out _ ?_; (repeat (first | with_reducible assumption | with_reducible exact Below.refl _ _ | with_reducible refine Below.drew ?_ | with_reducible refine below_alloc' ?_)); done)))
      (first
        | (go_at_call 103; refine (HC.out _).mono ?_; rintro e _ ⟨rfl, rfl⟩)
        | (go_at_call 106; refine (HCl.out _ _ (HRt.out.below (by repeat (first | with_reducible assumption | with_reducible exact Below.refl _ _ | with_reducible refine Below.drew ?_ | with_reducible refine below_alloc' ?_) : Below W0.heap.size W0 _) (Nat.le_refl _)) (.inr ⟨_, _, rfl⟩)).mono ?_; rintro e w6 ⟨v2, rfl, hown2, l6⟩; obtain ⟨a2, c2, rfl, _, _⟩ := own_someS0 hown2; have hb6 := below_call7 (by repeat (first | with_reducible assumption | with_reducible exact Below.refl _ _ | with_reducible refine Below.drew ?_ | with_reducible refine below_alloc' ?_) : Below W0.heap.size W0 _) l6; have ho6 := own_base hown2 (below_size' (by repeat (first | with_reducible assumption | with_reducible exact Below.refl _ _ | with_reducible refine Below.drew ?_ | with_reducible refine below_alloc' ?_) : Below W0.heap.size W0 _)); have h7A := HA3_A.out w6 hb6; have yA0 := h7A.at 0 (v := .int .i64 0) rfl; have fA0 := h7A.free 0; have yA1 := h7A.at 1 (v := .int .i64 0) rfl; have fA1 := h7A.free 1; have yA2 := h7A.at 2 (v := .slice none 0 0) rfl; have fA2 := h7A.free 2; clear l6))
    all_goals go_wp2_with fail
    all_goals
      obtain ⟨p1, q1⟩ := h7A.store3 (.int .i64 y) (.int .i64 z) (.slice a2 (q.length - n) c2)
      refine bodyPost_ret (results_bx rfl isSw _ _ R_A rfl rfl p1) rfl ⟨_, rfl, ?_, (HB0.out.trans (hb6.mono HB0.out.size)).grown q1 (HB0.out.trans (hb6.mono HB0.out.size)).size (fun k hk => by have e2 : R_A = k := Option.some.inj hk; have := HR_A.out; omega)⟩
      rw [HL3.out]
      refine own_base (ho6.kept q1 ?_) HB0.out.size
      cases hv : (Value.slice a2 (q.length - n) c2).ownBlock with
      | none => exact .inl rfl
      | some k => exact .inr (fun e => by have e3 : k = R_A := Option.some.inj e; have := (ho6.lt k hv).1; have := HX_A.out.lt; omega)
set_option maxRecDepth 100000 in
set_option maxHeartbeats 4000000 in
theorem implDrop9_any (v : Value) (l : Sw) (x : Int) (w : World) (hrow : Row w v l.q.length (l.q.map Value.string)) (hs : ∀ s ∈ l.q, s.size ≤ maxLen) (hfit : FitA v l.q.length) :
    Calls Try.prog 45 #[.agg #[.int .i64 l.t, .int .i64 l.z, v], .int .i64 x] w fun e w' => ∃ v', e = .returned (.tuple #[.agg #[.int .i64 (dropV l x).t, .int .i64 (dropV l x).z, v'], .int .i64 (dropC l x), .bool (dropOk l x)]) ∧ w'.ownsRow w.heap.size 9 1 v' (dropV l x).q.length ((dropV l x).q.map Value.string) ∧ Below w.heap.size w w' := by
  have HFit := Lib.hid hfit
  clear hfit
  obtain ⟨t, z, q⟩ := l
  dsimp only at hrow hs ⊢
  obtain ⟨a, cap, rfl, hc1, hm1, _⟩ := row_open hrow
  unfold maxLen at hm1
  have HP := Lib.hid hrow
  clear hrow
  have HS := Lib.hid hs
  clear hs
  dsimp only at HFit
  obtain ⟨W0, R_T, R_A, hW0, hR_T, hR_A, hX_T, hX_A, hB0⟩ := entry2 w #[.int .i64 t, .int .i64 z, .slice a q.length cap] #[.int .i64 0, .int .i64 0, .slice none 0 0] 26 26
  have HW0 := Lib.hid hW0
  have HB0 := Lib.hid hB0
  have HR_T := Lib.hid hR_T
  have HX_T := Lib.hid hX_T
  have HR_A := Lib.hid hR_A
  have HX_A := Lib.hid hX_A
  clear hW0 hB0 hR_T hX_T hR_A hX_A
  have HG := Lib.hid (fun (W1 : World) (hr : Row W1 (.slice a q.length cap) q.length (q.map Value.string)) => implIsSw_any (.slice a q.length cap) ⟨t, z, q⟩ W1 hr HS.out)
  have HSer := Lib.hid (fun (W1 : World) => implIsSerial_any x W1)
  have HO : Hid (dropOk ⟨t, z, q⟩ x = (swOk ⟨t, z, q⟩ && (serB x && decide (gapI t x ≤ (q.length : Int))))) := Lib.hid rfl
  have HN := Lib.hid (@drop_no ⟨t, z, q⟩ x)
  cases hok : swOk ⟨t, z, q⟩ with
  | false =>
    rw [hok] at HG
    have hno : dropOk ⟨t, z, q⟩ x = false := by rw [HO.out, hok]; simp
    obtain ⟨e1, e2⟩ := HN.out hno
    rw [hno, e1, e2]
    dsimp only [sw0]
    clear hno e1 e2 HN HO
    have c54_T_0 := HX_T.out.at 0 (v := .int .i64 t) rfl
    have c54_T_1 := HX_T.out.at 1 (v := .int .i64 z) rfl
    have c54_T_2 := HX_T.out.at 2 (v := .slice a q.length cap) rfl
    have c55_A_0 := HX_A.out.at 0 (v := .int .i64 0) rfl
    have c55_A_1 := HX_A.out.at 1 (v := .int .i64 0) rfl
    have c55_A_2 := HX_A.out.at 2 (v := .slice none 0 0) rfl
    go_enter Try.func45, Try.ntmps45
    go_upto_region 1 with fail
    rw [← HW0.out, ← HR_A.out, ← HR_T.out]
    go_wp2_with fail
    refine (HG.out _ (HP.out.below HB0.out (Nat.le_refl _))).mono ?_
    rintro e W56 ⟨rfl, l56⟩
    clear c54_T_0 c54_T_1 c54_T_2
    clear c55_A_0 c55_A_1 c55_A_2
    have HB_57 := Lib.hid (HB0.out.trans (l56.mono HB0.out.size))
    have T_57 := Lib.hid (HX_T.out.below l56 HX_T.out.lt)
    have A_57 := Lib.hid (HX_A.out.below l56 HX_A.out.lt)
    clear l56
    have c58_T_0 := T_57.out.at 0 (v := .int .i64 t) rfl
    have c58_T_1 := T_57.out.at 1 (v := .int .i64 z) rfl
    have c58_T_2 := T_57.out.at 2 (v := .slice a q.length cap) rfl
    have c59_A_0 := A_57.out.at 0 (v := .int .i64 0) rfl
    have c59_A_1 := A_57.out.at 1 (v := .int .i64 0) rfl
    have c59_A_2 := A_57.out.at 2 (v := .slice none 0 0) rfl
    have fr60_A_0 := A_57.out.free 0
    have fr60_A_1 := A_57.out.free 1
    have fr60_A_2 := A_57.out.free 2
    go_wp2_with fail
    obtain ⟨p1, q1⟩ := A_57.out.store3 (.int .i64 0) (.int .i64 0) (.slice none 0 0)
    refine bodyPost_ret (results_bx2 rfl isSw _ _ R_A rfl rfl rfl rfl p1) rfl ⟨_, rfl, ⟨rfl, .inl ⟨rfl, rfl⟩⟩, (HB_57.out.grown q1 HB_57.out.size (fun k hk => by have e2 : R_A = k := Option.some.inj hk; have := HR_A.out; omega))⟩
  | true =>
    rw [hok] at HG
    cases hs : serB x with
    | false =>
      rw [hs] at HSer
      have hno : dropOk ⟨t, z, q⟩ x = false := by rw [HO.out, hok, hs]; simp
      obtain ⟨e1, e2⟩ := HN.out hno
      rw [hno, e1, e2]
      dsimp only [sw0]
      clear hno e1 e2 HN HO
      have c61_T_0 := HX_T.out.at 0 (v := .int .i64 t) rfl
      have c61_T_1 := HX_T.out.at 1 (v := .int .i64 z) rfl
      have c61_T_2 := HX_T.out.at 2 (v := .slice a q.length cap) rfl
      have c62_A_0 := HX_A.out.at 0 (v := .int .i64 0) rfl
      have c62_A_1 := HX_A.out.at 1 (v := .int .i64 0) rfl
      have c62_A_2 := HX_A.out.at 2 (v := .slice none 0 0) rfl
      go_enter Try.func45, Try.ntmps45
      go_upto_region 1 with fail
      rw [← HW0.out, ← HR_A.out, ← HR_T.out]
      go_wp2_with fail
      refine (HG.out _ (HP.out.below HB0.out (Nat.le_refl _))).mono ?_
      rintro e W63 ⟨rfl, l63⟩
      clear c61_T_0 c61_T_1 c61_T_2
      clear c62_A_0 c62_A_1 c62_A_2
      have HB_64 := Lib.hid (HB0.out.trans (l63.mono HB0.out.size))
      have T_64 := Lib.hid (HX_T.out.below l63 HX_T.out.lt)
      have A_64 := Lib.hid (HX_A.out.below l63 HX_A.out.lt)
      clear l63
      have c65_T_0 := T_64.out.at 0 (v := .int .i64 t) rfl
      have c65_T_1 := T_64.out.at 1 (v := .int .i64 z) rfl
      have c65_T_2 := T_64.out.at 2 (v := .slice a q.length cap) rfl
      have c66_A_0 := A_64.out.at 0 (v := .int .i64 0) rfl
      have c66_A_1 := A_64.out.at 1 (v := .int .i64 0) rfl
      have c66_A_2 := A_64.out.at 2 (v := .slice none 0 0) rfl
      go_wp2_with fail
      refine (HSer.out _).mono ?_
      rintro e _ ⟨rfl, rfl⟩
      have fr67_A_0 := A_64.out.free 0
      have fr67_A_1 := A_64.out.free 1
      have fr67_A_2 := A_64.out.free 2
      go_wp2_with fail
      obtain ⟨p1, q1⟩ := A_64.out.store3 (.int .i64 0) (.int .i64 0) (.slice none 0 0)
      refine bodyPost_ret (results_bx2 rfl isSw _ _ R_A rfl rfl rfl rfl p1) rfl ⟨_, rfl, ⟨rfl, .inl ⟨rfl, rfl⟩⟩, (HB_64.out.grown q1 HB_64.out.size (fun k hk => by have e2 : R_A = k := Option.some.inj hk; have := HR_A.out; omega))⟩
    | true =>
      rw [hs] at HSer
      have ht := (swOk_iff.1 hok).1
      dsimp only at ht
      have hx := serB_bd hs
      have HC := Lib.hid (fun (W1 : World) => implGapB_any t x W1 ht.1 ht.2 hx.1 hx.2)
      have hgb := gapI_bd t x
      obtain ⟨k, hk⟩ : ∃ k : Nat, gapI t x = (k : Int) := ⟨(gapI t x).toNat, by omega⟩
      rw [hk] at HC HO
      by_cases hkq : k ≤ q.length
      rotate_left
      · have hkI : ¬ (k : Int) ≤ (q.length : Int) := by omega
        have hkd : (q.length : Int) < (k : Int) := by omega
        rw [decide_eq_false hkI] at HO
        clear hk hgb ht hx hkI
        have hno : dropOk ⟨t, z, q⟩ x = false := by rw [HO.out, hok, hs]; simp
        obtain ⟨e1, e2⟩ := HN.out hno
        rw [hno, e1, e2]
        dsimp only [sw0]
        clear hno e1 e2 HN HO
        have c68_T_0 := HX_T.out.at 0 (v := .int .i64 t) rfl
        have c68_T_1 := HX_T.out.at 1 (v := .int .i64 z) rfl
        have c68_T_2 := HX_T.out.at 2 (v := .slice a q.length cap) rfl
        have c69_A_0 := HX_A.out.at 0 (v := .int .i64 0) rfl
        have c69_A_1 := HX_A.out.at 1 (v := .int .i64 0) rfl
        have c69_A_2 := HX_A.out.at 2 (v := .slice none 0 0) rfl
        go_enter Try.func45, Try.ntmps45
        go_upto_region 1 with fail
        rw [← HW0.out, ← HR_A.out, ← HR_T.out]
        go_wp2_with fail
        refine (HG.out _ (HP.out.below HB0.out (Nat.le_refl _))).mono ?_
        rintro e W70 ⟨rfl, l70⟩
        clear c68_T_0 c68_T_1 c68_T_2
        clear c69_A_0 c69_A_1 c69_A_2
        have HB_71 := Lib.hid (HB0.out.trans (l70.mono HB0.out.size))
        have T_71 := Lib.hid (HX_T.out.below l70 HX_T.out.lt)
        have A_71 := Lib.hid (HX_A.out.below l70 HX_A.out.lt)
        clear l70
        have c72_T_0 := T_71.out.at 0 (v := .int .i64 t) rfl
        have c72_T_1 := T_71.out.at 1 (v := .int .i64 z) rfl
        have c72_T_2 := T_71.out.at 2 (v := .slice a q.length cap) rfl
        have c73_A_0 := A_71.out.at 0 (v := .int .i64 0) rfl
        have c73_A_1 := A_71.out.at 1 (v := .int .i64 0) rfl
        have c73_A_2 := A_71.out.at 2 (v := .slice none 0 0) rfl
        go_wp2_with fail
        refine (HSer.out _).mono ?_
        rintro e _ ⟨rfl, rfl⟩
        go_wp2_with fail
        refine (HC.out _).mono ?_
        rintro e _ ⟨rfl, rfl⟩
        have fr74_A_0 := A_71.out.free 0
        have fr74_A_1 := A_71.out.free 1
        have fr74_A_2 := A_71.out.free 2
        go_wp2_with fail
        obtain ⟨p1, q1⟩ := A_71.out.store3 (.int .i64 0) (.int .i64 0) (.slice none 0 0)
        refine bodyPost_ret (results_bx2 rfl isSw _ _ R_A rfl rfl rfl rfl p1) rfl ⟨_, rfl, ⟨rfl, .inl ⟨rfl, rfl⟩⟩, (HB_71.out.grown q1 HB_71.out.size (fun k hk => by have e2 : R_A = k := Option.some.inj hk; have := HR_A.out; omega))⟩
      have hkI : (k : Int) ≤ (q.length : Int) := by omega
      have hkd : decide (q.length < k) = false := decide_eq_false (by omega)
      have hkd2 : ¬ (q.length : Int) < (k : Int) := by omega
      rw [decide_eq_true hkI, hok, hs] at HO
      have hyes : dropOk ⟨t, z, q⟩ x = true := HO.out
      have e1 : dropV ⟨t, z, q⟩ x = dropN ⟨t, z, q⟩ k := by unfold dropV; rw [if_pos hyes]; show dropN ⟨t, z, q⟩ (gapI t x).toNat = _; rw [hk, Int.toNat_natCast]
      have e2 : dropC ⟨t, z, q⟩ x = (k : Int) := by unfold dropC; rw [if_pos hyes]; exact hk
      rw [hyes, e1, e2]
      have HD := Lib.hid (fun (W1 : World) (hr : Row W1 (.slice a q.length cap) q.length (q.map Value.string)) => without_any (.slice a q.length cap) ⟨t, z, q⟩ k W1 hr HFit.out ht hkq (by have h1 := (swOk_iff.1 hok).2.1.2; have h2 := (swOk_iff.1 hok).2.2.1; dsimp only at h1 h2 ⊢; omega))
      generalize dropN ⟨t, z, q⟩ k = y at HD ⊢
      clear hyes e1 e2 HN HO hk hgb ht hx hok hs hkd
      have c75_T_0 := HX_T.out.at 0 (v := .int .i64 t) rfl
      have c75_T_1 := HX_T.out.at 1 (v := .int .i64 z) rfl
      have c75_T_2 := HX_T.out.at 2 (v := .slice a q.length cap) rfl
      have c76_A_0 := HX_A.out.at 0 (v := .int .i64 0) rfl
      have c76_A_1 := HX_A.out.at 1 (v := .int .i64 0) rfl
      have c76_A_2 := HX_A.out.at 2 (v := .slice none 0 0) rfl
      go_enter Try.func45, Try.ntmps45
      go_upto_region 1 with fail
      rw [← HW0.out, ← HR_A.out, ← HR_T.out]
      go_wp2_with fail
      refine (HG.out _ (HP.out.below HB0.out (Nat.le_refl _))).mono ?_
      rintro e W77 ⟨rfl, l77⟩
      clear c75_T_0 c75_T_1 c75_T_2
      clear c76_A_0 c76_A_1 c76_A_2
      have HB_78 := Lib.hid (HB0.out.trans (l77.mono HB0.out.size))
      have T_78 := Lib.hid (HX_T.out.below l77 HX_T.out.lt)
      have A_78 := Lib.hid (HX_A.out.below l77 HX_A.out.lt)
      clear l77
      have c79_T_0 := T_78.out.at 0 (v := .int .i64 t) rfl
      have c79_T_1 := T_78.out.at 1 (v := .int .i64 z) rfl
      have c79_T_2 := T_78.out.at 2 (v := .slice a q.length cap) rfl
      have c80_A_0 := A_78.out.at 0 (v := .int .i64 0) rfl
      have c80_A_1 := A_78.out.at 1 (v := .int .i64 0) rfl
      have c80_A_2 := A_78.out.at 2 (v := .slice none 0 0) rfl
      go_wp2_with fail
      refine (HSer.out _).mono ?_
      rintro e _ ⟨rfl, rfl⟩
      go_wp2_with fail
      refine (HC.out _).mono ?_
      rintro e _ ⟨rfl, rfl⟩
      go_wp2_with fail
      refine (HD.out _ (HP.out.below HB_78.out (Nat.le_refl _))).mono ?_
      rintro e W81 ⟨v_y, rfl, o_y, l81⟩
      obtain ⟨a_y, c_y, rfl, _, _⟩ := own_someS0 o_y
      have O_y := Lib.hid (own_base o_y HB_78.out.size)
      have BX_T_y : Hid (∀ k, (.slice a_y y.q.length c_y : Value).ownBlock = some k → k ≠ R_T) := Lib.hid (fun k h1 h2 => absurd T_78.out.lt (Nat.not_lt.2 (by rw [← h2]; exact (o_y.lt k h1).1)))
      have BX_A_y : Hid (∀ k, (.slice a_y y.q.length c_y : Value).ownBlock = some k → k ≠ R_A) := Lib.hid (fun k h1 h2 => absurd A_78.out.lt (Nat.not_lt.2 (by rw [← h2]; exact (o_y.lt k h1).1)))
      clear o_y
      clear c79_T_0 c79_T_1 c79_T_2
      clear c80_A_0 c80_A_1 c80_A_2
      have HB_82 := Lib.hid (HB_78.out.trans (l81.mono HB_78.out.size))
      have T_82 := Lib.hid (T_78.out.below l81 T_78.out.lt)
      clear T_78
      have A_82 := Lib.hid (A_78.out.below l81 A_78.out.lt)
      clear A_78
      clear l81
      have c83_T_0 := T_82.out.at 0 (v := .int .i64 t) rfl
      have c83_T_1 := T_82.out.at 1 (v := .int .i64 z) rfl
      have c83_T_2 := T_82.out.at 2 (v := .slice a q.length cap) rfl
      have c84_A_0 := A_82.out.at 0 (v := .int .i64 0) rfl
      have c84_A_1 := A_82.out.at 1 (v := .int .i64 0) rfl
      have c84_A_2 := A_82.out.at 2 (v := .slice none 0 0) rfl
      have fr85_A_0 := A_82.out.free 0
      have fr85_A_1 := A_82.out.free 1
      have fr85_A_2 := A_82.out.free 2
      go_wp2_with fail
      obtain ⟨p1, q1⟩ := A_82.out.store3 (.int .i64 y.t) (.int .i64 y.z) (.slice a_y y.q.length c_y)
      refine bodyPost_ret (results_bx2 rfl isSw _ _ R_A rfl rfl rfl rfl p1) rfl ⟨_, rfl, (O_y.out.kept q1 (by
        cases hv : (.slice a_y y.q.length c_y : Value).ownBlock with
        | none => exact .inl rfl
        | some k => exact .inr (fun e => BX_A_y.out k hv (Option.some.inj e)))), (HB_82.out.grown q1 HB_82.out.size (fun k hk => by have e2 : R_A = k := Option.some.inj hk; have := HR_A.out; omega))⟩
set_option maxRecDepth 100000 in
set_option maxHeartbeats 4000000 in
theorem implHs_any (v : Value) (l : Sw) (w : World) (hrow : Row w v l.q.length (l.q.map Value.string)) (hs : ∀ s ∈ l.q, s.size ≤ maxLen) :
    Calls Try.prog 16 #[.agg #[.int .i64 l.t, .int .i64 l.z, v]] w fun e w' => ∃ v', e = .returned (.tuple #[v', .bool (swOk l)]) ∧ w'.ownsRow w.heap.size 3 1 v' (hsV l).length ((hsV l).map (Value.int .i64)) ∧ Below w.heap.size w w' := by
  obtain ⟨t, z, q⟩ := l
  dsimp only at hrow hs ⊢
  obtain ⟨a, cap, rfl, hc1, hm1, _⟩ := row_open hrow
  unfold maxLen at hm1
  have HP := Lib.hid hrow
  clear hrow
  have HS := Lib.hid hs
  clear hs
  obtain ⟨W0, R_T, hW0, hR_T, hX_T, hB0⟩ := entry1 w #[.int .i64 t, .int .i64 z, .slice a q.length cap] 26
  have HW0 := Lib.hid hW0
  have HB0 := Lib.hid hB0
  have HR_T := Lib.hid hR_T
  have HX_T := Lib.hid hX_T
  clear hW0 hB0 hR_T hX_T
  have HG := Lib.hid (fun (W1 : World) (hr : Row W1 (.slice a q.length cap) q.length (q.map Value.string)) => implIsSw_any (.slice a q.length cap) ⟨t, z, q⟩ W1 hr HS.out)
  cases hok : swOk ⟨t, z, q⟩ with
  | false =>
    rw [hok] at HG
    rw [show hsV ⟨t, z, q⟩ = [] from by unfold hsV; rw [hok]; rfl]
    clear hok
    have c122_T_0 := HX_T.out.at 0 (v := .int .i64 t) rfl
    have c122_T_1 := HX_T.out.at 1 (v := .int .i64 z) rfl
    have c122_T_2 := HX_T.out.at 2 (v := .slice a q.length cap) rfl
    go_enter Try.func16, Try.ntmps16
    go_upto_region 1 with fail
    rw [← HW0.out, ← HR_T.out]
    go_wp2_with fail
    refine (HG.out _ (HP.out.below HB0.out (Nat.le_refl _))).mono ?_
    rintro e W123 ⟨rfl, l123⟩
    clear c122_T_0 c122_T_1 c122_T_2
    have HB_124 := Lib.hid (HB0.out.trans (l123.mono HB0.out.size))
    have T_124 := Lib.hid (HX_T.out.below l123 HX_T.out.lt)
    clear l123
    have c125_T_0 := T_124.out.at 0 (v := .int .i64 t) rfl
    have c125_T_1 := T_124.out.at 1 (v := .int .i64 z) rfl
    have c125_T_2 := T_124.out.at 2 (v := .slice a q.length cap) rfl
    go_wp2_with fail
    go_ret2
    exact ⟨_, rfl, own_base (own_lit (heap_alloc_new _ _) (Nat.le_refl _)) HB_124.out.size, HB_124.out.alloc HB_124.out.size _⟩
  | true =>
    rw [hok] at HG
    have ht := (swOk_iff.1 hok).1
    dsimp only at ht
    have hl6 : q.length ≤ 6 := by have h1 := (swOk_iff.1 hok).2.1.2; have h2 := (swOk_iff.1 hok).2.2.1; dsimp only at h1 h2; omega
    have hle : leadI ⟨t, z, q⟩ = aftI t q.length := rfl
    have hgp : gapI t (aftI t q.length) = (q.length : Int) := gap_aft ht (by omega)
    have hgo : gapOk t (aftI t q.length) = true := by unfold gapOk; rw [serB_yes ht.1 ht.2, serB_yes (aftI_bd _ _).1 (aftI_bd _ _).2]; rfl
    have hso := ssOk_of hgo (by rw [hgp]; omega)
    have hsl := ssL_yes hso hgp
    have HL := Lib.hid (fun (W1 : World) (hr : Row W1 (.slice a q.length cap) q.length (q.map Value.string)) => leadAt_any (.slice a q.length cap) ⟨t, z, q⟩ W1 hr ht (by have h1 := (swOk_iff.1 hok).2.1.2; have h2 := (swOk_iff.1 hok).2.2.1; dsimp only at h1 h2 ⊢; omega))
    dsimp only at HL
    rw [hle] at HL
    have HSs := Lib.hid (fun (W1 : World) => implSpan_any t (aftI t q.length) W1)
    rw [hso, hsl] at HSs
    rw [show hsV ⟨t, z, q⟩ = spanL t q.length from if_pos hok]
    generalize aftI t q.length = le at HL HSs
    obtain ⟨sp, hsp⟩ : ∃ sp, sp = spanL t q.length := ⟨_, rfl⟩
    rw [← hsp] at HSs ⊢
    clear hok hle hgp hgo hso hsl hsp
    have c126_T_0 := HX_T.out.at 0 (v := .int .i64 t) rfl
    have c126_T_1 := HX_T.out.at 1 (v := .int .i64 z) rfl
    have c126_T_2 := HX_T.out.at 2 (v := .slice a q.length cap) rfl
    go_enter Try.func16, Try.ntmps16
    go_upto_region 1 with fail
    rw [← HW0.out, ← HR_T.out]
    go_wp2_with fail
    refine (HG.out _ (HP.out.below HB0.out (Nat.le_refl _))).mono ?_
    rintro e W127 ⟨rfl, l127⟩
    clear c126_T_0 c126_T_1 c126_T_2
    have HB_128 := Lib.hid (HB0.out.trans (l127.mono HB0.out.size))
    have T_128 := Lib.hid (HX_T.out.below l127 HX_T.out.lt)
    clear l127
    have c129_T_0 := T_128.out.at 0 (v := .int .i64 t) rfl
    have c129_T_1 := T_128.out.at 1 (v := .int .i64 z) rfl
    have c129_T_2 := T_128.out.at 2 (v := .slice a q.length cap) rfl
    go_upto_region 3 with fail
    have HK4 := Lib.hid (fun (w' : World) (hb : Below W127.heap.size W127 w') => (show w'.cell? ⟨R_T, 0, none⟩ = some (.int .i64 t) ∧ w'.cell? ⟨R_T, 1, none⟩ = some (.int .i64 z) ∧ w'.cell? ⟨R_T, 2, none⟩ = some (.slice a q.length cap) ∧ Below w.heap.size w w' from ⟨(hb.cell (p := ⟨R_T, 0, none⟩) T_128.out.lt).trans (T_128.out.at 0 (v := .int .i64 t) rfl), (hb.cell (p := ⟨R_T, 1, none⟩) T_128.out.lt).trans (T_128.out.at 1 (v := .int .i64 z) rfl), (hb.cell (p := ⟨R_T, 2, none⟩) T_128.out.lt).trans (T_128.out.at 2 (v := .slice a q.length cap) rfl), HB_128.out.trans (hb.mono HB_128.out.size)⟩))
    go_region_held3 (fun w' => w'.cell? ⟨R_T, 0, none⟩ = some (.int .i64 t) ∧ w'.cell? ⟨R_T, 1, none⟩ = some (.int .i64 z) ∧ w'.cell? ⟨R_T, 2, none⟩ = some (.slice a q.length cap) ∧ Below w.heap.size w w')
      ((first | (with_reducible refine HK4.out _ ?_; (repeat (first | with_reducible assumption | with_reducible exact Below.refl _ _ | with_reducible refine Below.drew ?_ | with_reducible refine below_alloc' ?_)); done)))
      (first
        | (go_at_call 52; refine (HL.out _ (HP.out.below (HB_128.out.trans ((by repeat (first | with_reducible assumption | with_reducible exact Below.refl _ _ | with_reducible refine Below.drew ?_ | with_reducible refine below_alloc' ?_) : Below W127.heap.size W127 _).mono HB_128.out.size)) (Nat.le_refl _))).mono ?_; rintro e w7 ⟨rfl, l7⟩; have hb7 := below_call7 (by repeat (first | with_reducible assumption | with_reducible exact Below.refl _ _ | with_reducible refine Below.drew ?_ | with_reducible refine below_alloc' ?_) : Below W127.heap.size W127 _) l7; clear l7)
        | (go_at_call 51; refine (HSs.out _).mono ?_; rintro e w8 ⟨v8, rfl, o8, l8⟩; obtain ⟨a8, c8, rfl, _, _⟩ := own_someS0 o8; have hb8 := below_call7 (by repeat (first | with_reducible assumption | with_reducible exact Below.refl _ _ | with_reducible refine Below.drew ?_ | with_reducible refine below_alloc' ?_) : Below W127.heap.size W127 _) l8; have ho8 := own_base o8 (below_size' (by repeat (first | with_reducible assumption | with_reducible exact Below.refl _ _ | with_reducible refine Below.drew ?_ | with_reducible refine below_alloc' ?_) : Below W127.heap.size W127 _)); clear l8))
    all_goals go_wp2_with fail
    all_goals go_ret2
    all_goals exact ⟨_, rfl, own_base ho8 HB_128.out.size, HB_128.out.trans (hb8.mono HB_128.out.size)⟩
end Go.Proofs.Ytlendmiolhgecaa
