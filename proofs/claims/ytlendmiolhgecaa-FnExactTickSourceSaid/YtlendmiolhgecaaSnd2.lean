/-
  Windows of the source: oldest items are dropped (the specification's).
-/
import Derived.Test.YtlendmiolhgecaaSnd
import Derived.Test.YtlendmiolhgecaaMost
import Derived.Deep.QuietTactic
import Derived.BigQuiet
import Derived.IntWalk
import Derived.Deep.CutRange
import Derived.WalkLawsBesides
import Derived.Lib.SmallJoins
import Derived.Deep.RegionHeld3
namespace Go.Proofs.Ytlendmiolhgecaa
open Go.RowKit Go.Lib Go.Joins
set_option linter.unusedVariables false

set_option maxRecDepth 100000 in
set_option maxHeartbeats 4000000 in
theorem l9Drop_any (v : Value) (l : Sw) (n : Nat) (w : World) (hrow : Row w v l.q.length (l.q.map Value.string)) (hfit : FitA v l.q.length) (ht : 0 ≤ l.t ∧ l.t ≤ 65535) (hn : n ≤ l.q.length) (hl : l.q.length ≤ 1000) :
    Calls Try.prog 95 #[.agg #[.int .i64 l.t, .int .i64 l.z, v], .int .i64 n] w fun e w' => ∃ v', e = .returned (.agg #[.int .i64 (dropN l n).t, .int .i64 (dropN l n).z, v']) ∧ w'.ownsRow w.heap.size 9 1 v' (dropN l n).q.length ((dropN l n).q.map Value.string) ∧ Below w.heap.size w w' := by
  obtain ⟨i0, hi, hz0, hz1, hz2⟩ := info_parts infoStr
  obtain ⟨t, z, q⟩ := l
  dsimp only at hrow hfit ht hn hl ⊢
  have HC := Lib.hid (fun (W1 : World) => l2After_any t n W1 ht.1 ht.2 (by omega) (by omega))
  clear ht
  rcases hfit with ⟨rfl, h0⟩ | ⟨ab, ao, cap, rfl⟩
  · obtain rfl : q = [] := List.eq_nil_of_length_eq_zero h0
    clear h0 hrow
    dsimp only [List.length_nil] at hn
    rw [show dropN ⟨t, z, []⟩ n = ⟨aftI t n, z, ([] : List ByteArray).drop n⟩ from rfl]
    dsimp only
    generalize aftI t n = y at HC ⊢
    obtain ⟨W0, R_T, R_A, hW0, hR_T, hR_A, hX_T, hX_A, hB0⟩ := entry2 w #[.int .i64 t, .int .i64 z, .slice none 0 0] #[.int .i64 0, .int .i64 0, .slice none 0 0] 26 26
    have HW0 := Lib.hid hW0
    have HB0 := Lib.hid hB0
    have HR_T := Lib.hid hR_T
    have HX_T := Lib.hid hX_T
    have HR_A := Lib.hid hR_A
    have HX_A := Lib.hid hX_A
    clear hW0 hB0 hR_T hX_T hR_A hX_A
    have c1_T_0 := HX_T.out.at 0 (v := .int .i64 t) rfl
    have c1_T_1 := HX_T.out.at 1 (v := .int .i64 z) rfl
    have c1_T_2 := HX_T.out.at 2 (v := .slice none 0 0) rfl
    have c2_A_0 := HX_A.out.at 0 (v := .int .i64 0) rfl
    have c2_A_1 := HX_A.out.at 1 (v := .int .i64 0) rfl
    have c2_A_2 := HX_A.out.at 2 (v := .slice none 0 0) rfl
    have hn0 : n = 0 := Nat.le_zero.1 hn
    subst hn0
    have HRt : Hid (Row W0 (.slice none 0 0) 0 (([] : List ByteArray).map Value.string)) := Lib.hid (row_none W0 none 0 (by unfold maxLen; omega))
    have HLen : Hid (((([] : List ByteArray).map Value.string)).length = 0) := Lib.hid rfl
    have HK1 := Lib.hid (fun (w' : World) (hb : Below W0.heap.size W0 w') => (show w'.cell? ⟨R_T, 0, none⟩ = some (.int .i64 t) ∧ w'.cell? ⟨R_T, 1, none⟩ = some (.int .i64 z) ∧ w'.cell? ⟨R_T, 2, none⟩ = some (.slice none 0 0) ∧ Below w.heap.size w w' from ⟨(hb.cell (p := ⟨R_T, 0, none⟩) HX_T.out.lt).trans (HX_T.out.at 0 (v := .int .i64 t) rfl), (hb.cell (p := ⟨R_T, 1, none⟩) HX_T.out.lt).trans (HX_T.out.at 1 (v := .int .i64 z) rfl), (hb.cell (p := ⟨R_T, 2, none⟩) HX_T.out.lt).trans (HX_T.out.at 2 (v := .slice none 0 0) rfl), HB0.out.trans (hb.mono HB0.out.size)⟩))
    have HA1_A := Lib.hid (fun (w' : World) (hb : Below W0.heap.size W0 w') => HX_A.out.below hb HX_A.out.lt)
    have HK1_0 := Lib.hid (fun (w' : World) (y0_0 y0_1 y0_2 : Value) (hb : Below W0.heap.size W0 w') => (show ((((w'.setCell ⟨R_A, 0, none⟩ (y0_0)).setCell ⟨R_A, 1, none⟩ (y0_1)).setCell ⟨R_A, 2, none⟩ (y0_2))).cell? ⟨R_T, 0, none⟩ = some (.int .i64 t) ∧ ((((w'.setCell ⟨R_A, 0, none⟩ (y0_0)).setCell ⟨R_A, 1, none⟩ (y0_1)).setCell ⟨R_A, 2, none⟩ (y0_2))).cell? ⟨R_T, 1, none⟩ = some (.int .i64 z) ∧ ((((w'.setCell ⟨R_A, 0, none⟩ (y0_0)).setCell ⟨R_A, 1, none⟩ (y0_1)).setCell ⟨R_A, 2, none⟩ (y0_2))).cell? ⟨R_T, 2, none⟩ = some (.slice none 0 0) ∧ Below w.heap.size w ((((w'.setCell ⟨R_A, 0, none⟩ (y0_0)).setCell ⟨R_A, 1, none⟩ (y0_1)).setCell ⟨R_A, 2, none⟩ (y0_2))) by
      obtain ⟨z0, z1, z2, z3⟩ := HK1.out w' hb
      obtain ⟨_, q1⟩ := (HA1_A.out w' hb).store3 y0_0 y0_1 y0_2
      exact ⟨q1.cell z0 (by intro e; have e2 : R_T = R_A := Option.some.inj e; have h1 := HR_T.out; have h2 := HR_A.out; omega), q1.cell z1 (by intro e; have e2 : R_T = R_A := Option.some.inj e; have h1 := HR_T.out; have h2 := HR_A.out; omega), q1.cell z2 (by intro e; have e2 : R_T = R_A := Option.some.inj e; have h1 := HR_T.out; have h2 := HR_A.out; omega), z3.grown q1 z3.size (fun k hk => by have e2 : R_A = k := Option.some.inj hk; have := HR_A.out; omega)⟩))
    go_enter Try.func95, Try.ntmps95
    go_upto_region 1 with fail
    rw [← HW0.out, ← HR_A.out, ← HR_T.out]
    have tokA : True := trivial
    go_region_held3 (fun w' => w'.cell? ⟨R_T, 0, none⟩ = some (.int .i64 t) ∧ w'.cell? ⟨R_T, 1, none⟩ = some (.int .i64 z) ∧ w'.cell? ⟨R_T, 2, none⟩ = some (.slice none 0 0) ∧ Below w.heap.size w w')
      ((first | (with_reducible refine HK1_0.out _ _ _ _ ?_; (repeat (first | with_reducible assumption | with_reducible exact Below.refl _ _ | with_reducible refine Below.drew ?_ | with_reducible refine below_alloc' ?_)); done) | (with_reducible refine HK1.out _ ?_; (repeat (first | with_reducible assumption | with_reducible exact Below.refl _ _ | with_reducible refine Below.drew ?_ | with_reducible refine below_alloc' ?_)); done)))
      (first
        | (go_at_call 89; refine (HC.out _).mono ?_; rintro e _ ⟨rfl, rfl⟩)
        | (have _t := tokA; refine step_append_fitT (by rfl) _ _ _ (by rfl) W0.heap.size 9 i0 (.string ⟨#[]⟩) 16 Try.underlying24 hi hz0 hz1 hz2 rfl _ 0 [] (by rfl) (own_lit (by first | exact heap_alloc_new _ _ | exact heap_new_drew _ _) (by simp)) _ 0 (([] : List ByteArray).map Value.string) (by rfl) (.inl ⟨rfl, rfl⟩) (HRt.out.below (by repeat (first | with_reducible assumption | with_reducible exact Below.refl _ _ | with_reducible refine Below.drew ?_ | with_reducible refine below_alloc' ?_) : Below W0.heap.size W0 _) (Nat.le_refl _)) HLen.out (one_strs _) (by unfold maxLen; omega) (by omega) (below_size' (by repeat (first | with_reducible assumption | with_reducible exact Below.refl _ _ | with_reducible refine Below.drew ?_ | with_reducible refine below_alloc' ?_) : Below W0.heap.size W0 _)) ?_; intro v2 w6 hown2 hgrow2 hat2; obtain ⟨a2, c2, rfl, hcc2, hcm2⟩ := own_someS0 hown2; have hb6 : Below W0.heap.size W0 w6 := below_grown (by repeat (first | assumption | exact Below.refl _ _ | refine Below.drew ?_ | refine below_alloc' ?_)) hgrow2 (fun q hq => lit_block (by simp) hq); have h7A := HA1_A.out w6 hb6; have yA0 := h7A.at 0 (v := .int .i64 0) rfl; have fA0 := h7A.free 0; have yA1 := h7A.at 1 (v := .int .i64 0) rfl; have fA1 := h7A.free 1; have yA2 := h7A.at 2 (v := .slice none 0 0) rfl; have fA2 := h7A.free 2; clear hgrow2 hat2 tokA _t))
    all_goals go_wp2_with fail
    all_goals
      rw [Nat.zero_add, List.nil_append] at hown2
      obtain ⟨p1, q1⟩ := h7A.store3 (.int .i64 y) (.int .i64 z) (.slice a2 0 c2)
      refine bodyPost_ret (results_bx rfl isSw _ _ R_A rfl rfl p1) rfl ⟨_, rfl, ?_, (HB0.out.trans (hb6.mono HB0.out.size)).grown q1 (HB0.out.trans (hb6.mono HB0.out.size)).size (fun k hk => by have e2 : R_A = k := Option.some.inj hk; have := HR_A.out; omega)⟩
      rw [List.drop_zero]
      refine own_base (hown2.kept q1 ?_) HB0.out.size
      cases hv : (Value.slice a2 0 c2).ownBlock with
      | none => exact .inl rfl
      | some k => exact .inr (fun e => by have e3 : k = R_A := Option.some.inj e; have := (hown2.lt k hv).1; have := HX_A.out.lt; omega)
  · have HP := Lib.hid hrow
    obtain ⟨_, _, hx, hc1, hm1, _⟩ := row_open hrow
    injection hx with hx1 hx2 hx3
    subst hx3
    clear hx1 hx2 hrow
    unfold maxLen at hm1
    rw [show dropN ⟨t, z, q⟩ n = ⟨aftI t n, z, (q).drop n⟩ from rfl]
    dsimp only
    generalize aftI t n = y at HC ⊢
    obtain ⟨W0, R_T, R_A, hW0, hR_T, hR_A, hX_T, hX_A, hB0⟩ := entry2 w #[.int .i64 t, .int .i64 z, .slice (some ⟨ab, ao, none⟩) q.length cap] #[.int .i64 0, .int .i64 0, .slice none 0 0] 26 26
    have HW0 := Lib.hid hW0
    have HB0 := Lib.hid hB0
    have HR_T := Lib.hid hR_T
    have HX_T := Lib.hid hX_T
    have HR_A := Lib.hid hR_A
    have HX_A := Lib.hid hX_A
    clear hW0 hB0 hR_T hX_T hR_A hX_A
    have c3_T_0 := HX_T.out.at 0 (v := .int .i64 t) rfl
    have c3_T_1 := HX_T.out.at 1 (v := .int .i64 z) rfl
    have c3_T_2 := HX_T.out.at 2 (v := .slice (some ⟨ab, ao, none⟩) q.length cap) rfl
    have c4_A_0 := HX_A.out.at 0 (v := .int .i64 0) rfl
    have c4_A_1 := HX_A.out.at 1 (v := .int .i64 0) rfl
    have c4_A_2 := HX_A.out.at 2 (v := .slice none 0 0) rfl
    obtain ⟨_, o2, ho2, hrt⟩ := row_slice (k := n) (HP.out.below HB0.out (Nat.le_refl _)) rfl hn
    have HRt := Lib.hid hrt
    clear hrt
    have HLen : Hid (((q.drop n).map Value.string).length = q.length - n) := Lib.hid (by rw [List.length_map, List.length_drop])
    rw [List.length_drop] at HRt
    have i1 : (n : Int) ≤ (q.length : Int) := by omega
    have i2 : (q.length : Int) ≤ (cap : Int) := by omega
    have i3 : (0 : Int) ≤ (n : Int) := by omega
    have i8 : (n : Int) ≤ (cap : Int) := by omega
    have i9 : n ≤ cap := by omega
    have HK2 := Lib.hid (fun (w' : World) (hb : Below W0.heap.size W0 w') => (show w'.cell? ⟨R_T, 0, none⟩ = some (.int .i64 t) ∧ w'.cell? ⟨R_T, 1, none⟩ = some (.int .i64 z) ∧ w'.cell? ⟨R_T, 2, none⟩ = some (.slice (some ⟨ab, ao, none⟩) q.length cap) ∧ Below w.heap.size w w' from ⟨(hb.cell (p := ⟨R_T, 0, none⟩) HX_T.out.lt).trans (HX_T.out.at 0 (v := .int .i64 t) rfl), (hb.cell (p := ⟨R_T, 1, none⟩) HX_T.out.lt).trans (HX_T.out.at 1 (v := .int .i64 z) rfl), (hb.cell (p := ⟨R_T, 2, none⟩) HX_T.out.lt).trans (HX_T.out.at 2 (v := .slice (some ⟨ab, ao, none⟩) q.length cap) rfl), HB0.out.trans (hb.mono HB0.out.size)⟩))
    have HA2_A := Lib.hid (fun (w' : World) (hb : Below W0.heap.size W0 w') => HX_A.out.below hb HX_A.out.lt)
    have HK2_0 := Lib.hid (fun (w' : World) (y0_0 y0_1 y0_2 : Value) (hb : Below W0.heap.size W0 w') => (show ((((w'.setCell ⟨R_A, 0, none⟩ (y0_0)).setCell ⟨R_A, 1, none⟩ (y0_1)).setCell ⟨R_A, 2, none⟩ (y0_2))).cell? ⟨R_T, 0, none⟩ = some (.int .i64 t) ∧ ((((w'.setCell ⟨R_A, 0, none⟩ (y0_0)).setCell ⟨R_A, 1, none⟩ (y0_1)).setCell ⟨R_A, 2, none⟩ (y0_2))).cell? ⟨R_T, 1, none⟩ = some (.int .i64 z) ∧ ((((w'.setCell ⟨R_A, 0, none⟩ (y0_0)).setCell ⟨R_A, 1, none⟩ (y0_1)).setCell ⟨R_A, 2, none⟩ (y0_2))).cell? ⟨R_T, 2, none⟩ = some (.slice (some ⟨ab, ao, none⟩) q.length cap) ∧ Below w.heap.size w ((((w'.setCell ⟨R_A, 0, none⟩ (y0_0)).setCell ⟨R_A, 1, none⟩ (y0_1)).setCell ⟨R_A, 2, none⟩ (y0_2))) by
      obtain ⟨z0, z1, z2, z3⟩ := HK2.out w' hb
      obtain ⟨_, q1⟩ := (HA2_A.out w' hb).store3 y0_0 y0_1 y0_2
      exact ⟨q1.cell z0 (by intro e; have e2 : R_T = R_A := Option.some.inj e; have h1 := HR_T.out; have h2 := HR_A.out; omega), q1.cell z1 (by intro e; have e2 : R_T = R_A := Option.some.inj e; have h1 := HR_T.out; have h2 := HR_A.out; omega), q1.cell z2 (by intro e; have e2 : R_T = R_A := Option.some.inj e; have h1 := HR_T.out; have h2 := HR_A.out; omega), z3.grown q1 z3.size (fun k hk => by have e2 : R_A = k := Option.some.inj hk; have := HR_A.out; omega)⟩))
    go_enter Try.func95, Try.ntmps95
    go_upto_region 1 with fail
    rw [← HW0.out, ← HR_A.out, ← HR_T.out]
    have tokA : True := trivial
    go_region_held3 (fun w' => w'.cell? ⟨R_T, 0, none⟩ = some (.int .i64 t) ∧ w'.cell? ⟨R_T, 1, none⟩ = some (.int .i64 z) ∧ w'.cell? ⟨R_T, 2, none⟩ = some (.slice (some ⟨ab, ao, none⟩) q.length cap) ∧ Below w.heap.size w w')
      ((first | (with_reducible refine HK2_0.out _ _ _ _ ?_; (repeat (first | with_reducible assumption | with_reducible exact Below.refl _ _ | with_reducible refine Below.drew ?_ | with_reducible refine below_alloc' ?_)); done) | (with_reducible refine HK2.out _ ?_; (repeat (first | with_reducible assumption | with_reducible exact Below.refl _ _ | with_reducible refine Below.drew ?_ | with_reducible refine below_alloc' ?_)); done)))
      (first
        | (go_at_call 89; refine (HC.out _).mono ?_; rintro e _ ⟨rfl, rfl⟩)
        | (have _t := tokA; refine step_append_fitT (by rfl) _ _ _ (by rfl) W0.heap.size 9 i0 (.string ⟨#[]⟩) 16 Try.underlying24 hi hz0 hz1 hz2 rfl _ 0 [] (by rfl) (own_lit (by first | exact heap_alloc_new _ _ | exact heap_new_drew _ _) (by simp)) _ (q.length - n) ((q.drop n).map Value.string) (by rfl) (.inr ⟨_, _, rfl⟩) (HRt.out.below (by repeat (first | with_reducible assumption | with_reducible exact Below.refl _ _ | with_reducible refine Below.drew ?_ | with_reducible refine below_alloc' ?_) : Below W0.heap.size W0 _) (Nat.le_refl _)) HLen.out (one_strs _) (by unfold maxLen; omega) (by omega) (below_size' (by repeat (first | with_reducible assumption | with_reducible exact Below.refl _ _ | with_reducible refine Below.drew ?_ | with_reducible refine below_alloc' ?_) : Below W0.heap.size W0 _)) ?_; intro v2 w6 hown2 hgrow2 hat2; obtain ⟨a2, c2, rfl, hcc2, hcm2⟩ := own_someS0 hown2; have hb6 : Below W0.heap.size W0 w6 := below_grown (by repeat (first | assumption | exact Below.refl _ _ | refine Below.drew ?_ | refine below_alloc' ?_)) hgrow2 (fun q hq => lit_block (by simp) hq); have h7A := HA2_A.out w6 hb6; have yA0 := h7A.at 0 (v := .int .i64 0) rfl; have fA0 := h7A.free 0; have yA1 := h7A.at 1 (v := .int .i64 0) rfl; have fA1 := h7A.free 1; have yA2 := h7A.at 2 (v := .slice none 0 0) rfl; have fA2 := h7A.free 2; clear hgrow2 hat2 tokA _t))
    all_goals go_wp2_with fail
    all_goals
      rw [Nat.zero_add, List.nil_append] at hown2
      obtain ⟨p1, q1⟩ := h7A.store3 (.int .i64 y) (.int .i64 z) (.slice a2 (q.length - n) c2)
      refine bodyPost_ret (results_bx rfl isSw _ _ R_A rfl rfl p1) rfl ⟨_, rfl, ?_, (HB0.out.trans (hb6.mono HB0.out.size)).grown q1 (HB0.out.trans (hb6.mono HB0.out.size)).size (fun k hk => by have e2 : R_A = k := Option.some.inj hk; have := HR_A.out; omega)⟩
      rw [List.length_drop]
      refine own_base (hown2.kept q1 ?_) HB0.out.size
      cases hv : (Value.slice a2 (q.length - n) c2).ownBlock with
      | none => exact .inl rfl
      | some k => exact .inr (fun e => by have e3 : k = R_A := Option.some.inj e; have := (hown2.lt k hv).1; have := HX_A.out.lt; omega)
set_option maxRecDepth 100000 in
set_option maxHeartbeats 8000000 in
theorem l9Push_any (v : Value) (l : Sw) (s : ByteArray) (w : World) (hrow : Row w v l.q.length (l.q.map Value.string)) (hfit : FitA v l.q.length) (hok : swOk l = true) :
    Calls Try.prog 116 #[.agg #[.int .i64 l.t, .int .i64 l.z, v], .string s] w fun e w' => ∃ v', e = .returned (.tuple #[.agg #[.int .i64 (pushW l s).t, .int .i64 (pushW l s).z, v'], .agg #[.int .i64 1, .int .i64 (leadI (roomW l)), .int .i64 (pushW l s).t, .int .i64 (leadI (pushW l s)), .string s]]) ∧ w'.ownsRow w.heap.size 9 1 v' (pushW l s).q.length ((pushW l s).q.map Value.string) ∧ Below w.heap.size w w' := by
  obtain ⟨i0, hi, hz0, hz1, hz2⟩ := info_parts infoStr
  obtain ⟨h1, h2, h3, h4⟩ := swOk_iff.1 hok
  have hdz := dropN_zero (w := l) h1
  obtain ⟨t, z, q⟩ := l
  dsimp only at hrow hfit h1 h2 h3 h4 ⊢
  have hl6 : q.length ≤ 6 := by omega
  have HFit := Lib.hid hfit
  obtain ⟨a, cap, rfl, hc1, hm1, _⟩ := row_open hrow
  unfold maxLen at hm1
  have HP := Lib.hid hrow
  clear hrow hfit
  obtain ⟨W0, R_T, R_A, R_B, hW0, hR_T, hR_A, hR_B, hX_T, hX_A, hX_B, hB0⟩ := entry3 w #[.int .i64 t, .int .i64 z, .slice a q.length cap] #[.int .i64 0, .int .i64 0, .slice none 0 0] #[.int .i64 0, .int .i64 0, .int .i64 0, .int .i64 0, .string ⟨#[]⟩] 26 26 64
  have HW0 := Lib.hid hW0
  have HB0 := Lib.hid hB0
  have HR_T := Lib.hid hR_T
  have HX_T := Lib.hid hX_T
  have HR_A := Lib.hid hR_A
  have HX_A := Lib.hid hX_A
  have HR_B := Lib.hid hR_B
  have HX_B := Lib.hid hX_B
  clear hW0 hB0 hR_T hX_T hR_A hX_A hR_B hX_B
  have c5_T_0 := HX_T.out.at 0 (v := .int .i64 t) rfl
  have c5_T_1 := HX_T.out.at 1 (v := .int .i64 z) rfl
  have c5_T_2 := HX_T.out.at 2 (v := .slice a q.length cap) rfl
  have c6_A_0 := HX_A.out.at 0 (v := .int .i64 0) rfl
  have c6_A_1 := HX_A.out.at 1 (v := .int .i64 0) rfl
  have c6_A_2 := HX_A.out.at 2 (v := .slice none 0 0) rfl
  have c7_B_0 := HX_B.out.at 0 (v := .int .i64 0) rfl
  have c7_B_1 := HX_B.out.at 1 (v := .int .i64 0) rfl
  have c7_B_2 := HX_B.out.at 2 (v := .int .i64 0) rfl
  have c7_B_3 := HX_B.out.at 3 (v := .int .i64 0) rfl
  have c7_B_4 := HX_B.out.at 4 (v := .string ⟨#[]⟩) rfl
  have HD0 := Lib.hid (fun (W1 : World) (hr : Row W1 (.slice a q.length cap) q.length (q.map Value.string)) => l9Drop_any (.slice a q.length cap) ⟨t, z, q⟩ 0 W1 hr HFit.out h1 (Nat.zero_le _) (by dsimp only; omega))
  rw [hdz] at HD0
  clear hdz
  by_cases hf : (q.length : Int) = z
  · have hrm : roomW ⟨t, z, q⟩ = dropN ⟨t, z, q⟩ 1 := if_pos hf
    have hpw : pushW ⟨t, z, q⟩ s = ⟨aftI t 1, z, q.drop 1 ++ [s]⟩ := by unfold pushW; rw [hrm]; rfl
    have hrm2 : roomW ⟨t, z, q⟩ = ⟨aftI t 1, z, q.drop 1⟩ := hrm
    rw [hpw, hrm2]
    clear hpw hrm hrm2
    dsimp only
    have HD1 := Lib.hid (fun (W1 : World) (hr : Row W1 (.slice a q.length cap) q.length (q.map Value.string)) => l9Drop_any (.slice a q.length cap) ⟨t, z, q⟩ 1 W1 hr HFit.out h1 (by dsimp only; omega) (by dsimp only; omega))
    rw [show dropN ⟨t, z, q⟩ 1 = ⟨aftI t 1, z, q.drop 1⟩ from rfl] at HD1
    dsimp only at HD0 HD1
    have h1b := aftI_bd t 1
    generalize aftI t 1 = t1 at HD1 h1b ⊢
    have hdl : (q.drop 1).length + 1 = q.length := by rw [List.length_drop]; omega
    generalize q.drop 1 = q1 at HD1 hdl ⊢
    have hq16 : q1.length ≤ 6 := by omega
    clear hdl
    obtain ⟨q2, hq2⟩ : ∃ q2, q2 = q1 ++ [s] := ⟨_, rfl⟩
    have hq2l : q2.length = (q1).length + 1 := by rw [hq2, List.length_append]; rfl
    rw [← hq2]
    have HQ2 := Lib.hid hq2
    have hq7 : q2.length ≤ 7 := by rw [hq2l]; omega
    have HQL := Lib.hid hq2l
    clear hq2 hq2l
    have HLl := Lib.hid (fun (v' : Value) (W1 : World) (hr : Row W1 v' q2.length (q2.map Value.string)) => l9Lead_any v' ⟨t1, z, q2⟩ W1 hr h1b (by dsimp only; omega))
    have HLn := Lib.hid (fun (v' : Value) (W1 : World) (hr : Row W1 v' (q1).length ((q1).map Value.string)) => l9Lead_any v' ⟨t1, z, q1⟩ W1 hr h1b (by dsimp only; omega))
    dsimp only at HLl HLn
    generalize leadI ⟨t1, z, q2⟩ = le at HLl ⊢
    generalize leadI ⟨t1, z, q1⟩ = nu at HLn ⊢
    have hd : ((q.length : Int) == z) = true := by simp; exact hf
    go_enter Try.func116, Try.ntmps116
    go_upto_region 1 with fail
    rw [← HW0.out, ← HR_B.out, ← HR_A.out, ← HR_T.out]
    go_wp2_with fail
    refine (HD0.out _ (HP.out.below HB0.out (Nat.le_refl _))).mono ?_
    rintro e W8 ⟨v_r, rfl, o_r, l8⟩
    obtain ⟨a_r, c_r, rfl, _, _⟩ := own_someS0 o_r
    have O_r := Lib.hid (own_base o_r HB0.out.size)
    have BX_T_r : Hid (∀ k, (.slice a_r q.length c_r : Value).ownBlock = some k → k ≠ R_T) := Lib.hid (fun k h1 h2 => absurd HX_T.out.lt (Nat.not_lt.2 (by rw [← h2]; exact (o_r.lt k h1).1)))
    have BX_A_r : Hid (∀ k, (.slice a_r q.length c_r : Value).ownBlock = some k → k ≠ R_A) := Lib.hid (fun k h1 h2 => absurd HX_A.out.lt (Nat.not_lt.2 (by rw [← h2]; exact (o_r.lt k h1).1)))
    have BX_B_r : Hid (∀ k, (.slice a_r q.length c_r : Value).ownBlock = some k → k ≠ R_B) := Lib.hid (fun k h1 h2 => absurd HX_B.out.lt (Nat.not_lt.2 (by rw [← h2]; exact (o_r.lt k h1).1)))
    clear o_r
    clear c5_T_0 c5_T_1 c5_T_2
    clear c6_A_0 c6_A_1 c6_A_2
    clear c7_B_0 c7_B_1 c7_B_2 c7_B_3 c7_B_4
    have HB_9 := Lib.hid (HB0.out.trans (l8.mono HB0.out.size))
    have T_9 := Lib.hid (HX_T.out.below l8 HX_T.out.lt)
    have A_9 := Lib.hid (HX_A.out.below l8 HX_A.out.lt)
    have B_9 := Lib.hid (HX_B.out.below l8 HX_B.out.lt)
    clear l8
    have c10_T_0 := T_9.out.at 0 (v := .int .i64 t) rfl
    have c10_T_1 := T_9.out.at 1 (v := .int .i64 z) rfl
    have c10_T_2 := T_9.out.at 2 (v := .slice a q.length cap) rfl
    have c11_A_0 := A_9.out.at 0 (v := .int .i64 0) rfl
    have c11_A_1 := A_9.out.at 1 (v := .int .i64 0) rfl
    have c11_A_2 := A_9.out.at 2 (v := .slice none 0 0) rfl
    have c12_B_0 := B_9.out.at 0 (v := .int .i64 0) rfl
    have c12_B_1 := B_9.out.at 1 (v := .int .i64 0) rfl
    have c12_B_2 := B_9.out.at 2 (v := .int .i64 0) rfl
    have c12_B_3 := B_9.out.at 3 (v := .int .i64 0) rfl
    have c12_B_4 := B_9.out.at 4 (v := .string ⟨#[]⟩) rfl
    go_upto_region 2 with fail
    obtain ⟨W13, hW13⟩ : ∃ W13, W13 = W8.alloc (.cells #[.int .i64 t, .int .i64 z, .slice a_r q.length c_r] 26) := ⟨_, rfl⟩
    have l13 : Below W8.heap.size W8 W13 := by rw [hW13]; exact (Below.refl _ _).alloc (Nat.le_refl _) _
    have X13_O : Hid (Bx W13 W8.heap.size #[.int .i64 t, .int .i64 z, .slice a_r q.length c_r] 26) := Lib.hid (by rw [hW13]; exact Bx.new _ _ _)
    rw [← hW13]
    clear hW13
    have BX_O_r : Hid (∀ k, (.slice a_r q.length c_r : Value).ownBlock = some k → k ≠ W8.heap.size) := Lib.hid (fun k h1 h2 => absurd (O_r.out.lt k h1).2 (by omega))
    have HG_O : Hid (w.heap.size ≤ W8.heap.size) := Lib.hid HB_9.out.size
    have HN_O_T : Hid (R_T < W8.heap.size) := Lib.hid T_9.out.lt
    have HN_O_A : Hid (R_A < W8.heap.size) := Lib.hid A_9.out.lt
    have HN_O_B : Hid (R_B < W8.heap.size) := Lib.hid B_9.out.lt
    obtain ⟨R_O, hR_O⟩ : ∃ X, X = W8.heap.size := ⟨_, rfl⟩
    rw [← hR_O] at X13_O HG_O BX_O_r HN_O_T HN_O_A HN_O_B ⊢
    clear hR_O
    clear c10_T_0 c10_T_1 c10_T_2
    clear c11_A_0 c11_A_1 c11_A_2
    clear c12_B_0 c12_B_1 c12_B_2 c12_B_3 c12_B_4
    have HB_14 := Lib.hid (HB_9.out.trans (l13.mono HB_9.out.size))
    have r_14 := Lib.hid (own_below O_r.out l13 (Nat.le_refl _))
    clear O_r
    have T_14 := Lib.hid (T_9.out.below l13 T_9.out.lt)
    clear T_9
    have A_14 := Lib.hid (A_9.out.below l13 A_9.out.lt)
    clear A_9
    have B_14 := Lib.hid (B_9.out.below l13 B_9.out.lt)
    clear B_9
    clear l13
    have c15_T_0 := T_14.out.at 0 (v := .int .i64 t) rfl
    have c15_T_1 := T_14.out.at 1 (v := .int .i64 z) rfl
    have c15_T_2 := T_14.out.at 2 (v := .slice a q.length cap) rfl
    have c16_A_0 := A_14.out.at 0 (v := .int .i64 0) rfl
    have c16_A_1 := A_14.out.at 1 (v := .int .i64 0) rfl
    have c16_A_2 := A_14.out.at 2 (v := .slice none 0 0) rfl
    have c17_B_0 := B_14.out.at 0 (v := .int .i64 0) rfl
    have c17_B_1 := B_14.out.at 1 (v := .int .i64 0) rfl
    have c17_B_2 := B_14.out.at 2 (v := .int .i64 0) rfl
    have c17_B_3 := B_14.out.at 3 (v := .int .i64 0) rfl
    have c17_B_4 := B_14.out.at 4 (v := .string ⟨#[]⟩) rfl
    have c18_O_0 := X13_O.out.at 0 (v := .int .i64 t) rfl
    have c18_O_1 := X13_O.out.at 1 (v := .int .i64 z) rfl
    have c18_O_2 := X13_O.out.at 2 (v := .slice a_r q.length c_r) rfl
    go_wp2_with fail
    refine (HD1.out _ (HP.out.below HB_14.out (Nat.le_refl _))).mono ?_
    rintro e W19 ⟨v_p, rfl, o_p, l19⟩
    obtain ⟨a_p, c_p, rfl, _, _⟩ := own_someS0 o_p
    have O_p := Lib.hid (own_base o_p HB_14.out.size)
    have BX_T_p : Hid (∀ k, (.slice a_p q1.length c_p : Value).ownBlock = some k → k ≠ R_T) := Lib.hid (fun k h1 h2 => absurd T_14.out.lt (Nat.not_lt.2 (by rw [← h2]; exact (o_p.lt k h1).1)))
    have BX_A_p : Hid (∀ k, (.slice a_p q1.length c_p : Value).ownBlock = some k → k ≠ R_A) := Lib.hid (fun k h1 h2 => absurd A_14.out.lt (Nat.not_lt.2 (by rw [← h2]; exact (o_p.lt k h1).1)))
    have BX_B_p : Hid (∀ k, (.slice a_p q1.length c_p : Value).ownBlock = some k → k ≠ R_B) := Lib.hid (fun k h1 h2 => absurd B_14.out.lt (Nat.not_lt.2 (by rw [← h2]; exact (o_p.lt k h1).1)))
    have BX_O_p : Hid (∀ k, (.slice a_p q1.length c_p : Value).ownBlock = some k → k ≠ R_O) := Lib.hid (fun k h1 h2 => absurd X13_O.out.lt (Nat.not_lt.2 (by rw [← h2]; exact (o_p.lt k h1).1)))
    clear o_p
    clear c15_T_0 c15_T_1 c15_T_2
    clear c16_A_0 c16_A_1 c16_A_2
    clear c17_B_0 c17_B_1 c17_B_2 c17_B_3 c17_B_4
    clear c18_O_0 c18_O_1 c18_O_2
    have HB_20 := Lib.hid (HB_14.out.trans (l19.mono HB_14.out.size))
    have r_20 := Lib.hid (own_below r_14.out l19 (Nat.le_refl _))
    clear r_14
    have T_20 := Lib.hid (T_14.out.below l19 T_14.out.lt)
    clear T_14
    have A_20 := Lib.hid (A_14.out.below l19 A_14.out.lt)
    clear A_14
    have B_20 := Lib.hid (B_14.out.below l19 B_14.out.lt)
    clear B_14
    have O_20 := Lib.hid (X13_O.out.below l19 X13_O.out.lt)
    clear X13_O
    clear l19
    have c21_T_0 := T_20.out.at 0 (v := .int .i64 t) rfl
    have c21_T_1 := T_20.out.at 1 (v := .int .i64 z) rfl
    have c21_T_2 := T_20.out.at 2 (v := .slice a q.length cap) rfl
    have c22_A_0 := A_20.out.at 0 (v := .int .i64 0) rfl
    have c22_A_1 := A_20.out.at 1 (v := .int .i64 0) rfl
    have c22_A_2 := A_20.out.at 2 (v := .slice none 0 0) rfl
    have c23_B_0 := B_20.out.at 0 (v := .int .i64 0) rfl
    have c23_B_1 := B_20.out.at 1 (v := .int .i64 0) rfl
    have c23_B_2 := B_20.out.at 2 (v := .int .i64 0) rfl
    have c23_B_3 := B_20.out.at 3 (v := .int .i64 0) rfl
    have c23_B_4 := B_20.out.at 4 (v := .string ⟨#[]⟩) rfl
    have c24_O_0 := O_20.out.at 0 (v := .int .i64 t) rfl
    have c24_O_1 := O_20.out.at 1 (v := .int .i64 z) rfl
    have c24_O_2 := O_20.out.at 2 (v := .slice a_r q.length c_r) rfl
    have fr25_O_0 := O_20.out.free 0
    have fr25_O_1 := O_20.out.free 1
    have fr25_O_2 := O_20.out.free 2
    go_upto_region 4 with fail
    clear c21_T_0 c21_T_1 c21_T_2
    clear c22_A_0 c22_A_1 c22_A_2
    clear c23_B_0 c23_B_1 c23_B_2 c23_B_3 c23_B_4
    clear c24_O_0 c24_O_1 c24_O_2
    clear fr25_O_0 fr25_O_1 fr25_O_2
    obtain ⟨p26, q26⟩ := O_20.out.store3 (.int .i64 t1) (.int .i64 z) (.slice a_p q1.length c_p)
    obtain ⟨W26, hW26⟩ : ∃ W26, W26 = (((W19.setCell ⟨R_O, 0, none⟩ (.int .i64 t1)).setCell ⟨R_O, 1, none⟩ (.int .i64 z)).setCell ⟨R_O, 2, none⟩ (.slice a_p q1.length c_p)) := ⟨_, rfl⟩
    rw [← hW26] at p26 q26 ⊢
    have X26_O : Hid (Bx W26 R_O #[.int .i64 t1, .int .i64 z, .slice a_p q1.length c_p] 26) := Lib.hid p26
    have HB_27 := Lib.hid (HB_20.out.grown q26 HB_20.out.size (fun k hk => by have e2 : R_O = k := Option.some.inj hk; have := HG_O.out; omega))
    have r_27 := Lib.hid (r_20.out.kept q26 (by
      cases hv : (.slice a_r q.length c_r : Value).ownBlock with
      | none => exact .inl rfl
      | some k => exact .inr (fun e => BX_O_r.out k hv (Option.some.inj e))))
    clear r_20
    have p_27 := Lib.hid (O_p.out.kept q26 (by
      cases hv : (.slice a_p q1.length c_p : Value).ownBlock with
      | none => exact .inl rfl
      | some k => exact .inr (fun e => BX_O_p.out k hv (Option.some.inj e))))
    clear O_p
    have T_27 := Lib.hid (T_20.out.grown q26 (by intro e; have e2 : R_T = R_O := Option.some.inj e; have h1 := HN_O_T.out; omega))
    clear T_20
    have A_27 := Lib.hid (A_20.out.grown q26 (by intro e; have e2 : R_A = R_O := Option.some.inj e; have h1 := HN_O_A.out; omega))
    clear A_20
    have B_27 := Lib.hid (B_20.out.grown q26 (by intro e; have e2 : R_B = R_O := Option.some.inj e; have h1 := HN_O_B.out; omega))
    clear B_20
    clear O_20
    clear hW26 p26 q26
    have c28_T_0 := T_27.out.at 0 (v := .int .i64 t) rfl
    have c28_T_1 := T_27.out.at 1 (v := .int .i64 z) rfl
    have c28_T_2 := T_27.out.at 2 (v := .slice a q.length cap) rfl
    have c29_A_0 := A_27.out.at 0 (v := .int .i64 0) rfl
    have c29_A_1 := A_27.out.at 1 (v := .int .i64 0) rfl
    have c29_A_2 := A_27.out.at 2 (v := .slice none 0 0) rfl
    have c30_B_0 := B_27.out.at 0 (v := .int .i64 0) rfl
    have c30_B_1 := B_27.out.at 1 (v := .int .i64 0) rfl
    have c30_B_2 := B_27.out.at 2 (v := .int .i64 0) rfl
    have c30_B_3 := B_27.out.at 3 (v := .int .i64 0) rfl
    have c30_B_4 := B_27.out.at 4 (v := .string ⟨#[]⟩) rfl
    have c31_O_0 := X26_O.out.at 0 (v := .int .i64 t1) rfl
    have c31_O_1 := X26_O.out.at 1 (v := .int .i64 z) rfl
    have c31_O_2 := X26_O.out.at 2 (v := .slice a_p q1.length c_p) rfl
    clear r_27
    go_wp2_with fail
    refine (HLn.out _ _ (row_own p_27.out)).mono ?_
    rintro e W32 ⟨rfl, l32⟩
    clear c28_T_0 c28_T_1 c28_T_2
    clear c29_A_0 c29_A_1 c29_A_2
    clear c30_B_0 c30_B_1 c30_B_2 c30_B_3 c30_B_4
    clear c31_O_0 c31_O_1 c31_O_2
    have HB_33 := Lib.hid (HB_27.out.trans (l32.mono HB_27.out.size))
    have p_33 := Lib.hid (own_below p_27.out l32 (Nat.le_refl _))
    clear p_27
    have T_33 := Lib.hid (T_27.out.below l32 T_27.out.lt)
    clear T_27
    have A_33 := Lib.hid (A_27.out.below l32 A_27.out.lt)
    clear A_27
    have B_33 := Lib.hid (B_27.out.below l32 B_27.out.lt)
    clear B_27
    have O_33 := Lib.hid (X26_O.out.below l32 X26_O.out.lt)
    clear X26_O
    clear l32
    have c34_T_0 := T_33.out.at 0 (v := .int .i64 t) rfl
    have c34_T_1 := T_33.out.at 1 (v := .int .i64 z) rfl
    have c34_T_2 := T_33.out.at 2 (v := .slice a q.length cap) rfl
    have c35_A_0 := A_33.out.at 0 (v := .int .i64 0) rfl
    have c35_A_1 := A_33.out.at 1 (v := .int .i64 0) rfl
    have c35_A_2 := A_33.out.at 2 (v := .slice none 0 0) rfl
    have c36_B_0 := B_33.out.at 0 (v := .int .i64 0) rfl
    have c36_B_1 := B_33.out.at 1 (v := .int .i64 0) rfl
    have c36_B_2 := B_33.out.at 2 (v := .int .i64 0) rfl
    have c36_B_3 := B_33.out.at 3 (v := .int .i64 0) rfl
    have c36_B_4 := B_33.out.at 4 (v := .string ⟨#[]⟩) rfl
    have c37_O_0 := O_33.out.at 0 (v := .int .i64 t1) rfl
    have c37_O_1 := O_33.out.at 1 (v := .int .i64 z) rfl
    have c37_O_2 := O_33.out.at 2 (v := .slice a_p q1.length c_p) rfl
    clear c34_T_0 c34_T_1 c34_T_2
    clear c35_A_0 c35_A_1 c35_A_2
    clear c36_B_0 c36_B_1 c36_B_2 c36_B_3 c36_B_4
    clear c37_O_0 c37_O_1 c37_O_2
    have c39_T_0 := T_33.out.at 0 (v := .int .i64 t) rfl
    have c39_T_1 := T_33.out.at 1 (v := .int .i64 z) rfl
    have c39_T_2 := T_33.out.at 2 (v := .slice a q.length cap) rfl
    have c40_A_0 := A_33.out.at 0 (v := .int .i64 0) rfl
    have c40_A_1 := A_33.out.at 1 (v := .int .i64 0) rfl
    have c40_A_2 := A_33.out.at 2 (v := .slice none 0 0) rfl
    have c41_B_0 := B_33.out.at 0 (v := .int .i64 0) rfl
    have c41_B_1 := B_33.out.at 1 (v := .int .i64 0) rfl
    have c41_B_2 := B_33.out.at 2 (v := .int .i64 0) rfl
    have c41_B_3 := B_33.out.at 3 (v := .int .i64 0) rfl
    have c41_B_4 := B_33.out.at 4 (v := .string ⟨#[]⟩) rfl
    have c42_O_0 := O_33.out.at 0 (v := .int .i64 t1) rfl
    have c42_O_1 := O_33.out.at 1 (v := .int .i64 z) rfl
    have c42_O_2 := O_33.out.at 2 (v := .slice a_p q1.length c_p) rfl
    have fr43_O_0 := O_33.out.free 0
    have fr43_O_1 := O_33.out.free 1
    have fr43_O_2 := O_33.out.free 2
    go_upto_region 6 with (at_builtin; refine wpList_append_own_at _ rfl _ _ 24 rfl w.heap.size 9 i0 (.string ⟨#[]⟩) 1 16 Try.underlying24 hi hz0 hz1 hz2 rfl (by decide) _ q1.length (q1.map Value.string) rfl (p_33.out.alloc _) ⟨W32.heap.size, 0, none⟩ 1 1 [.string s] rfl rfl (cell_one_new _ _ _) (by intro u hu; simp at hu; subst hu; rfl) (by unfold maxLen; omega) (by omega) (by have := HB_33.out.size; simp; omega) ?_; intro v3 w3 hown3 hgrow3 hnil3 hat3; have hown4 : w3.ownsRow w.heap.size 9 1 v3 q2.length (q2.map Value.string) := (by rw [HQL.out, HQ2.out, List.map_append]; exact hown3); obtain ⟨a_n, c_n, rfl, _, _⟩ := own_someS0 hown4; have h9O := (O_33.out.alloc (.cells #[.string s] 9)).grown hgrow3 (fun e => BX_O_p.out _ e.symm rfl); have oO0 := h9O.at 0 (v := .int .i64 t1) rfl; have foO0 := h9O.free 0; have oO1 := h9O.at 1 (v := .int .i64 z) rfl; have foO1 := h9O.free 1; have oO2 := h9O.at 2 (v := .slice a_p q1.length c_p) rfl; have foO2 := h9O.free 2; clear hnil3 hown3)
    have g38 := app_grown hgrow3
    clear hgrow3 h9O oO0 foO0 oO1 foO1 oO2 foO2
    have BX_T_n : Hid (∀ k, (.slice a_n q2.length c_n : Value).ownBlock = some k → k ≠ R_T) := Lib.hid (app_apart hat3 T_33.out.lt BX_T_p.out)
    have BX_A_n : Hid (∀ k, (.slice a_n q2.length c_n : Value).ownBlock = some k → k ≠ R_A) := Lib.hid (app_apart hat3 A_33.out.lt BX_A_p.out)
    have BX_B_n : Hid (∀ k, (.slice a_n q2.length c_n : Value).ownBlock = some k → k ≠ R_B) := Lib.hid (app_apart hat3 B_33.out.lt BX_B_p.out)
    have BX_O_n : Hid (∀ k, (.slice a_n q2.length c_n : Value).ownBlock = some k → k ≠ R_O) := Lib.hid (app_apart hat3 O_33.out.lt BX_O_p.out)
    have HB_38 := Lib.hid (HB_33.out.grown g38 HB_33.out.size (fun k hk => (p_33.out.lt k hk).1))
    have T_38 := Lib.hid (T_33.out.grown g38 (fun e => BX_T_p.out _ e.symm rfl))
    clear T_33
    have A_38 := Lib.hid (A_33.out.grown g38 (fun e => BX_A_p.out _ e.symm rfl))
    clear A_33
    have B_38 := Lib.hid (B_33.out.grown g38 (fun e => BX_B_p.out _ e.symm rfl))
    clear B_33
    have O_38 := Lib.hid (O_33.out.grown g38 (fun e => BX_O_p.out _ e.symm rfl))
    clear O_33
    have O_n := Lib.hid hown4
    clear hown4 hat3 g38 p_33
    obtain ⟨p9, q9⟩ := O_38.out.set 2 (.slice a_n q2.length c_n)
    obtain ⟨W44, hW44⟩ : ∃ W44, W44 = (w3.setCell ⟨R_O, 2, none⟩ (.slice a_n q2.length c_n)) := ⟨_, rfl⟩
    rw [← hW44] at p9 q9 ⊢
    have X9_O : Hid (Bx W44 R_O #[.int .i64 t1, .int .i64 z, .slice a_n q2.length c_n] 26) := Lib.hid p9
    have HB_45 := Lib.hid (HB_38.out.grown q9 HB_38.out.size (fun k hk => by have e2 : R_O = k := Option.some.inj hk; have := HG_O.out; omega))
    have n_45 := Lib.hid (O_n.out.kept q9 (by
      cases hv : (.slice a_n q2.length c_n : Value).ownBlock with
      | none => exact .inl rfl
      | some k => exact .inr (fun e => BX_O_n.out k hv (Option.some.inj e))))
    clear O_n
    have T_45 := Lib.hid (T_38.out.grown q9 (by intro e; have e2 : R_T = R_O := Option.some.inj e; have h1 := HN_O_T.out; omega))
    clear T_38
    have A_45 := Lib.hid (A_38.out.grown q9 (by intro e; have e2 : R_A = R_O := Option.some.inj e; have h1 := HN_O_A.out; omega))
    clear A_38
    have B_45 := Lib.hid (B_38.out.grown q9 (by intro e; have e2 : R_B = R_O := Option.some.inj e; have h1 := HN_O_B.out; omega))
    clear B_38
    clear hW44 p9 q9
    have c46_T_0 := T_45.out.at 0 (v := .int .i64 t) rfl
    have c46_T_1 := T_45.out.at 1 (v := .int .i64 z) rfl
    have c46_T_2 := T_45.out.at 2 (v := .slice a q.length cap) rfl
    have c47_A_0 := A_45.out.at 0 (v := .int .i64 0) rfl
    have c47_A_1 := A_45.out.at 1 (v := .int .i64 0) rfl
    have c47_A_2 := A_45.out.at 2 (v := .slice none 0 0) rfl
    have c48_B_0 := B_45.out.at 0 (v := .int .i64 0) rfl
    have c48_B_1 := B_45.out.at 1 (v := .int .i64 0) rfl
    have c48_B_2 := B_45.out.at 2 (v := .int .i64 0) rfl
    have c48_B_3 := B_45.out.at 3 (v := .int .i64 0) rfl
    have c48_B_4 := B_45.out.at 4 (v := .string ⟨#[]⟩) rfl
    have c49_O_0 := X9_O.out.at 0 (v := .int .i64 t1) rfl
    have c49_O_1 := X9_O.out.at 1 (v := .int .i64 z) rfl
    have c49_O_2 := X9_O.out.at 2 (v := .slice a_n q2.length c_n) rfl
    have HK3 := Lib.hid (fun (w' : World) (hb : Below W44.heap.size W44 w') => (show w'.cell? ⟨R_O, 0, none⟩ = some (.int .i64 t1) ∧ w'.cell? ⟨R_O, 1, none⟩ = some (.int .i64 z) ∧ w'.cell? ⟨R_O, 2, none⟩ = some (.slice a_n q2.length c_n) ∧ Below w.heap.size w w' from ⟨(hb.cell (p := ⟨R_O, 0, none⟩) X9_O.out.lt).trans (X9_O.out.at 0 (v := .int .i64 t1) rfl), (hb.cell (p := ⟨R_O, 1, none⟩) X9_O.out.lt).trans (X9_O.out.at 1 (v := .int .i64 z) rfl), (hb.cell (p := ⟨R_O, 2, none⟩) X9_O.out.lt).trans (X9_O.out.at 2 (v := .slice a_n q2.length c_n) rfl), HB_45.out.trans (hb.mono HB_45.out.size)⟩))
    have HA3_A := Lib.hid (fun (w' : World) (hb : Below W44.heap.size W44 w') => A_45.out.below hb A_45.out.lt)
    have HK3_0 := Lib.hid (fun (w' : World) (y0_0 y0_1 y0_2 : Value) (hb : Below W44.heap.size W44 w') => (show ((((w'.setCell ⟨R_A, 0, none⟩ (y0_0)).setCell ⟨R_A, 1, none⟩ (y0_1)).setCell ⟨R_A, 2, none⟩ (y0_2))).cell? ⟨R_O, 0, none⟩ = some (.int .i64 t1) ∧ ((((w'.setCell ⟨R_A, 0, none⟩ (y0_0)).setCell ⟨R_A, 1, none⟩ (y0_1)).setCell ⟨R_A, 2, none⟩ (y0_2))).cell? ⟨R_O, 1, none⟩ = some (.int .i64 z) ∧ ((((w'.setCell ⟨R_A, 0, none⟩ (y0_0)).setCell ⟨R_A, 1, none⟩ (y0_1)).setCell ⟨R_A, 2, none⟩ (y0_2))).cell? ⟨R_O, 2, none⟩ = some (.slice a_n q2.length c_n) ∧ Below w.heap.size w ((((w'.setCell ⟨R_A, 0, none⟩ (y0_0)).setCell ⟨R_A, 1, none⟩ (y0_1)).setCell ⟨R_A, 2, none⟩ (y0_2))) by
      obtain ⟨z0, z1, z2, z3⟩ := HK3.out w' hb
      obtain ⟨_, q1⟩ := (HA3_A.out w' hb).store3 y0_0 y0_1 y0_2
      exact ⟨q1.cell z0 (by intro e; have e2 : R_O = R_A := Option.some.inj e; have h1 := HN_O_A.out; omega), q1.cell z1 (by intro e; have e2 : R_O = R_A := Option.some.inj e; have h1 := HN_O_A.out; omega), q1.cell z2 (by intro e; have e2 : R_O = R_A := Option.some.inj e; have h1 := HN_O_A.out; omega), z3.grown q1 z3.size (fun k hk => by have e2 : R_A = k := Option.some.inj hk; have := HR_A.out; omega)⟩))
    have HA3_B := Lib.hid (fun (w' : World) (hb : Below W44.heap.size W44 w') => B_45.out.below hb B_45.out.lt)
    have HK3_1 := Lib.hid (fun (w' : World) (y0_0 y0_1 y0_2 y1_0 y1_1 y1_2 y1_3 y1_4 : Value) (hb : Below W44.heap.size W44 w') => (show (((((((((w'.setCell ⟨R_A, 0, none⟩ (y0_0)).setCell ⟨R_A, 1, none⟩ (y0_1)).setCell ⟨R_A, 2, none⟩ (y0_2)).setCell ⟨R_B, 0, none⟩ (y1_0)).setCell ⟨R_B, 1, none⟩ (y1_1)).setCell ⟨R_B, 2, none⟩ (y1_2)).setCell ⟨R_B, 3, none⟩ (y1_3)).setCell ⟨R_B, 4, none⟩ (y1_4))).cell? ⟨R_O, 0, none⟩ = some (.int .i64 t1) ∧ (((((((((w'.setCell ⟨R_A, 0, none⟩ (y0_0)).setCell ⟨R_A, 1, none⟩ (y0_1)).setCell ⟨R_A, 2, none⟩ (y0_2)).setCell ⟨R_B, 0, none⟩ (y1_0)).setCell ⟨R_B, 1, none⟩ (y1_1)).setCell ⟨R_B, 2, none⟩ (y1_2)).setCell ⟨R_B, 3, none⟩ (y1_3)).setCell ⟨R_B, 4, none⟩ (y1_4))).cell? ⟨R_O, 1, none⟩ = some (.int .i64 z) ∧ (((((((((w'.setCell ⟨R_A, 0, none⟩ (y0_0)).setCell ⟨R_A, 1, none⟩ (y0_1)).setCell ⟨R_A, 2, none⟩ (y0_2)).setCell ⟨R_B, 0, none⟩ (y1_0)).setCell ⟨R_B, 1, none⟩ (y1_1)).setCell ⟨R_B, 2, none⟩ (y1_2)).setCell ⟨R_B, 3, none⟩ (y1_3)).setCell ⟨R_B, 4, none⟩ (y1_4))).cell? ⟨R_O, 2, none⟩ = some (.slice a_n q2.length c_n) ∧ Below w.heap.size w (((((((((w'.setCell ⟨R_A, 0, none⟩ (y0_0)).setCell ⟨R_A, 1, none⟩ (y0_1)).setCell ⟨R_A, 2, none⟩ (y0_2)).setCell ⟨R_B, 0, none⟩ (y1_0)).setCell ⟨R_B, 1, none⟩ (y1_1)).setCell ⟨R_B, 2, none⟩ (y1_2)).setCell ⟨R_B, 3, none⟩ (y1_3)).setCell ⟨R_B, 4, none⟩ (y1_4))) by
      obtain ⟨z0, z1, z2, z3⟩ := HK3_0.out w' y0_0 y0_1 y0_2 hb
      obtain ⟨_, g0⟩ := (HA3_A.out w' hb).store3 y0_0 y0_1 y0_2
      obtain ⟨_, q1⟩ := ((HA3_B.out w' hb).grown g0 (by intro e; have e2 : R_B = R_A := Option.some.inj e; have h1 := HR_B.out; have h2 := HR_A.out; omega)).store5 y1_0 y1_1 y1_2 y1_3 y1_4
      exact ⟨q1.cell z0 (by intro e; have e2 : R_O = R_B := Option.some.inj e; have h1 := HN_O_B.out; omega), q1.cell z1 (by intro e; have e2 : R_O = R_B := Option.some.inj e; have h1 := HN_O_B.out; omega), q1.cell z2 (by intro e; have e2 : R_O = R_B := Option.some.inj e; have h1 := HN_O_B.out; omega), z3.grown q1 z3.size (fun k hk => by have e2 : R_B = k := Option.some.inj hk; have := HR_B.out; omega)⟩))
    have hne_A_B : R_A ≠ R_B := fun e => absurd (congrArg some e) (by intro e; have e2 : R_A = R_B := Option.some.inj e; have h1 := HR_A.out; have h2 := HR_B.out; omega)
    have hne_B_A : R_B ≠ R_A := fun e => absurd (congrArg some e) (by intro e; have e2 : R_B = R_A := Option.some.inj e; have h1 := HR_B.out; have h2 := HR_A.out; omega)
    go_region_held3 (fun w' => w'.cell? ⟨R_O, 0, none⟩ = some (.int .i64 t1) ∧ w'.cell? ⟨R_O, 1, none⟩ = some (.int .i64 z) ∧ w'.cell? ⟨R_O, 2, none⟩ = some (.slice a_n q2.length c_n) ∧ Below w.heap.size w w')
      ((first | (with_reducible refine HK3_1.out _ _ _ _ _ _ _ _ _ ?_; (repeat (first | with_reducible assumption | with_reducible exact Below.refl _ _ | with_reducible refine Below.drew ?_ | with_reducible refine below_alloc' ?_)); done) | (with_reducible refine HK3_0.out _ _ _ _ ?_; (repeat (first | with_reducible assumption | with_reducible exact Below.refl _ _ | with_reducible refine Below.drew ?_ | with_reducible refine below_alloc' ?_)); done) | (with_reducible refine HK3.out _ ?_; (repeat (first | with_reducible assumption | with_reducible exact Below.refl _ _ | with_reducible refine Below.drew ?_ | with_reducible refine below_alloc' ?_)); done)))
      (first
        | (go_at_call 121; refine (HLl.out _ _ (row_own (own_below n_45.out (by repeat (first | with_reducible assumption | with_reducible exact Below.refl _ _ | with_reducible refine Below.drew ?_ | with_reducible refine below_alloc' ?_) : Below W44.heap.size W44 _) (Nat.le_refl _)))).mono ?_; rintro e w7 ⟨rfl, l7⟩; have hb7 := below_call7 (by repeat (first | with_reducible assumption | with_reducible exact Below.refl _ _ | with_reducible refine Below.drew ?_ | with_reducible refine below_alloc' ?_) : Below W44.heap.size W44 _) l7; have h7A := HA3_A.out w7 hb7; have yA0 := h7A.at 0 (v := .int .i64 0) rfl; have fA0 := h7A.free 0; have yA1 := h7A.at 1 (v := .int .i64 0) rfl; have fA1 := h7A.free 1; have yA2 := h7A.at 2 (v := .slice none 0 0) rfl; have fA2 := h7A.free 2; have h7B := HA3_B.out w7 hb7; have yB0 := h7B.at 0 (v := .int .i64 0) rfl; have fB0 := h7B.free 0; have yB1 := h7B.at 1 (v := .int .i64 0) rfl; have fB1 := h7B.free 1; have yB2 := h7B.at 2 (v := .int .i64 0) rfl; have fB2 := h7B.free 2; have yB3 := h7B.at 3 (v := .int .i64 0) rfl; have fB3 := h7B.free 3; have yB4 := h7B.at 4 (v := .string ⟨#[]⟩) rfl; have fB4 := h7B.free 4; clear l7))
    all_goals go_wp2_with fail
    all_goals
      obtain ⟨p1, q1⟩ := h7A.store3 (.int .i64 t1) (.int .i64 z) (.slice a_n q2.length c_n)
      obtain ⟨p2, q2'⟩ := (h7B.grown q1 (by intro e; have e2 : R_B = R_A := Option.some.inj e; have h1 := HR_B.out; have h2 := HR_A.out; omega)).store5 (.int .i64 1) (.int .i64 nu) (.int .i64 t1) (.int .i64 le) (.string s)
      have hB8 := (HB_45.out.trans (hb7.mono HB_45.out.size))
      have hB9 := hB8.grown q1 hB8.size (fun k hk => by have e2 : R_A = k := Option.some.inj hk; have := HR_A.out; omega)
      have hB10 := hB9.grown q2' hB9.size (fun k hk => by have e2 : R_B = k := Option.some.inj hk; have := HR_B.out; omega)
      refine bodyPost_ret (results_bxx rfl isSw isPk _ _ R_A R_B rfl rfl rfl rfl (p1.grown q2' (by intro e; have e2 : R_A = R_B := Option.some.inj e; have h1 := HR_A.out; have h2 := HR_B.out; omega)) p2) rfl ⟨_, rfl, ?_, hB10⟩
      refine ((own_below n_45.out hb7 (Nat.le_refl _)).kept q1 ?_).kept q2' ?_
      · cases hv : (.slice a_n q2.length c_n : Value).ownBlock with
        | none => exact .inl rfl
        | some k => exact .inr (fun e => BX_A_n.out k hv (Option.some.inj e))
      · cases hv : (.slice a_n q2.length c_n : Value).ownBlock with
        | none => exact .inl rfl
        | some k => exact .inr (fun e => BX_B_n.out k hv (Option.some.inj e))
  · have hrm : roomW ⟨t, z, q⟩ = ⟨t, z, q⟩ := if_neg hf
    have hpw : pushW ⟨t, z, q⟩ s = ⟨t, z, q ++ [s]⟩ := by unfold pushW; rw [hrm]
    rw [hpw, hrm]
    clear hpw hrm
    dsimp only
    dsimp only at HD0
    obtain ⟨q2, hq2⟩ : ∃ q2, q2 = q ++ [s] := ⟨_, rfl⟩
    have hq2l : q2.length = (q).length + 1 := by rw [hq2, List.length_append]; rfl
    rw [← hq2]
    have HQ2 := Lib.hid hq2
    have hq7 : q2.length ≤ 7 := by rw [hq2l]; omega
    have HQL := Lib.hid hq2l
    clear hq2 hq2l
    have HLl := Lib.hid (fun (v' : Value) (W1 : World) (hr : Row W1 v' q2.length (q2.map Value.string)) => l9Lead_any v' ⟨t, z, q2⟩ W1 hr h1 (by dsimp only; omega))
    have HLn := Lib.hid (fun (v' : Value) (W1 : World) (hr : Row W1 v' (q).length ((q).map Value.string)) => l9Lead_any v' ⟨t, z, q⟩ W1 hr h1 (by dsimp only; omega))
    dsimp only at HLl HLn
    generalize leadI ⟨t, z, q2⟩ = le at HLl ⊢
    generalize leadI ⟨t, z, q⟩ = nu at HLn ⊢
    have hd : ((q.length : Int) == z) = false := by simp; exact hf
    go_enter Try.func116, Try.ntmps116
    go_upto_region 1 with fail
    rw [← HW0.out, ← HR_B.out, ← HR_A.out, ← HR_T.out]
    go_wp2_with fail
    refine (HD0.out _ (HP.out.below HB0.out (Nat.le_refl _))).mono ?_
    rintro e W50 ⟨v_r, rfl, o_r, l50⟩
    obtain ⟨a_r, c_r, rfl, _, _⟩ := own_someS0 o_r
    have O_r := Lib.hid (own_base o_r HB0.out.size)
    have BX_T_r : Hid (∀ k, (.slice a_r q.length c_r : Value).ownBlock = some k → k ≠ R_T) := Lib.hid (fun k h1 h2 => absurd HX_T.out.lt (Nat.not_lt.2 (by rw [← h2]; exact (o_r.lt k h1).1)))
    have BX_A_r : Hid (∀ k, (.slice a_r q.length c_r : Value).ownBlock = some k → k ≠ R_A) := Lib.hid (fun k h1 h2 => absurd HX_A.out.lt (Nat.not_lt.2 (by rw [← h2]; exact (o_r.lt k h1).1)))
    have BX_B_r : Hid (∀ k, (.slice a_r q.length c_r : Value).ownBlock = some k → k ≠ R_B) := Lib.hid (fun k h1 h2 => absurd HX_B.out.lt (Nat.not_lt.2 (by rw [← h2]; exact (o_r.lt k h1).1)))
    clear o_r
    clear c5_T_0 c5_T_1 c5_T_2
    clear c6_A_0 c6_A_1 c6_A_2
    clear c7_B_0 c7_B_1 c7_B_2 c7_B_3 c7_B_4
    have HB_51 := Lib.hid (HB0.out.trans (l50.mono HB0.out.size))
    have T_51 := Lib.hid (HX_T.out.below l50 HX_T.out.lt)
    have A_51 := Lib.hid (HX_A.out.below l50 HX_A.out.lt)
    have B_51 := Lib.hid (HX_B.out.below l50 HX_B.out.lt)
    clear l50
    have c52_T_0 := T_51.out.at 0 (v := .int .i64 t) rfl
    have c52_T_1 := T_51.out.at 1 (v := .int .i64 z) rfl
    have c52_T_2 := T_51.out.at 2 (v := .slice a q.length cap) rfl
    have c53_A_0 := A_51.out.at 0 (v := .int .i64 0) rfl
    have c53_A_1 := A_51.out.at 1 (v := .int .i64 0) rfl
    have c53_A_2 := A_51.out.at 2 (v := .slice none 0 0) rfl
    have c54_B_0 := B_51.out.at 0 (v := .int .i64 0) rfl
    have c54_B_1 := B_51.out.at 1 (v := .int .i64 0) rfl
    have c54_B_2 := B_51.out.at 2 (v := .int .i64 0) rfl
    have c54_B_3 := B_51.out.at 3 (v := .int .i64 0) rfl
    have c54_B_4 := B_51.out.at 4 (v := .string ⟨#[]⟩) rfl
    go_upto_region 2 with fail
    obtain ⟨W55, hW55⟩ : ∃ W55, W55 = W50.alloc (.cells #[.int .i64 t, .int .i64 z, .slice a_r q.length c_r] 26) := ⟨_, rfl⟩
    have l55 : Below W50.heap.size W50 W55 := by rw [hW55]; exact (Below.refl _ _).alloc (Nat.le_refl _) _
    have X55_O : Hid (Bx W55 W50.heap.size #[.int .i64 t, .int .i64 z, .slice a_r q.length c_r] 26) := Lib.hid (by rw [hW55]; exact Bx.new _ _ _)
    rw [← hW55]
    clear hW55
    have BX_O_r : Hid (∀ k, (.slice a_r q.length c_r : Value).ownBlock = some k → k ≠ W50.heap.size) := Lib.hid (fun k h1 h2 => absurd (O_r.out.lt k h1).2 (by omega))
    have HG_O : Hid (w.heap.size ≤ W50.heap.size) := Lib.hid HB_51.out.size
    have HN_O_T : Hid (R_T < W50.heap.size) := Lib.hid T_51.out.lt
    have HN_O_A : Hid (R_A < W50.heap.size) := Lib.hid A_51.out.lt
    have HN_O_B : Hid (R_B < W50.heap.size) := Lib.hid B_51.out.lt
    obtain ⟨R_O, hR_O⟩ : ∃ X, X = W50.heap.size := ⟨_, rfl⟩
    rw [← hR_O] at X55_O HG_O BX_O_r HN_O_T HN_O_A HN_O_B ⊢
    clear hR_O
    clear c52_T_0 c52_T_1 c52_T_2
    clear c53_A_0 c53_A_1 c53_A_2
    clear c54_B_0 c54_B_1 c54_B_2 c54_B_3 c54_B_4
    have HB_56 := Lib.hid (HB_51.out.trans (l55.mono HB_51.out.size))
    have r_56 := Lib.hid (own_below O_r.out l55 (Nat.le_refl _))
    clear O_r
    have T_56 := Lib.hid (T_51.out.below l55 T_51.out.lt)
    clear T_51
    have A_56 := Lib.hid (A_51.out.below l55 A_51.out.lt)
    clear A_51
    have B_56 := Lib.hid (B_51.out.below l55 B_51.out.lt)
    clear B_51
    clear l55
    have c57_T_0 := T_56.out.at 0 (v := .int .i64 t) rfl
    have c57_T_1 := T_56.out.at 1 (v := .int .i64 z) rfl
    have c57_T_2 := T_56.out.at 2 (v := .slice a q.length cap) rfl
    have c58_A_0 := A_56.out.at 0 (v := .int .i64 0) rfl
    have c58_A_1 := A_56.out.at 1 (v := .int .i64 0) rfl
    have c58_A_2 := A_56.out.at 2 (v := .slice none 0 0) rfl
    have c59_B_0 := B_56.out.at 0 (v := .int .i64 0) rfl
    have c59_B_1 := B_56.out.at 1 (v := .int .i64 0) rfl
    have c59_B_2 := B_56.out.at 2 (v := .int .i64 0) rfl
    have c59_B_3 := B_56.out.at 3 (v := .int .i64 0) rfl
    have c59_B_4 := B_56.out.at 4 (v := .string ⟨#[]⟩) rfl
    have c60_O_0 := X55_O.out.at 0 (v := .int .i64 t) rfl
    have c60_O_1 := X55_O.out.at 1 (v := .int .i64 z) rfl
    have c60_O_2 := X55_O.out.at 2 (v := .slice a_r q.length c_r) rfl
    go_wp2_with fail
    refine (HLn.out _ _ (row_own r_56.out)).mono ?_
    rintro e W61 ⟨rfl, l61⟩
    clear c57_T_0 c57_T_1 c57_T_2
    clear c58_A_0 c58_A_1 c58_A_2
    clear c59_B_0 c59_B_1 c59_B_2 c59_B_3 c59_B_4
    clear c60_O_0 c60_O_1 c60_O_2
    have HB_62 := Lib.hid (HB_56.out.trans (l61.mono HB_56.out.size))
    have r_62 := Lib.hid (own_below r_56.out l61 (Nat.le_refl _))
    clear r_56
    have T_62 := Lib.hid (T_56.out.below l61 T_56.out.lt)
    clear T_56
    have A_62 := Lib.hid (A_56.out.below l61 A_56.out.lt)
    clear A_56
    have B_62 := Lib.hid (B_56.out.below l61 B_56.out.lt)
    clear B_56
    have O_62 := Lib.hid (X55_O.out.below l61 X55_O.out.lt)
    clear X55_O
    clear l61
    have c63_T_0 := T_62.out.at 0 (v := .int .i64 t) rfl
    have c63_T_1 := T_62.out.at 1 (v := .int .i64 z) rfl
    have c63_T_2 := T_62.out.at 2 (v := .slice a q.length cap) rfl
    have c64_A_0 := A_62.out.at 0 (v := .int .i64 0) rfl
    have c64_A_1 := A_62.out.at 1 (v := .int .i64 0) rfl
    have c64_A_2 := A_62.out.at 2 (v := .slice none 0 0) rfl
    have c65_B_0 := B_62.out.at 0 (v := .int .i64 0) rfl
    have c65_B_1 := B_62.out.at 1 (v := .int .i64 0) rfl
    have c65_B_2 := B_62.out.at 2 (v := .int .i64 0) rfl
    have c65_B_3 := B_62.out.at 3 (v := .int .i64 0) rfl
    have c65_B_4 := B_62.out.at 4 (v := .string ⟨#[]⟩) rfl
    have c66_O_0 := O_62.out.at 0 (v := .int .i64 t) rfl
    have c66_O_1 := O_62.out.at 1 (v := .int .i64 z) rfl
    have c66_O_2 := O_62.out.at 2 (v := .slice a_r q.length c_r) rfl
    clear c63_T_0 c63_T_1 c63_T_2
    clear c64_A_0 c64_A_1 c64_A_2
    clear c65_B_0 c65_B_1 c65_B_2 c65_B_3 c65_B_4
    clear c66_O_0 c66_O_1 c66_O_2
    have c68_T_0 := T_62.out.at 0 (v := .int .i64 t) rfl
    have c68_T_1 := T_62.out.at 1 (v := .int .i64 z) rfl
    have c68_T_2 := T_62.out.at 2 (v := .slice a q.length cap) rfl
    have c69_A_0 := A_62.out.at 0 (v := .int .i64 0) rfl
    have c69_A_1 := A_62.out.at 1 (v := .int .i64 0) rfl
    have c69_A_2 := A_62.out.at 2 (v := .slice none 0 0) rfl
    have c70_B_0 := B_62.out.at 0 (v := .int .i64 0) rfl
    have c70_B_1 := B_62.out.at 1 (v := .int .i64 0) rfl
    have c70_B_2 := B_62.out.at 2 (v := .int .i64 0) rfl
    have c70_B_3 := B_62.out.at 3 (v := .int .i64 0) rfl
    have c70_B_4 := B_62.out.at 4 (v := .string ⟨#[]⟩) rfl
    have c71_O_0 := O_62.out.at 0 (v := .int .i64 t) rfl
    have c71_O_1 := O_62.out.at 1 (v := .int .i64 z) rfl
    have c71_O_2 := O_62.out.at 2 (v := .slice a_r q.length c_r) rfl
    have fr72_O_0 := O_62.out.free 0
    have fr72_O_1 := O_62.out.free 1
    have fr72_O_2 := O_62.out.free 2
    go_upto_region 6 with (at_builtin; refine wpList_append_own_at _ rfl _ _ 24 rfl w.heap.size 9 i0 (.string ⟨#[]⟩) 1 16 Try.underlying24 hi hz0 hz1 hz2 rfl (by decide) _ q.length (q.map Value.string) rfl (r_62.out.alloc _) ⟨W61.heap.size, 0, none⟩ 1 1 [.string s] rfl rfl (cell_one_new _ _ _) (by intro u hu; simp at hu; subst hu; rfl) (by unfold maxLen; omega) (by omega) (by have := HB_62.out.size; simp; omega) ?_; intro v3 w3 hown3 hgrow3 hnil3 hat3; have hown4 : w3.ownsRow w.heap.size 9 1 v3 q2.length (q2.map Value.string) := (by rw [HQL.out, HQ2.out, List.map_append]; exact hown3); obtain ⟨a_n, c_n, rfl, _, _⟩ := own_someS0 hown4; have h9O := (O_62.out.alloc (.cells #[.string s] 9)).grown hgrow3 (fun e => BX_O_r.out _ e.symm rfl); have oO0 := h9O.at 0 (v := .int .i64 t) rfl; have foO0 := h9O.free 0; have oO1 := h9O.at 1 (v := .int .i64 z) rfl; have foO1 := h9O.free 1; have oO2 := h9O.at 2 (v := .slice a_r q.length c_r) rfl; have foO2 := h9O.free 2; clear hnil3 hown3)
    have g67 := app_grown hgrow3
    clear hgrow3 h9O oO0 foO0 oO1 foO1 oO2 foO2
    have BX_T_n : Hid (∀ k, (.slice a_n q2.length c_n : Value).ownBlock = some k → k ≠ R_T) := Lib.hid (app_apart hat3 T_62.out.lt BX_T_r.out)
    have BX_A_n : Hid (∀ k, (.slice a_n q2.length c_n : Value).ownBlock = some k → k ≠ R_A) := Lib.hid (app_apart hat3 A_62.out.lt BX_A_r.out)
    have BX_B_n : Hid (∀ k, (.slice a_n q2.length c_n : Value).ownBlock = some k → k ≠ R_B) := Lib.hid (app_apart hat3 B_62.out.lt BX_B_r.out)
    have BX_O_n : Hid (∀ k, (.slice a_n q2.length c_n : Value).ownBlock = some k → k ≠ R_O) := Lib.hid (app_apart hat3 O_62.out.lt BX_O_r.out)
    have HB_67 := Lib.hid (HB_62.out.grown g67 HB_62.out.size (fun k hk => (r_62.out.lt k hk).1))
    have T_67 := Lib.hid (T_62.out.grown g67 (fun e => BX_T_r.out _ e.symm rfl))
    clear T_62
    have A_67 := Lib.hid (A_62.out.grown g67 (fun e => BX_A_r.out _ e.symm rfl))
    clear A_62
    have B_67 := Lib.hid (B_62.out.grown g67 (fun e => BX_B_r.out _ e.symm rfl))
    clear B_62
    have O_67 := Lib.hid (O_62.out.grown g67 (fun e => BX_O_r.out _ e.symm rfl))
    clear O_62
    have O_n := Lib.hid hown4
    clear hown4 hat3 g67 r_62
    obtain ⟨p9, q9⟩ := O_67.out.set 2 (.slice a_n q2.length c_n)
    obtain ⟨W73, hW73⟩ : ∃ W73, W73 = (w3.setCell ⟨R_O, 2, none⟩ (.slice a_n q2.length c_n)) := ⟨_, rfl⟩
    rw [← hW73] at p9 q9 ⊢
    have X9_O : Hid (Bx W73 R_O #[.int .i64 t, .int .i64 z, .slice a_n q2.length c_n] 26) := Lib.hid p9
    have HB_74 := Lib.hid (HB_67.out.grown q9 HB_67.out.size (fun k hk => by have e2 : R_O = k := Option.some.inj hk; have := HG_O.out; omega))
    have n_74 := Lib.hid (O_n.out.kept q9 (by
      cases hv : (.slice a_n q2.length c_n : Value).ownBlock with
      | none => exact .inl rfl
      | some k => exact .inr (fun e => BX_O_n.out k hv (Option.some.inj e))))
    clear O_n
    have T_74 := Lib.hid (T_67.out.grown q9 (by intro e; have e2 : R_T = R_O := Option.some.inj e; have h1 := HN_O_T.out; omega))
    clear T_67
    have A_74 := Lib.hid (A_67.out.grown q9 (by intro e; have e2 : R_A = R_O := Option.some.inj e; have h1 := HN_O_A.out; omega))
    clear A_67
    have B_74 := Lib.hid (B_67.out.grown q9 (by intro e; have e2 : R_B = R_O := Option.some.inj e; have h1 := HN_O_B.out; omega))
    clear B_67
    clear hW73 p9 q9
    have c75_T_0 := T_74.out.at 0 (v := .int .i64 t) rfl
    have c75_T_1 := T_74.out.at 1 (v := .int .i64 z) rfl
    have c75_T_2 := T_74.out.at 2 (v := .slice a q.length cap) rfl
    have c76_A_0 := A_74.out.at 0 (v := .int .i64 0) rfl
    have c76_A_1 := A_74.out.at 1 (v := .int .i64 0) rfl
    have c76_A_2 := A_74.out.at 2 (v := .slice none 0 0) rfl
    have c77_B_0 := B_74.out.at 0 (v := .int .i64 0) rfl
    have c77_B_1 := B_74.out.at 1 (v := .int .i64 0) rfl
    have c77_B_2 := B_74.out.at 2 (v := .int .i64 0) rfl
    have c77_B_3 := B_74.out.at 3 (v := .int .i64 0) rfl
    have c77_B_4 := B_74.out.at 4 (v := .string ⟨#[]⟩) rfl
    have c78_O_0 := X9_O.out.at 0 (v := .int .i64 t) rfl
    have c78_O_1 := X9_O.out.at 1 (v := .int .i64 z) rfl
    have c78_O_2 := X9_O.out.at 2 (v := .slice a_n q2.length c_n) rfl
    have HK4 := Lib.hid (fun (w' : World) (hb : Below W73.heap.size W73 w') => (show w'.cell? ⟨R_O, 0, none⟩ = some (.int .i64 t) ∧ w'.cell? ⟨R_O, 1, none⟩ = some (.int .i64 z) ∧ w'.cell? ⟨R_O, 2, none⟩ = some (.slice a_n q2.length c_n) ∧ Below w.heap.size w w' from ⟨(hb.cell (p := ⟨R_O, 0, none⟩) X9_O.out.lt).trans (X9_O.out.at 0 (v := .int .i64 t) rfl), (hb.cell (p := ⟨R_O, 1, none⟩) X9_O.out.lt).trans (X9_O.out.at 1 (v := .int .i64 z) rfl), (hb.cell (p := ⟨R_O, 2, none⟩) X9_O.out.lt).trans (X9_O.out.at 2 (v := .slice a_n q2.length c_n) rfl), HB_74.out.trans (hb.mono HB_74.out.size)⟩))
    have HA4_A := Lib.hid (fun (w' : World) (hb : Below W73.heap.size W73 w') => A_74.out.below hb A_74.out.lt)
    have HK4_0 := Lib.hid (fun (w' : World) (y0_0 y0_1 y0_2 : Value) (hb : Below W73.heap.size W73 w') => (show ((((w'.setCell ⟨R_A, 0, none⟩ (y0_0)).setCell ⟨R_A, 1, none⟩ (y0_1)).setCell ⟨R_A, 2, none⟩ (y0_2))).cell? ⟨R_O, 0, none⟩ = some (.int .i64 t) ∧ ((((w'.setCell ⟨R_A, 0, none⟩ (y0_0)).setCell ⟨R_A, 1, none⟩ (y0_1)).setCell ⟨R_A, 2, none⟩ (y0_2))).cell? ⟨R_O, 1, none⟩ = some (.int .i64 z) ∧ ((((w'.setCell ⟨R_A, 0, none⟩ (y0_0)).setCell ⟨R_A, 1, none⟩ (y0_1)).setCell ⟨R_A, 2, none⟩ (y0_2))).cell? ⟨R_O, 2, none⟩ = some (.slice a_n q2.length c_n) ∧ Below w.heap.size w ((((w'.setCell ⟨R_A, 0, none⟩ (y0_0)).setCell ⟨R_A, 1, none⟩ (y0_1)).setCell ⟨R_A, 2, none⟩ (y0_2))) by
      obtain ⟨z0, z1, z2, z3⟩ := HK4.out w' hb
      obtain ⟨_, q1⟩ := (HA4_A.out w' hb).store3 y0_0 y0_1 y0_2
      exact ⟨q1.cell z0 (by intro e; have e2 : R_O = R_A := Option.some.inj e; have h1 := HN_O_A.out; omega), q1.cell z1 (by intro e; have e2 : R_O = R_A := Option.some.inj e; have h1 := HN_O_A.out; omega), q1.cell z2 (by intro e; have e2 : R_O = R_A := Option.some.inj e; have h1 := HN_O_A.out; omega), z3.grown q1 z3.size (fun k hk => by have e2 : R_A = k := Option.some.inj hk; have := HR_A.out; omega)⟩))
    have HA4_B := Lib.hid (fun (w' : World) (hb : Below W73.heap.size W73 w') => B_74.out.below hb B_74.out.lt)
    have HK4_1 := Lib.hid (fun (w' : World) (y0_0 y0_1 y0_2 y1_0 y1_1 y1_2 y1_3 y1_4 : Value) (hb : Below W73.heap.size W73 w') => (show (((((((((w'.setCell ⟨R_A, 0, none⟩ (y0_0)).setCell ⟨R_A, 1, none⟩ (y0_1)).setCell ⟨R_A, 2, none⟩ (y0_2)).setCell ⟨R_B, 0, none⟩ (y1_0)).setCell ⟨R_B, 1, none⟩ (y1_1)).setCell ⟨R_B, 2, none⟩ (y1_2)).setCell ⟨R_B, 3, none⟩ (y1_3)).setCell ⟨R_B, 4, none⟩ (y1_4))).cell? ⟨R_O, 0, none⟩ = some (.int .i64 t) ∧ (((((((((w'.setCell ⟨R_A, 0, none⟩ (y0_0)).setCell ⟨R_A, 1, none⟩ (y0_1)).setCell ⟨R_A, 2, none⟩ (y0_2)).setCell ⟨R_B, 0, none⟩ (y1_0)).setCell ⟨R_B, 1, none⟩ (y1_1)).setCell ⟨R_B, 2, none⟩ (y1_2)).setCell ⟨R_B, 3, none⟩ (y1_3)).setCell ⟨R_B, 4, none⟩ (y1_4))).cell? ⟨R_O, 1, none⟩ = some (.int .i64 z) ∧ (((((((((w'.setCell ⟨R_A, 0, none⟩ (y0_0)).setCell ⟨R_A, 1, none⟩ (y0_1)).setCell ⟨R_A, 2, none⟩ (y0_2)).setCell ⟨R_B, 0, none⟩ (y1_0)).setCell ⟨R_B, 1, none⟩ (y1_1)).setCell ⟨R_B, 2, none⟩ (y1_2)).setCell ⟨R_B, 3, none⟩ (y1_3)).setCell ⟨R_B, 4, none⟩ (y1_4))).cell? ⟨R_O, 2, none⟩ = some (.slice a_n q2.length c_n) ∧ Below w.heap.size w (((((((((w'.setCell ⟨R_A, 0, none⟩ (y0_0)).setCell ⟨R_A, 1, none⟩ (y0_1)).setCell ⟨R_A, 2, none⟩ (y0_2)).setCell ⟨R_B, 0, none⟩ (y1_0)).setCell ⟨R_B, 1, none⟩ (y1_1)).setCell ⟨R_B, 2, none⟩ (y1_2)).setCell ⟨R_B, 3, none⟩ (y1_3)).setCell ⟨R_B, 4, none⟩ (y1_4))) by
      obtain ⟨z0, z1, z2, z3⟩ := HK4_0.out w' y0_0 y0_1 y0_2 hb
      obtain ⟨_, g0⟩ := (HA4_A.out w' hb).store3 y0_0 y0_1 y0_2
      obtain ⟨_, q1⟩ := ((HA4_B.out w' hb).grown g0 (by intro e; have e2 : R_B = R_A := Option.some.inj e; have h1 := HR_B.out; have h2 := HR_A.out; omega)).store5 y1_0 y1_1 y1_2 y1_3 y1_4
      exact ⟨q1.cell z0 (by intro e; have e2 : R_O = R_B := Option.some.inj e; have h1 := HN_O_B.out; omega), q1.cell z1 (by intro e; have e2 : R_O = R_B := Option.some.inj e; have h1 := HN_O_B.out; omega), q1.cell z2 (by intro e; have e2 : R_O = R_B := Option.some.inj e; have h1 := HN_O_B.out; omega), z3.grown q1 z3.size (fun k hk => by have e2 : R_B = k := Option.some.inj hk; have := HR_B.out; omega)⟩))
    have hne_A_B : R_A ≠ R_B := fun e => absurd (congrArg some e) (by intro e; have e2 : R_A = R_B := Option.some.inj e; have h1 := HR_A.out; have h2 := HR_B.out; omega)
    have hne_B_A : R_B ≠ R_A := fun e => absurd (congrArg some e) (by intro e; have e2 : R_B = R_A := Option.some.inj e; have h1 := HR_B.out; have h2 := HR_A.out; omega)
    go_region_held3 (fun w' => w'.cell? ⟨R_O, 0, none⟩ = some (.int .i64 t) ∧ w'.cell? ⟨R_O, 1, none⟩ = some (.int .i64 z) ∧ w'.cell? ⟨R_O, 2, none⟩ = some (.slice a_n q2.length c_n) ∧ Below w.heap.size w w')
      ((first | (with_reducible refine HK4_1.out _ _ _ _ _ _ _ _ _ ?_; (repeat (first | with_reducible assumption | with_reducible exact Below.refl _ _ | with_reducible refine Below.drew ?_ | with_reducible refine below_alloc' ?_)); done) | (with_reducible refine HK4_0.out _ _ _ _ ?_; (repeat (first | with_reducible assumption | with_reducible exact Below.refl _ _ | with_reducible refine Below.drew ?_ | with_reducible refine below_alloc' ?_)); done) | (with_reducible refine HK4.out _ ?_; (repeat (first | with_reducible assumption | with_reducible exact Below.refl _ _ | with_reducible refine Below.drew ?_ | with_reducible refine below_alloc' ?_)); done)))
      (first
        | (go_at_call 121; refine (HLl.out _ _ (row_own (own_below n_74.out (by repeat (first | with_reducible assumption | with_reducible exact Below.refl _ _ | with_reducible refine Below.drew ?_ | with_reducible refine below_alloc' ?_) : Below W73.heap.size W73 _) (Nat.le_refl _)))).mono ?_; rintro e w7 ⟨rfl, l7⟩; have hb7 := below_call7 (by repeat (first | with_reducible assumption | with_reducible exact Below.refl _ _ | with_reducible refine Below.drew ?_ | with_reducible refine below_alloc' ?_) : Below W73.heap.size W73 _) l7; have h7A := HA4_A.out w7 hb7; have yA0 := h7A.at 0 (v := .int .i64 0) rfl; have fA0 := h7A.free 0; have yA1 := h7A.at 1 (v := .int .i64 0) rfl; have fA1 := h7A.free 1; have yA2 := h7A.at 2 (v := .slice none 0 0) rfl; have fA2 := h7A.free 2; have h7B := HA4_B.out w7 hb7; have yB0 := h7B.at 0 (v := .int .i64 0) rfl; have fB0 := h7B.free 0; have yB1 := h7B.at 1 (v := .int .i64 0) rfl; have fB1 := h7B.free 1; have yB2 := h7B.at 2 (v := .int .i64 0) rfl; have fB2 := h7B.free 2; have yB3 := h7B.at 3 (v := .int .i64 0) rfl; have fB3 := h7B.free 3; have yB4 := h7B.at 4 (v := .string ⟨#[]⟩) rfl; have fB4 := h7B.free 4; clear l7))
    all_goals go_wp2_with fail
    all_goals
      obtain ⟨p1, q1⟩ := h7A.store3 (.int .i64 t) (.int .i64 z) (.slice a_n q2.length c_n)
      obtain ⟨p2, q2'⟩ := (h7B.grown q1 (by intro e; have e2 : R_B = R_A := Option.some.inj e; have h1 := HR_B.out; have h2 := HR_A.out; omega)).store5 (.int .i64 1) (.int .i64 nu) (.int .i64 t) (.int .i64 le) (.string s)
      have hB8 := (HB_74.out.trans (hb7.mono HB_74.out.size))
      have hB9 := hB8.grown q1 hB8.size (fun k hk => by have e2 : R_A = k := Option.some.inj hk; have := HR_A.out; omega)
      have hB10 := hB9.grown q2' hB9.size (fun k hk => by have e2 : R_B = k := Option.some.inj hk; have := HR_B.out; omega)
      refine bodyPost_ret (results_bxx rfl isSw isPk _ _ R_A R_B rfl rfl rfl rfl (p1.grown q2' (by intro e; have e2 : R_A = R_B := Option.some.inj e; have h1 := HR_A.out; have h2 := HR_B.out; omega)) p2) rfl ⟨_, rfl, ?_, hB10⟩
      refine ((own_below n_74.out hb7 (Nat.le_refl _)).kept q1 ?_).kept q2' ?_
      · cases hv : (.slice a_n q2.length c_n : Value).ownBlock with
        | none => exact .inl rfl
        | some k => exact .inr (fun e => BX_A_n.out k hv (Option.some.inj e))
      · cases hv : (.slice a_n q2.length c_n : Value).ownBlock with
        | none => exact .inl rfl
        | some k => exact .inr (fun e => BX_B_n.out k hv (Option.some.inj e))
end Go.Proofs.Ytlendmiolhgecaa
