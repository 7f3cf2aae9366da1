/-
  The exact law of answers.
-/
import Derived.Test.YtkijfneaglogmaaSndI3
import Derived.Test.YtkijfneaglogmaaSndS
import Derived.Test.YtkijfneaglogmaaSnd4
import Derived.Test.YtkijfneaglogmaaPkt5
import Derived.Test.YtkijfneaglogmaaPktLaw
import Derived.WalkLawsBesides
import Derived.Deep.RegionHeld3
import Derived.Deep.CutRange
namespace Go.Proofs.Ytkijfneaglogmaa
open Go.RowKit Go.Lib Go.Joins
set_option linter.unusedVariables false

set_option maxHeartbeats 1000000 in
theorem szPkt_any (k n t l : Int) (d : ByteArray) (w : World) (hm : d.size ≤ maxLen) (left : Nat) (hl : left ≤ 1048576) :
    Calls Try.prog 50 #[.agg #[.int .i64 k, .int .i64 n, .int .i64 t, .int .i64 l, .string d], .int .i64 left] w fun e w' => Below w.heap.size w w' ∧ ∃ r : Int, e = .returned (.int .i64 r) := by
  unfold maxLen at hm
  by_cases h0 : (left : Int) - (d.size : Int) < 0
  · go_enter Try.func50, Try.ntmps50
    go_wp2_with fail
    go_ret
    exact ⟨(Below.refl _ _).alloc (Nat.le_refl _) _, _, rfl⟩
  · go_enter Try.func50, Try.ntmps50
    go_wp2_with fail
    go_ret
    exact ⟨(Below.refl _ _).alloc (Nat.le_refl _) _, _, rfl⟩
set_option maxRecDepth 100000 in
set_option maxHeartbeats 8000000 in
theorem fnExactAnswerTo_wk (v0 : Value) (z0 : Sw) (p1 : Pk) (w : World) (w0 : Row w v0 z0.q.length (z0.q.map Value.string)) (b0 : ∀ s ∈ z0.q, s.size ≤ maxLen) (hd : p1.d.size ≤ maxLen) :
    Calls Try.prog 12 #[.agg #[.int .i64 z0.t, .int .i64 z0.z, v0], .agg #[.int .i64 p1.k, .int .i64 p1.n, .int .i64 p1.t, .int .i64 p1.l, .string p1.d]] w fun e w' => e = .returned (.bool true) ∧ Below w.heap.size w w' := by
  obtain ⟨p0, cap0, rfl, hc10, hc20, _⟩ := row_open w0
  unfold maxLen at hc20
  have HR0 := Lib.hid w0
  have HSz := Lib.hid (fun (W : World) (hr : Row W (.slice p0 z0.q.length cap0) z0.q.length (z0.q.map Value.string)) => szSw_any (.slice p0 z0.q.length cap0) z0 W hr b0 1048576 (by omega))
  have HSm := Lib.hid b0
  have HDm := Lib.hid hd
  clear w0 b0 hd
  obtain ⟨W0, R_AW, R_AP, hW0, hR_AW, hR_AP, hX_AW, hX_AP, hB0⟩ := entry2 w #[.int .i64 z0.t, .int .i64 z0.z, .slice p0 z0.q.length cap0] #[.int .i64 p1.k, .int .i64 p1.n, .int .i64 p1.t, .int .i64 p1.l, .string p1.d] 58 66
  have HW0 := Lib.hid hW0
  have HB0 := Lib.hid hB0
  have HR_AW := Lib.hid hR_AW
  have HX_AW := Lib.hid hX_AW
  have HR_AP := Lib.hid hR_AP
  have HX_AP := Lib.hid hX_AP
  clear hW0 hB0 hR_AW hX_AW hR_AP hX_AP
  have c1_AW_0 := HX_AW.out.at 0 (v := .int .i64 z0.t) rfl
  have c1_AW_1 := HX_AW.out.at 1 (v := .int .i64 z0.z) rfl
  have c1_AW_2 := HX_AW.out.at 2 (v := .slice p0 z0.q.length cap0) rfl
  have c2_AP_0 := HX_AP.out.at 0 (v := .int .i64 p1.k) rfl
  have c2_AP_1 := HX_AP.out.at 1 (v := .int .i64 p1.n) rfl
  have c2_AP_2 := HX_AP.out.at 2 (v := .int .i64 p1.t) rfl
  have c2_AP_3 := HX_AP.out.at 3 (v := .int .i64 p1.l) rfl
  have c2_AP_4 := HX_AP.out.at 4 (v := .string p1.d) rfl
  go_enter Try.func12, Try.ntmps12
  go_upto_region 1 with fail
  rw [← HW0.out, ← HR_AP.out, ← HR_AW.out]
  go_wp2_with fail
  refine (HSz.out _ (HR0.out.below HB0.out (Nat.le_refl _))).mono ?_
  rintro e W3 ⟨l3, r0, rfl, hr1, hr0⟩
  clear c1_AW_0 c1_AW_1 c1_AW_2
  clear c2_AP_0 c2_AP_1 c2_AP_2 c2_AP_3 c2_AP_4
  have HB_4 := Lib.hid (HB0.out.trans (l3.mono HB0.out.size))
  have AW_4 := Lib.hid (HX_AW.out.below l3 HX_AW.out.lt)
  have AP_4 := Lib.hid (HX_AP.out.below l3 HX_AP.out.lt)
  clear l3
  have c5_AW_0 := AW_4.out.at 0 (v := .int .i64 z0.t) rfl
  have c5_AW_1 := AW_4.out.at 1 (v := .int .i64 z0.z) rfl
  have c5_AW_2 := AW_4.out.at 2 (v := .slice p0 z0.q.length cap0) rfl
  have c6_AP_0 := AP_4.out.at 0 (v := .int .i64 p1.k) rfl
  have c6_AP_1 := AP_4.out.at 1 (v := .int .i64 p1.n) rfl
  have c6_AP_2 := AP_4.out.at 2 (v := .int .i64 p1.t) rfl
  have c6_AP_3 := AP_4.out.at 3 (v := .int .i64 p1.l) rfl
  have c6_AP_4 := AP_4.out.at 4 (v := .string p1.d) rfl
  by_cases hneg : r0 < 0
  · clear hr0
    go_wp2_with fail
    go_ret
    exact ⟨rfl, HB_4.out⟩
  obtain ⟨hm0, hs0, hr00⟩ := hr0.resolve_left hneg
  have HN0 := Lib.hid hm0
  clear hr0 hs0 HSz hm0
  obtain ⟨r1, rfl⟩ : ∃ r1 : Nat, r0 = (r1 : Int) := ⟨r0.toNat, by omega⟩
  go_wp2_with fail
  refine (szPkt_any p1.k p1.n p1.t p1.l p1.d _ HDm.out r1 (by omega)).mono ?_
  rintro e W7 ⟨l7, r2, rfl⟩
  clear c5_AW_0 c5_AW_1 c5_AW_2
  clear c6_AP_0 c6_AP_1 c6_AP_2 c6_AP_3 c6_AP_4
  have HB_8 := Lib.hid (HB_4.out.trans (l7.mono HB_4.out.size))
  have AW_8 := Lib.hid (AW_4.out.below l7 AW_4.out.lt)
  clear AW_4
  have AP_8 := Lib.hid (AP_4.out.below l7 AP_4.out.lt)
  clear AP_4
  clear l7
  have c9_AW_0 := AW_8.out.at 0 (v := .int .i64 z0.t) rfl
  have c9_AW_1 := AW_8.out.at 1 (v := .int .i64 z0.z) rfl
  have c9_AW_2 := AW_8.out.at 2 (v := .slice p0 z0.q.length cap0) rfl
  have c10_AP_0 := AP_8.out.at 0 (v := .int .i64 p1.k) rfl
  have c10_AP_1 := AP_8.out.at 1 (v := .int .i64 p1.n) rfl
  have c10_AP_2 := AP_8.out.at 2 (v := .int .i64 p1.t) rfl
  have c10_AP_3 := AP_8.out.at 3 (v := .int .i64 p1.l) rfl
  have c10_AP_4 := AP_8.out.at 4 (v := .string p1.d) rfl
  by_cases hneg2 : r2 < 0
  · go_wp2_with fail
    go_ret
    exact ⟨rfl, HB_8.out⟩
  have HSp := Lib.hid (fun (v : Value) (W : World) (hr : Row W v z0.q.length (z0.q.map Value.string)) => specAns_any v z0 p1 W hr HSm.out HDm.out)
  have HIm := Lib.hid (fun (v : Value) (W : World) (hr : Row W v z0.q.length (z0.q.map Value.string)) => implAns_any v z0 p1 W hr HSm.out HDm.out)
  generalize ansP z0 p1 = ps0 at HSp HIm
  generalize ansOk z0 p1.k p1.n p1.t p1.l p1.d = r3 at HSp HIm
  go_upto_region 8 with fail
  go_cut [6, 7] from 21 to 28 (fun p b wx => ∃ X, p = .pointer (some ⟨X, 0, none⟩) ∧ b = .bool r3 ∧ Hid (Bx wx X #[.int .i64 ps0.k, .int .i64 ps0.n, .int .i64 ps0.t, .int .i64 ps0.l, .string ps0.d] 30) ∧ Hid (Below W7.heap.size W7 wx) ∧ Hid (W7.heap.size ≤ X))
  case first => as_aux_lemma =>
    have HK1 := Lib.hid (fun (w' : World) (hb : Below W7.heap.size W7 w') => (show w'.cell? ⟨R_AW, 0, none⟩ = some (.int .i64 z0.t) ∧ w'.cell? ⟨R_AW, 1, none⟩ = some (.int .i64 z0.z) ∧ w'.cell? ⟨R_AW, 2, none⟩ = some (.slice p0 z0.q.length cap0) ∧ w'.cell? ⟨R_AP, 0, none⟩ = some (.int .i64 p1.k) ∧ w'.cell? ⟨R_AP, 1, none⟩ = some (.int .i64 p1.n) ∧ w'.cell? ⟨R_AP, 2, none⟩ = some (.int .i64 p1.t) ∧ w'.cell? ⟨R_AP, 3, none⟩ = some (.int .i64 p1.l) ∧ w'.cell? ⟨R_AP, 4, none⟩ = some (.string p1.d) ∧ Below w.heap.size w w' from ⟨(hb.cell (p := ⟨R_AW, 0, none⟩) AW_8.out.lt).trans (AW_8.out.at 0 (v := .int .i64 z0.t) rfl), (hb.cell (p := ⟨R_AW, 1, none⟩) AW_8.out.lt).trans (AW_8.out.at 1 (v := .int .i64 z0.z) rfl), (hb.cell (p := ⟨R_AW, 2, none⟩) AW_8.out.lt).trans (AW_8.out.at 2 (v := .slice p0 z0.q.length cap0) rfl), (hb.cell (p := ⟨R_AP, 0, none⟩) AP_8.out.lt).trans (AP_8.out.at 0 (v := .int .i64 p1.k) rfl), (hb.cell (p := ⟨R_AP, 1, none⟩) AP_8.out.lt).trans (AP_8.out.at 1 (v := .int .i64 p1.n) rfl), (hb.cell (p := ⟨R_AP, 2, none⟩) AP_8.out.lt).trans (AP_8.out.at 2 (v := .int .i64 p1.t) rfl), (hb.cell (p := ⟨R_AP, 3, none⟩) AP_8.out.lt).trans (AP_8.out.at 3 (v := .int .i64 p1.l) rfl), (hb.cell (p := ⟨R_AP, 4, none⟩) AP_8.out.lt).trans (AP_8.out.at 4 (v := .string p1.d) rfl), HB_8.out.trans (hb.mono HB_8.out.size)⟩))
    have HKx := Lib.hid (fun (w' w9 : World) (X : Nat) (hb : Below W7.heap.size W7 w') (hX : W7.heap.size ≤ X) (hg : w'.grownBy w9 (some X)) => (show (w9).cell? ⟨R_AW, 0, none⟩ = some (.int .i64 z0.t) ∧ (w9).cell? ⟨R_AW, 1, none⟩ = some (.int .i64 z0.z) ∧ (w9).cell? ⟨R_AW, 2, none⟩ = some (.slice p0 z0.q.length cap0) ∧ (w9).cell? ⟨R_AP, 0, none⟩ = some (.int .i64 p1.k) ∧ (w9).cell? ⟨R_AP, 1, none⟩ = some (.int .i64 p1.n) ∧ (w9).cell? ⟨R_AP, 2, none⟩ = some (.int .i64 p1.t) ∧ (w9).cell? ⟨R_AP, 3, none⟩ = some (.int .i64 p1.l) ∧ (w9).cell? ⟨R_AP, 4, none⟩ = some (.string p1.d) ∧ Below w.heap.size w (w9) from HK1.out w9 (hb.grown hg hb.size (fun k hk => by have e2 : X = k := Option.some.inj hk; omega))))
    go_region_held3 (fun w' => w'.cell? ⟨R_AW, 0, none⟩ = some (.int .i64 z0.t) ∧ w'.cell? ⟨R_AW, 1, none⟩ = some (.int .i64 z0.z) ∧ w'.cell? ⟨R_AW, 2, none⟩ = some (.slice p0 z0.q.length cap0) ∧ w'.cell? ⟨R_AP, 0, none⟩ = some (.int .i64 p1.k) ∧ w'.cell? ⟨R_AP, 1, none⟩ = some (.int .i64 p1.n) ∧ w'.cell? ⟨R_AP, 2, none⟩ = some (.int .i64 p1.t) ∧ w'.cell? ⟨R_AP, 3, none⟩ = some (.int .i64 p1.l) ∧ w'.cell? ⟨R_AP, 4, none⟩ = some (.string p1.d) ∧ Below w.heap.size w w')
      ((first | (with_reducible refine HK1.out _ ?_; (repeat (first | with_reducible assumption | with_reducible exact Below.refl _ _ | with_reducible refine Below.drew ?_ | with_reducible refine below_alloc' ?_)); done) | (refine HKx.out _ _ _ hb7 ?_ (hXa.store5 _ _ _ _ _).2; (first | exact Nat.le_refl _ | exact hb7.size | exact hb_w5.size | exact hb_w6.size))))
      (first
        | (go_at_call 45; refine (toSw_lit _ z0 _ (HR0.out.below (HB_8.out.trans ((by repeat (first | with_reducible assumption | with_reducible exact Below.refl _ _ | with_reducible refine Below.drew ?_ | with_reducible refine below_alloc' ?_) : Below W7.heap.size W7 _).mono HB_8.out.size)) (Nat.le_refl _)) HN0.out).mono ?_; rintro e w5 ⟨g5, rfl, o5, l5⟩; have hb_w5 := below_call7 (by repeat (first | with_reducible assumption | with_reducible exact Below.refl _ _ | with_reducible refine Below.drew ?_ | with_reducible refine below_alloc' ?_) : Below W7.heap.size W7 _) l5; (first | have hXa := hXa.below l5 hXa.lt | have hXa : Bx w5 W7.heap.size #[.int .i64 0, .int .i64 0, .int .i64 0, .int .i64 0, .string ⟨#[]⟩] 30 := (Bx.new W7.drew #[.int .i64 0, .int .i64 0, .int .i64 0, .int .i64 0, .string ⟨#[]⟩] 30).below l5 (by simp) | have hXa : Bx w5 w6.heap.size #[.int .i64 0, .int .i64 0, .int .i64 0, .int .i64 0, .string ⟨#[]⟩] 30 := (Bx.new w6 #[.int .i64 0, .int .i64 0, .int .i64 0, .int .i64 0, .string ⟨#[]⟩] 30).below l5 (by simp) | skip); have ho5 := row_own o5; clear o5; (first | have hz_w6 : Below w6.heap.size w6 w5 := below_call7 (by repeat (first | with_reducible assumption | with_reducible exact Below.refl _ _ | with_reducible refine below_alloc' ?_) : Below w6.heap.size w6 _) l5 | skip); clear l5)
        | (go_at_call 51; refine (toPacket_any p1.k p1.n p1.t p1.l p1.d _).mono ?_; rintro e w6 ⟨rfl, l6⟩; have hb_w6 := below_call7 (by repeat (first | with_reducible assumption | with_reducible exact Below.refl _ _ | with_reducible refine Below.drew ?_ | with_reducible refine below_alloc' ?_) : Below W7.heap.size W7 _) l6; (first | have hXa := hXa.below l6 hXa.lt | have hXa : Bx w6 W7.heap.size #[.int .i64 0, .int .i64 0, .int .i64 0, .int .i64 0, .string ⟨#[]⟩] 30 := (Bx.new W7.drew #[.int .i64 0, .int .i64 0, .int .i64 0, .int .i64 0, .string ⟨#[]⟩] 30).below l6 (by simp) | have hXa : Bx w6 w5.heap.size #[.int .i64 0, .int .i64 0, .int .i64 0, .int .i64 0, .string ⟨#[]⟩] 30 := (Bx.new w5 #[.int .i64 0, .int .i64 0, .int .i64 0, .int .i64 0, .string ⟨#[]⟩] 30).below l6 (by simp) | skip); (first | have hz_w5 : Below w5.heap.size w5 w6 := below_call7 (by repeat (first | with_reducible assumption | with_reducible exact Below.refl _ _ | with_reducible refine below_alloc' ?_) : Below w5.heap.size w5 _) l6 | skip); clear l6)
        | (go_at_call 33; refine (HSp.out _ _ (ho5.below (by repeat (first | with_reducible assumption | with_reducible exact Below.refl _ _ | with_reducible refine below_alloc' ?_) : Below w5.heap.size w5 _) (Nat.le_refl _))).mono ?_; rintro e w7 ⟨rfl, l7⟩; have hb7 := below_call7 (by repeat (first | with_reducible assumption | with_reducible exact Below.refl _ _ | with_reducible refine Below.drew ?_ | with_reducible refine below_alloc' ?_) : Below W7.heap.size W7 _) l7; (first | have hXa := hXa.below l7 hXa.lt | have hXa : Bx w7 W7.heap.size #[.int .i64 0, .int .i64 0, .int .i64 0, .int .i64 0, .string ⟨#[]⟩] 30 := (Bx.new W7.drew #[.int .i64 0, .int .i64 0, .int .i64 0, .int .i64 0, .string ⟨#[]⟩] 30).below l7 (by simp) | have hXa : Bx w7 w5.heap.size #[.int .i64 0, .int .i64 0, .int .i64 0, .int .i64 0, .string ⟨#[]⟩] 30 := (Bx.new w5 #[.int .i64 0, .int .i64 0, .int .i64 0, .int .i64 0, .string ⟨#[]⟩] 30).below l7 (by simp) | have hXa : Bx w7 w6.heap.size #[.int .i64 0, .int .i64 0, .int .i64 0, .int .i64 0, .string ⟨#[]⟩] 30 := (Bx.new w6 #[.int .i64 0, .int .i64 0, .int .i64 0, .int .i64 0, .string ⟨#[]⟩] 30).below l7 (by simp) | skip); (try have y0 := hXa.at 0 (v := .int .i64 0) rfl); (try have y1 := hXa.at 1 (v := .int .i64 0) rfl); (try have y2 := hXa.at 2 (v := .int .i64 0) rfl); (try have y3 := hXa.at 3 (v := .int .i64 0) rfl); (try have y4 := hXa.at 4 (v := .string ⟨#[]⟩) rfl); (try have f0 := hXa.free 0); (try have f1 := hXa.free 1); (try have f2 := hXa.free 2); (try have f3 := hXa.free 3); (try have f4 := hXa.free 4); clear l7))
    all_goals go_wp2_with fail
    all_goals go_meet
    all_goals
      case rel => first
        | with_reducible exact ⟨_, rfl, rfl, Lib.hid (Bx.new _ _ _), Lib.hid (below_alloc' hb7), Lib.hid hb7.size⟩
        | with_reducible exact ⟨_, rfl, rfl, Lib.hid (hXa.store5 (.int .i64 ps0.k) (.int .i64 ps0.n) (.int .i64 ps0.t) (.int .i64 ps0.l) (.string ps0.d)).1, Lib.hid (hb7.grown (hXa.store5 (.int .i64 ps0.k) (.int .i64 ps0.n) (.int .i64 ps0.t) (.int .i64 ps0.l) (.string ps0.d)).2 hb7.size (fun k hk => by have e2 := Option.some.inj hk; subst e2; first | exact Nat.le_refl _ | exact hb7.size | exact hb_w5.size | exact hb_w6.size)), Lib.hid (by first | exact Nat.le_refl _ | exact hb7.size | exact hb_w5.size | exact hb_w6.size)⟩
  case rest =>
    obtain ⟨R_Q, rfl, rfl, HX_Q, HCut, HG0_Q⟩ := hcut
    rename World => W11
    have l11 := HCut.out
    clear HCut
    have HN_Q_AW : Hid (R_AW < R_Q) := Lib.hid (Nat.lt_of_lt_of_le AW_8.out.lt HG0_Q.out)
    have HN_Q_AP : Hid (R_AP < R_Q) := Lib.hid (Nat.lt_of_lt_of_le AP_8.out.lt HG0_Q.out)
    have HG_Q : Hid (w.heap.size ≤ R_Q) := Lib.hid (Nat.le_trans HB_8.out.size HG0_Q.out)
    clear c9_AW_0 c9_AW_1 c9_AW_2
    clear c10_AP_0 c10_AP_1 c10_AP_2 c10_AP_3 c10_AP_4
    have HB_12 := Lib.hid (HB_8.out.trans (l11.mono HB_8.out.size))
    have AW_12 := Lib.hid (AW_8.out.below l11 AW_8.out.lt)
    clear AW_8
    have AP_12 := Lib.hid (AP_8.out.below l11 AP_8.out.lt)
    clear AP_8
    clear l11
    have c13_AW_0 := AW_12.out.at 0 (v := .int .i64 z0.t) rfl
    have c13_AW_1 := AW_12.out.at 1 (v := .int .i64 z0.z) rfl
    have c13_AW_2 := AW_12.out.at 2 (v := .slice p0 z0.q.length cap0) rfl
    have c14_AP_0 := AP_12.out.at 0 (v := .int .i64 p1.k) rfl
    have c14_AP_1 := AP_12.out.at 1 (v := .int .i64 p1.n) rfl
    have c14_AP_2 := AP_12.out.at 2 (v := .int .i64 p1.t) rfl
    have c14_AP_3 := AP_12.out.at 3 (v := .int .i64 p1.l) rfl
    have c14_AP_4 := AP_12.out.at 4 (v := .string p1.d) rfl
    have c15_Q_0 := HX_Q.out.at 0 (v := .int .i64 ps0.k) rfl
    have c15_Q_1 := HX_Q.out.at 1 (v := .int .i64 ps0.n) rfl
    have c15_Q_2 := HX_Q.out.at 2 (v := .int .i64 ps0.t) rfl
    have c15_Q_3 := HX_Q.out.at 3 (v := .int .i64 ps0.l) rfl
    have c15_Q_4 := HX_Q.out.at 4 (v := .string ps0.d) rfl
    go_wp2_with fail
    refine (toSw_lit _ z0 _ (HR0.out.below HB_12.out (Nat.le_refl _)) HN0.out).mono ?_
    rintro e W16 ⟨g_x, rfl, o_x, l16⟩
    have O_x := Lib.hid (own_base o_x HB_12.out.size)
    have BX_AW_x : Hid (∀ k, (.slice (some ⟨g_x, 0, none⟩) z0.q.length z0.q.length : Value).ownBlock = some k → k ≠ R_AW) := Lib.hid (fun k h1 h2 => absurd AW_12.out.lt (Nat.not_lt.2 (by rw [← h2]; exact (o_x.lt k h1).1)))
    have BX_AP_x : Hid (∀ k, (.slice (some ⟨g_x, 0, none⟩) z0.q.length z0.q.length : Value).ownBlock = some k → k ≠ R_AP) := Lib.hid (fun k h1 h2 => absurd AP_12.out.lt (Nat.not_lt.2 (by rw [← h2]; exact (o_x.lt k h1).1)))
    have BX_Q_x : Hid (∀ k, (.slice (some ⟨g_x, 0, none⟩) z0.q.length z0.q.length : Value).ownBlock = some k → k ≠ R_Q) := Lib.hid (fun k h1 h2 => absurd HX_Q.out.lt (Nat.not_lt.2 (by rw [← h2]; exact (o_x.lt k h1).1)))
    clear o_x
    clear c13_AW_0 c13_AW_1 c13_AW_2
    clear c14_AP_0 c14_AP_1 c14_AP_2 c14_AP_3 c14_AP_4
    clear c15_Q_0 c15_Q_1 c15_Q_2 c15_Q_3 c15_Q_4
    have HB_17 := Lib.hid (HB_12.out.trans (l16.mono HB_12.out.size))
    have AW_17 := Lib.hid (AW_12.out.below l16 AW_12.out.lt)
    clear AW_12
    have AP_17 := Lib.hid (AP_12.out.below l16 AP_12.out.lt)
    clear AP_12
    have Q_17 := Lib.hid (HX_Q.out.below l16 HX_Q.out.lt)
    clear HX_Q
    clear l16
    have c18_AW_0 := AW_17.out.at 0 (v := .int .i64 z0.t) rfl
    have c18_AW_1 := AW_17.out.at 1 (v := .int .i64 z0.z) rfl
    have c18_AW_2 := AW_17.out.at 2 (v := .slice p0 z0.q.length cap0) rfl
    have c19_AP_0 := AP_17.out.at 0 (v := .int .i64 p1.k) rfl
    have c19_AP_1 := AP_17.out.at 1 (v := .int .i64 p1.n) rfl
    have c19_AP_2 := AP_17.out.at 2 (v := .int .i64 p1.t) rfl
    have c19_AP_3 := AP_17.out.at 3 (v := .int .i64 p1.l) rfl
    have c19_AP_4 := AP_17.out.at 4 (v := .string p1.d) rfl
    have c20_Q_0 := Q_17.out.at 0 (v := .int .i64 ps0.k) rfl
    have c20_Q_1 := Q_17.out.at 1 (v := .int .i64 ps0.n) rfl
    have c20_Q_2 := Q_17.out.at 2 (v := .int .i64 ps0.t) rfl
    have c20_Q_3 := Q_17.out.at 3 (v := .int .i64 ps0.l) rfl
    have c20_Q_4 := Q_17.out.at 4 (v := .string ps0.d) rfl
    go_upto_region 10 with fail
    obtain ⟨W21, hW21⟩ : ∃ W21, W21 = W16.alloc (.cells #[.int .i64 z0.t, .int .i64 z0.z, .slice (some ⟨g_x, 0, none⟩) z0.q.length z0.q.length] 26) := ⟨_, rfl⟩
    have l21 : Below W16.heap.size W16 W21 := by rw [hW21]; exact (Below.refl _ _).alloc (Nat.le_refl _) _
    have X21_X : Hid (Bx W21 W16.heap.size #[.int .i64 z0.t, .int .i64 z0.z, .slice (some ⟨g_x, 0, none⟩) z0.q.length z0.q.length] 26) := Lib.hid (by rw [hW21]; exact Bx.new _ _ _)
    rw [← hW21]
    clear hW21
    have BX_X_x : Hid (∀ k, (.slice (some ⟨g_x, 0, none⟩) z0.q.length z0.q.length : Value).ownBlock = some k → k ≠ W16.heap.size) := Lib.hid (fun k h1 h2 => absurd (O_x.out.lt k h1).2 (by omega))
    have HG_X : Hid (w.heap.size ≤ W16.heap.size) := Lib.hid HB_17.out.size
    have HN_X_AW : Hid (R_AW < W16.heap.size) := Lib.hid AW_17.out.lt
    have HN_X_AP : Hid (R_AP < W16.heap.size) := Lib.hid AP_17.out.lt
    have HN_X_Q : Hid (R_Q < W16.heap.size) := Lib.hid Q_17.out.lt
    obtain ⟨R_X, hR_X⟩ : ∃ X, X = W16.heap.size := ⟨_, rfl⟩
    rw [← hR_X] at X21_X HG_X BX_X_x HN_X_AW HN_X_AP HN_X_Q ⊢
    clear hR_X
    clear c18_AW_0 c18_AW_1 c18_AW_2
    clear c19_AP_0 c19_AP_1 c19_AP_2 c19_AP_3 c19_AP_4
    clear c20_Q_0 c20_Q_1 c20_Q_2 c20_Q_3 c20_Q_4
    have HB_22 := Lib.hid (HB_17.out.trans (l21.mono HB_17.out.size))
    have x_22 := Lib.hid (own_below O_x.out l21 (Nat.le_refl _))
    clear O_x
    have AW_22 := Lib.hid (AW_17.out.below l21 AW_17.out.lt)
    clear AW_17
    have AP_22 := Lib.hid (AP_17.out.below l21 AP_17.out.lt)
    clear AP_17
    have Q_22 := Lib.hid (Q_17.out.below l21 Q_17.out.lt)
    clear Q_17
    clear l21
    have c23_AW_0 := AW_22.out.at 0 (v := .int .i64 z0.t) rfl
    have c23_AW_1 := AW_22.out.at 1 (v := .int .i64 z0.z) rfl
    have c23_AW_2 := AW_22.out.at 2 (v := .slice p0 z0.q.length cap0) rfl
    have c24_AP_0 := AP_22.out.at 0 (v := .int .i64 p1.k) rfl
    have c24_AP_1 := AP_22.out.at 1 (v := .int .i64 p1.n) rfl
    have c24_AP_2 := AP_22.out.at 2 (v := .int .i64 p1.t) rfl
    have c24_AP_3 := AP_22.out.at 3 (v := .int .i64 p1.l) rfl
    have c24_AP_4 := AP_22.out.at 4 (v := .string p1.d) rfl
    have c25_Q_0 := Q_22.out.at 0 (v := .int .i64 ps0.k) rfl
    have c25_Q_1 := Q_22.out.at 1 (v := .int .i64 ps0.n) rfl
    have c25_Q_2 := Q_22.out.at 2 (v := .int .i64 ps0.t) rfl
    have c25_Q_3 := Q_22.out.at 3 (v := .int .i64 ps0.l) rfl
    have c25_Q_4 := Q_22.out.at 4 (v := .string ps0.d) rfl
    have c26_X_0 := X21_X.out.at 0 (v := .int .i64 z0.t) rfl
    have c26_X_1 := X21_X.out.at 1 (v := .int .i64 z0.z) rfl
    have c26_X_2 := X21_X.out.at 2 (v := .slice (some ⟨g_x, 0, none⟩) z0.q.length z0.q.length) rfl
    go_upto_region 10 with fail
    go_cut [9, 10] from 31 to 37 (fun p b wx => ∃ X, p = .pointer (some ⟨X, 0, none⟩) ∧ b = .bool r3 ∧ Hid (Bx wx X #[.int .i64 ps0.k, .int .i64 ps0.n, .int .i64 ps0.t, .int .i64 ps0.l, .string ps0.d] 30) ∧ Hid (Below W21.heap.size W21 wx) ∧ Hid (W21.heap.size ≤ X))
    case first => as_aux_lemma =>
      have HK2 := Lib.hid (fun (w' : World) (hb : Below W21.heap.size W21 w') => (show w'.cell? ⟨R_X, 0, none⟩ = some (.int .i64 z0.t) ∧ w'.cell? ⟨R_X, 1, none⟩ = some (.int .i64 z0.z) ∧ w'.cell? ⟨R_X, 2, none⟩ = some (.slice (some ⟨g_x, 0, none⟩) z0.q.length z0.q.length) ∧ w'.cell? ⟨R_AP, 0, none⟩ = some (.int .i64 p1.k) ∧ w'.cell? ⟨R_AP, 1, none⟩ = some (.int .i64 p1.n) ∧ w'.cell? ⟨R_AP, 2, none⟩ = some (.int .i64 p1.t) ∧ w'.cell? ⟨R_AP, 3, none⟩ = some (.int .i64 p1.l) ∧ w'.cell? ⟨R_AP, 4, none⟩ = some (.string p1.d) ∧ Below w.heap.size w w' from ⟨(hb.cell (p := ⟨R_X, 0, none⟩) X21_X.out.lt).trans (X21_X.out.at 0 (v := .int .i64 z0.t) rfl), (hb.cell (p := ⟨R_X, 1, none⟩) X21_X.out.lt).trans (X21_X.out.at 1 (v := .int .i64 z0.z) rfl), (hb.cell (p := ⟨R_X, 2, none⟩) X21_X.out.lt).trans (X21_X.out.at 2 (v := .slice (some ⟨g_x, 0, none⟩) z0.q.length z0.q.length) rfl), (hb.cell (p := ⟨R_AP, 0, none⟩) AP_22.out.lt).trans (AP_22.out.at 0 (v := .int .i64 p1.k) rfl), (hb.cell (p := ⟨R_AP, 1, none⟩) AP_22.out.lt).trans (AP_22.out.at 1 (v := .int .i64 p1.n) rfl), (hb.cell (p := ⟨R_AP, 2, none⟩) AP_22.out.lt).trans (AP_22.out.at 2 (v := .int .i64 p1.t) rfl), (hb.cell (p := ⟨R_AP, 3, none⟩) AP_22.out.lt).trans (AP_22.out.at 3 (v := .int .i64 p1.l) rfl), (hb.cell (p := ⟨R_AP, 4, none⟩) AP_22.out.lt).trans (AP_22.out.at 4 (v := .string p1.d) rfl), HB_22.out.trans (hb.mono HB_22.out.size)⟩))
      have HKx := Lib.hid (fun (w' w9 : World) (X : Nat) (hb : Below W21.heap.size W21 w') (hX : W21.heap.size ≤ X) (hg : w'.grownBy w9 (some X)) => (show (w9).cell? ⟨R_X, 0, none⟩ = some (.int .i64 z0.t) ∧ (w9).cell? ⟨R_X, 1, none⟩ = some (.int .i64 z0.z) ∧ (w9).cell? ⟨R_X, 2, none⟩ = some (.slice (some ⟨g_x, 0, none⟩) z0.q.length z0.q.length) ∧ (w9).cell? ⟨R_AP, 0, none⟩ = some (.int .i64 p1.k) ∧ (w9).cell? ⟨R_AP, 1, none⟩ = some (.int .i64 p1.n) ∧ (w9).cell? ⟨R_AP, 2, none⟩ = some (.int .i64 p1.t) ∧ (w9).cell? ⟨R_AP, 3, none⟩ = some (.int .i64 p1.l) ∧ (w9).cell? ⟨R_AP, 4, none⟩ = some (.string p1.d) ∧ Below w.heap.size w (w9) from HK2.out w9 (hb.grown hg hb.size (fun k hk => by have e2 : X = k := Option.some.inj hk; omega))))
      go_region_held3 (fun w' => w'.cell? ⟨R_X, 0, none⟩ = some (.int .i64 z0.t) ∧ w'.cell? ⟨R_X, 1, none⟩ = some (.int .i64 z0.z) ∧ w'.cell? ⟨R_X, 2, none⟩ = some (.slice (some ⟨g_x, 0, none⟩) z0.q.length z0.q.length) ∧ w'.cell? ⟨R_AP, 0, none⟩ = some (.int .i64 p1.k) ∧ w'.cell? ⟨R_AP, 1, none⟩ = some (.int .i64 p1.n) ∧ w'.cell? ⟨R_AP, 2, none⟩ = some (.int .i64 p1.t) ∧ w'.cell? ⟨R_AP, 3, none⟩ = some (.int .i64 p1.l) ∧ w'.cell? ⟨R_AP, 4, none⟩ = some (.string p1.d) ∧ Below w.heap.size w w')
        ((first | (with_reducible refine HK2.out _ ?_; (repeat (first | with_reducible assumption | with_reducible exact Below.refl _ _ | with_reducible refine Below.drew ?_ | with_reducible refine below_alloc' ?_)); done) | (refine HKx.out _ _ _ hb7 ?_ (hXa.store5 _ _ _ _ _).2; (first | exact Nat.le_refl _ | exact hb7.size | exact hb_w6.size))))
        (first
          | (go_at_call 51; refine (toPacket_any p1.k p1.n p1.t p1.l p1.d _).mono ?_; rintro e w6 ⟨rfl, l6⟩; have hb_w6 := below_call7 (by repeat (first | with_reducible assumption | with_reducible exact Below.refl _ _ | with_reducible refine Below.drew ?_ | with_reducible refine below_alloc' ?_) : Below W21.heap.size W21 _) l6; (first | have hXa := hXa.below l6 hXa.lt | have hXa : Bx w6 W21.heap.size #[.int .i64 0, .int .i64 0, .int .i64 0, .int .i64 0, .string ⟨#[]⟩] 30 := (Bx.new W21.drew #[.int .i64 0, .int .i64 0, .int .i64 0, .int .i64 0, .string ⟨#[]⟩] 30).below l6 (by simp) | skip); clear l6)
          | (go_at_call 32; refine (HIm.out _ _ ((row_own x_22.out).below (by repeat (first | with_reducible assumption | with_reducible exact Below.refl _ _ | with_reducible refine Below.drew ?_ | with_reducible refine below_alloc' ?_) : Below W21.heap.size W21 _) (Nat.le_refl _))).mono ?_; rintro e w7 ⟨rfl, l7⟩; have hb7 := below_call7 (by repeat (first | with_reducible assumption | with_reducible exact Below.refl _ _ | with_reducible refine Below.drew ?_ | with_reducible refine below_alloc' ?_) : Below W21.heap.size W21 _) l7; (first | have hXa := hXa.below l7 hXa.lt | have hXa : Bx w7 W21.heap.size #[.int .i64 0, .int .i64 0, .int .i64 0, .int .i64 0, .string ⟨#[]⟩] 30 := (Bx.new W21.drew #[.int .i64 0, .int .i64 0, .int .i64 0, .int .i64 0, .string ⟨#[]⟩] 30).below l7 (by simp) | have hXa : Bx w7 w6.heap.size #[.int .i64 0, .int .i64 0, .int .i64 0, .int .i64 0, .string ⟨#[]⟩] 30 := (Bx.new w6 #[.int .i64 0, .int .i64 0, .int .i64 0, .int .i64 0, .string ⟨#[]⟩] 30).below l7 (by simp) | skip); (try have y0 := hXa.at 0 (v := .int .i64 0) rfl); (try have y1 := hXa.at 1 (v := .int .i64 0) rfl); (try have y2 := hXa.at 2 (v := .int .i64 0) rfl); (try have y3 := hXa.at 3 (v := .int .i64 0) rfl); (try have y4 := hXa.at 4 (v := .string ⟨#[]⟩) rfl); (try have f0 := hXa.free 0); (try have f1 := hXa.free 1); (try have f2 := hXa.free 2); (try have f3 := hXa.free 3); (try have f4 := hXa.free 4); clear l7))
      all_goals go_wp2_with fail
      all_goals go_meet
      all_goals
        case rel => first
          | with_reducible exact ⟨_, rfl, rfl, Lib.hid (Bx.new _ _ _), Lib.hid (below_alloc' hb7), Lib.hid hb7.size⟩
          | with_reducible exact ⟨_, rfl, rfl, Lib.hid (hXa.store5 (.int .i64 ps0.k) (.int .i64 ps0.n) (.int .i64 ps0.t) (.int .i64 ps0.l) (.string ps0.d)).1, Lib.hid (hb7.grown (hXa.store5 (.int .i64 ps0.k) (.int .i64 ps0.n) (.int .i64 ps0.t) (.int .i64 ps0.l) (.string ps0.d)).2 hb7.size (fun k hk => by have e2 := Option.some.inj hk; subst e2; first | exact Nat.le_refl _ | exact hb7.size | exact hb_w6.size)), Lib.hid (by first | exact Nat.le_refl _ | exact hb7.size | exact hb_w6.size)⟩
    case rest =>
      obtain ⟨R_G, rfl, rfl, HX_G, HCut, HG0_G⟩ := hcut
      rename World => W27
      have l27 := HCut.out
      clear HCut
      have HN_G_AW : Hid (R_AW < R_G) := Lib.hid (Nat.lt_of_lt_of_le AW_22.out.lt HG0_G.out)
      have HN_G_AP : Hid (R_AP < R_G) := Lib.hid (Nat.lt_of_lt_of_le AP_22.out.lt HG0_G.out)
      have HN_G_Q : Hid (R_Q < R_G) := Lib.hid (Nat.lt_of_lt_of_le Q_22.out.lt HG0_G.out)
      have HN_G_X : Hid (R_X < R_G) := Lib.hid (Nat.lt_of_lt_of_le X21_X.out.lt HG0_G.out)
      have HG_G : Hid (w.heap.size ≤ R_G) := Lib.hid (Nat.le_trans HB_22.out.size HG0_G.out)
      have BX_G_x : Hid (∀ k, (.slice (some ⟨g_x, 0, none⟩) z0.q.length z0.q.length : Value).ownBlock = some k → k ≠ R_G) := Lib.hid (fun k h1 h2 => by have h3 := (x_22.out.lt k h1).2; have h4 := HG0_G.out; omega)
      clear c23_AW_0 c23_AW_1 c23_AW_2
      clear c24_AP_0 c24_AP_1 c24_AP_2 c24_AP_3 c24_AP_4
      clear c25_Q_0 c25_Q_1 c25_Q_2 c25_Q_3 c25_Q_4
      clear c26_X_0 c26_X_1 c26_X_2
      have HB_28 := Lib.hid (HB_22.out.trans (l27.mono HB_22.out.size))
      have x_28 := Lib.hid (own_below x_22.out l27 (Nat.le_refl _))
      clear x_22
      have AW_28 := Lib.hid (AW_22.out.below l27 AW_22.out.lt)
      clear AW_22
      have AP_28 := Lib.hid (AP_22.out.below l27 AP_22.out.lt)
      clear AP_22
      have Q_28 := Lib.hid (Q_22.out.below l27 Q_22.out.lt)
      clear Q_22
      have X_28 := Lib.hid (X21_X.out.below l27 X21_X.out.lt)
      clear X21_X
      clear l27
      have c29_AW_0 := AW_28.out.at 0 (v := .int .i64 z0.t) rfl
      have c29_AW_1 := AW_28.out.at 1 (v := .int .i64 z0.z) rfl
      have c29_AW_2 := AW_28.out.at 2 (v := .slice p0 z0.q.length cap0) rfl
      have c30_AP_0 := AP_28.out.at 0 (v := .int .i64 p1.k) rfl
      have c30_AP_1 := AP_28.out.at 1 (v := .int .i64 p1.n) rfl
      have c30_AP_2 := AP_28.out.at 2 (v := .int .i64 p1.t) rfl
      have c30_AP_3 := AP_28.out.at 3 (v := .int .i64 p1.l) rfl
      have c30_AP_4 := AP_28.out.at 4 (v := .string p1.d) rfl
      have c31_Q_0 := Q_28.out.at 0 (v := .int .i64 ps0.k) rfl
      have c31_Q_1 := Q_28.out.at 1 (v := .int .i64 ps0.n) rfl
      have c31_Q_2 := Q_28.out.at 2 (v := .int .i64 ps0.t) rfl
      have c31_Q_3 := Q_28.out.at 3 (v := .int .i64 ps0.l) rfl
      have c31_Q_4 := Q_28.out.at 4 (v := .string ps0.d) rfl
      have c32_X_0 := X_28.out.at 0 (v := .int .i64 z0.t) rfl
      have c32_X_1 := X_28.out.at 1 (v := .int .i64 z0.z) rfl
      have c32_X_2 := X_28.out.at 2 (v := .slice (some ⟨g_x, 0, none⟩) z0.q.length z0.q.length) rfl
      have c33_G_0 := HX_G.out.at 0 (v := .int .i64 ps0.k) rfl
      have c33_G_1 := HX_G.out.at 1 (v := .int .i64 ps0.n) rfl
      have c33_G_2 := HX_G.out.at 2 (v := .int .i64 ps0.t) rfl
      have c33_G_3 := HX_G.out.at 3 (v := .int .i64 ps0.l) rfl
      have c33_G_4 := HX_G.out.at 4 (v := .string ps0.d) rfl
      go_wp2_with fail
      refine (eqPacket_same ps0.k ps0.n ps0.t ps0.l ps0.d _).mono ?_
      rintro e W34 ⟨rfl, l34⟩
      clear c29_AW_0 c29_AW_1 c29_AW_2
      clear c30_AP_0 c30_AP_1 c30_AP_2 c30_AP_3 c30_AP_4
      clear c31_Q_0 c31_Q_1 c31_Q_2 c31_Q_3 c31_Q_4
      clear c32_X_0 c32_X_1 c32_X_2
      clear c33_G_0 c33_G_1 c33_G_2 c33_G_3 c33_G_4
      have HB_35 := Lib.hid (HB_28.out.trans (l34.mono HB_28.out.size))
      have x_35 := Lib.hid (own_below x_28.out l34 (Nat.le_refl _))
      clear x_28
      have AW_35 := Lib.hid (AW_28.out.below l34 AW_28.out.lt)
      clear AW_28
      have AP_35 := Lib.hid (AP_28.out.below l34 AP_28.out.lt)
      clear AP_28
      have Q_35 := Lib.hid (Q_28.out.below l34 Q_28.out.lt)
      clear Q_28
      have X_35 := Lib.hid (X_28.out.below l34 X_28.out.lt)
      clear X_28
      have G_35 := Lib.hid (HX_G.out.below l34 HX_G.out.lt)
      clear HX_G
      clear l34
      have c36_AW_0 := AW_35.out.at 0 (v := .int .i64 z0.t) rfl
      have c36_AW_1 := AW_35.out.at 1 (v := .int .i64 z0.z) rfl
      have c36_AW_2 := AW_35.out.at 2 (v := .slice p0 z0.q.length cap0) rfl
      have c37_AP_0 := AP_35.out.at 0 (v := .int .i64 p1.k) rfl
      have c37_AP_1 := AP_35.out.at 1 (v := .int .i64 p1.n) rfl
      have c37_AP_2 := AP_35.out.at 2 (v := .int .i64 p1.t) rfl
      have c37_AP_3 := AP_35.out.at 3 (v := .int .i64 p1.l) rfl
      have c37_AP_4 := AP_35.out.at 4 (v := .string p1.d) rfl
      have c38_Q_0 := Q_35.out.at 0 (v := .int .i64 ps0.k) rfl
      have c38_Q_1 := Q_35.out.at 1 (v := .int .i64 ps0.n) rfl
      have c38_Q_2 := Q_35.out.at 2 (v := .int .i64 ps0.t) rfl
      have c38_Q_3 := Q_35.out.at 3 (v := .int .i64 ps0.l) rfl
      have c38_Q_4 := Q_35.out.at 4 (v := .string ps0.d) rfl
      have c39_X_0 := X_35.out.at 0 (v := .int .i64 z0.t) rfl
      have c39_X_1 := X_35.out.at 1 (v := .int .i64 z0.z) rfl
      have c39_X_2 := X_35.out.at 2 (v := .slice (some ⟨g_x, 0, none⟩) z0.q.length z0.q.length) rfl
      have c40_G_0 := G_35.out.at 0 (v := .int .i64 ps0.k) rfl
      have c40_G_1 := G_35.out.at 1 (v := .int .i64 ps0.n) rfl
      have c40_G_2 := G_35.out.at 2 (v := .int .i64 ps0.t) rfl
      have c40_G_3 := G_35.out.at 3 (v := .int .i64 ps0.l) rfl
      have c40_G_4 := G_35.out.at 4 (v := .string ps0.d) rfl
      go_upto_region 13 with fail
      go_cut [51] from 47 to 51 (fun b wx => b = .bool false ∧ Hid (Below W34.heap.size W34 wx))
      case first => as_aux_lemma =>
        have HK3 := Lib.hid (fun (w' : World) (hb : Below W34.heap.size W34 w') => (show w'.cell? ⟨R_X, 0, none⟩ = some (.int .i64 z0.t) ∧ w'.cell? ⟨R_X, 1, none⟩ = some (.int .i64 z0.z) ∧ w'.cell? ⟨R_X, 2, none⟩ = some (.slice (some ⟨g_x, 0, none⟩) z0.q.length z0.q.length) ∧ w'.cell? ⟨R_AW, 0, none⟩ = some (.int .i64 z0.t) ∧ w'.cell? ⟨R_AW, 1, none⟩ = some (.int .i64 z0.z) ∧ w'.cell? ⟨R_AW, 2, none⟩ = some (.slice p0 z0.q.length cap0) ∧ Below w.heap.size w w' from ⟨(hb.cell (p := ⟨R_X, 0, none⟩) X_35.out.lt).trans (X_35.out.at 0 (v := .int .i64 z0.t) rfl), (hb.cell (p := ⟨R_X, 1, none⟩) X_35.out.lt).trans (X_35.out.at 1 (v := .int .i64 z0.z) rfl), (hb.cell (p := ⟨R_X, 2, none⟩) X_35.out.lt).trans (X_35.out.at 2 (v := .slice (some ⟨g_x, 0, none⟩) z0.q.length z0.q.length) rfl), (hb.cell (p := ⟨R_AW, 0, none⟩) AW_35.out.lt).trans (AW_35.out.at 0 (v := .int .i64 z0.t) rfl), (hb.cell (p := ⟨R_AW, 1, none⟩) AW_35.out.lt).trans (AW_35.out.at 1 (v := .int .i64 z0.z) rfl), (hb.cell (p := ⟨R_AW, 2, none⟩) AW_35.out.lt).trans (AW_35.out.at 2 (v := .slice p0 z0.q.length cap0) rfl), HB_35.out.trans (hb.mono HB_35.out.size)⟩))
        go_region_held3 (fun w' => w'.cell? ⟨R_X, 0, none⟩ = some (.int .i64 z0.t) ∧ w'.cell? ⟨R_X, 1, none⟩ = some (.int .i64 z0.z) ∧ w'.cell? ⟨R_X, 2, none⟩ = some (.slice (some ⟨g_x, 0, none⟩) z0.q.length z0.q.length) ∧ w'.cell? ⟨R_AW, 0, none⟩ = some (.int .i64 z0.t) ∧ w'.cell? ⟨R_AW, 1, none⟩ = some (.int .i64 z0.z) ∧ w'.cell? ⟨R_AW, 2, none⟩ = some (.slice p0 z0.q.length cap0) ∧ Below w.heap.size w w')
          ((first | (with_reducible refine HK3.out _ ?_; (repeat (first | with_reducible assumption | with_reducible exact Below.refl _ _ | with_reducible refine Below.drew ?_ | with_reducible refine below_alloc' ?_)); done)))
          (first
            | (go_at_call 45; refine (toSw_lit _ z0 _ (HR0.out.below (HB_35.out.trans ((by repeat (first | with_reducible assumption | with_reducible exact Below.refl _ _ | with_reducible refine Below.drew ?_ | with_reducible refine below_alloc' ?_) : Below W34.heap.size W34 _).mono HB_35.out.size)) (Nat.le_refl _)) HN0.out).mono ?_; rintro e w5 ⟨g5, rfl, o5, l5⟩; have hb5 := below_call7 (by repeat (first | with_reducible assumption | with_reducible exact Below.refl _ _ | with_reducible refine Below.drew ?_ | with_reducible refine below_alloc' ?_) : Below W34.heap.size W34 _) l5; have ho5 := row_own o5; clear o5 l5)
            | (go_at_call 46; refine (eqSw_same _ _ z0 _ ((row_own x_35.out).below hb5 (Nat.le_refl _)) ho5).mono ?_; rintro e w6 ⟨rfl, l6⟩; have hb6 := below_call7 hb5 l6; clear l6))
        all_goals go_wp2_with fail
        all_goals go_meet
        all_goals
          case rel => exact ⟨by simp, Lib.hid (by repeat (first | with_reducible assumption | with_reducible exact Below.refl _ _ | with_reducible refine Below.drew ?_ | with_reducible refine below_alloc' ?_))⟩
      case rest =>
        obtain ⟨rfl, HCut⟩ := hcut
        rename World => W41
        have l41 := HCut.out
        clear HCut
        clear c36_AW_0 c36_AW_1 c36_AW_2
        clear c37_AP_0 c37_AP_1 c37_AP_2 c37_AP_3 c37_AP_4
        clear c38_Q_0 c38_Q_1 c38_Q_2 c38_Q_3 c38_Q_4
        clear c39_X_0 c39_X_1 c39_X_2
        clear c40_G_0 c40_G_1 c40_G_2 c40_G_3 c40_G_4
        have HB_42 := Lib.hid (HB_35.out.trans (l41.mono HB_35.out.size))
        have x_42 := Lib.hid (own_below x_35.out l41 (Nat.le_refl _))
        clear x_35
        have AW_42 := Lib.hid (AW_35.out.below l41 AW_35.out.lt)
        clear AW_35
        have AP_42 := Lib.hid (AP_35.out.below l41 AP_35.out.lt)
        clear AP_35
        have Q_42 := Lib.hid (Q_35.out.below l41 Q_35.out.lt)
        clear Q_35
        have X_42 := Lib.hid (X_35.out.below l41 X_35.out.lt)
        clear X_35
        have G_42 := Lib.hid (G_35.out.below l41 G_35.out.lt)
        clear G_35
        clear l41
        have c43_AW_0 := AW_42.out.at 0 (v := .int .i64 z0.t) rfl
        have c43_AW_1 := AW_42.out.at 1 (v := .int .i64 z0.z) rfl
        have c43_AW_2 := AW_42.out.at 2 (v := .slice p0 z0.q.length cap0) rfl
        have c44_AP_0 := AP_42.out.at 0 (v := .int .i64 p1.k) rfl
        have c44_AP_1 := AP_42.out.at 1 (v := .int .i64 p1.n) rfl
        have c44_AP_2 := AP_42.out.at 2 (v := .int .i64 p1.t) rfl
        have c44_AP_3 := AP_42.out.at 3 (v := .int .i64 p1.l) rfl
        have c44_AP_4 := AP_42.out.at 4 (v := .string p1.d) rfl
        have c45_Q_0 := Q_42.out.at 0 (v := .int .i64 ps0.k) rfl
        have c45_Q_1 := Q_42.out.at 1 (v := .int .i64 ps0.n) rfl
        have c45_Q_2 := Q_42.out.at 2 (v := .int .i64 ps0.t) rfl
        have c45_Q_3 := Q_42.out.at 3 (v := .int .i64 ps0.l) rfl
        have c45_Q_4 := Q_42.out.at 4 (v := .string ps0.d) rfl
        have c46_X_0 := X_42.out.at 0 (v := .int .i64 z0.t) rfl
        have c46_X_1 := X_42.out.at 1 (v := .int .i64 z0.z) rfl
        have c46_X_2 := X_42.out.at 2 (v := .slice (some ⟨g_x, 0, none⟩) z0.q.length z0.q.length) rfl
        have c47_G_0 := G_42.out.at 0 (v := .int .i64 ps0.k) rfl
        have c47_G_1 := G_42.out.at 1 (v := .int .i64 ps0.n) rfl
        have c47_G_2 := G_42.out.at 2 (v := .int .i64 ps0.t) rfl
        have c47_G_3 := G_42.out.at 3 (v := .int .i64 ps0.l) rfl
        have c47_G_4 := G_42.out.at 4 (v := .string ps0.d) rfl
        go_wp2_with fail
        go_ret
        exact ⟨rfl, HB_42.out⟩
theorem fnExactAnswerTo_walk (w : World) (a0_0 : Int) (w0_0 : (Lit.int .i64 a0_0).wf = true) (a0_1 : Int) (w0_1 : (Lit.int .i64 a0_1).wf = true) (v0_2 : Value) (s0_2 : List ByteArray) (w0_2 : Row w v0_2 s0_2.length (s0_2.map Value.string)) (b0_2 : ∀ s ∈ s0_2, s.size ≤ maxLen) (a1_0 : Int) (w1_0 : (Lit.int .i64 a1_0).wf = true) (a1_1 : Int) (w1_1 : (Lit.int .i64 a1_1).wf = true) (a1_2 : Int) (w1_2 : (Lit.int .i64 a1_2).wf = true) (a1_3 : Int) (w1_3 : (Lit.int .i64 a1_3).wf = true) (a1_4 : ByteArray) (w1_4 : a1_4.size ≤ maxLen) (_hsh : w.ShapedOpen Try.prog) :
    Calls Try.prog 12 #[.agg #[.int .i64 a0_0, .int .i64 a0_1, v0_2], .agg #[.int .i64 a1_0, .int .i64 a1_1, .int .i64 a1_2, .int .i64 a1_3, .string a1_4]] w fun e w' => e = .returned (.bool true) ∧ Below w.heap.size w w' :=
  fnExactAnswerTo_wk v0_2 ⟨a0_0, a0_1, s0_2⟩ ⟨a1_0, a1_1, a1_2, a1_3, a1_4⟩ w w0_2 b0_2 w1_4
end Go.Proofs.Ytkijfneaglogmaa
