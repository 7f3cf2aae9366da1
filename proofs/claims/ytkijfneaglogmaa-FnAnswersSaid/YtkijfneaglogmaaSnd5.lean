/-
  Windows of the source: new sizes (the specification's).
-/
import Derived.Test.YtkijfneaglogmaaSnd3
import Derived.Deep.QuietTactic
import Derived.BigQuiet
import Derived.IntWalk
import Derived.Deep.CutRange
import Derived.WalkLawsBesides
import Derived.Lib.SmallJoins
import Derived.Deep.RegionHeld3
namespace Go.Proofs.Ytkijfneaglogmaa
open Go.RowKit Go.Lib Go.Joins
set_option linter.unusedVariables false

/-- What a new size holds behind the drop: the window in a block of its own, the result's block. -/
structure Rz (w0 w : World) (X RA : Nat) (v : Value) (t z : Int) (q : List ByteArray) : Prop where
  box : Bx w X #[.int .i64 t, .int .i64 z, v] 26
  res : Bx w RA #[.int .i64 0, .int .i64 0, .slice none 0 0] 26
  own : w.ownsRow w0.heap.size 9 1 v q.length (q.map Value.string)
  bel : Below w0.heap.size w0 w
  x : w0.heap.size + 2 ≤ X
  nx : ∀ k, v.ownBlock = some k → k ≠ X
  na : ∀ k, v.ownBlock = some k → k ≠ RA
  ra : RA = w0.heap.size + 1
theorem Rz.put {w0 w : World} {X RA : Nat} {v v' : Value} {t z t' z' : Int} {q : List ByteArray} (hX : Bx w X #[.int .i64 t, .int .i64 z, v'] 26) (hA : Bx w RA #[.int .i64 0, .int .i64 0, .slice none 0 0] 26) (ho : w.ownsRow w0.heap.size 9 1 v q.length (q.map Value.string)) (hb : Below w0.heap.size w0 w) (hx : w0.heap.size + 2 ≤ X) (nx : ∀ k, v.ownBlock = some k → k ≠ X) (na : ∀ k, v.ownBlock = some k → k ≠ RA) (ra : RA = w0.heap.size + 1) :
    Rz w0 (((w.setCell ⟨X, 0, none⟩ (.int .i64 t')).setCell ⟨X, 1, none⟩ (.int .i64 z')).setCell ⟨X, 2, none⟩ v) X RA v t' z' q := by
  obtain ⟨p1, q1⟩ := hX.store3 (.int .i64 t') (.int .i64 z') v
  refine ⟨p1, hA.grown q1 (fun e => by have e2 : RA = X := Option.some.inj e; omega), ho.kept q1 ?_, hb.grown q1 hb.size (fun k hk => by have e2 : X = k := Option.some.inj hk; omega), hx, nx, na, ra⟩
  cases hv : v.ownBlock with
  | none => exact .inl rfl
  | some k => exact .inr (fun e => nx k hv (Option.some.inj e))
theorem Rz.new {w0 w : World} {RA : Nat} {v : Value} {t z : Int} {q : List ByteArray} (hA : Bx w RA #[.int .i64 0, .int .i64 0, .slice none 0 0] 26) (ho : w.ownsRow w0.heap.size 9 1 v q.length (q.map Value.string)) (hb : Below w0.heap.size w0 w) (na : ∀ k, v.ownBlock = some k → k ≠ RA) (ra : RA = w0.heap.size + 1) :
    Rz w0 (w.alloc (.cells #[.int .i64 t, .int .i64 z, v] 26)) w.heap.size RA v t z q :=
  ⟨Bx.new _ _ _, hA.alloc _, own_below ho ((Below.refl _ _).alloc (Nat.le_refl _) _) (Nat.le_refl _), hb.alloc hb.size _, by have := hA.lt; omega, fun k hk e => absurd (ho.lt k hk).2 (by omega), na, ra⟩
set_option maxRecDepth 100000 in
set_option maxHeartbeats 8000000 in
theorem specSize_any (v : Value) (l : Sw) (x : Int) (w : World) (hrow : Row w v l.q.length (l.q.map Value.string)) (hs : ∀ s ∈ l.q, s.size ≤ maxLen) (hfit : FitA v l.q.length) :
    Calls Try.prog 40 #[.agg #[.int .i64 l.t, .int .i64 l.z, v], .int .i64 x] w fun e w' => ∃ v', e = .returned (.tuple #[.agg #[.int .i64 (sizeV l x).t, .int .i64 (sizeV l x).z, v'], .bool (sizeOk l x)]) ∧ w'.ownsRow w.heap.size 9 1 v' (sizeV l x).q.length ((sizeV l x).q.map Value.string) ∧ Below w.heap.size w w' := by
  have HFit := Lib.hid hfit
  clear hfit
  obtain ⟨t, z, q⟩ := l
  dsimp only at hrow hs ⊢
  obtain ⟨a, cap, rfl, hc1, hm1, _⟩ := row_open hrow
  unfold maxLen at hm1
  have HP := Lib.hid hrow
  clear hrow
  have HS := Lib.hid hs
  clear hs
  dsimp only at HFit
  obtain ⟨W0, R_T, R_A, hW0, hR_T, hR_A, hX_T, hX_A, hB0⟩ := entry2 w #[.int .i64 t, .int .i64 z, .slice a q.length cap] #[.int .i64 0, .int .i64 0, .slice none 0 0] 26 26
  have HW0 := Lib.hid hW0
  have HB0 := Lib.hid hB0
  have HR_T := Lib.hid hR_T
  have HX_T := Lib.hid hX_T
  have HR_A := Lib.hid hR_A
  have HX_A := Lib.hid hX_A
  clear hW0 hB0 hR_T hX_T hR_A hX_A
  have HG := Lib.hid (fun (W1 : World) (hr : Row W1 (.slice a q.length cap) q.length (q.map Value.string)) => l9Good_any (.slice a q.length cap) ⟨t, z, q⟩ W1 hr HS.out)
  have HSz := Lib.hid (fun (W1 : World) => l1In_any x 1 6 W1)
  have HO : Hid (sizeOk ⟨t, z, q⟩ x = (swOk ⟨t, z, q⟩ && inB x 1 6)) := Lib.hid rfl
  have HN := Lib.hid (@size_no ⟨t, z, q⟩ x)
  cases hok : swOk ⟨t, z, q⟩ with
  | false =>
    rw [hok] at HG
    have hno : sizeOk ⟨t, z, q⟩ x = false := by rw [HO.out, hok]; rfl
    have e1 := HN.out hno
    rw [hno, e1]
    dsimp only [sw0]
    clear hno e1 HN HO
    have c2_T_0 := HX_T.out.at 0 (v := .int .i64 t) rfl
    have c2_T_1 := HX_T.out.at 1 (v := .int .i64 z) rfl
    have c2_T_2 := HX_T.out.at 2 (v := .slice a q.length cap) rfl
    have c3_A_0 := HX_A.out.at 0 (v := .int .i64 0) rfl
    have c3_A_1 := HX_A.out.at 1 (v := .int .i64 0) rfl
    have c3_A_2 := HX_A.out.at 2 (v := .slice none 0 0) rfl
    go_enter Try.func40, Try.ntmps40
    go_upto_region 1 with fail
    rw [← HW0.out, ← HR_A.out, ← HR_T.out]
    go_wp2_with fail
    refine (HG.out _ (HP.out.below HB0.out (Nat.le_refl _))).mono ?_
    rintro e W4 ⟨rfl, l4⟩
    clear c2_T_0 c2_T_1 c2_T_2
    clear c3_A_0 c3_A_1 c3_A_2
    have HB_5 := Lib.hid (HB0.out.trans (l4.mono HB0.out.size))
    have T_5 := Lib.hid (HX_T.out.below l4 HX_T.out.lt)
    have A_5 := Lib.hid (HX_A.out.below l4 HX_A.out.lt)
    clear l4
    have c6_T_0 := T_5.out.at 0 (v := .int .i64 t) rfl
    have c6_T_1 := T_5.out.at 1 (v := .int .i64 z) rfl
    have c6_T_2 := T_5.out.at 2 (v := .slice a q.length cap) rfl
    have c7_A_0 := A_5.out.at 0 (v := .int .i64 0) rfl
    have c7_A_1 := A_5.out.at 1 (v := .int .i64 0) rfl
    have c7_A_2 := A_5.out.at 2 (v := .slice none 0 0) rfl
    have fr8_A_0 := A_5.out.free 0
    have fr8_A_1 := A_5.out.free 1
    have fr8_A_2 := A_5.out.free 2
    go_wp2_with fail
    obtain ⟨p1, q1⟩ := A_5.out.store3 (.int .i64 0) (.int .i64 0) (.slice none 0 0)
    refine bodyPost_ret (results_bx1 rfl isSw _ _ R_A rfl rfl rfl p1) rfl ⟨_, rfl, ⟨rfl, .inl ⟨rfl, rfl⟩⟩, (HB_5.out.grown q1 HB_5.out.size (fun k hk => by have e2 : R_A = k := Option.some.inj hk; have := HR_A.out; omega))⟩
  | true =>
    rw [hok] at HG
    cases hs : inB x 1 6 with
    | false =>
      rw [hs] at HSz
      have hno : sizeOk ⟨t, z, q⟩ x = false := by rw [HO.out, hok, hs]; rfl
      have e1 := HN.out hno
      rw [hno, e1]
      dsimp only [sw0]
      clear hno e1 HN HO
      have c9_T_0 := HX_T.out.at 0 (v := .int .i64 t) rfl
      have c9_T_1 := HX_T.out.at 1 (v := .int .i64 z) rfl
      have c9_T_2 := HX_T.out.at 2 (v := .slice a q.length cap) rfl
      have c10_A_0 := HX_A.out.at 0 (v := .int .i64 0) rfl
      have c10_A_1 := HX_A.out.at 1 (v := .int .i64 0) rfl
      have c10_A_2 := HX_A.out.at 2 (v := .slice none 0 0) rfl
      go_enter Try.func40, Try.ntmps40
      go_upto_region 1 with fail
      rw [← HW0.out, ← HR_A.out, ← HR_T.out]
      go_wp2_with fail
      refine (HG.out _ (HP.out.below HB0.out (Nat.le_refl _))).mono ?_
      rintro e W11 ⟨rfl, l11⟩
      clear c9_T_0 c9_T_1 c9_T_2
      clear c10_A_0 c10_A_1 c10_A_2
      have HB_12 := Lib.hid (HB0.out.trans (l11.mono HB0.out.size))
      have T_12 := Lib.hid (HX_T.out.below l11 HX_T.out.lt)
      have A_12 := Lib.hid (HX_A.out.below l11 HX_A.out.lt)
      clear l11
      have c13_T_0 := T_12.out.at 0 (v := .int .i64 t) rfl
      have c13_T_1 := T_12.out.at 1 (v := .int .i64 z) rfl
      have c13_T_2 := T_12.out.at 2 (v := .slice a q.length cap) rfl
      have c14_A_0 := A_12.out.at 0 (v := .int .i64 0) rfl
      have c14_A_1 := A_12.out.at 1 (v := .int .i64 0) rfl
      have c14_A_2 := A_12.out.at 2 (v := .slice none 0 0) rfl
      go_wp2_with fail
      refine (HSz.out _).mono ?_
      rintro e _ ⟨rfl, rfl⟩
      have fr15_A_0 := A_12.out.free 0
      have fr15_A_1 := A_12.out.free 1
      have fr15_A_2 := A_12.out.free 2
      go_wp2_with fail
      obtain ⟨p1, q1⟩ := A_12.out.store3 (.int .i64 0) (.int .i64 0) (.slice none 0 0)
      refine bodyPost_ret (results_bx1 rfl isSw _ _ R_A rfl rfl rfl p1) rfl ⟨_, rfl, ⟨rfl, .inl ⟨rfl, rfl⟩⟩, (HB_12.out.grown q1 HB_12.out.size (fun k hk => by have e2 : R_A = k := Option.some.inj hk; have := HR_A.out; omega))⟩
    | true =>
      rw [hs] at HSz
      have ht := (swOk_iff.1 hok).1
      dsimp only at ht
      have hx := inB_bd hs
      have hl6 : q.length ≤ 6 := by have h1 := (swOk_iff.1 hok).2.1.2; have h2 := (swOk_iff.1 hok).2.2.1; dsimp only at h1 h2; omega
      obtain ⟨k, hk⟩ : ∃ k : Nat, k = ((q.length : Int) - x).toNat := ⟨_, rfl⟩
      have hkq : k ≤ q.length := by omega
      have hyes : sizeOk ⟨t, z, q⟩ x = true := by rw [HO.out, hok, hs]; rfl
      have e1 : sizeV ⟨t, z, q⟩ x = ⟨(dropN ⟨t, z, q⟩ k).t, x, (dropN ⟨t, z, q⟩ k).q⟩ := by unfold sizeV; rw [if_pos hyes, hk]; rfl
      rw [hyes, e1]
      dsimp only
      have HD := Lib.hid (fun (W1 : World) (hr : Row W1 (.slice a q.length cap) q.length (q.map Value.string)) => l9Drop_any (.slice a q.length cap) ⟨t, z, q⟩ k W1 hr HFit.out ht hkq (by dsimp only; omega))
      generalize dropN ⟨t, z, q⟩ k = y at HD ⊢
      have hwr : IntKind.i64.wrap ((q.length : Int) - x) = (q.length : Int) - x := IntWalk.i64_in _ (by omega)
      have hmx : max 0 ((q.length : Int) - x) = (k : Int) := by omega
      have HM := Lib.hid (fun (W1 : World) => l1Most_any 0 ((q.length : Int) - x) W1)
      rw [hmx] at HM
      clear hmx
      clear hyes e1 HN HO hk ht hok hs
      have c16_T_0 := HX_T.out.at 0 (v := .int .i64 t) rfl
      have c16_T_1 := HX_T.out.at 1 (v := .int .i64 z) rfl
      have c16_T_2 := HX_T.out.at 2 (v := .slice a q.length cap) rfl
      have c17_A_0 := HX_A.out.at 0 (v := .int .i64 0) rfl
      have c17_A_1 := HX_A.out.at 1 (v := .int .i64 0) rfl
      have c17_A_2 := HX_A.out.at 2 (v := .slice none 0 0) rfl
      go_enter Try.func40, Try.ntmps40
      go_upto_region 1 with fail
      rw [← HW0.out, ← HR_A.out, ← HR_T.out]
      go_wp2_with fail
      refine (HG.out _ (HP.out.below HB0.out (Nat.le_refl _))).mono ?_
      rintro e W18 ⟨rfl, l18⟩
      clear c16_T_0 c16_T_1 c16_T_2
      clear c17_A_0 c17_A_1 c17_A_2
      have HB_19 := Lib.hid (HB0.out.trans (l18.mono HB0.out.size))
      have T_19 := Lib.hid (HX_T.out.below l18 HX_T.out.lt)
      have A_19 := Lib.hid (HX_A.out.below l18 HX_A.out.lt)
      clear l18
      have c20_T_0 := T_19.out.at 0 (v := .int .i64 t) rfl
      have c20_T_1 := T_19.out.at 1 (v := .int .i64 z) rfl
      have c20_T_2 := T_19.out.at 2 (v := .slice a q.length cap) rfl
      have c21_A_0 := A_19.out.at 0 (v := .int .i64 0) rfl
      have c21_A_1 := A_19.out.at 1 (v := .int .i64 0) rfl
      have c21_A_2 := A_19.out.at 2 (v := .slice none 0 0) rfl
      go_wp2_with fail
      refine (HSz.out _).mono ?_
      rintro e _ ⟨rfl, rfl⟩
      have hX2 : w.heap.size + 2 ≤ W18.heap.size := by have := A_19.out.lt; have := HR_A.out; omega
      go_upto_region 3 with fail
      go_cut [6] from 16 to 23 (fun p wx => ∃ (X : Nat) (v' : Value), p = .pointer (some ⟨X, 0, none⟩) ∧ Hid (Rz w wx X R_A v' y.t y.z y.q))
      case first =>
        have HK1 := Lib.hid (fun (w' : World) (hb : Below W18.heap.size W18 w') => (show w'.cell? ⟨R_T, 0, none⟩ = some (.int .i64 t) ∧ w'.cell? ⟨R_T, 1, none⟩ = some (.int .i64 z) ∧ w'.cell? ⟨R_T, 2, none⟩ = some (.slice a q.length cap) ∧ Below w.heap.size w w' from ⟨(hb.cell (p := ⟨R_T, 0, none⟩) T_19.out.lt).trans (T_19.out.at 0 (v := .int .i64 t) rfl), (hb.cell (p := ⟨R_T, 1, none⟩) T_19.out.lt).trans (T_19.out.at 1 (v := .int .i64 z) rfl), (hb.cell (p := ⟨R_T, 2, none⟩) T_19.out.lt).trans (T_19.out.at 2 (v := .slice a q.length cap) rfl), HB_19.out.trans (hb.mono HB_19.out.size)⟩))
        have HKx := Lib.hid (fun (w' w9 : World) (X : Nat) (hb : Below W18.heap.size W18 w') (hX : W18.heap.size ≤ X) (hg : w'.grownBy w9 (some X)) => (show (w9).cell? ⟨R_T, 0, none⟩ = some (.int .i64 t) ∧ (w9).cell? ⟨R_T, 1, none⟩ = some (.int .i64 z) ∧ (w9).cell? ⟨R_T, 2, none⟩ = some (.slice a q.length cap) ∧ Below w.heap.size w (w9) from HK1.out w9 (hb.grown hg hb.size (fun k hk => by have e2 : X = k := Option.some.inj hk; omega))))
        go_region_held3 (fun w' => w'.cell? ⟨R_T, 0, none⟩ = some (.int .i64 t) ∧ w'.cell? ⟨R_T, 1, none⟩ = some (.int .i64 z) ∧ w'.cell? ⟨R_T, 2, none⟩ = some (.slice a q.length cap) ∧ Below w.heap.size w w')
          ((first | (with_reducible refine HK1.out _ ?_; (repeat (first | with_reducible assumption | with_reducible exact Below.refl _ _ | with_reducible refine Below.drew ?_ | with_reducible refine below_alloc' ?_)); done) | (refine HKx.out _ _ _ hb7 ?_ (hX7.store3 _ _ _).2; (first | exact Nat.le_refl _ | exact hb7.size)) | (refine HKx.out _ _ _ (below_alloc' hb7) ?_ (hX7.store3 _ _ _).2; exact hb7.size)))
          (first
            | (go_at_call 80; refine (HD.out _ (HP.out.below (HB_19.out.trans ((by repeat (first | with_reducible assumption | with_reducible exact Below.refl _ _ | with_reducible refine Below.drew ?_ | with_reducible refine below_alloc' ?_) : Below W18.heap.size W18 _).mono HB_19.out.size)) (Nat.le_refl _))).mono ?_; rintro e w7 ⟨v_y, rfl, o_y, l7⟩; obtain ⟨a_y, c_y, rfl, _, _⟩ := own_someS0 o_y; have hb7 := below_call7 (by repeat (first | with_reducible assumption | with_reducible exact Below.refl _ _ | with_reducible refine Below.drew ?_ | with_reducible refine below_alloc' ?_) : Below W18.heap.size W18 _) l7; (first | have hX7 : Bx w7 W18.heap.size #[.int .i64 0, .int .i64 0, .slice none 0 0] 26 := (Bx.new W18.drew #[.int .i64 0, .int .i64 0, .slice none 0 0] 26).below l7 (by simp) | have hX7 := Bx.new w7 #[.int .i64 0, .int .i64 0, .slice none 0 0] 26); have y0 := hX7.at 0 (v := .int .i64 0) rfl; have y1 := hX7.at 1 (v := .int .i64 0) rfl; have y2 := hX7.at 2 (v := .slice none 0 0) rfl; have f0 := hX7.free 0; have f1 := hX7.free 1; have f2 := hX7.free 2; have ho7 := own_base o_y (below_size' (by repeat (first | with_reducible assumption | with_reducible exact Below.refl _ _ | with_reducible refine Below.drew ?_ | with_reducible refine below_alloc' ?_) : Below W18.heap.size W18 _)); have hA7 := A_19.out.below hb7 A_19.out.lt; have na7 : ∀ k, (Value.slice a_y y.q.length c_y).ownBlock = some k → k ≠ R_A := fun k hk e => by have h1 := (o_y.lt k hk).1; have h2 := A_19.out.lt; have h3 := below_size' (by repeat (first | with_reducible assumption | with_reducible exact Below.refl _ _ | with_reducible refine Below.drew ?_ | with_reducible refine below_alloc' ?_) : Below W18.heap.size W18 _); (try simp at h1); omega)
            | (go_at_call 83; refine (HM.out _).mono ?_; rintro e _ ⟨rfl, rfl⟩))
        all_goals go_wp2_with fail
        all_goals go_meet
        all_goals
          have hb8 := HB_19.out.trans (hb7.mono HB_19.out.size)
          have ho8 := own_base ho7 HB_19.out.size
          have hz7 := hb7.size
          case rel => first
            | exact ⟨_, _, rfl, Lib.hid (Rz.new hA7 ho8 hb8 na7 HR_A.out)⟩
            | exact ⟨_, _, rfl, Lib.hid (Rz.put hX7 hA7 ho8 hb8 hX2 (fun k hk e => by have h1 := (o_y.lt k hk).1; simp at h1; omega) na7 HR_A.out)⟩
      case rest =>
        obtain ⟨X, v4, rfl, HS4⟩ := hcut
        rename World => W4
        obtain ⟨a4, c4, rfl, _, _⟩ := own_someS0 HS4.out.own
        clear c20_T_0 c20_T_1 c20_T_2
        clear c21_A_0 c21_A_1 c21_A_2
        have b0 := HS4.out.box.at 0 (v := .int .i64 y.t) rfl
        have b1 := HS4.out.box.at 1 (v := .int .i64 y.z) rfl
        have b2 := HS4.out.box.at 2 (v := .slice a4 y.q.length c4) rfl
        have fb := HS4.out.box.free 1
        go_upto_region 5 with fail
        obtain ⟨p5, q5⟩ := HS4.out.box.set 1 (.int .i64 x)
        obtain ⟨W5, hW5⟩ : ∃ W, W = W4.setCell ⟨X, 1, none⟩ (.int .i64 x) := ⟨_, rfl⟩
        rw [← hW5] at p5 q5 ⊢
        clear hW5 b0 b1 b2 fb
        have hA5 := HS4.out.res.grown q5 (fun e => by have e2 : R_A = X := Option.some.inj e; have := HS4.out.x; have := HS4.out.ra; omega)
        have ho5 := HS4.out.own.kept q5 (by
          cases hv : (Value.slice a4 y.q.length c4).ownBlock with
          | none => exact .inl rfl
          | some k => exact .inr (fun e => HS4.out.nx k hv (Option.some.inj e)))
        have hb5 := HS4.out.bel.grown q5 HS4.out.bel.size (fun k hk => by have e2 : X = k := Option.some.inj hk; have := HS4.out.x; omega)
        have hX5b : Bx W5 X #[.int .i64 y.t, .int .i64 x, .slice a4 y.q.length c4] 26 := p5
        have b0 := hX5b.at 0 (v := .int .i64 y.t) rfl
        have b1 := hX5b.at 1 (v := .int .i64 x) rfl
        have b2 := hX5b.at 2 (v := .slice a4 y.q.length c4) rfl
        have d0 := hA5.at 0 (v := .int .i64 0) rfl
        have fd0 := hA5.free 0
        have d1 := hA5.at 1 (v := .int .i64 0) rfl
        have fd1 := hA5.free 1
        have d2 := hA5.at 2 (v := .slice none 0 0) rfl
        have fd2 := hA5.free 2
        have HA5 := Lib.hid hA5
        have HO5 := Lib.hid ho5
        have HB5 := Lib.hid hb5
        clear hA5 ho5 hb5 hX5b p5 q5
        go_wp2_with fail
        obtain ⟨p1, q1⟩ := HA5.out.store3 (.int .i64 y.t) (.int .i64 x) (.slice a4 y.q.length c4)
        refine bodyPost_ret (results_bx1 rfl isSw _ _ R_A rfl rfl rfl p1) rfl ⟨_, rfl, HO5.out.kept q1 ?_, HB5.out.grown q1 HB5.out.size (fun k hk => by have e2 : R_A = k := Option.some.inj hk; have := HS4.out.ra; omega)⟩
        cases hv : (Value.slice a4 y.q.length c4).ownBlock with
        | none => exact .inl rfl
        | some k => exact .inr (fun e => HS4.out.na k hv (Option.some.inj e))
end Go.Proofs.Ytkijfneaglogmaa
