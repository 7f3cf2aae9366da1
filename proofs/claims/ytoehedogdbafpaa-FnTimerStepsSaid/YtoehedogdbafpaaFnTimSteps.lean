/-
  The law of a timer's steps: what is set is due after its ticks, what fires moves by its period, what backs off waits longer.
-/
import Derived.Test.YtoehedogdbafpaaDrawTim2
import Derived.Test.YtoehedogdbafpaaTimI6
import Derived.Test.YtoehedogdbafpaaTimB
import Derived.Test.YtoehedogdbafpaaTimL
import Derived.Test.YtoehedogdbafpaaRBig
import Derived.Deep.CutRange
import Derived.Deep.RegionHeld3
import Derived.BigQuiet
import Derived.WalkLawsBesides
namespace Go.Proofs.Ytoehedogdbafpaa
open Go.RowKit Go.Lib Go.Joins
set_option linter.unusedVariables false

/-- What the law asks of a timer that backs off. -/
theorem back8 {t : Tm} {m : Int} (h : backOk t m = true) : t.p ≤ (backV t m).p ∧ (backV t m).p ≤ m ∧ (backV t m).d = t.d + (backV t m).p ∧ IntKind.i64.wrap (t.d + (backV t m).p) = (backV t m).d := by
  obtain ⟨h1, h2, h3⟩ := back_law h
  have e : backV t m = backT t m := if_pos h
  have hb : 0 ≤ (backV t m).d ∧ (backV t m).d ≤ 10000 := by
    rw [e]
    unfold backOk at h
    simp only [Bool.and_eq_true, decide_eq_true_eq] at h
    exact (tmOk_iff.1 h.2.2.2).2.1
  exact ⟨h1, h2, h3, by rw [← h3]; exact IntWalk.i64_in _ (by omega)⟩
set_option maxRecDepth 100000 in
set_option maxHeartbeats 16000000 in
theorem fnTimerSteps_walk (w : World) (v0 : Value) (z0 : List Int) (w0 : Row w v0 z0.length (z0.map (Value.int .u8))) (b0 : ∀ z ∈ z0, (Lit.int .u8 z).wf = true) (_hsh : w.ShapedOpen Try.prog) :
    Calls Try.prog 4 #[v0] w fun e w' => e = .returned (.bool true) ∧ Below w.heap.size w w' := by
  clear _hsh
  have hz : ∀ x ∈ z0, 0 ≤ x ∧ x < 256 := fun x hx => by have := bounds_u8 (b0 x hx); omega
  by_cases hbig : (65536 : Int) < z0.length
  · have HV := Lib.hid (rBig_row v0 _ _ true w0 (decide_eq_true hbig))
    clear w0 b0 hz
    go_enter Try.func4, Try.ntmps4
    go_wp2_with (go_at_call 14; refine (HV.out _).mono ?_; rintro e w' ⟨rfl, rfl⟩)
    go_ret
    exact ⟨rfl, Below.refl _ _⟩
  have HV := Lib.hid (rBig_row v0 _ _ false w0 (decide_eq_false hbig))
  have HR := Lib.hid w0
  have HD1 := Lib.hid (fun w hr => drawSetT_any v0 z0 w hr hz)
  have HD2 := Lib.hid (fun w hr => drawFireT_any v0 z0 w hr hz)
  have HD3 := Lib.hid (fun w hr => drawBack_any v0 z0 w hr hz)
  have HD4 := Lib.hid (fun w hr => drawTicks_any v0 z0 w hr hz)
  clear w0 b0 hz hbig
  go_enter Try.func4, Try.ntmps4
  go_wp2_with fail
  refine (HV.out _).mono ?_
  rintro e w' ⟨rfl, rfl⟩
  clear HV
  go_wp2_with fail
  refine (HD1.out _ (HR.out.below (Below.refl _ _) (Nat.le_refl _))).mono ?_
  rintro e W2 ⟨g_l, c_l, zs, t, rfl, _, o_l, l2⟩
  have O_l := Lib.hid o_l
  clear o_l
  have HB_3 := Lib.hid l2
  clear l2
  clear HD1
  go_upto_region 4 with fail
  obtain ⟨W4, hW4⟩ : ∃ W4, W4 = W2.alloc (.cells #[.int .i64 t.i, .int .i64 t.d, .int .i64 t.p] 42) := ⟨_, rfl⟩
  have l4 : Below W2.heap.size W2 W4 := by rw [hW4]; exact (Below.refl _ _).alloc (Nat.le_refl _) _
  have T4_b4 : Hid (Tb W4 W2.heap.size t) := Lib.hid (by rw [hW4]; exact Tb.new _ _)
  rw [← hW4]
  clear hW4
  obtain ⟨X_T4, hX_T4⟩ : ∃ X, X = W2.heap.size := ⟨_, rfl⟩
  rw [← hX_T4] at T4_b4 ⊢
  clear hX_T4
  have HB_5 := Lib.hid (HB_3.out.trans (l4.mono HB_3.out.size))
  have l_5 := Lib.hid (ownz_below O_l.out l4 (Nat.le_refl _))
  clear O_l
  clear HB_3
  clear l4
  obtain ⟨hc0_T4_6, hc1_T4_6, hc2_T4_6⟩ := T4_b4.out.cells
  have HSi := Lib.hid (fun W h => implSetT_any g_l 0 c_l zs t W h)
  have HSs := Lib.hid (fun W h => specSetT_any (.slice (some ⟨g_l, 0, none⟩) zs.length c_l) zs t W h)
  have HTa := Lib.hid (fun (v : Value) W h => implTicks_any v (setV zs t) t.i 0 W h)
  have HIa := Lib.hid (fun (v : Value) W h => implIsT_any v (setV zs t) W h)
  have HF := Lib.hid (@set_law zs t)
  generalize setV zs t = mo at HSi HSs HTa HIa HF
  generalize setOk zs t = ok at HSi HSs HF
  go_wp2_with fail
  refine (HSi.out _ (rowz_own l_5.out)).mono ?_
  rintro e W7 ⟨v_m, rfl, o_m, l7⟩
  obtain ⟨a_m, c_m, rfl, _, _⟩ := ownz_slice o_m
  have O_m := Lib.hid o_m
  clear o_m
  have HB_8 := Lib.hid (HB_5.out.trans (l7.mono HB_5.out.size))
  have l_8 := Lib.hid (ownz_below l_5.out l7 (Nat.le_refl _))
  clear l_5
  have T4_8 := Lib.hid (T4_b4.out.below l7 T4_b4.out.lt)
  clear T4_b4
  clear HB_5
  clear hc0_T4_6 hc1_T4_6 hc2_T4_6
  obtain ⟨hc0_T4_9, hc1_T4_9, hc2_T4_9⟩ := T4_8.out.cells
  clear l7
  clear HSi
  go_wp2_with fail
  refine (HSs.out _ (rowz_own l_8.out)).mono ?_
  rintro e W10 ⟨v_w, rfl, o_w, l10⟩
  obtain ⟨a_w, c_w, rfl, _, _⟩ := ownz_slice o_w
  have O_w := Lib.hid o_w
  clear o_w
  have HB_11 := Lib.hid (HB_8.out.trans (l10.mono HB_8.out.size))
  have l_11 := Lib.hid (ownz_below l_8.out l10 (Nat.le_refl _))
  clear l_8
  have m_11 := Lib.hid (ownz_below O_m.out l10 (Nat.le_refl _))
  clear O_m
  have T4_11 := Lib.hid (T4_8.out.below l10 T4_8.out.lt)
  clear T4_8
  clear HB_8
  clear hc0_T4_9 hc1_T4_9 hc2_T4_9
  obtain ⟨hc0_T4_12, hc1_T4_12, hc2_T4_12⟩ := T4_11.out.cells
  clear l10
  clear HSs
  go_wp2_with fail
  refine (rTimers_same _ _ mo _ (rowz_own m_11.out) (rowz_own O_w.out)).mono ?_
  rintro e W13 ⟨rfl, l13⟩
  have HB_14 := Lib.hid (HB_11.out.trans (l13.mono HB_11.out.size))
  have l_14 := Lib.hid (ownz_below l_11.out l13 (Nat.le_refl _))
  clear l_11
  have m_14 := Lib.hid (ownz_below m_11.out l13 (Nat.le_refl _))
  clear m_11
  have w_14 := Lib.hid (ownz_below O_w.out l13 (Nat.le_refl _))
  clear O_w
  have T4_14 := Lib.hid (T4_11.out.below l13 T4_11.out.lt)
  clear T4_11
  clear HB_11
  clear hc0_T4_12 hc1_T4_12 hc2_T4_12
  obtain ⟨hc0_T4_15, hc1_T4_15, hc2_T4_15⟩ := T4_14.out.cells
  clear l13
  clear w_14
  go_upto_if 62 with fail
  go_cut [] from 9 to 82 (fun wx => Hid (Below W13.heap.size W13 wx))
  case first => as_aux_lemma =>
    cases ok with
    | false =>
      have HZ := Lib.hid (Below.refl W13.heap.size W13)
      clear HF HTa HIa
      go_wp2_with fail
      go_meet
      case rel => exact HZ
    | true =>
      have HZ := Lib.hid (Below.refl W13.heap.size W13)
      obtain ⟨-, e1, e2, e3⟩ := HF.out rfl
      clear HF
      rw [e2, e3] at HTa
      rw [e1] at HIa
      clear e1 e2 e3
      go_wp2_with fail
      refine (HTa.out _ _ (rowz_own m_14.out)).mono ?_
      rintro e W16 ⟨rfl, l16⟩
      have HB_17 := Lib.hid (HZ.out.trans (l16.mono HZ.out.size))
      have l_17 := Lib.hid (ownz_below l_14.out l16 (Nat.le_refl _))
      clear l_14
      have m_17 := Lib.hid (ownz_below m_14.out l16 (Nat.le_refl _))
      clear m_14
      have T4_17 := Lib.hid (T4_14.out.below l16 T4_14.out.lt)
      clear T4_14
      clear HZ
      clear hc0_T4_15 hc1_T4_15 hc2_T4_15
      obtain ⟨hc0_T4_18, hc1_T4_18, hc2_T4_18⟩ := T4_17.out.cells
      clear l16
      clear HTa
      go_wp2_with fail
      refine (HIa.out _ _ (rowz_own m_17.out)).mono ?_
      rintro e W19 ⟨rfl, l19⟩
      have HB_20 := Lib.hid (HB_17.out.trans (l19.mono HB_17.out.size))
      have l_20 := Lib.hid (ownz_below l_17.out l19 (Nat.le_refl _))
      clear l_17
      have m_20 := Lib.hid (ownz_below m_17.out l19 (Nat.le_refl _))
      clear m_17
      have T4_20 := Lib.hid (T4_17.out.below l19 T4_17.out.lt)
      clear T4_17
      clear HB_17
      clear hc0_T4_18 hc1_T4_18 hc2_T4_18
      obtain ⟨hc0_T4_21, hc1_T4_21, hc2_T4_21⟩ := T4_20.out.cells
      clear l19
      clear HIa
      go_wp2_with fail
      go_meet
      case rel => exact HB_20
  case rest => as_aux_lemma =>
    rename World => W22
    have l22 := hcut.out
    clear hcut HF HTa HIa
    clear l_14
    clear m_14
    clear T4_14 hc0_T4_15 hc1_T4_15 hc2_T4_15
    have HB_23 := Lib.hid (HB_14.out.trans (l22.mono HB_14.out.size))
    clear HB_14
    clear l22
    go_wp2_with fail
    refine (HD2.out _ (HR.out.below HB_23.out (Nat.le_refl _))).mono ?_
    rintro e W24 ⟨g_s, c_s, ls, i, rfl, _, o_s, l24⟩
    have O_s := Lib.hid o_s
    clear o_s
    have HB_25 := Lib.hid (HB_23.out.trans (l24.mono HB_23.out.size))
    clear HB_23
    clear l24
    clear HD2
    have HFi := Lib.hid (fun W h => implFireT_any (.slice (some ⟨g_s, 0, none⟩) ls.length c_s) ls i W h)
    have HFs := Lib.hid (fun W h => specFireT_any (.slice (some ⟨g_s, 0, none⟩) ls.length c_s) ls i W h)
    have HTb := Lib.hid (fun W h => implTicks_any (.slice (some ⟨g_s, 0, none⟩) ls.length c_s) ls i 0 W h)
    have HTa := Lib.hid (fun (v : Value) W h => implTicks_any v (fireV ls i) i 0 W h)
    have HF := Lib.hid (@fire_law ls i)
    generalize tickV (fireV ls i) i 0 = now at HTa HF
    generalize tickOk (fireV ls i) i 0 = two at HTa HF
    generalize tickV ls i 0 = before at HTb HF
    generalize tickOk ls i 0 = one at HTb HF
    generalize fireV ls i = af at HFi HFs HTa HF
    generalize stopOk ls i = fine at HFi HFs HF
    go_wp2_with fail
    refine (HFi.out _ (rowz_own O_s.out)).mono ?_
    rintro e W26 ⟨v_a, rfl, o_a, l26⟩
    obtain ⟨a_a, c_a, rfl, _, _⟩ := ownz_slice o_a
    have O_a := Lib.hid o_a
    clear o_a
    have HB_27 := Lib.hid (HB_25.out.trans (l26.mono HB_25.out.size))
    have s_27 := Lib.hid (ownz_below O_s.out l26 (Nat.le_refl _))
    clear O_s
    clear HB_25
    clear l26
    clear HFi
    go_wp2_with fail
    refine (HFs.out _ (rowz_own s_27.out)).mono ?_
    rintro e W28 ⟨v_w, rfl, o_w, l28⟩
    obtain ⟨a_w, c_w, rfl, _, _⟩ := ownz_slice o_w
    have O_w := Lib.hid o_w
    clear o_w
    have HB_29 := Lib.hid (HB_27.out.trans (l28.mono HB_27.out.size))
    have s_29 := Lib.hid (ownz_below s_27.out l28 (Nat.le_refl _))
    clear s_27
    have a_29 := Lib.hid (ownz_below O_a.out l28 (Nat.le_refl _))
    clear O_a
    clear HB_27
    clear l28
    clear HFs
    go_wp2_with fail
    refine (rTimers_same _ _ af _ (rowz_own a_29.out) (rowz_own O_w.out)).mono ?_
    rintro e W30 ⟨rfl, l30⟩
    have HB_31 := Lib.hid (HB_29.out.trans (l30.mono HB_29.out.size))
    have s_31 := Lib.hid (ownz_below s_29.out l30 (Nat.le_refl _))
    clear s_29
    have a_31 := Lib.hid (ownz_below a_29.out l30 (Nat.le_refl _))
    clear a_29
    have w_31 := Lib.hid (ownz_below O_w.out l30 (Nat.le_refl _))
    clear O_w
    clear HB_29
    clear l30
    clear w_31
    go_upto_if 109 with fail
    go_cut [] from 17 to 131 (fun wx => Hid (Below W30.heap.size W30 wx))
    case first => as_aux_lemma =>
      cases fine with
      | false =>
        have HZ := Lib.hid (Below.refl W30.heap.size W30)
        clear HF HTa HTb
        go_wp2_with fail
        go_meet
        case rel => exact HZ
      | true =>
        have HZ := Lib.hid (Below.refl W30.heap.size W30)
        obtain ⟨rfl, -, e3⟩ := HF.out rfl
        clear HF
        have HE := Lib.hid e3
        clear e3
        go_wp2_with fail
        refine (HTb.out _ (rowz_own s_31.out)).mono ?_
        rintro e W32 ⟨rfl, l32⟩
        have HB_33 := Lib.hid (HZ.out.trans (l32.mono HZ.out.size))
        have s_33 := Lib.hid (ownz_below s_31.out l32 (Nat.le_refl _))
        clear s_31
        have a_33 := Lib.hid (ownz_below a_31.out l32 (Nat.le_refl _))
        clear a_31
        clear HZ
        clear l32
        clear HTb
        go_wp2_with fail
        refine (HTa.out _ _ (rowz_own a_33.out)).mono ?_
        rintro e W34 ⟨rfl, l34⟩
        have HB_35 := Lib.hid (HB_33.out.trans (l34.mono HB_33.out.size))
        have s_35 := Lib.hid (ownz_below s_33.out l34 (Nat.le_refl _))
        clear s_33
        have a_35 := Lib.hid (ownz_below a_33.out l34 (Nat.le_refl _))
        clear a_33
        clear HB_33
        clear l34
        clear HTa
        cases two with
        | false =>
          clear HE
          go_wp2_with fail
          go_meet
          case rel => exact HB_35
        | true =>
          have hlt := HE.out rfl
          have hle : ¬ now ≤ before := by omega
          clear HE
          go_wp2_with fail
          go_meet
          case rel => exact HB_35
    case rest => as_aux_lemma =>
      rename World => W36
      have l36 := hcut.out
      clear hcut HF HTa HTb
      clear s_31
      clear a_31
      have HB_37 := Lib.hid (HB_31.out.trans (l36.mono HB_31.out.size))
      clear HB_31
      clear l36
      go_wp2_with fail
      refine (HD3.out _ (HR.out.below HB_37.out (Nat.le_refl _))).mono ?_
      rintro e W38 ⟨b, x, rfl, hx, l38⟩
      have HB_39 := Lib.hid (HB_37.out.trans (l38.mono HB_37.out.size))
      clear HB_37
      clear l38
      clear HD3
      go_upto_region 23 with fail
      obtain ⟨W40, hW40⟩ : ∃ W40, W40 = W38.alloc (.cells #[.int .i64 b.i, .int .i64 b.d, .int .i64 b.p] 42) := ⟨_, rfl⟩
      have l40 : Below W38.heap.size W38 W40 := by rw [hW40]; exact (Below.refl _ _).alloc (Nat.le_refl _) _
      have T21_b40 : Hid (Tb W40 W38.heap.size b) := Lib.hid (by rw [hW40]; exact Tb.new _ _)
      rw [← hW40]
      clear hW40
      obtain ⟨X_T21, hX_T21⟩ : ∃ X, X = W38.heap.size := ⟨_, rfl⟩
      rw [← hX_T21] at T21_b40 ⊢
      clear hX_T21
      have HB_41 := Lib.hid (HB_39.out.trans (l40.mono HB_39.out.size))
      clear HB_39
      clear l40
      obtain ⟨hc0_T21_42, hc1_T21_42, hc2_T21_42⟩ := T21_b40.out.cells
      have HBi := Lib.hid (fun W => implBack_any b x W hx)
      have HBs := Lib.hid (fun W => specBack_any b x W hx)
      have HF := Lib.hid (@back8 b x)
      clear hx
      generalize backV b x = la at HBi HBs HF
      generalize backOk b x = told at HBi HBs HF
      go_wp2_with fail
      refine (HBi.out _).mono ?_
      rintro e W43 ⟨rfl, l43⟩
      have HB_44 := Lib.hid (HB_41.out.trans (l43.mono HB_41.out.size))
      have T21_44 := Lib.hid (T21_b40.out.below l43 T21_b40.out.lt)
      clear T21_b40
      clear HB_41
      clear hc0_T21_42 hc1_T21_42 hc2_T21_42
      obtain ⟨hc0_T21_45, hc1_T21_45, hc2_T21_45⟩ := T21_44.out.cells
      clear l43
      clear HBi
      go_upto_region 24 with fail
      obtain ⟨W46, hW46⟩ : ∃ W46, W46 = W43.alloc (.cells #[.int .i64 la.i, .int .i64 la.d, .int .i64 la.p] 42) := ⟨_, rfl⟩
      have l46 : Below W43.heap.size W43 W46 := by rw [hW46]; exact (Below.refl _ _).alloc (Nat.le_refl _) _
      have T23_b46 : Hid (Tb W46 W43.heap.size la) := Lib.hid (by rw [hW46]; exact Tb.new _ _)
      rw [← hW46]
      clear hW46
      obtain ⟨X_T23, hX_T23⟩ : ∃ X, X = W43.heap.size := ⟨_, rfl⟩
      rw [← hX_T23] at T23_b46 ⊢
      clear hX_T23
      have HB_47 := Lib.hid (HB_44.out.trans (l46.mono HB_44.out.size))
      have T21_47 := Lib.hid (T21_44.out.below l46 T21_44.out.lt)
      clear T21_44
      clear HB_44
      clear hc0_T21_45 hc1_T21_45 hc2_T21_45
      obtain ⟨hc0_T21_48, hc1_T21_48, hc2_T21_48⟩ := T21_47.out.cells
      clear l46
      clear hc0_T21_48 hc1_T21_48 hc2_T21_48
      obtain ⟨hc0_T21_49, hc1_T21_49, hc2_T21_49⟩ := T21_47.out.cells
      obtain ⟨hc0_T23_50, hc1_T23_50, hc2_T23_50⟩ := T23_b46.out.cells
      go_wp2_with fail
      refine (HBs.out _).mono ?_
      rintro e W51 ⟨rfl, l51⟩
      have HB_52 := Lib.hid (HB_47.out.trans (l51.mono HB_47.out.size))
      have T21_52 := Lib.hid (T21_47.out.below l51 T21_47.out.lt)
      clear T21_47
      have T23_52 := Lib.hid (T23_b46.out.below l51 T23_b46.out.lt)
      clear T23_b46
      clear HB_47
      clear hc0_T21_49 hc1_T21_49 hc2_T21_49
      obtain ⟨hc0_T21_53, hc1_T21_53, hc2_T21_53⟩ := T21_52.out.cells
      clear hc0_T23_50 hc1_T23_50 hc2_T23_50
      obtain ⟨hc0_T23_54, hc1_T23_54, hc2_T23_54⟩ := T23_52.out.cells
      clear l51
      clear HBs
      go_upto_region 25 with fail
      obtain ⟨W55, hW55⟩ : ∃ W55, W55 = W51.alloc (.cells #[.int .i64 la.i, .int .i64 la.d, .int .i64 la.p] 42) := ⟨_, rfl⟩
      have l55 : Below W51.heap.size W51 W55 := by rw [hW55]; exact (Below.refl _ _).alloc (Nat.le_refl _) _
      have T25_b55 : Hid (Tb W55 W51.heap.size la) := Lib.hid (by rw [hW55]; exact Tb.new _ _)
      rw [← hW55]
      clear hW55
      obtain ⟨X_T25, hX_T25⟩ : ∃ X, X = W51.heap.size := ⟨_, rfl⟩
      rw [← hX_T25] at T25_b55 ⊢
      clear hX_T25
      have HB_56 := Lib.hid (HB_52.out.trans (l55.mono HB_52.out.size))
      have T21_56 := Lib.hid (T21_52.out.below l55 T21_52.out.lt)
      clear T21_52
      have T23_56 := Lib.hid (T23_52.out.below l55 T23_52.out.lt)
      clear T23_52
      clear HB_52
      clear hc0_T21_53 hc1_T21_53 hc2_T21_53
      obtain ⟨hc0_T21_57, hc1_T21_57, hc2_T21_57⟩ := T21_56.out.cells
      clear hc0_T23_54 hc1_T23_54 hc2_T23_54
      obtain ⟨hc0_T23_58, hc1_T23_58, hc2_T23_58⟩ := T23_56.out.cells
      clear l55
      clear hc0_T21_57 hc1_T21_57 hc2_T21_57
      obtain ⟨hc0_T21_59, hc1_T21_59, hc2_T21_59⟩ := T21_56.out.cells
      clear hc0_T23_58 hc1_T23_58 hc2_T23_58
      obtain ⟨hc0_T23_60, hc1_T23_60, hc2_T23_60⟩ := T23_56.out.cells
      obtain ⟨hc0_T25_61, hc1_T25_61, hc2_T25_61⟩ := T25_b55.out.cells
      go_upto_region 27 with fail
      clear T25_b55 hc0_T25_61 hc1_T25_61 hc2_T25_61
      cases told with
      | false =>
        clear HF
        go_wp2_with fail
        refine (HD4.out _ (HR.out.below HB_56.out (Nat.le_refl _))).mono ?_
        rintro e W62 ⟨g_u, c_u, us, j, y, rfl, _, o_u, l62⟩
        have O_u := Lib.hid o_u
        clear o_u
        have HB_63 := Lib.hid (HB_56.out.trans (l62.mono HB_56.out.size))
        have T21_63 := Lib.hid (T21_56.out.below l62 T21_56.out.lt)
        clear T21_56
        have T23_63 := Lib.hid (T23_56.out.below l62 T23_56.out.lt)
        clear T23_56
        clear HB_56
        clear hc0_T21_59 hc1_T21_59 hc2_T21_59
        obtain ⟨hc0_T21_64, hc1_T21_64, hc2_T21_64⟩ := T21_63.out.cells
        clear hc0_T23_60 hc1_T23_60 hc2_T23_60
        obtain ⟨hc0_T23_65, hc1_T23_65, hc2_T23_65⟩ := T23_63.out.cells
        clear l62
        clear HD4
        have HTi := Lib.hid (fun W h => implTicks_any (.slice (some ⟨g_u, 0, none⟩) us.length c_u) us j y W h)
        have HTs := Lib.hid (fun W h => specTicks_any (.slice (some ⟨g_u, 0, none⟩) us.length c_u) us j y W h)
        generalize tickV us j y = tv at HTi HTs
        generalize tickOk us j y = kn at HTi HTs
        go_wp2_with fail
        refine (HTi.out _ (rowz_own O_u.out)).mono ?_
        rintro e W66 ⟨rfl, l66⟩
        have HB_67 := Lib.hid (HB_63.out.trans (l66.mono HB_63.out.size))
        have u_67 := Lib.hid (ownz_below O_u.out l66 (Nat.le_refl _))
        clear O_u
        have T21_67 := Lib.hid (T21_63.out.below l66 T21_63.out.lt)
        clear T21_63
        have T23_67 := Lib.hid (T23_63.out.below l66 T23_63.out.lt)
        clear T23_63
        clear HB_63
        clear hc0_T21_64 hc1_T21_64 hc2_T21_64
        obtain ⟨hc0_T21_68, hc1_T21_68, hc2_T21_68⟩ := T21_67.out.cells
        clear hc0_T23_65 hc1_T23_65 hc2_T23_65
        obtain ⟨hc0_T23_69, hc1_T23_69, hc2_T23_69⟩ := T23_67.out.cells
        clear l66
        clear HTi
        go_wp2_with fail
        refine (HTs.out _ (rowz_own u_67.out)).mono ?_
        rintro e W70 ⟨rfl, l70⟩
        have HB_71 := Lib.hid (HB_67.out.trans (l70.mono HB_67.out.size))
        have u_71 := Lib.hid (ownz_below u_67.out l70 (Nat.le_refl _))
        clear u_67
        have T21_71 := Lib.hid (T21_67.out.below l70 T21_67.out.lt)
        clear T21_67
        have T23_71 := Lib.hid (T23_67.out.below l70 T23_67.out.lt)
        clear T23_67
        clear HB_67
        clear hc0_T21_68 hc1_T21_68 hc2_T21_68
        obtain ⟨hc0_T21_72, hc1_T21_72, hc2_T21_72⟩ := T21_71.out.cells
        clear hc0_T23_69 hc1_T23_69 hc2_T23_69
        obtain ⟨hc0_T23_73, hc1_T23_73, hc2_T23_73⟩ := T23_71.out.cells
        clear l70
        clear HTs
        go_wp2_with fail
        go_ret
        exact ⟨by simp, HB_71.out⟩
      | true =>
        obtain ⟨f1, f2, f3, f4⟩ := HF.out rfl
        clear HF f3
        go_wp2_with fail
        refine (HD4.out _ (HR.out.below HB_56.out (Nat.le_refl _))).mono ?_
        rintro e W74 ⟨g_u, c_u, us, j, y, rfl, _, o_u, l74⟩
        have O_u := Lib.hid o_u
        clear o_u
        have HB_75 := Lib.hid (HB_56.out.trans (l74.mono HB_56.out.size))
        have T21_75 := Lib.hid (T21_56.out.below l74 T21_56.out.lt)
        clear T21_56
        have T23_75 := Lib.hid (T23_56.out.below l74 T23_56.out.lt)
        clear T23_56
        clear HB_56
        clear hc0_T21_59 hc1_T21_59 hc2_T21_59
        obtain ⟨hc0_T21_76, hc1_T21_76, hc2_T21_76⟩ := T21_75.out.cells
        clear hc0_T23_60 hc1_T23_60 hc2_T23_60
        obtain ⟨hc0_T23_77, hc1_T23_77, hc2_T23_77⟩ := T23_75.out.cells
        clear l74
        clear HD4
        have HTi := Lib.hid (fun W h => implTicks_any (.slice (some ⟨g_u, 0, none⟩) us.length c_u) us j y W h)
        have HTs := Lib.hid (fun W h => specTicks_any (.slice (some ⟨g_u, 0, none⟩) us.length c_u) us j y W h)
        generalize tickV us j y = tv at HTi HTs
        generalize tickOk us j y = kn at HTi HTs
        go_wp2_with fail
        refine (HTi.out _ (rowz_own O_u.out)).mono ?_
        rintro e W78 ⟨rfl, l78⟩
        have HB_79 := Lib.hid (HB_75.out.trans (l78.mono HB_75.out.size))
        have u_79 := Lib.hid (ownz_below O_u.out l78 (Nat.le_refl _))
        clear O_u
        have T21_79 := Lib.hid (T21_75.out.below l78 T21_75.out.lt)
        clear T21_75
        have T23_79 := Lib.hid (T23_75.out.below l78 T23_75.out.lt)
        clear T23_75
        clear HB_75
        clear hc0_T21_76 hc1_T21_76 hc2_T21_76
        obtain ⟨hc0_T21_80, hc1_T21_80, hc2_T21_80⟩ := T21_79.out.cells
        clear hc0_T23_77 hc1_T23_77 hc2_T23_77
        obtain ⟨hc0_T23_81, hc1_T23_81, hc2_T23_81⟩ := T23_79.out.cells
        clear l78
        clear HTi
        go_wp2_with fail
        refine (HTs.out _ (rowz_own u_79.out)).mono ?_
        rintro e W82 ⟨rfl, l82⟩
        have HB_83 := Lib.hid (HB_79.out.trans (l82.mono HB_79.out.size))
        have u_83 := Lib.hid (ownz_below u_79.out l82 (Nat.le_refl _))
        clear u_79
        have T21_83 := Lib.hid (T21_79.out.below l82 T21_79.out.lt)
        clear T21_79
        have T23_83 := Lib.hid (T23_79.out.below l82 T23_79.out.lt)
        clear T23_79
        clear HB_79
        clear hc0_T21_80 hc1_T21_80 hc2_T21_80
        obtain ⟨hc0_T21_84, hc1_T21_84, hc2_T21_84⟩ := T21_83.out.cells
        clear hc0_T23_81 hc1_T23_81 hc2_T23_81
        obtain ⟨hc0_T23_85, hc1_T23_85, hc2_T23_85⟩ := T23_83.out.cells
        clear l82
        clear HTs
        go_wp2_with fail
        go_ret
        exact ⟨by simp, HB_83.out⟩
end Go.Proofs.Ytoehedogdbafpaa
