/-
  The law of links: what is sent comes out of the link in order but for its fates.
-/
import Derived.Test.YtbhhmaialilabaaRLink
import Derived.Test.YtbhhmaialilabaaRBig
import Derived.Test.YtbhhmaialilabaaDrawLink4
import Derived.Test.YtbhhmaialilabaaSendI
import Derived.Test.YtbhhmaialilabaaDropI
import Derived.Test.YtbhhmaialilabaaLink4
import Derived.Test.YtbhhmaialilabaaLink6
import Derived.Test.YtbhhmaialilabaaLinkI2
import Derived.Deep.CutRange
import Derived.BigQuiet
import Derived.WalkLawsBesides
namespace Go.Proofs.Ytbhhmaialilabaa
open Go.RowKit Go.Lib Go.Joins
set_option linter.unusedVariables false

/-- What the law asks of a text that is sent. -/
theorem links1 {l : Lk} {s : ByteArray} (h : sendOk l s = true) : lkOk (sendL l s) = true ∧ 0 ≤ l.u ∧ l.u ≤ 40 ∧ ¬ (sendL l s).u < l.u ∧ ¬ l.u + 1 < (sendL l s).u ∧ (sendL l s).q.length ≤ 8 ∧
    ((((nextFate l).toNat : Int) = 108 ∧ (sendL l s).q.length = l.q.length) ∨ (((nextFate l).toNat : Int) = 107 ∧ (sendL l s).q = l.q ++ [s]) ∨
     (((nextFate l).toNat : Int) = 100 ∧ (sendL l s).q.length = l.q.length + 2) ∨ (((nextFate l).toNat : Int) ≠ 108 ∧ ((nextFate l).toNat : Int) ≠ 107 ∧ (sendL l s).q.length = l.q.length + 1)) := by
  obtain ⟨h1, h2, h3, h4, h5, h6, h7, h8, h9⟩ := send_law h
  obtain ⟨a1, a2, a3, a4, a5, a6⟩ := lkOk_parts (sendOk_parts h).1
  obtain ⟨b1, b2, b3, b4, b5, b6⟩ := lkOk_parts h1
  rw [h2]
  refine ⟨h1, a5, by omega, by omega, by omega, b3, ?_⟩
  have e108 := byte_is (fateB l) 108 (by omega)
  have e107 := byte_is (fateB l) 107 (by omega)
  have e100 := byte_is (fateB l) 100 (by omega)
  by_cases c1 : fateB l = 108
  · exact .inl ⟨e108.1 c1, h5.1 c1⟩
  · by_cases c2 : fateB l = 107
    · exact .inr (.inl ⟨e107.1 c2, h9 c2⟩)
    · by_cases c3 : (sendL l s).q.length = l.q.length + 2
      · exact .inr (.inr (.inl ⟨e100.1 (h6 c3), c3⟩))
      · refine .inr (.inr (.inr ⟨fun e => c1 (e108.2 e), fun e => c2 (e107.2 e), ?_⟩))
        have : (sendL l s).q.length ≠ l.q.length := fun e => c1 (h5.2 e)
        omega
set_option maxRecDepth 100000 in
set_option maxHeartbeats 16000000 in
theorem fnLinks_walk (w : World) (v0 : Value) (z0 : List Int) (w0 : Row w v0 z0.length (z0.map (Value.int .u8))) (b0 : ∀ z ∈ z0, (Lit.int .u8 z).wf = true) (_hsh : w.ShapedOpen Try.prog) :
    Calls Try.prog 3 #[v0] w fun e w' => e = .returned (.bool true) ∧ Below w.heap.size w w' := by
  clear _hsh
  have hz : ∀ x ∈ z0, 0 ≤ x ∧ x < 256 := fun x hx => by have := bounds_u8 (b0 x hx); omega
  by_cases hbig : (65536 : Int) < z0.length
  · have HV := Lib.hid (rBig_row v0 _ _ true w0 (decide_eq_true hbig))
    clear w0 b0 hz
    go_enter Try.func3, Try.ntmps3
    go_wp2_with (go_at_call 14; refine (HV.out _).mono ?_; rintro e w' ⟨rfl, rfl⟩)
    go_ret
    exact ⟨rfl, Below.refl _ _⟩
  have HV := Lib.hid (rBig_row v0 _ _ false w0 (decide_eq_false hbig))
  have HR := Lib.hid w0
  have HD1 := Lib.hid (fun w hr => drawSend_any v0 z0 w hr hz)
  have HD2 := Lib.hid (fun w hr => drawTakeL_any v0 z0 w hr hz)
  have HD3 := Lib.hid (fun w hr => drawDrop_any v0 z0 w hr hz)
  have HD4 := Lib.hid (fun w hr => drawNewL_any v0 z0 w hr hz)
  clear w0 b0 hz hbig
  go_enter Try.func3, Try.ntmps3
  go_wp2_with fail
  refine (HV.out _).mono ?_
  rintro e w' ⟨rfl, rfl⟩
  clear HV
  go_wp2_with fail
  refine (HD1.out _ (HR.out.below (Below.refl _ _) (Nat.le_refl _))).mono ?_
  rintro e W2 ⟨v_l, l, s, rfl, o_l, hf1, hq1, hs1, l2⟩
  obtain ⟨a_l, c_l, rfl, _, _⟩ := own_someS0 o_l
  have O_l := Lib.hid o_l
  clear o_l
  have HB_3 := Lib.hid l2
  clear l2
  clear HD1
  go_upto_region 4 with fail
  obtain ⟨W4, hW4⟩ : ∃ W4, W4 = W2.alloc (.cells #[.slice a_l l.q.length c_l, .string l.f, .int .i64 l.u] 26) := ⟨_, rfl⟩
  have l4 : Below W2.heap.size W2 W4 := by rw [hW4]; exact (Below.refl _ _).alloc (Nat.le_refl _) _
  have T3_b4 : Hid (Lq W4 W2.heap.size (.slice a_l l.q.length c_l) l.f l.u) := Lib.hid (by rw [hW4]; exact Lq.new _ _ _ _)
  rw [← hW4]
  clear hW4
  obtain ⟨X_T3, hX_T3⟩ : ∃ X, X = W2.heap.size := ⟨_, rfl⟩
  rw [← hX_T3] at T3_b4 ⊢
  clear hX_T3
  have HB_5 := Lib.hid (HB_3.out.trans (l4.mono HB_3.out.size))
  have l_5 := Lib.hid (own_below O_l.out l4 (Nat.le_refl _))
  clear O_l
  clear HB_3
  clear l4
  obtain ⟨hc0_T3_6, hc1_T3_6, hc2_T3_6⟩ := T3_b4.out.cells
  have HSi := Lib.hid (fun W h hfa => implSend_any (.slice a_l l.q.length c_l) l s W h hfa)
  have HSs := Lib.hid (fun W h (hfa : FitA (.slice a_l l.q.length c_l) l.q.length) => specSend_any (.slice a_l l.q.length c_l) l s W h hfa.fitS (by omega))
  have HNi := Lib.hid (fun W h => implNextFate_any (.slice a_l l.q.length c_l) l W h)
  have HNs := Lib.hid (fun W h => specNextFate_any (.slice a_l l.q.length c_l) l W h (by omega))
  have HVi := Lib.hid (fun W h => implIsLink_any (.slice a_l l.q.length c_l) l W h)
  have HF := Lib.hid (@links1 l s)
  have HVm := Lib.hid (fun (v : Value) W h => implIsLink_any v (sendL l s) W h)
  generalize sendL l s = m at HSi HSs HF HVm
  generalize sendOk l s = ok at HSi HSs HF
  generalize ((nextFate l).toNat : Int) = x at HNi HNs HF
  generalize lkOk l = fine at HNi HNs HVi
  go_wp2_with fail
  refine (HSi.out _ (row_own l_5.out) (fitA_own l_5.out)).mono ?_
  rintro e W7 ⟨v_m, rfl, o_m, l7⟩
  obtain ⟨a_m, c_m, rfl, _, _⟩ := own_someS0 o_m
  have O_m := Lib.hid o_m
  clear o_m
  have HB_8 := Lib.hid (HB_5.out.trans (l7.mono HB_5.out.size))
  have l_8 := Lib.hid (own_below l_5.out l7 (Nat.le_refl _))
  clear l_5
  have T3_8 := Lib.hid (T3_b4.out.below l7 T3_b4.out.lt)
  clear T3_b4
  clear HB_5
  clear hc0_T3_6 hc1_T3_6 hc2_T3_6
  obtain ⟨hc0_T3_9, hc1_T3_9, hc2_T3_9⟩ := T3_8.out.cells
  clear l7
  clear HSi
  go_upto_region 5 with fail
  obtain ⟨W10, hW10⟩ : ∃ W10, W10 = W7.alloc (.cells #[.slice a_m m.q.length c_m, .string m.f, .int .i64 m.u] 26) := ⟨_, rfl⟩
  have l10 : Below W7.heap.size W7 W10 := by rw [hW10]; exact (Below.refl _ _).alloc (Nat.le_refl _) _
  have T5_b10 : Hid (Lq W10 W7.heap.size (.slice a_m m.q.length c_m) m.f m.u) := Lib.hid (by rw [hW10]; exact Lq.new _ _ _ _)
  rw [← hW10]
  clear hW10
  obtain ⟨X_T5, hX_T5⟩ : ∃ X, X = W7.heap.size := ⟨_, rfl⟩
  rw [← hX_T5] at T5_b10 ⊢
  clear hX_T5
  have HB_11 := Lib.hid (HB_8.out.trans (l10.mono HB_8.out.size))
  have l_11 := Lib.hid (own_below l_8.out l10 (Nat.le_refl _))
  clear l_8
  have m_11 := Lib.hid (own_below O_m.out l10 (Nat.le_refl _))
  clear O_m
  have T3_11 := Lib.hid (T3_8.out.below l10 T3_8.out.lt)
  clear T3_8
  clear HB_8
  clear hc0_T3_9 hc1_T3_9 hc2_T3_9
  obtain ⟨hc0_T3_12, hc1_T3_12, hc2_T3_12⟩ := T3_11.out.cells
  clear l10
  clear hc0_T3_12 hc1_T3_12 hc2_T3_12
  obtain ⟨hc0_T3_13, hc1_T3_13, hc2_T3_13⟩ := T3_11.out.cells
  obtain ⟨hc0_T5_14, hc1_T5_14, hc2_T5_14⟩ := T5_b10.out.cells
  go_wp2_with fail
  refine (HSs.out _ (row_own l_11.out) (fitA_own l_11.out)).mono ?_
  rintro e W15 ⟨v_w, rfl, o_w, l15⟩
  obtain ⟨a_w, c_w, rfl, _, _⟩ := own_someS0 o_w
  have O_w := Lib.hid o_w
  clear o_w
  have HB_16 := Lib.hid (HB_11.out.trans (l15.mono HB_11.out.size))
  have l_16 := Lib.hid (own_below l_11.out l15 (Nat.le_refl _))
  clear l_11
  have m_16 := Lib.hid (own_below m_11.out l15 (Nat.le_refl _))
  clear m_11
  have T3_16 := Lib.hid (T3_11.out.below l15 T3_11.out.lt)
  clear T3_11
  have T5_16 := Lib.hid (T5_b10.out.below l15 T5_b10.out.lt)
  clear T5_b10
  clear HB_11
  clear hc0_T3_13 hc1_T3_13 hc2_T3_13
  obtain ⟨hc0_T3_17, hc1_T3_17, hc2_T3_17⟩ := T3_16.out.cells
  clear hc0_T5_14 hc1_T5_14 hc2_T5_14
  obtain ⟨hc0_T5_18, hc1_T5_18, hc2_T5_18⟩ := T5_16.out.cells
  clear l15
  clear HSs
  go_upto_region 6 with fail
  obtain ⟨W19, hW19⟩ : ∃ W19, W19 = W15.alloc (.cells #[.slice a_w m.q.length c_w, .string m.f, .int .i64 m.u] 26) := ⟨_, rfl⟩
  have l19 : Below W15.heap.size W15 W19 := by rw [hW19]; exact (Below.refl _ _).alloc (Nat.le_refl _) _
  have T7_b19 : Hid (Lq W19 W15.heap.size (.slice a_w m.q.length c_w) m.f m.u) := Lib.hid (by rw [hW19]; exact Lq.new _ _ _ _)
  rw [← hW19]
  clear hW19
  obtain ⟨X_T7, hX_T7⟩ : ∃ X, X = W15.heap.size := ⟨_, rfl⟩
  rw [← hX_T7] at T7_b19 ⊢
  clear hX_T7
  have HB_20 := Lib.hid (HB_16.out.trans (l19.mono HB_16.out.size))
  have l_20 := Lib.hid (own_below l_16.out l19 (Nat.le_refl _))
  clear l_16
  have m_20 := Lib.hid (own_below m_16.out l19 (Nat.le_refl _))
  clear m_16
  have w_20 := Lib.hid (own_below O_w.out l19 (Nat.le_refl _))
  clear O_w
  have T3_20 := Lib.hid (T3_16.out.below l19 T3_16.out.lt)
  clear T3_16
  have T5_20 := Lib.hid (T5_16.out.below l19 T5_16.out.lt)
  clear T5_16
  clear HB_16
  clear hc0_T3_17 hc1_T3_17 hc2_T3_17
  obtain ⟨hc0_T3_21, hc1_T3_21, hc2_T3_21⟩ := T3_20.out.cells
  clear hc0_T5_18 hc1_T5_18 hc2_T5_18
  obtain ⟨hc0_T5_22, hc1_T5_22, hc2_T5_22⟩ := T5_20.out.cells
  clear l19
  clear hc0_T3_21 hc1_T3_21 hc2_T3_21
  obtain ⟨hc0_T3_23, hc1_T3_23, hc2_T3_23⟩ := T3_20.out.cells
  clear hc0_T5_22 hc1_T5_22 hc2_T5_22
  obtain ⟨hc0_T5_24, hc1_T5_24, hc2_T5_24⟩ := T5_20.out.cells
  obtain ⟨hc0_T7_25, hc1_T7_25, hc2_T7_25⟩ := T7_b19.out.cells
  go_wp2_with fail
  refine (rLinks_same _ _ m _ (row_own m_20.out) (row_own w_20.out)).mono ?_
  rintro e W26 ⟨rfl, l26⟩
  have HB_27 := Lib.hid (HB_20.out.trans (l26.mono HB_20.out.size))
  have l_27 := Lib.hid (own_below l_20.out l26 (Nat.le_refl _))
  clear l_20
  have m_27 := Lib.hid (own_below m_20.out l26 (Nat.le_refl _))
  clear m_20
  have w_27 := Lib.hid (own_below w_20.out l26 (Nat.le_refl _))
  clear w_20
  have T3_27 := Lib.hid (T3_20.out.below l26 T3_20.out.lt)
  clear T3_20
  have T5_27 := Lib.hid (T5_20.out.below l26 T5_20.out.lt)
  clear T5_20
  have T7_27 := Lib.hid (T7_b19.out.below l26 T7_b19.out.lt)
  clear T7_b19
  clear HB_20
  clear hc0_T3_23 hc1_T3_23 hc2_T3_23
  obtain ⟨hc0_T3_28, hc1_T3_28, hc2_T3_28⟩ := T3_27.out.cells
  clear hc0_T5_24 hc1_T5_24 hc2_T5_24
  obtain ⟨hc0_T5_29, hc1_T5_29, hc2_T5_29⟩ := T5_27.out.cells
  clear hc0_T7_25 hc1_T7_25 hc2_T7_25
  obtain ⟨hc0_T7_30, hc1_T7_30, hc2_T7_30⟩ := T7_27.out.cells
  clear l26
  clear w_27
  clear T7_27 hc0_T7_30 hc1_T7_30 hc2_T7_30
  go_wp2_with fail
  refine (HNi.out _ (row_own l_27.out)).mono ?_
  rintro e W31 ⟨rfl, l31⟩
  have HB_32 := Lib.hid (HB_27.out.trans (l31.mono HB_27.out.size))
  have l_32 := Lib.hid (own_below l_27.out l31 (Nat.le_refl _))
  clear l_27
  have m_32 := Lib.hid (own_below m_27.out l31 (Nat.le_refl _))
  clear m_27
  have T3_32 := Lib.hid (T3_27.out.below l31 T3_27.out.lt)
  clear T3_27
  have T5_32 := Lib.hid (T5_27.out.below l31 T5_27.out.lt)
  clear T5_27
  clear HB_27
  clear hc0_T3_28 hc1_T3_28 hc2_T3_28
  obtain ⟨hc0_T3_33, hc1_T3_33, hc2_T3_33⟩ := T3_32.out.cells
  clear hc0_T5_29 hc1_T5_29 hc2_T5_29
  obtain ⟨hc0_T5_34, hc1_T5_34, hc2_T5_34⟩ := T5_32.out.cells
  clear l31
  clear HNi
  go_wp2_with fail
  refine (HNs.out _ (row_own l_32.out)).mono ?_
  rintro e W35 ⟨rfl, l35⟩
  have HB_36 := Lib.hid (HB_32.out.trans (l35.mono HB_32.out.size))
  have l_36 := Lib.hid (own_below l_32.out l35 (Nat.le_refl _))
  clear l_32
  have m_36 := Lib.hid (own_below m_32.out l35 (Nat.le_refl _))
  clear m_32
  have T3_36 := Lib.hid (T3_32.out.below l35 T3_32.out.lt)
  clear T3_32
  have T5_36 := Lib.hid (T5_32.out.below l35 T5_32.out.lt)
  clear T5_32
  clear HB_32
  clear hc0_T3_33 hc1_T3_33 hc2_T3_33
  obtain ⟨hc0_T3_37, hc1_T3_37, hc2_T3_37⟩ := T3_36.out.cells
  clear hc0_T5_34 hc1_T5_34 hc2_T5_34
  obtain ⟨hc0_T5_38, hc1_T5_38, hc2_T5_38⟩ := T5_36.out.cells
  clear l35
  clear HNs
  go_wp2_with fail
  refine (HVi.out _ (row_own l_36.out)).mono ?_
  rintro e W39 ⟨rfl, l39⟩
  have HB_40 := Lib.hid (HB_36.out.trans (l39.mono HB_36.out.size))
  have l_40 := Lib.hid (own_below l_36.out l39 (Nat.le_refl _))
  clear l_36
  have m_40 := Lib.hid (own_below m_36.out l39 (Nat.le_refl _))
  clear m_36
  have T3_40 := Lib.hid (T3_36.out.below l39 T3_36.out.lt)
  clear T3_36
  have T5_40 := Lib.hid (T5_36.out.below l39 T5_36.out.lt)
  clear T5_36
  clear HB_36
  clear hc0_T3_37 hc1_T3_37 hc2_T3_37
  obtain ⟨hc0_T3_41, hc1_T3_41, hc2_T3_41⟩ := T3_40.out.cells
  clear hc0_T5_38 hc1_T5_38 hc2_T5_38
  obtain ⟨hc0_T5_42, hc1_T5_42, hc2_T5_42⟩ := T5_40.out.cells
  clear l39
  clear HVi
  go_upto_if 86 with fail
  go_cut [] from 13 to 144 (fun wx => Hid (Below W39.heap.size W39 wx))
  case first => as_aux_lemma =>
    cases ok with
    | false =>
      have HZ := Lib.hid (Below.refl W39.heap.size W39)
      clear HF
      go_wp2_with fail
      go_meet
      case rel => exact HZ
    | true =>
      obtain ⟨e1, u0, u1, u2, u3, hm8, hcs⟩ := HF.out rfl
      clear HF
      have HVx := Lib.hid (HVm.out (.slice a_m m.q.length c_m) W39 (row_own m_40.out))
      rw [e1] at HVx
      have hw2 : IntKind.i64.wrap (l.u + 1) = l.u + 1 := IntWalk.i64_in _ (by omega)
      clear e1 HVm
      have HCs := Lib.hid hcs
      clear hcs
      rcases HCs.out with ⟨rfl, hn⟩ | ⟨rfl, hmq⟩ | ⟨rfl, hn⟩ | ⟨hx1, hx2, hn⟩
      · have hw : IntKind.i64.wrap ((m.q.length : Int) - (l.q.length : Int)) = 0 := by rw [IntWalk.i64_in _ (by omega)]; omega
        clear HCs hn hm8
        go_wp2_with fail
        refine HVx.out.mono ?_
        rintro e X1 ⟨rfl, lx⟩
        have HX1 := Lib.hid lx
        obtain ⟨d0, d1, d2⟩ := (T3_40.out.below lx T3_40.out.lt).cells
        obtain ⟨e0, e1, e2⟩ := (T5_40.out.below lx T5_40.out.lt).cells
        clear lx
        go_wp2_with fail
        go_meet
        case rel => exact HX1
      · have hlen : m.q.length = l.q.length + 1 := by rw [hmq, List.length_append]; rfl
        have hw : IntKind.i64.wrap ((m.q.length : Int) - (l.q.length : Int)) = 1 := by rw [IntWalk.i64_in _ (by omega)]; omega
        have hw3 : IntKind.i64.wrap ((m.q.length : Int) - 1) = (l.q.length : Int) := by rw [IntWalk.i64_in _ (by omega)]; omega
        have hw4 : (l.q.length : Int) < (m.q.length : Int) := by omega
        have hw5 : (0 : Int) ≤ (l.q.length : Int) := by omega
        have HOm := Lib.hid m_40.out
        obtain ⟨gm, cm, hgm⟩ := own_form HOm.out (by omega)
        injection hgm with hgm hg2 hg3
        clear hg2 hg3
        subst hgm
        have HLast := Lib.hid (fun (W : World) (hb : Below W39.heap.size W39 W) => (show W.cell? ⟨gm, l.q.length, none⟩ = some (.string s) by
            have hl := own_below HOm.out hb (Nat.le_refl _)
            obtain ⟨⟨u, hu, hc⟩, _⟩ := own_facts (j := l.q.length) hl (by omega)
            have hu2 : (m.q.map Value.string)[l.q.length]? = some (.string s) := by rw [hmq]; simp
            rw [hu2] at hu
            rw [hc]
            exact hu.symm))
        clear HCs hmq hlen hm8 HOm
        go_wp2_with fail
        refine HVx.out.mono ?_
        rintro e X1 ⟨rfl, lx⟩
        have HX1 := Lib.hid lx
        obtain ⟨d0, d1, d2⟩ := (T3_40.out.below lx T3_40.out.lt).cells
        obtain ⟨e0, e1, e2⟩ := (T5_40.out.below lx T5_40.out.lt).cells
        clear lx
        have hlast := HLast.out X1 HX1.out
        go_wp2_with fail
        go_meet
        case rel => exact HX1
      · have hw : IntKind.i64.wrap ((m.q.length : Int) - (l.q.length : Int)) = 2 := by rw [IntWalk.i64_in _ (by omega)]; omega
        clear HCs hn hm8
        go_wp2_with fail
        refine HVx.out.mono ?_
        rintro e X1 ⟨rfl, lx⟩
        have HX1 := Lib.hid lx
        obtain ⟨d0, d1, d2⟩ := (T3_40.out.below lx T3_40.out.lt).cells
        obtain ⟨e0, e1, e2⟩ := (T5_40.out.below lx T5_40.out.lt).cells
        clear lx
        go_wp2_with fail
        go_meet
        case rel => exact HX1
      · have hw : IntKind.i64.wrap ((m.q.length : Int) - (l.q.length : Int)) = 1 := by rw [IntWalk.i64_in _ (by omega)]; omega
        have hx3 : (x == 108) = false := by simp; exact hx1
        have hx4 : (x == 107) = false := by simp; exact hx2
        clear HCs hn hm8 hx1 hx2
        go_wp2_with fail
        refine HVx.out.mono ?_
        rintro e X1 ⟨rfl, lx⟩
        have HX1 := Lib.hid lx
        obtain ⟨d0, d1, d2⟩ := (T3_40.out.below lx T3_40.out.lt).cells
        obtain ⟨e0, e1, e2⟩ := (T5_40.out.below lx T5_40.out.lt).cells
        clear lx
        go_wp2_with fail
        go_meet
        case rel => exact HX1
  case rest => as_aux_lemma =>
    rename World => W43
    have l43 := hcut.out
    clear hcut HF HVm hf1 hq1 hs1
    clear l_40
    clear m_40
    clear T3_40 hc0_T3_41 hc1_T3_41 hc2_T3_41
    clear T5_40 hc0_T5_42 hc1_T5_42 hc2_T5_42
    have HB_44 := Lib.hid (HB_40.out.trans (l43.mono HB_40.out.size))
    clear HB_40
    clear l43
    go_wp2_with fail
    refine (HD2.out _ (HR.out.below HB_44.out (Nat.le_refl _))).mono ?_
    rintro e W45 ⟨v_t, t, rfl, o_t, hf2, hq2, l45⟩
    obtain ⟨a_t, c_t, rfl, _, _⟩ := own_someS0 o_t
    have O_t := Lib.hid o_t
    clear o_t
    have HB_46 := Lib.hid (HB_44.out.trans (l45.mono HB_44.out.size))
    clear HB_44
    clear l45
    clear HD2
    go_upto_region 19 with fail
    obtain ⟨W47, hW47⟩ : ∃ W47, W47 = W45.alloc (.cells #[.slice a_t t.q.length c_t, .string t.f, .int .i64 t.u] 26) := ⟨_, rfl⟩
    have l47 : Below W45.heap.size W45 W47 := by rw [hW47]; exact (Below.refl _ _).alloc (Nat.le_refl _) _
    have T14_b47 : Hid (Lq W47 W45.heap.size (.slice a_t t.q.length c_t) t.f t.u) := Lib.hid (by rw [hW47]; exact Lq.new _ _ _ _)
    rw [← hW47]
    clear hW47
    obtain ⟨X_T14, hX_T14⟩ : ∃ X, X = W45.heap.size := ⟨_, rfl⟩
    rw [← hX_T14] at T14_b47 ⊢
    clear hX_T14
    have HB_48 := Lib.hid (HB_46.out.trans (l47.mono HB_46.out.size))
    have t_48 := Lib.hid (own_below O_t.out l47 (Nat.le_refl _))
    clear O_t
    clear HB_46
    clear l47
    obtain ⟨hc0_T14_49, hc1_T14_49, hc2_T14_49⟩ := T14_b47.out.cells
    have HTi := Lib.hid (fun W h hfa => implTake_any (.slice a_t t.q.length c_t) t W h hfa)
    have HTs := Lib.hid (fun W h => specTake_any (.slice a_t t.q.length c_t) t W h (by omega))
    have HDi := Lib.hid (fun W h hfa => implDrop_any (.slice a_t t.q.length c_t) t 0 W h hfa)
    have HF := Lib.hid (@take_law t)
    generalize takeL t = rest at HTi HTs HF
    generalize takeS t = first at HTi HTs HF
    generalize takeOk t = told at HTi HTs HF
    generalize dropL t 0 = dropped at HDi HF
    generalize dropOk t 0 = one at HDi HF
    go_wp2_with fail
    refine (HTi.out _ (row_own t_48.out) (fitA_own t_48.out)).mono ?_
    rintro e W50 ⟨v_r, rfl, o_r, l50⟩
    obtain ⟨a_r, c_r, rfl, _, _⟩ := own_someS0 o_r
    have O_r := Lib.hid o_r
    clear o_r
    have HB_51 := Lib.hid (HB_48.out.trans (l50.mono HB_48.out.size))
    have t_51 := Lib.hid (own_below t_48.out l50 (Nat.le_refl _))
    clear t_48
    have T14_51 := Lib.hid (T14_b47.out.below l50 T14_b47.out.lt)
    clear T14_b47
    clear HB_48
    clear hc0_T14_49 hc1_T14_49 hc2_T14_49
    obtain ⟨hc0_T14_52, hc1_T14_52, hc2_T14_52⟩ := T14_51.out.cells
    clear l50
    clear HTi
    go_upto_region 20 with fail
    obtain ⟨W53, hW53⟩ : ∃ W53, W53 = W50.alloc (.cells #[.slice a_r rest.q.length c_r, .string rest.f, .int .i64 rest.u] 26) := ⟨_, rfl⟩
    have l53 : Below W50.heap.size W50 W53 := by rw [hW53]; exact (Below.refl _ _).alloc (Nat.le_refl _) _
    have T15_b53 : Hid (Lq W53 W50.heap.size (.slice a_r rest.q.length c_r) rest.f rest.u) := Lib.hid (by rw [hW53]; exact Lq.new _ _ _ _)
    rw [← hW53]
    clear hW53
    obtain ⟨X_T15, hX_T15⟩ : ∃ X, X = W50.heap.size := ⟨_, rfl⟩
    rw [← hX_T15] at T15_b53 ⊢
    clear hX_T15
    have HB_54 := Lib.hid (HB_51.out.trans (l53.mono HB_51.out.size))
    have t_54 := Lib.hid (own_below t_51.out l53 (Nat.le_refl _))
    clear t_51
    have r_54 := Lib.hid (own_below O_r.out l53 (Nat.le_refl _))
    clear O_r
    have T14_54 := Lib.hid (T14_51.out.below l53 T14_51.out.lt)
    clear T14_51
    clear HB_51
    clear hc0_T14_52 hc1_T14_52 hc2_T14_52
    obtain ⟨hc0_T14_55, hc1_T14_55, hc2_T14_55⟩ := T14_54.out.cells
    clear l53
    clear hc0_T14_55 hc1_T14_55 hc2_T14_55
    obtain ⟨hc0_T14_56, hc1_T14_56, hc2_T14_56⟩ := T14_54.out.cells
    obtain ⟨hc0_T15_57, hc1_T15_57, hc2_T15_57⟩ := T15_b53.out.cells
    go_wp2_with fail
    refine (HTs.out _ (row_own t_54.out)).mono ?_
    rintro e W58 ⟨v_w, rfl, o_w, l58⟩
    obtain ⟨a_w, c_w, rfl, _, _⟩ := own_someS0 o_w
    have O_w := Lib.hid o_w
    clear o_w
    have HB_59 := Lib.hid (HB_54.out.trans (l58.mono HB_54.out.size))
    have t_59 := Lib.hid (own_below t_54.out l58 (Nat.le_refl _))
    clear t_54
    have r_59 := Lib.hid (own_below r_54.out l58 (Nat.le_refl _))
    clear r_54
    have T14_59 := Lib.hid (T14_54.out.below l58 T14_54.out.lt)
    clear T14_54
    have T15_59 := Lib.hid (T15_b53.out.below l58 T15_b53.out.lt)
    clear T15_b53
    clear HB_54
    clear hc0_T14_56 hc1_T14_56 hc2_T14_56
    obtain ⟨hc0_T14_60, hc1_T14_60, hc2_T14_60⟩ := T14_59.out.cells
    clear hc0_T15_57 hc1_T15_57 hc2_T15_57
    obtain ⟨hc0_T15_61, hc1_T15_61, hc2_T15_61⟩ := T15_59.out.cells
    clear l58
    clear HTs
    go_upto_region 21 with fail
    obtain ⟨W62, hW62⟩ : ∃ W62, W62 = W58.alloc (.cells #[.slice a_w rest.q.length c_w, .string rest.f, .int .i64 rest.u] 26) := ⟨_, rfl⟩
    have l62 : Below W58.heap.size W58 W62 := by rw [hW62]; exact (Below.refl _ _).alloc (Nat.le_refl _) _
    have T18_b62 : Hid (Lq W62 W58.heap.size (.slice a_w rest.q.length c_w) rest.f rest.u) := Lib.hid (by rw [hW62]; exact Lq.new _ _ _ _)
    rw [← hW62]
    clear hW62
    obtain ⟨X_T18, hX_T18⟩ : ∃ X, X = W58.heap.size := ⟨_, rfl⟩
    rw [← hX_T18] at T18_b62 ⊢
    clear hX_T18
    have HB_63 := Lib.hid (HB_59.out.trans (l62.mono HB_59.out.size))
    have t_63 := Lib.hid (own_below t_59.out l62 (Nat.le_refl _))
    clear t_59
    have r_63 := Lib.hid (own_below r_59.out l62 (Nat.le_refl _))
    clear r_59
    have w_63 := Lib.hid (own_below O_w.out l62 (Nat.le_refl _))
    clear O_w
    have T14_63 := Lib.hid (T14_59.out.below l62 T14_59.out.lt)
    clear T14_59
    have T15_63 := Lib.hid (T15_59.out.below l62 T15_59.out.lt)
    clear T15_59
    clear HB_59
    clear hc0_T14_60 hc1_T14_60 hc2_T14_60
    obtain ⟨hc0_T14_64, hc1_T14_64, hc2_T14_64⟩ := T14_63.out.cells
    clear hc0_T15_61 hc1_T15_61 hc2_T15_61
    obtain ⟨hc0_T15_65, hc1_T15_65, hc2_T15_65⟩ := T15_63.out.cells
    clear l62
    clear hc0_T14_64 hc1_T14_64 hc2_T14_64
    obtain ⟨hc0_T14_66, hc1_T14_66, hc2_T14_66⟩ := T14_63.out.cells
    clear hc0_T15_65 hc1_T15_65 hc2_T15_65
    obtain ⟨hc0_T15_67, hc1_T15_67, hc2_T15_67⟩ := T15_63.out.cells
    obtain ⟨hc0_T18_68, hc1_T18_68, hc2_T18_68⟩ := T18_b62.out.cells
    go_wp2_with fail
    refine (rLinks_same _ _ rest _ (row_own r_63.out) (row_own w_63.out)).mono ?_
    rintro e W69 ⟨rfl, l69⟩
    have HB_70 := Lib.hid (HB_63.out.trans (l69.mono HB_63.out.size))
    have t_70 := Lib.hid (own_below t_63.out l69 (Nat.le_refl _))
    clear t_63
    have r_70 := Lib.hid (own_below r_63.out l69 (Nat.le_refl _))
    clear r_63
    have w_70 := Lib.hid (own_below w_63.out l69 (Nat.le_refl _))
    clear w_63
    have T14_70 := Lib.hid (T14_63.out.below l69 T14_63.out.lt)
    clear T14_63
    have T15_70 := Lib.hid (T15_63.out.below l69 T15_63.out.lt)
    clear T15_63
    have T18_70 := Lib.hid (T18_b62.out.below l69 T18_b62.out.lt)
    clear T18_b62
    clear HB_63
    clear hc0_T14_66 hc1_T14_66 hc2_T14_66
    obtain ⟨hc0_T14_71, hc1_T14_71, hc2_T14_71⟩ := T14_70.out.cells
    clear hc0_T15_67 hc1_T15_67 hc2_T15_67
    obtain ⟨hc0_T15_72, hc1_T15_72, hc2_T15_72⟩ := T15_70.out.cells
    clear hc0_T18_68 hc1_T18_68 hc2_T18_68
    obtain ⟨hc0_T18_73, hc1_T18_73, hc2_T18_73⟩ := T18_70.out.cells
    clear l69
    clear w_70
    clear T18_70 hc0_T18_73 hc1_T18_73 hc2_T18_73
    go_upto_if 173 with fail
    go_cut [] from 21 to 194 (fun wx => Hid (Below W69.heap.size W69 wx))
    case first => as_aux_lemma =>
      cases told with
      | false =>
        have HZ := Lib.hid (Below.refl W69.heap.size W69)
        clear HF HDi
        go_wp2_with fail
        go_meet
        case rel => exact HZ
      | true =>
        obtain ⟨e1, e2, hq, e3⟩ := HF.out rfl
        have HE := Lib.hid e3
        clear e3
        subst e1
        subst e2
        clear HF
        have HZ := Lib.hid (Below.refl W69.heap.size W69)
        have hpos : 0 < t.q.length := hq
        have hposI : (0 : Int) < (t.q.length : Int) := by omega
        obtain ⟨gt, ct, hgt⟩ := own_form t_70.out hpos
        injection hgt with hgt hg2 hg3
        clear hg2 hg3
        subst hgt
        go_wp2_with fail
        refine (HDi.out _ (row_own t_70.out) (fitA_own t_70.out)).mono ?_
        rintro e W74 ⟨v_d, rfl, o_d, l74⟩
        obtain ⟨a_d, c_d, rfl, _, _⟩ := own_someS0 o_d
        have O_d := Lib.hid o_d
        clear o_d
        have HB_75 := Lib.hid (HZ.out.trans (l74.mono HZ.out.size))
        have t_75 := Lib.hid (own_below t_70.out l74 (Nat.le_refl _))
        clear t_70
        have r_75 := Lib.hid (own_below r_70.out l74 (Nat.le_refl _))
        clear r_70
        have T14_75 := Lib.hid (T14_70.out.below l74 T14_70.out.lt)
        clear T14_70
        have T15_75 := Lib.hid (T15_70.out.below l74 T15_70.out.lt)
        clear T15_70
        clear HZ
        clear hc0_T14_71 hc1_T14_71 hc2_T14_71
        obtain ⟨hc0_T14_76, hc1_T14_76, hc2_T14_76⟩ := T14_75.out.cells
        clear hc0_T15_72 hc1_T15_72 hc2_T15_72
        obtain ⟨hc0_T15_77, hc1_T15_77, hc2_T15_77⟩ := T15_75.out.cells
        clear l74
        clear HDi
        go_upto_region 25 with fail
        obtain ⟨W78, hW78⟩ : ∃ W78, W78 = W74.alloc (.cells #[.slice a_d dropped.q.length c_d, .string dropped.f, .int .i64 dropped.u] 26) := ⟨_, rfl⟩
        have l78 : Below W74.heap.size W74 W78 := by rw [hW78]; exact (Below.refl _ _).alloc (Nat.le_refl _) _
        have T21_b78 : Hid (Lq W78 W74.heap.size (.slice a_d dropped.q.length c_d) dropped.f dropped.u) := Lib.hid (by rw [hW78]; exact Lq.new _ _ _ _)
        rw [← hW78]
        clear hW78
        obtain ⟨X_T21, hX_T21⟩ : ∃ X, X = W74.heap.size := ⟨_, rfl⟩
        rw [← hX_T21] at T21_b78 ⊢
        clear hX_T21
        have HB_79 := Lib.hid (HB_75.out.trans (l78.mono HB_75.out.size))
        have t_79 := Lib.hid (own_below t_75.out l78 (Nat.le_refl _))
        clear t_75
        have r_79 := Lib.hid (own_below r_75.out l78 (Nat.le_refl _))
        clear r_75
        have d_79 := Lib.hid (own_below O_d.out l78 (Nat.le_refl _))
        clear O_d
        have T14_79 := Lib.hid (T14_75.out.below l78 T14_75.out.lt)
        clear T14_75
        have T15_79 := Lib.hid (T15_75.out.below l78 T15_75.out.lt)
        clear T15_75
        clear HB_75
        clear hc0_T14_76 hc1_T14_76 hc2_T14_76
        obtain ⟨hc0_T14_80, hc1_T14_80, hc2_T14_80⟩ := T14_79.out.cells
        clear hc0_T15_77 hc1_T15_77 hc2_T15_77
        obtain ⟨hc0_T15_81, hc1_T15_81, hc2_T15_81⟩ := T15_79.out.cells
        clear l78
        clear hc0_T14_80 hc1_T14_80 hc2_T14_80
        obtain ⟨hc0_T14_82, hc1_T14_82, hc2_T14_82⟩ := T14_79.out.cells
        clear hc0_T15_81 hc1_T15_81 hc2_T15_81
        obtain ⟨hc0_T15_83, hc1_T15_83, hc2_T15_83⟩ := T15_79.out.cells
        obtain ⟨hc0_T21_84, hc1_T21_84, hc2_T21_84⟩ := T21_b78.out.cells
        go_wp2_with fail
        refine (rLinks_same _ _ dropped _ (row_own d_79.out) (row_own r_79.out)).mono ?_
        rintro e W85 ⟨rfl, l85⟩
        have HB_86 := Lib.hid (HB_79.out.trans (l85.mono HB_79.out.size))
        have t_86 := Lib.hid (own_below t_79.out l85 (Nat.le_refl _))
        clear t_79
        have r_86 := Lib.hid (own_below r_79.out l85 (Nat.le_refl _))
        clear r_79
        have d_86 := Lib.hid (own_below d_79.out l85 (Nat.le_refl _))
        clear d_79
        have T14_86 := Lib.hid (T14_79.out.below l85 T14_79.out.lt)
        clear T14_79
        have T15_86 := Lib.hid (T15_79.out.below l85 T15_79.out.lt)
        clear T15_79
        have T21_86 := Lib.hid (T21_b78.out.below l85 T21_b78.out.lt)
        clear T21_b78
        clear HB_79
        clear hc0_T14_82 hc1_T14_82 hc2_T14_82
        obtain ⟨hc0_T14_87, hc1_T14_87, hc2_T14_87⟩ := T14_86.out.cells
        clear hc0_T15_83 hc1_T15_83 hc2_T15_83
        obtain ⟨hc0_T15_88, hc1_T15_88, hc2_T15_88⟩ := T15_86.out.cells
        clear hc0_T21_84 hc1_T21_84 hc2_T21_84
        obtain ⟨hc0_T21_89, hc1_T21_89, hc2_T21_89⟩ := T21_86.out.cells
        clear l85
        have hfst : W85.cell? ⟨gt, 0, none⟩ = some (.string first) := by
          obtain ⟨⟨u, hu, hc⟩, _⟩ := own_facts (j := 0) t_86.out hpos
          rw [List.getElem?_map, List.getElem?_eq_getElem hq, ← HE.out] at hu
          rw [hc]
          exact hu.symm
        clear HE
        go_wp2_with fail
        go_meet
        case rel => exact HB_86
    case rest => as_aux_lemma =>
      rename World => W90
      have l90 := hcut.out
      clear hcut HF HDi hf2 hq2
      clear t_70
      clear r_70
      clear T14_70 hc0_T14_71 hc1_T14_71 hc2_T14_71
      clear T15_70 hc0_T15_72 hc1_T15_72 hc2_T15_72
      have HB_91 := Lib.hid (HB_70.out.trans (l90.mono HB_70.out.size))
      clear HB_70
      clear l90
      go_wp2_with fail
      refine (HD3.out _ (HR.out.below HB_91.out (Nat.le_refl _))).mono ?_
      rintro e W92 ⟨v_d, d, i, rfl, o_d, hf3, hq3, l92⟩
      obtain ⟨a_d, c_d, rfl, _, _⟩ := own_someS0 o_d
      have O_d := Lib.hid o_d
      clear o_d
      have HB_93 := Lib.hid (HB_91.out.trans (l92.mono HB_91.out.size))
      clear HB_91
      clear l92
      clear HD3
      go_upto_region 28 with fail
      obtain ⟨W94, hW94⟩ : ∃ W94, W94 = W92.alloc (.cells #[.slice a_d d.q.length c_d, .string d.f, .int .i64 d.u] 26) := ⟨_, rfl⟩
      have l94 : Below W92.heap.size W92 W94 := by rw [hW94]; exact (Below.refl _ _).alloc (Nat.le_refl _) _
      have T23_b94 : Hid (Lq W94 W92.heap.size (.slice a_d d.q.length c_d) d.f d.u) := Lib.hid (by rw [hW94]; exact Lq.new _ _ _ _)
      rw [← hW94]
      clear hW94
      obtain ⟨X_T23, hX_T23⟩ : ∃ X, X = W92.heap.size := ⟨_, rfl⟩
      rw [← hX_T23] at T23_b94 ⊢
      clear hX_T23
      have HB_95 := Lib.hid (HB_93.out.trans (l94.mono HB_93.out.size))
      have d_95 := Lib.hid (own_below O_d.out l94 (Nat.le_refl _))
      clear O_d
      clear HB_93
      clear l94
      obtain ⟨hc0_T23_96, hc1_T23_96, hc2_T23_96⟩ := T23_b94.out.cells
      have HDi := Lib.hid (fun W h hfa => implDrop_any (.slice a_d d.q.length c_d) d i W h hfa)
      have HDs := Lib.hid (fun W h => specDrop_any (.slice a_d d.q.length c_d) d i W h (by omega))
      generalize dropL d i = less at HDi HDs
      generalize dropOk d i = known at HDi HDs
      go_wp2_with fail
      refine (HDi.out _ (row_own d_95.out) (fitA_own d_95.out)).mono ?_
      rintro e W97 ⟨v_e, rfl, o_e, l97⟩
      obtain ⟨a_e, c_e, rfl, _, _⟩ := own_someS0 o_e
      have O_e := Lib.hid o_e
      clear o_e
      have HB_98 := Lib.hid (HB_95.out.trans (l97.mono HB_95.out.size))
      have d_98 := Lib.hid (own_below d_95.out l97 (Nat.le_refl _))
      clear d_95
      have T23_98 := Lib.hid (T23_b94.out.below l97 T23_b94.out.lt)
      clear T23_b94
      clear HB_95
      clear hc0_T23_96 hc1_T23_96 hc2_T23_96
      obtain ⟨hc0_T23_99, hc1_T23_99, hc2_T23_99⟩ := T23_98.out.cells
      clear l97
      clear HDi
      go_upto_region 29 with fail
      obtain ⟨W100, hW100⟩ : ∃ W100, W100 = W97.alloc (.cells #[.slice a_e less.q.length c_e, .string less.f, .int .i64 less.u] 26) := ⟨_, rfl⟩
      have l100 : Below W97.heap.size W97 W100 := by rw [hW100]; exact (Below.refl _ _).alloc (Nat.le_refl _) _
      have T25_b100 : Hid (Lq W100 W97.heap.size (.slice a_e less.q.length c_e) less.f less.u) := Lib.hid (by rw [hW100]; exact Lq.new _ _ _ _)
      rw [← hW100]
      clear hW100
      obtain ⟨X_T25, hX_T25⟩ : ∃ X, X = W97.heap.size := ⟨_, rfl⟩
      rw [← hX_T25] at T25_b100 ⊢
      clear hX_T25
      have HB_101 := Lib.hid (HB_98.out.trans (l100.mono HB_98.out.size))
      have d_101 := Lib.hid (own_below d_98.out l100 (Nat.le_refl _))
      clear d_98
      have e_101 := Lib.hid (own_below O_e.out l100 (Nat.le_refl _))
      clear O_e
      have T23_101 := Lib.hid (T23_98.out.below l100 T23_98.out.lt)
      clear T23_98
      clear HB_98
      clear hc0_T23_99 hc1_T23_99 hc2_T23_99
      obtain ⟨hc0_T23_102, hc1_T23_102, hc2_T23_102⟩ := T23_101.out.cells
      clear l100
      clear hc0_T23_102 hc1_T23_102 hc2_T23_102
      obtain ⟨hc0_T23_103, hc1_T23_103, hc2_T23_103⟩ := T23_101.out.cells
      obtain ⟨hc0_T25_104, hc1_T25_104, hc2_T25_104⟩ := T25_b100.out.cells
      go_wp2_with fail
      refine (HDs.out _ (row_own d_101.out)).mono ?_
      rintro e W105 ⟨v_w, rfl, o_w, l105⟩
      obtain ⟨a_w, c_w, rfl, _, _⟩ := own_someS0 o_w
      have O_w := Lib.hid o_w
      clear o_w
      have HB_106 := Lib.hid (HB_101.out.trans (l105.mono HB_101.out.size))
      have d_106 := Lib.hid (own_below d_101.out l105 (Nat.le_refl _))
      clear d_101
      have e_106 := Lib.hid (own_below e_101.out l105 (Nat.le_refl _))
      clear e_101
      have T23_106 := Lib.hid (T23_101.out.below l105 T23_101.out.lt)
      clear T23_101
      have T25_106 := Lib.hid (T25_b100.out.below l105 T25_b100.out.lt)
      clear T25_b100
      clear HB_101
      clear hc0_T23_103 hc1_T23_103 hc2_T23_103
      obtain ⟨hc0_T23_107, hc1_T23_107, hc2_T23_107⟩ := T23_106.out.cells
      clear hc0_T25_104 hc1_T25_104 hc2_T25_104
      obtain ⟨hc0_T25_108, hc1_T25_108, hc2_T25_108⟩ := T25_106.out.cells
      clear l105
      clear HDs
      go_upto_region 30 with fail
      obtain ⟨W109, hW109⟩ : ∃ W109, W109 = W105.alloc (.cells #[.slice a_w less.q.length c_w, .string less.f, .int .i64 less.u] 26) := ⟨_, rfl⟩
      have l109 : Below W105.heap.size W105 W109 := by rw [hW109]; exact (Below.refl _ _).alloc (Nat.le_refl _) _
      have T27_b109 : Hid (Lq W109 W105.heap.size (.slice a_w less.q.length c_w) less.f less.u) := Lib.hid (by rw [hW109]; exact Lq.new _ _ _ _)
      rw [← hW109]
      clear hW109
      obtain ⟨X_T27, hX_T27⟩ : ∃ X, X = W105.heap.size := ⟨_, rfl⟩
      rw [← hX_T27] at T27_b109 ⊢
      clear hX_T27
      have HB_110 := Lib.hid (HB_106.out.trans (l109.mono HB_106.out.size))
      have d_110 := Lib.hid (own_below d_106.out l109 (Nat.le_refl _))
      clear d_106
      have e_110 := Lib.hid (own_below e_106.out l109 (Nat.le_refl _))
      clear e_106
      have w_110 := Lib.hid (own_below O_w.out l109 (Nat.le_refl _))
      clear O_w
      have T23_110 := Lib.hid (T23_106.out.below l109 T23_106.out.lt)
      clear T23_106
      have T25_110 := Lib.hid (T25_106.out.below l109 T25_106.out.lt)
      clear T25_106
      clear HB_106
      clear hc0_T23_107 hc1_T23_107 hc2_T23_107
      obtain ⟨hc0_T23_111, hc1_T23_111, hc2_T23_111⟩ := T23_110.out.cells
      clear hc0_T25_108 hc1_T25_108 hc2_T25_108
      obtain ⟨hc0_T25_112, hc1_T25_112, hc2_T25_112⟩ := T25_110.out.cells
      clear l109
      clear hc0_T23_111 hc1_T23_111 hc2_T23_111
      obtain ⟨hc0_T23_113, hc1_T23_113, hc2_T23_113⟩ := T23_110.out.cells
      clear hc0_T25_112 hc1_T25_112 hc2_T25_112
      obtain ⟨hc0_T25_114, hc1_T25_114, hc2_T25_114⟩ := T25_110.out.cells
      obtain ⟨hc0_T27_115, hc1_T27_115, hc2_T27_115⟩ := T27_b109.out.cells
      go_wp2_with fail
      refine (rLinks_same _ _ less _ (row_own e_110.out) (row_own w_110.out)).mono ?_
      rintro e W116 ⟨rfl, l116⟩
      have HB_117 := Lib.hid (HB_110.out.trans (l116.mono HB_110.out.size))
      have d_117 := Lib.hid (own_below d_110.out l116 (Nat.le_refl _))
      clear d_110
      have e_117 := Lib.hid (own_below e_110.out l116 (Nat.le_refl _))
      clear e_110
      have w_117 := Lib.hid (own_below w_110.out l116 (Nat.le_refl _))
      clear w_110
      have T23_117 := Lib.hid (T23_110.out.below l116 T23_110.out.lt)
      clear T23_110
      have T25_117 := Lib.hid (T25_110.out.below l116 T25_110.out.lt)
      clear T25_110
      have T27_117 := Lib.hid (T27_b109.out.below l116 T27_b109.out.lt)
      clear T27_b109
      clear HB_110
      clear hc0_T23_113 hc1_T23_113 hc2_T23_113
      obtain ⟨hc0_T23_118, hc1_T23_118, hc2_T23_118⟩ := T23_117.out.cells
      clear hc0_T25_114 hc1_T25_114 hc2_T25_114
      obtain ⟨hc0_T25_119, hc1_T25_119, hc2_T25_119⟩ := T25_117.out.cells
      clear hc0_T27_115 hc1_T27_115 hc2_T27_115
      obtain ⟨hc0_T27_120, hc1_T27_120, hc2_T27_120⟩ := T27_117.out.cells
      clear l116
      clear d_117
      clear e_117
      clear w_117
      clear T23_117 hc0_T23_118 hc1_T23_118 hc2_T23_118
      clear T25_117 hc0_T25_119 hc1_T25_119 hc2_T25_119
      clear T27_117 hc0_T27_120 hc1_T27_120 hc2_T27_120
      go_wp2_with fail
      refine (HD4.out _ (HR.out.below HB_117.out (Nat.le_refl _))).mono ?_
      rintro e W121 ⟨f, rfl, hf4, l121⟩
      have HB_122 := Lib.hid (HB_117.out.trans (l121.mono HB_117.out.size))
      clear HB_117
      clear l121
      clear HD4 hf3 hq3
      have HNi := Lib.hid (fun W => implNewLink_any f W)
      have HNs := Lib.hid (fun W => specNewLink_any f W (by omega))
      generalize newL f = fr at HNi HNs
      generalize newOk f = made at HNi HNs
      go_wp2_with fail
      refine (HNi.out _).mono ?_
      rintro e W123 ⟨v_g, rfl, o_g, l123⟩
      obtain ⟨a_g, c_g, rfl, _, _⟩ := own_someS0 o_g
      have O_g := Lib.hid o_g
      clear o_g
      have HB_124 := Lib.hid (HB_122.out.trans (l123.mono HB_122.out.size))
      clear HB_122
      clear l123
      clear HNi
      go_upto_region 34 with fail
      obtain ⟨W125, hW125⟩ : ∃ W125, W125 = W123.alloc (.cells #[.slice a_g fr.q.length c_g, .string fr.f, .int .i64 fr.u] 26) := ⟨_, rfl⟩
      have l125 : Below W123.heap.size W123 W125 := by rw [hW125]; exact (Below.refl _ _).alloc (Nat.le_refl _) _
      have T30_b125 : Hid (Lq W125 W123.heap.size (.slice a_g fr.q.length c_g) fr.f fr.u) := Lib.hid (by rw [hW125]; exact Lq.new _ _ _ _)
      rw [← hW125]
      clear hW125
      obtain ⟨X_T30, hX_T30⟩ : ∃ X, X = W123.heap.size := ⟨_, rfl⟩
      rw [← hX_T30] at T30_b125 ⊢
      clear hX_T30
      have HB_126 := Lib.hid (HB_124.out.trans (l125.mono HB_124.out.size))
      have g_126 := Lib.hid (own_below O_g.out l125 (Nat.le_refl _))
      clear O_g
      clear HB_124
      clear l125
      obtain ⟨hc0_T30_127, hc1_T30_127, hc2_T30_127⟩ := T30_b125.out.cells
      go_wp2_with fail
      refine (HNs.out _).mono ?_
      rintro e W128 ⟨v_w, rfl, o_w, l128⟩
      obtain ⟨a_w, c_w, rfl, _, _⟩ := own_someS0 o_w
      have O_w := Lib.hid o_w
      clear o_w
      have HB_129 := Lib.hid (HB_126.out.trans (l128.mono HB_126.out.size))
      have g_129 := Lib.hid (own_below g_126.out l128 (Nat.le_refl _))
      clear g_126
      have T30_129 := Lib.hid (T30_b125.out.below l128 T30_b125.out.lt)
      clear T30_b125
      clear HB_126
      clear hc0_T30_127 hc1_T30_127 hc2_T30_127
      obtain ⟨hc0_T30_130, hc1_T30_130, hc2_T30_130⟩ := T30_129.out.cells
      clear l128
      clear HNs
      go_upto_region 35 with fail
      obtain ⟨W131, hW131⟩ : ∃ W131, W131 = W128.alloc (.cells #[.slice a_w fr.q.length c_w, .string fr.f, .int .i64 fr.u] 26) := ⟨_, rfl⟩
      have l131 : Below W128.heap.size W128 W131 := by rw [hW131]; exact (Below.refl _ _).alloc (Nat.le_refl _) _
      have T32_b131 : Hid (Lq W131 W128.heap.size (.slice a_w fr.q.length c_w) fr.f fr.u) := Lib.hid (by rw [hW131]; exact Lq.new _ _ _ _)
      rw [← hW131]
      clear hW131
      obtain ⟨X_T32, hX_T32⟩ : ∃ X, X = W128.heap.size := ⟨_, rfl⟩
      rw [← hX_T32] at T32_b131 ⊢
      clear hX_T32
      have HB_132 := Lib.hid (HB_129.out.trans (l131.mono HB_129.out.size))
      have g_132 := Lib.hid (own_below g_129.out l131 (Nat.le_refl _))
      clear g_129
      have w_132 := Lib.hid (own_below O_w.out l131 (Nat.le_refl _))
      clear O_w
      have T30_132 := Lib.hid (T30_129.out.below l131 T30_129.out.lt)
      clear T30_129
      clear HB_129
      clear hc0_T30_130 hc1_T30_130 hc2_T30_130
      obtain ⟨hc0_T30_133, hc1_T30_133, hc2_T30_133⟩ := T30_132.out.cells
      clear l131
      clear hc0_T30_133 hc1_T30_133 hc2_T30_133
      obtain ⟨hc0_T30_134, hc1_T30_134, hc2_T30_134⟩ := T30_132.out.cells
      obtain ⟨hc0_T32_135, hc1_T32_135, hc2_T32_135⟩ := T32_b131.out.cells
      go_wp2_with fail
      refine (rLinks_same _ _ fr _ (row_own g_132.out) (row_own w_132.out)).mono ?_
      rintro e W136 ⟨rfl, l136⟩
      have HB_137 := Lib.hid (HB_132.out.trans (l136.mono HB_132.out.size))
      have g_137 := Lib.hid (own_below g_132.out l136 (Nat.le_refl _))
      clear g_132
      have w_137 := Lib.hid (own_below w_132.out l136 (Nat.le_refl _))
      clear w_132
      have T30_137 := Lib.hid (T30_132.out.below l136 T30_132.out.lt)
      clear T30_132
      have T32_137 := Lib.hid (T32_b131.out.below l136 T32_b131.out.lt)
      clear T32_b131
      clear HB_132
      clear hc0_T30_134 hc1_T30_134 hc2_T30_134
      obtain ⟨hc0_T30_138, hc1_T30_138, hc2_T30_138⟩ := T30_137.out.cells
      clear hc0_T32_135 hc1_T32_135 hc2_T32_135
      obtain ⟨hc0_T32_139, hc1_T32_139, hc2_T32_139⟩ := T32_137.out.cells
      clear l136
      go_wp2_with fail
      go_ret
      exact ⟨by simp, HB_137.out⟩
end Go.Proofs.Ytbhhmaialilabaa
