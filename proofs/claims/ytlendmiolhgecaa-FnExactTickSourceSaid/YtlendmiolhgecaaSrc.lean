/-
  Sources: the specification's functions that read.
-/
import Derived.Test.YtlendmiolhgecaaSrcB
import Derived.Test.YtlendmiolhgecaaSnd3
import Derived.Deep.QuietTactic
import Derived.BigQuiet
import Derived.IntWalk
import Derived.Deep.CutRange
import Derived.WalkLawsBesides
import Derived.Lib.SmallJoins
import Derived.Deep.RegionHeld3
namespace Go.Proofs.Ytlendmiolhgecaa
open Go.RowKit Go.Lib Go.Joins
set_option linter.unusedVariables false

set_option maxRecDepth 100000 in
set_option maxHeartbeats 400000 in
theorem l11Clock_any (x : Int) (w : World) :
    Calls Try.prog 96 #[.int .i64 x] w fun e w' => e = .returned (.bool (inB x 0 9999)) ∧ w = w' := by
  have HC := Lib.hid (fun (W : World) => l1In_any x 0 9999 W)
  generalize inB x 0 9999 = bb at HC ⊢
  go_enter Try.func96, Try.ntmps96
  go_wp2_with fail
  refine (HC.out _).mono ?_
  rintro e _ ⟨rfl, rfl⟩
  go_wp2_with fail
  go_ret
  exact ⟨rfl, rfl⟩
set_option maxRecDepth 100000 in
set_option maxHeartbeats 8000000 in
theorem l11Good_any (v hv : Value) (s : So) (w : World) (hrow : Row w v s.w.q.length (s.w.q.map Value.string)) (hhr : Row w hv s.h.length (hdF s.h)) (hs : ∀ x ∈ s.w.q, x.size ≤ maxLen) :
    Calls Try.prog 48 #[.agg #[.int .i64 s.w.t, .int .i64 s.w.z, v, .int .i64 s.c, .int .i64 s.u, hv]] w fun e w' => e = .returned (.bool (soOk s)) ∧ Below w.heap.size w w' := by
  obtain ⟨⟨t, z, q⟩, c, u, h⟩ := s
  dsimp only at hrow hhr hs ⊢
  obtain ⟨a, cap, rfl, hc1, hm1, -⟩ := row_open hrow
  obtain ⟨b, caph, rfl, hc2, hm2, -⟩ := hd_open hhr
  unfold maxLen at hm1 hm2
  have HP := Lib.hid hrow
  have HH := Lib.hid hhr
  clear hrow hhr
  have HS := Lib.hid hs
  clear hs
  obtain ⟨W0, R_T, hW0, hR_T, hX_T, hB0⟩ := entry1 w #[.int .i64 t, .int .i64 z, .slice a q.length cap, .int .i64 c, .int .i64 u, .slice b h.length caph] 29
  have HW0 := Lib.hid hW0
  have HB0 := Lib.hid hB0
  have HR_T := Lib.hid hR_T
  have HX_T := Lib.hid hX_T
  clear hW0 hB0 hR_T hX_T
  have HL0 := Lib.hid (Below.refl W0.heap.size W0)
  have HNo := Lib.hid (@soOk_no ⟨⟨t, z, q⟩, c, u, h⟩)
  have HWin := Lib.hid (fun (W1 : World) (hr : Row W1 (.slice a q.length cap) q.length (q.map Value.string)) => l9Good_any (.slice a q.length cap) ⟨t, z, q⟩ W1 hr HS.out)
  have HCl := Lib.hid (fun (W1 : World) => l11Clock_any c W1)
  have HQu := Lib.hid (fun (W1 : World) => l1In_any u 0 3 W1)
  cases h1 : swOk ⟨t, z, q⟩ with
  | false =>
    rw [h1] at HWin
    have HE : Hid (soOk ⟨⟨t, z, q⟩, c, u, h⟩ = false) := Lib.hid (HNo.out (fun h => by have := h.1; rw [h1] at this; cases this))
    clear HNo
    have c1_T_0 := HX_T.out.at 0 (v := .int .i64 t) rfl
    have c1_T_1 := HX_T.out.at 1 (v := .int .i64 z) rfl
    have c1_T_2 := HX_T.out.at 2 (v := .slice a q.length cap) rfl
    have c1_T_3 := HX_T.out.at 3 (v := .int .i64 c) rfl
    have c1_T_4 := HX_T.out.at 4 (v := .int .i64 u) rfl
    have c1_T_5 := HX_T.out.at 5 (v := .slice b h.length caph) rfl
    go_enter Try.func48, Try.ntmps48
    go_upto_region 1 with fail
    rw [← HW0.out, ← HR_T.out]
    go_wp2_with fail
    refine (HWin.out _ (HP.out.below HB0.out (Nat.le_refl _))).mono ?_
    rintro e W2 ⟨rfl, l2⟩
    clear c1_T_0 c1_T_1 c1_T_2 c1_T_3 c1_T_4 c1_T_5
    have HB_3 := Lib.hid (HB0.out.trans (l2.mono HB0.out.size))
    have HF_3 := Lib.hid (HL0.out.trans (l2.mono HL0.out.size))
    clear HL0
    have T_3 := Lib.hid (HX_T.out.below l2 HX_T.out.lt)
    clear l2
    have c4_T_0 := T_3.out.at 0 (v := .int .i64 t) rfl
    have c4_T_1 := T_3.out.at 1 (v := .int .i64 z) rfl
    have c4_T_2 := T_3.out.at 2 (v := .slice a q.length cap) rfl
    have c4_T_3 := T_3.out.at 3 (v := .int .i64 c) rfl
    have c4_T_4 := T_3.out.at 4 (v := .int .i64 u) rfl
    have c4_T_5 := T_3.out.at 5 (v := .slice b h.length caph) rfl
    go_wp2_with fail
    go_ret
    exact ⟨ret_bool HE.out.symm, HB_3.out⟩
  | true =>
    rw [h1] at HWin
    cases h2 : inB c 0 9999 with
    | false =>
      rw [h2] at HCl
      have HE : Hid (soOk ⟨⟨t, z, q⟩, c, u, h⟩ = false) := Lib.hid (HNo.out (fun h => by exact inB_eq h2 h.2.1))
      clear HNo
      have c5_T_0 := HX_T.out.at 0 (v := .int .i64 t) rfl
      have c5_T_1 := HX_T.out.at 1 (v := .int .i64 z) rfl
      have c5_T_2 := HX_T.out.at 2 (v := .slice a q.length cap) rfl
      have c5_T_3 := HX_T.out.at 3 (v := .int .i64 c) rfl
      have c5_T_4 := HX_T.out.at 4 (v := .int .i64 u) rfl
      have c5_T_5 := HX_T.out.at 5 (v := .slice b h.length caph) rfl
      go_enter Try.func48, Try.ntmps48
      go_upto_region 1 with fail
      rw [← HW0.out, ← HR_T.out]
      go_wp2_with fail
      refine (HWin.out _ (HP.out.below HB0.out (Nat.le_refl _))).mono ?_
      rintro e W6 ⟨rfl, l6⟩
      clear c5_T_0 c5_T_1 c5_T_2 c5_T_3 c5_T_4 c5_T_5
      have HB_7 := Lib.hid (HB0.out.trans (l6.mono HB0.out.size))
      have HF_7 := Lib.hid (HL0.out.trans (l6.mono HL0.out.size))
      clear HL0
      have T_7 := Lib.hid (HX_T.out.below l6 HX_T.out.lt)
      clear l6
      have c8_T_0 := T_7.out.at 0 (v := .int .i64 t) rfl
      have c8_T_1 := T_7.out.at 1 (v := .int .i64 z) rfl
      have c8_T_2 := T_7.out.at 2 (v := .slice a q.length cap) rfl
      have c8_T_3 := T_7.out.at 3 (v := .int .i64 c) rfl
      have c8_T_4 := T_7.out.at 4 (v := .int .i64 u) rfl
      have c8_T_5 := T_7.out.at 5 (v := .slice b h.length caph) rfl
      go_wp2_with fail
      refine (HCl.out _).mono ?_
      rintro e _ ⟨rfl, rfl⟩
      go_wp2_with fail
      go_ret
      exact ⟨ret_bool HE.out.symm, HB_7.out⟩
    | true =>
      rw [h2] at HCl
      cases h3 : inB u 0 3 with
      | false =>
        rw [h3] at HQu
        have HE : Hid (soOk ⟨⟨t, z, q⟩, c, u, h⟩ = false) := Lib.hid (HNo.out (fun h => by exact inB_eq h3 h.2.2.1))
        clear HNo
        have c9_T_0 := HX_T.out.at 0 (v := .int .i64 t) rfl
        have c9_T_1 := HX_T.out.at 1 (v := .int .i64 z) rfl
        have c9_T_2 := HX_T.out.at 2 (v := .slice a q.length cap) rfl
        have c9_T_3 := HX_T.out.at 3 (v := .int .i64 c) rfl
        have c9_T_4 := HX_T.out.at 4 (v := .int .i64 u) rfl
        have c9_T_5 := HX_T.out.at 5 (v := .slice b h.length caph) rfl
        go_enter Try.func48, Try.ntmps48
        go_upto_region 1 with fail
        rw [← HW0.out, ← HR_T.out]
        go_wp2_with fail
        refine (HWin.out _ (HP.out.below HB0.out (Nat.le_refl _))).mono ?_
        rintro e W10 ⟨rfl, l10⟩
        clear c9_T_0 c9_T_1 c9_T_2 c9_T_3 c9_T_4 c9_T_5
        have HB_11 := Lib.hid (HB0.out.trans (l10.mono HB0.out.size))
        have HF_11 := Lib.hid (HL0.out.trans (l10.mono HL0.out.size))
        clear HL0
        have T_11 := Lib.hid (HX_T.out.below l10 HX_T.out.lt)
        clear l10
        have c12_T_0 := T_11.out.at 0 (v := .int .i64 t) rfl
        have c12_T_1 := T_11.out.at 1 (v := .int .i64 z) rfl
        have c12_T_2 := T_11.out.at 2 (v := .slice a q.length cap) rfl
        have c12_T_3 := T_11.out.at 3 (v := .int .i64 c) rfl
        have c12_T_4 := T_11.out.at 4 (v := .int .i64 u) rfl
        have c12_T_5 := T_11.out.at 5 (v := .slice b h.length caph) rfl
        go_wp2_with fail
        refine (HCl.out _).mono ?_
        rintro e _ ⟨rfl, rfl⟩
        go_wp2_with fail
        refine (HQu.out _).mono ?_
        rintro e _ ⟨rfl, rfl⟩
        go_wp2_with fail
        go_ret
        exact ⟨ret_bool HE.out.symm, HB_11.out⟩
      | true =>
        rw [h3] at HQu
        have hub := inB_bd h3
        clear h3
        have hcb := inB_bd h2
        have hw := swOk_iff.1 h1
        dsimp only at hw
        obtain ⟨ht0, ht1⟩ := hw.1
        clear hw
        have HYes : Hid ((∀ x ∈ h, hd1 ⟨t, z, q⟩ c x = true) → AscG t h → soOk ⟨⟨t, z, q⟩, c, u, h⟩ = true) := Lib.hid (fun i j => soOk_iff.2 ⟨h1, hcb, hub, i, j⟩)
        have HW1 := Lib.hid h1
        obtain ⟨hcb0, hcb1⟩ := hcb
        clear h1 h2 hub
        have c13_T_0 := HX_T.out.at 0 (v := .int .i64 t) rfl
        have c13_T_1 := HX_T.out.at 1 (v := .int .i64 z) rfl
        have c13_T_2 := HX_T.out.at 2 (v := .slice a q.length cap) rfl
        have c13_T_3 := HX_T.out.at 3 (v := .int .i64 c) rfl
        have c13_T_4 := HX_T.out.at 4 (v := .int .i64 u) rfl
        have c13_T_5 := HX_T.out.at 5 (v := .slice b h.length caph) rfl
        go_enter Try.func48, Try.ntmps48
        go_upto_region 1 with fail
        rw [← HW0.out, ← HR_T.out]
        go_wp2_with fail
        refine (HWin.out _ (HP.out.below HB0.out (Nat.le_refl _))).mono ?_
        rintro e W14 ⟨rfl, l14⟩
        clear c13_T_0 c13_T_1 c13_T_2 c13_T_3 c13_T_4 c13_T_5
        have HB_15 := Lib.hid (HB0.out.trans (l14.mono HB0.out.size))
        have HF_15 := Lib.hid (HL0.out.trans (l14.mono HL0.out.size))
        clear HL0
        have T_15 := Lib.hid (HX_T.out.below l14 HX_T.out.lt)
        clear l14
        have c16_T_0 := T_15.out.at 0 (v := .int .i64 t) rfl
        have c16_T_1 := T_15.out.at 1 (v := .int .i64 z) rfl
        have c16_T_2 := T_15.out.at 2 (v := .slice a q.length cap) rfl
        have c16_T_3 := T_15.out.at 3 (v := .int .i64 c) rfl
        have c16_T_4 := T_15.out.at 4 (v := .int .i64 u) rfl
        have c16_T_5 := T_15.out.at 5 (v := .slice b h.length caph) rfl
        go_wp2_with fail
        refine (HCl.out _).mono ?_
        rintro e _ ⟨rfl, rfl⟩
        go_wp2_with fail
        refine (HQu.out _).mono ?_
        rintro e _ ⟨rfl, rfl⟩
        go_wp2_with fail
        go_loopw [3] (fun i wr => ∃ k : Nat, k ≤ h.length ∧ i = .int .i64 k ∧ Hid (∀ x ∈ h.take k, hd1 ⟨t, z, q⟩ c x = true) ∧ Hid (AscG t (h.take k)) ∧ Hid (Below W0.heap.size W0 wr)) (fun i _ => h.length - (RowKit.intOf i).toNat)
        case atStart => exact ⟨0, Nat.zero_le _, rfl, Lib.hid (by simp), Lib.hid (by simp [ascG_nil]), HF_15⟩
        case round =>
          obtain ⟨k, hk, rfl, HA, HG, HL⟩ := hrel
          clear c16_T_0 c16_T_1 c16_T_2 c16_T_3 c16_T_4 c16_T_5
          have HBr := Lib.hid (HB0.out.trans (HL.out.mono HB0.out.size))
          have T_r := Lib.hid (HX_T.out.below HL.out HX_T.out.lt)
          by_cases hkn : k < h.length
          · obtain ⟨bb, off, rfl, hb, d0, d1⟩ := row_hd HH.out hkn
            have e0 := (HBr.out.cell (p := ⟨bb, off + k * 2, none⟩) hb).trans d0
            have e1 := (HBr.out.cell (p := ⟨bb, off + k * 2 + 1, none⟩) hb).trans d1
            clear d0 d1
            have HPk : Hid (hd1 ⟨t, z, q⟩ c h[k] = true → ∀ x ∈ h.take (k + 1), hd1 ⟨t, z, q⟩ c x = true) := Lib.hid (fun hh x hx => by
              rw [List.take_succ_eq_append_getElem hkn] at hx
              rcases List.mem_append.1 hx with hx | hx
              · exact HA.out x hx
              · rw [List.mem_singleton.1 hx]; exact hh)
            have HQ : Hid (hd1 ⟨t, z, q⟩ c h[k] = false → soOk ⟨⟨t, z, q⟩, c, u, h⟩ = false) := Lib.hid (fun hh => HNo.out (fun hx => by have := hx.2.2.2.1 _ (List.getElem_mem hkn); rw [hh] at this; cases this))
            have HQ2 : Hid (¬ lastG t h k < gapI t h[k].n → soOk ⟨⟨t, z, q⟩, c, u, h⟩ = false) := Lib.hid (fun hh => HNo.out (fun hx => ascG_no hkn hh hx.2.2.2.2))
            have HG2 : Hid (lastG t h k < gapI t h[k].n → AscG t (h.take (k + 1))) := Lib.hid (fun hh => ascG_next hkn HG.out hh)
            have hd1e : hd1 ⟨t, z, q⟩ c h[k] = (serB h[k].n && (heldB ⟨t, z, q⟩ h[k].n && inB h[k].u (c + 1) (c + 3))) := rfl
            rw [hd1e] at HPk HQ
            clear hd1e
            have HHk : Hid (∀ j (hj : j + 1 = k), ∃ x : Hd, h[j]? = some x ∧ serB x.n = true ∧ lastG t h k = gapI t x.n) := Lib.hid (fun j hj => ⟨h[j]'(by omega), List.getElem?_eq_getElem (by omega), (hd1_iff.1 (HA.out _ (by rw [List.mem_take_iff_getElem]; exact ⟨j, by omega, rfl⟩))).1, lastG_at hj (by omega)⟩)
            generalize h[k].n = n at e0 HPk HQ HQ2 HG2
            generalize h[k].u = hu at e1 HPk HQ
            have c17_T_0 := T_r.out.at 0 (v := .int .i64 t) rfl
            have c17_T_1 := T_r.out.at 1 (v := .int .i64 z) rfl
            have c17_T_2 := T_r.out.at 2 (v := .slice a q.length cap) rfl
            have c17_T_3 := T_r.out.at 3 (v := .int .i64 c) rfl
            have c17_T_4 := T_r.out.at 4 (v := .int .i64 u) rfl
            have c17_T_5 := T_r.out.at 5 (v := .slice (some ⟨bb, off, none⟩) h.length caph) rfl
            go_upto_region 7 with fail
            obtain ⟨W18, hW18⟩ : ∃ W18, W18 = wr.alloc (.cells #[.int .i64 n, .int .i64 hu] 82) := ⟨_, rfl⟩
            have l18 : Below wr.heap.size wr W18 := by rw [hW18]; exact (Below.refl _ _).alloc (Nat.le_refl _) _
            have X18_X : Hid (Bx W18 wr.heap.size #[.int .i64 n, .int .i64 hu] 82) := Lib.hid (by rw [hW18]; exact Bx.new _ _ _)
            rw [← hW18]
            clear hW18
            have HG_X : Hid (w.heap.size ≤ wr.heap.size) := Lib.hid HBr.out.size
            have HN_X_T : Hid (R_T < wr.heap.size) := Lib.hid T_r.out.lt
            obtain ⟨R_X, hR_X⟩ : ∃ X, X = wr.heap.size := ⟨_, rfl⟩
            rw [← hR_X] at X18_X HG_X HN_X_T ⊢
            clear hR_X
            clear c17_T_0 c17_T_1 c17_T_2 c17_T_3 c17_T_4 c17_T_5
            have HB_19 := Lib.hid (HBr.out.trans (l18.mono HBr.out.size))
            have HF_19 := Lib.hid (HL.out.trans (l18.mono HL.out.size))
            clear HL
            have T_19 := Lib.hid (T_r.out.below l18 T_r.out.lt)
            clear l18
            have c20_T_0 := T_19.out.at 0 (v := .int .i64 t) rfl
            have c20_T_1 := T_19.out.at 1 (v := .int .i64 z) rfl
            have c20_T_2 := T_19.out.at 2 (v := .slice a q.length cap) rfl
            have c20_T_3 := T_19.out.at 3 (v := .int .i64 c) rfl
            have c20_T_4 := T_19.out.at 4 (v := .int .i64 u) rfl
            have c20_T_5 := T_19.out.at 5 (v := .slice (some ⟨bb, off, none⟩) h.length caph) rfl
            have c21_X_0 := X18_X.out.at 0 (v := .int .i64 n) rfl
            have c21_X_1 := X18_X.out.at 1 (v := .int .i64 hu) rfl
            have HSer := Lib.hid (fun (W1 : World) => l2Good_any n W1)
            cases hsn : serB n with
            | false =>
              rw [hsn] at HPk HQ HSer
              have HE := Lib.hid (HQ.out (by first | rfl | simp))
              clear HPk HQ HQ2 HG2 HA HG HYes HNo HHk
              go_wp2_with fail
              refine (HSer.out _).mono ?_
              rintro e _ ⟨rfl, rfl⟩
              go_wp2_with fail
              go_ret
              exact ⟨ret_bool HE.out.symm, HB_19.out⟩
            | true =>
              rw [hsn] at HPk HQ HSer
              obtain ⟨hn0, hn1⟩ := serB_bd hsn
              have HSn := Lib.hid hsn
              clear hsn
              have HHe := Lib.hid (fun (W1 : World) (hn : 0 ≤ n ∧ n ≤ 65535) (hr : Row W1 (.slice a q.length cap) q.length (q.map Value.string)) => l9Held_any (.slice a q.length cap) ⟨t, z, q⟩ n W1 hr ⟨ht0, ht1⟩ hn)
              cases hhb : heldB ⟨t, z, q⟩ n with
              | false =>
                rw [hhb] at HPk HQ HHe
                have HE := Lib.hid (HQ.out (by first | rfl | simp))
                clear HPk HQ HQ2 HG2 HA HG HYes HNo HHk
                go_wp2_with fail
                refine (HSer.out _).mono ?_
                rintro e _ ⟨rfl, rfl⟩
                go_wp2_with fail
                refine (HHe.out _ ⟨hn0, hn1⟩ (HP.out.below HB_19.out (Nat.le_refl _))).mono ?_
                rintro e W22 ⟨rfl, l22⟩
                clear c20_T_0 c20_T_1 c20_T_2 c20_T_3 c20_T_4 c20_T_5
                clear c21_X_0 c21_X_1
                have HB_23 := Lib.hid (HB_19.out.trans (l22.mono HB_19.out.size))
                have HF_23 := Lib.hid (HF_19.out.trans (l22.mono HF_19.out.size))
                clear HF_19
                have T_23 := Lib.hid (T_19.out.below l22 T_19.out.lt)
                clear T_19
                have X_23 := Lib.hid (X18_X.out.below l22 X18_X.out.lt)
                clear X18_X
                clear l22
                have c24_T_0 := T_23.out.at 0 (v := .int .i64 t) rfl
                have c24_T_1 := T_23.out.at 1 (v := .int .i64 z) rfl
                have c24_T_2 := T_23.out.at 2 (v := .slice a q.length cap) rfl
                have c24_T_3 := T_23.out.at 3 (v := .int .i64 c) rfl
                have c24_T_4 := T_23.out.at 4 (v := .int .i64 u) rfl
                have c24_T_5 := T_23.out.at 5 (v := .slice (some ⟨bb, off, none⟩) h.length caph) rfl
                have c25_X_0 := X_23.out.at 0 (v := .int .i64 n) rfl
                have c25_X_1 := X_23.out.at 1 (v := .int .i64 hu) rfl
                go_wp2_with fail
                go_ret
                exact ⟨ret_bool HE.out.symm, HB_23.out⟩
              | true =>
                rw [hhb] at HPk HQ HHe
                clear hhb
                have HIn := Lib.hid (fun (W1 : World) => l1In_any hu (c + 1) (c + 3) W1)
                cases hiu : inB hu (c + 1) (c + 3) with
                | false =>
                  rw [hiu] at HPk HQ HIn
                  have HE := Lib.hid (HQ.out (by first | rfl | simp))
                  clear HPk HQ HQ2 HG2 HA HG HYes HNo HHk
                  go_wp2_with fail
                  refine (HSer.out _).mono ?_
                  rintro e _ ⟨rfl, rfl⟩
                  go_wp2_with fail
                  refine (HHe.out _ ⟨hn0, hn1⟩ (HP.out.below HB_19.out (Nat.le_refl _))).mono ?_
                  rintro e W26 ⟨rfl, l26⟩
                  clear c20_T_0 c20_T_1 c20_T_2 c20_T_3 c20_T_4 c20_T_5
                  clear c21_X_0 c21_X_1
                  have HB_27 := Lib.hid (HB_19.out.trans (l26.mono HB_19.out.size))
                  have HF_27 := Lib.hid (HF_19.out.trans (l26.mono HF_19.out.size))
                  clear HF_19
                  have T_27 := Lib.hid (T_19.out.below l26 T_19.out.lt)
                  clear T_19
                  have X_27 := Lib.hid (X18_X.out.below l26 X18_X.out.lt)
                  clear X18_X
                  clear l26
                  have c28_T_0 := T_27.out.at 0 (v := .int .i64 t) rfl
                  have c28_T_1 := T_27.out.at 1 (v := .int .i64 z) rfl
                  have c28_T_2 := T_27.out.at 2 (v := .slice a q.length cap) rfl
                  have c28_T_3 := T_27.out.at 3 (v := .int .i64 c) rfl
                  have c28_T_4 := T_27.out.at 4 (v := .int .i64 u) rfl
                  have c28_T_5 := T_27.out.at 5 (v := .slice (some ⟨bb, off, none⟩) h.length caph) rfl
                  have c29_X_0 := X_27.out.at 0 (v := .int .i64 n) rfl
                  have c29_X_1 := X_27.out.at 1 (v := .int .i64 hu) rfl
                  go_wp2_with fail
                  refine (HIn.out _).mono ?_
                  rintro e _ ⟨rfl, rfl⟩
                  go_wp2_with fail
                  go_ret
                  exact ⟨ret_bool HE.out.symm, HB_27.out⟩
                | true =>
                  rw [hiu] at HPk HQ HIn
                  clear hiu
                  have HA2 := Lib.hid (HPk.out rfl)
                  clear HPk HQ HA HG
                  go_wp2_with fail
                  refine (HSer.out _).mono ?_
                  rintro e _ ⟨rfl, rfl⟩
                  go_wp2_with fail
                  refine (HHe.out _ ⟨hn0, hn1⟩ (HP.out.below HB_19.out (Nat.le_refl _))).mono ?_
                  rintro e W30 ⟨rfl, l30⟩
                  clear c20_T_0 c20_T_1 c20_T_2 c20_T_3 c20_T_4 c20_T_5
                  clear c21_X_0 c21_X_1
                  have HB_31 := Lib.hid (HB_19.out.trans (l30.mono HB_19.out.size))
                  have HF_31 := Lib.hid (HF_19.out.trans (l30.mono HF_19.out.size))
                  clear HF_19
                  have T_31 := Lib.hid (T_19.out.below l30 T_19.out.lt)
                  clear T_19
                  have X_31 := Lib.hid (X18_X.out.below l30 X18_X.out.lt)
                  clear X18_X
                  clear l30
                  have c32_T_0 := T_31.out.at 0 (v := .int .i64 t) rfl
                  have c32_T_1 := T_31.out.at 1 (v := .int .i64 z) rfl
                  have c32_T_2 := T_31.out.at 2 (v := .slice a q.length cap) rfl
                  have c32_T_3 := T_31.out.at 3 (v := .int .i64 c) rfl
                  have c32_T_4 := T_31.out.at 4 (v := .int .i64 u) rfl
                  have c32_T_5 := T_31.out.at 5 (v := .slice (some ⟨bb, off, none⟩) h.length caph) rfl
                  have c33_X_0 := X_31.out.at 0 (v := .int .i64 n) rfl
                  have c33_X_1 := X_31.out.at 1 (v := .int .i64 hu) rfl
                  go_wp2_with fail
                  refine (HIn.out _).mono ?_
                  rintro e _ ⟨rfl, rfl⟩
                  by_cases hk0 : k = 0
                  · subst hk0
                    have HA3 := Lib.hid (HG2.out (by show (-1 : Int) < _; have := gapI_bd t n; omega))
                    clear HG2 HQ2 HHk HNo HYes
                    have hk00 : decide ((0 : Int) < ((0 : Nat) : Int)) = false := rfl
                    go_wp2_with fail
                    go_quiet (fail)
                    go_wp2_with fail
                    go_roundw
                    case rel => exact ⟨1, by omega, by go_num, HA2, HA3, Lib.hid (HF_31.out.trans ((bdrew _ _).mono HF_31.out.size))⟩
                    case measure => (simp [RowKit.intOf]; omega)
                  · obtain ⟨jp, hjp⟩ : ∃ jp, jp + 1 = k := ⟨k - 1, by omega⟩
                    obtain ⟨y, hy, hys, hyl⟩ := HHk.out jp hjp
                    obtain ⟨b2, off2, e2, hb2, d2, -⟩ := row_hd (k := jp) HH.out (by omega)
                    injection e2 with e2
                    injection e2 with e3 e4
                    subst e3 e4
                    have hyn : (h[jp]'(by omega)).n = y.n := by rw [List.getElem?_eq_getElem (by omega)] at hy; rw [Option.some.inj hy]
                    rw [hyn] at d2
                    have e2 := (HB_31.out.cell (p := ⟨bb, off + jp * 2, none⟩) hb).trans d2
                    obtain ⟨hy0, hy1⟩ := serB_bd hys
                    rw [hyl] at HQ2 HG2
                    clear hy hyn d2 hys hyl HHk hb2
                    generalize y.n = m at e2 hy0 hy1 HQ2 HG2
                    clear y
                    have i0 : decide ((0 : Int) < (k : Int)) = true := decide_eq_true (by omega)
                    have i1 : IntKind.i64.wrap ((k : Int) - 1) = (jp : Int) := (IntWalk.i64_in _ (by omega)).trans (by omega)
                    have i2 : (jp : Int) < (h.length : Int) := by omega
                    have i3 : (0 : Int) ≤ (jp : Int) := by omega
                    have i4 : jp < h.length := by omega
                    have i5 : 0 < k := by omega
                    have i6 : decide (0 < k) = true := decide_eq_true i5
                    by_cases hlt : gapI t m < gapI t n
                    · have HA3 := Lib.hid (HG2.out hlt)
                      have hle : ¬ gapI t n ≤ gapI t m := by omega
                      clear HG2 HQ2 HNo HYes hlt
                      go_wp2_with fail
                      go_quiet (first | (go_at_call 94; refine quiet_sm (l2Gap_any _ _ _ ?_ ?_ ?_ ?_) <;> assumption))
                      go_wp2_with fail
                      go_roundw
                      case rel => exact ⟨k + 1, by omega, by go_num, HA2, HA3, Lib.hid (HF_31.out.trans ((bdrew _ _).mono HF_31.out.size))⟩
                      case measure => (simp [RowKit.intOf]; omega)
                    · have HE := Lib.hid (HQ2.out (by omega))
                      have hle : gapI t n ≤ gapI t m := by omega
                      clear HG2 HQ2 HNo HYes hlt HA2
                      go_wp2_with fail
                      go_quiet (first | (go_at_call 94; refine quiet_sm (l2Gap_any _ _ _ ?_ ?_ ?_ ?_) <;> assumption))
                      go_wp2_with fail
                      go_ret
                      exact ⟨ret_bool HE.out.symm, HB_31.out.trans ((bdrew _ _).mono HB_31.out.size)⟩
          · obtain rfl : k = h.length := by omega
            have HE := Lib.hid (HYes.out (fun x hx => HA.out x (by rw [List.take_of_length_le (Nat.le_refl _)]; exact hx)) (by have := HG.out; rw [List.take_of_length_le (Nat.le_refl _)] at this; exact this))
            clear HA HG HYes HNo
            have c34_T_0 := T_r.out.at 0 (v := .int .i64 t) rfl
            have c34_T_1 := T_r.out.at 1 (v := .int .i64 z) rfl
            have c34_T_2 := T_r.out.at 2 (v := .slice a q.length cap) rfl
            have c34_T_3 := T_r.out.at 3 (v := .int .i64 c) rfl
            have c34_T_4 := T_r.out.at 4 (v := .int .i64 u) rfl
            have c34_T_5 := T_r.out.at 5 (v := .slice b h.length caph) rfl
            go_wp2_with fail
            go_ret
            exact ⟨ret_bool HE.out.symm, HBr.out⟩
set_option maxRecDepth 100000 in
set_option maxHeartbeats 1000000 in
theorem specIsSo_any (v hv : Value) (s : So) (w : World) (hrow : Row w v s.w.q.length (s.w.q.map Value.string)) (hhr : Row w hv s.h.length (hdF s.h)) (hs : ∀ x ∈ s.w.q, x.size ≤ maxLen) :
    Calls Try.prog 34 #[.agg #[.int .i64 s.w.t, .int .i64 s.w.z, v, .int .i64 s.c, .int .i64 s.u, hv]] w fun e w' => e = .returned (.bool (soOk s)) ∧ Below w.heap.size w w' := by
  obtain ⟨⟨t, z, q⟩, c, u, h⟩ := s
  dsimp only at hrow hhr hs ⊢
  obtain ⟨a, cap, rfl, hc1, hm1, -⟩ := row_open hrow
  obtain ⟨b, caph, rfl, hc2, hm2, -⟩ := hd_open hhr
  unfold maxLen at hm1 hm2
  have HP := Lib.hid hrow
  have HH := Lib.hid hhr
  clear hrow hhr
  have HS := Lib.hid hs
  clear hs
  obtain ⟨W0, R_T, hW0, hR_T, hX_T, hB0⟩ := entry1 w #[.int .i64 t, .int .i64 z, .slice a q.length cap, .int .i64 c, .int .i64 u, .slice b h.length caph] 29
  have HW0 := Lib.hid hW0
  have HB0 := Lib.hid hB0
  have HR_T := Lib.hid hR_T
  have HX_T := Lib.hid hX_T
  clear hW0 hB0 hR_T hX_T
  have c35_T_0 := HX_T.out.at 0 (v := .int .i64 t) rfl
  have c35_T_1 := HX_T.out.at 1 (v := .int .i64 z) rfl
  have c35_T_2 := HX_T.out.at 2 (v := .slice a q.length cap) rfl
  have c35_T_3 := HX_T.out.at 3 (v := .int .i64 c) rfl
  have c35_T_4 := HX_T.out.at 4 (v := .int .i64 u) rfl
  have c35_T_5 := HX_T.out.at 5 (v := .slice b h.length caph) rfl
  have HG := Lib.hid (fun (W1 : World) (hr : Row W1 (.slice a q.length cap) q.length (q.map Value.string)) (hh : Row W1 (.slice b h.length caph) h.length (hdF h)) => l11Good_any (.slice a q.length cap) (.slice b h.length caph) ⟨⟨t, z, q⟩, c, u, h⟩ W1 hr hh HS.out)
  generalize soOk ⟨⟨t, z, q⟩, c, u, h⟩ = ok at HG ⊢
  go_enter Try.func34, Try.ntmps34
  go_upto_region 1 with fail
  rw [← HW0.out, ← HR_T.out]
  go_wp2_with fail
  refine (HG.out _ (HP.out.below HB0.out (Nat.le_refl _)) (HH.out.below HB0.out (Nat.le_refl _))).mono ?_
  rintro e W36 ⟨rfl, l36⟩
  clear c35_T_0 c35_T_1 c35_T_2 c35_T_3 c35_T_4 c35_T_5
  have HB_37 := Lib.hid (HB0.out.trans (l36.mono HB0.out.size))
  have T_37 := Lib.hid (HX_T.out.below l36 HX_T.out.lt)
  clear l36
  have c38_T_0 := T_37.out.at 0 (v := .int .i64 t) rfl
  have c38_T_1 := T_37.out.at 1 (v := .int .i64 z) rfl
  have c38_T_2 := T_37.out.at 2 (v := .slice a q.length cap) rfl
  have c38_T_3 := T_37.out.at 3 (v := .int .i64 c) rfl
  have c38_T_4 := T_37.out.at 4 (v := .int .i64 u) rfl
  have c38_T_5 := T_37.out.at 5 (v := .slice b h.length caph) rfl
  go_wp2_with fail
  go_ret
  exact ⟨rfl, HB_37.out⟩
set_option maxRecDepth 100000 in
set_option maxHeartbeats 1000000 in
theorem specNew_any (f z : Int) (w : World) :
    Calls Try.prog 27 #[.int .i64 f, .int .i64 z] w fun e w' => e = .returned (.tuple #[.agg #[.int .i64 (newV f z).w.t, .int .i64 (newV f z).w.z, .slice none 0 0, .int .i64 0, .int .i64 0, .slice none 0 0], .bool (soOk (newW f z))]) ∧ Below w.heap.size w w' := by
  obtain ⟨W0, R_A, hW0, hR_A, hX_A, hB0⟩ := entry1 w #[.int .i64 0, .int .i64 0, .slice none 0 0, .int .i64 0, .int .i64 0, .slice none 0 0] 29
  have HW0 := Lib.hid hW0
  have HB0 := Lib.hid hB0
  have HR_A := Lib.hid hR_A
  have HX_A := Lib.hid hX_A
  clear hW0 hB0 hR_A hX_A
  have HG := Lib.hid (fun (W1 : World) => l11Good_any (.slice none 0 0) (.slice none 0 0) (newW f z) W1 (row_none _ none 0 (by unfold maxLen; omega)) (row_none _ none 0 (by unfold maxLen; omega)) (by simp [newW]))
  dsimp only [newW] at HG
  have hN : soOk ⟨⟨f, z, []⟩, 0, 0, []⟩ = soOk (newW f z) := rfl
  rw [hN] at HG
  clear hN
  cases ok : soOk (newW f z) with
  | false =>
    have hv : newV f z = so0 := by unfold newV; rw [ok]; rfl
    rw [ok] at HG
    rw [hv]
    clear hv ok
    dsimp only [so0, sw0]
    have c39_A_0 := HX_A.out.at 0 (v := .int .i64 0) rfl
    have c39_A_1 := HX_A.out.at 1 (v := .int .i64 0) rfl
    have c39_A_2 := HX_A.out.at 2 (v := .slice none 0 0) rfl
    have c39_A_3 := HX_A.out.at 3 (v := .int .i64 0) rfl
    have c39_A_4 := HX_A.out.at 4 (v := .int .i64 0) rfl
    have c39_A_5 := HX_A.out.at 5 (v := .slice none 0 0) rfl
    go_enter Try.func27, Try.ntmps27
    go_upto_region 1 with fail
    rw [← HW0.out, ← HR_A.out]
    go_upto_region 2 with fail
    obtain ⟨W40, hW40⟩ : ∃ W40, W40 = W0.alloc (.cells #[.int .i64 f, .int .i64 z, .slice none 0 0, .int .i64 0, .int .i64 0, .slice none 0 0] 29) := ⟨_, rfl⟩
    have l40 : Below W0.heap.size W0 W40 := by rw [hW40]; exact (Below.refl _ _).alloc (Nat.le_refl _) _
    have X40_X : Hid (Bx W40 W0.heap.size #[.int .i64 f, .int .i64 z, .slice none 0 0, .int .i64 0, .int .i64 0, .slice none 0 0] 29) := Lib.hid (by rw [hW40]; exact Bx.new _ _ _)
    rw [← hW40]
    clear hW40
    have HG_X : Hid (w.heap.size ≤ W0.heap.size) := Lib.hid HB0.out.size
    have HN_X_A : Hid (R_A < W0.heap.size) := Lib.hid HX_A.out.lt
    obtain ⟨R_X, hR_X⟩ : ∃ X, X = W0.heap.size := ⟨_, rfl⟩
    rw [← hR_X] at X40_X HG_X HN_X_A ⊢
    clear hR_X
    clear c39_A_0 c39_A_1 c39_A_2 c39_A_3 c39_A_4 c39_A_5
    have HB_41 := Lib.hid (HB0.out.trans (l40.mono HB0.out.size))
    have A_41 := Lib.hid (HX_A.out.below l40 HX_A.out.lt)
    clear l40
    have c42_A_0 := A_41.out.at 0 (v := .int .i64 0) rfl
    have c42_A_1 := A_41.out.at 1 (v := .int .i64 0) rfl
    have c42_A_2 := A_41.out.at 2 (v := .slice none 0 0) rfl
    have c42_A_3 := A_41.out.at 3 (v := .int .i64 0) rfl
    have c42_A_4 := A_41.out.at 4 (v := .int .i64 0) rfl
    have c42_A_5 := A_41.out.at 5 (v := .slice none 0 0) rfl
    have c43_X_0 := X40_X.out.at 0 (v := .int .i64 f) rfl
    have c43_X_1 := X40_X.out.at 1 (v := .int .i64 z) rfl
    have c43_X_2 := X40_X.out.at 2 (v := .slice none 0 0) rfl
    have c43_X_3 := X40_X.out.at 3 (v := .int .i64 0) rfl
    have c43_X_4 := X40_X.out.at 4 (v := .int .i64 0) rfl
    have c43_X_5 := X40_X.out.at 5 (v := .slice none 0 0) rfl
    go_wp2_with fail
    refine (HG.out _).mono ?_
    rintro e W44 ⟨rfl, l44⟩
    clear c42_A_0 c42_A_1 c42_A_2 c42_A_3 c42_A_4 c42_A_5
    clear c43_X_0 c43_X_1 c43_X_2 c43_X_3 c43_X_4 c43_X_5
    have HB_45 := Lib.hid (HB_41.out.trans (l44.mono HB_41.out.size))
    have A_45 := Lib.hid (A_41.out.below l44 A_41.out.lt)
    clear A_41
    have X_45 := Lib.hid (X40_X.out.below l44 X40_X.out.lt)
    clear X40_X
    clear l44
    have c46_A_0 := A_45.out.at 0 (v := .int .i64 0) rfl
    have c46_A_1 := A_45.out.at 1 (v := .int .i64 0) rfl
    have c46_A_2 := A_45.out.at 2 (v := .slice none 0 0) rfl
    have c46_A_3 := A_45.out.at 3 (v := .int .i64 0) rfl
    have c46_A_4 := A_45.out.at 4 (v := .int .i64 0) rfl
    have c46_A_5 := A_45.out.at 5 (v := .slice none 0 0) rfl
    have c47_X_0 := X_45.out.at 0 (v := .int .i64 f) rfl
    have c47_X_1 := X_45.out.at 1 (v := .int .i64 z) rfl
    have c47_X_2 := X_45.out.at 2 (v := .slice none 0 0) rfl
    have c47_X_3 := X_45.out.at 3 (v := .int .i64 0) rfl
    have c47_X_4 := X_45.out.at 4 (v := .int .i64 0) rfl
    have c47_X_5 := X_45.out.at 5 (v := .slice none 0 0) rfl
    have fr48_A_0 := A_45.out.free 0
    have fr48_A_1 := A_45.out.free 1
    have fr48_A_2 := A_45.out.free 2
    have fr48_A_3 := A_45.out.free 3
    have fr48_A_4 := A_45.out.free 4
    have fr48_A_5 := A_45.out.free 5
    go_wp2_with fail
    obtain ⟨p1, q1⟩ := A_45.out.store6 (.int .i64 0) (.int .i64 0) (.slice none 0 0) (.int .i64 0) (.int .i64 0) (.slice none 0 0)
    exact bodyPost_ret (results_bx1 rfl isSo _ _ R_A rfl rfl rfl p1) rfl ⟨rfl, (HB_45.out.grown q1 HB_45.out.size (fun k hk => by have e2 : R_A = k := Option.some.inj hk; have := HR_A.out; omega))⟩
  | true =>
    have hv : newV f z = newW f z := if_pos ok
    rw [ok] at HG
    rw [hv]
    clear hv ok
    dsimp only [newW]
    have c49_A_0 := HX_A.out.at 0 (v := .int .i64 0) rfl
    have c49_A_1 := HX_A.out.at 1 (v := .int .i64 0) rfl
    have c49_A_2 := HX_A.out.at 2 (v := .slice none 0 0) rfl
    have c49_A_3 := HX_A.out.at 3 (v := .int .i64 0) rfl
    have c49_A_4 := HX_A.out.at 4 (v := .int .i64 0) rfl
    have c49_A_5 := HX_A.out.at 5 (v := .slice none 0 0) rfl
    go_enter Try.func27, Try.ntmps27
    go_upto_region 1 with fail
    rw [← HW0.out, ← HR_A.out]
    go_upto_region 2 with fail
    obtain ⟨W50, hW50⟩ : ∃ W50, W50 = W0.alloc (.cells #[.int .i64 f, .int .i64 z, .slice none 0 0, .int .i64 0, .int .i64 0, .slice none 0 0] 29) := ⟨_, rfl⟩
    have l50 : Below W0.heap.size W0 W50 := by rw [hW50]; exact (Below.refl _ _).alloc (Nat.le_refl _) _
    have X50_X : Hid (Bx W50 W0.heap.size #[.int .i64 f, .int .i64 z, .slice none 0 0, .int .i64 0, .int .i64 0, .slice none 0 0] 29) := Lib.hid (by rw [hW50]; exact Bx.new _ _ _)
    rw [← hW50]
    clear hW50
    have HG_X : Hid (w.heap.size ≤ W0.heap.size) := Lib.hid HB0.out.size
    have HN_X_A : Hid (R_A < W0.heap.size) := Lib.hid HX_A.out.lt
    obtain ⟨R_X, hR_X⟩ : ∃ X, X = W0.heap.size := ⟨_, rfl⟩
    rw [← hR_X] at X50_X HG_X HN_X_A ⊢
    clear hR_X
    clear c49_A_0 c49_A_1 c49_A_2 c49_A_3 c49_A_4 c49_A_5
    have HB_51 := Lib.hid (HB0.out.trans (l50.mono HB0.out.size))
    have A_51 := Lib.hid (HX_A.out.below l50 HX_A.out.lt)
    clear l50
    have c52_A_0 := A_51.out.at 0 (v := .int .i64 0) rfl
    have c52_A_1 := A_51.out.at 1 (v := .int .i64 0) rfl
    have c52_A_2 := A_51.out.at 2 (v := .slice none 0 0) rfl
    have c52_A_3 := A_51.out.at 3 (v := .int .i64 0) rfl
    have c52_A_4 := A_51.out.at 4 (v := .int .i64 0) rfl
    have c52_A_5 := A_51.out.at 5 (v := .slice none 0 0) rfl
    have c53_X_0 := X50_X.out.at 0 (v := .int .i64 f) rfl
    have c53_X_1 := X50_X.out.at 1 (v := .int .i64 z) rfl
    have c53_X_2 := X50_X.out.at 2 (v := .slice none 0 0) rfl
    have c53_X_3 := X50_X.out.at 3 (v := .int .i64 0) rfl
    have c53_X_4 := X50_X.out.at 4 (v := .int .i64 0) rfl
    have c53_X_5 := X50_X.out.at 5 (v := .slice none 0 0) rfl
    go_wp2_with fail
    refine (HG.out _).mono ?_
    rintro e W54 ⟨rfl, l54⟩
    clear c52_A_0 c52_A_1 c52_A_2 c52_A_3 c52_A_4 c52_A_5
    clear c53_X_0 c53_X_1 c53_X_2 c53_X_3 c53_X_4 c53_X_5
    have HB_55 := Lib.hid (HB_51.out.trans (l54.mono HB_51.out.size))
    have A_55 := Lib.hid (A_51.out.below l54 A_51.out.lt)
    clear A_51
    have X_55 := Lib.hid (X50_X.out.below l54 X50_X.out.lt)
    clear X50_X
    clear l54
    have c56_A_0 := A_55.out.at 0 (v := .int .i64 0) rfl
    have c56_A_1 := A_55.out.at 1 (v := .int .i64 0) rfl
    have c56_A_2 := A_55.out.at 2 (v := .slice none 0 0) rfl
    have c56_A_3 := A_55.out.at 3 (v := .int .i64 0) rfl
    have c56_A_4 := A_55.out.at 4 (v := .int .i64 0) rfl
    have c56_A_5 := A_55.out.at 5 (v := .slice none 0 0) rfl
    have c57_X_0 := X_55.out.at 0 (v := .int .i64 f) rfl
    have c57_X_1 := X_55.out.at 1 (v := .int .i64 z) rfl
    have c57_X_2 := X_55.out.at 2 (v := .slice none 0 0) rfl
    have c57_X_3 := X_55.out.at 3 (v := .int .i64 0) rfl
    have c57_X_4 := X_55.out.at 4 (v := .int .i64 0) rfl
    have c57_X_5 := X_55.out.at 5 (v := .slice none 0 0) rfl
    have fr58_A_0 := A_55.out.free 0
    have fr58_A_1 := A_55.out.free 1
    have fr58_A_2 := A_55.out.free 2
    have fr58_A_3 := A_55.out.free 3
    have fr58_A_4 := A_55.out.free 4
    have fr58_A_5 := A_55.out.free 5
    go_wp2_with fail
    obtain ⟨p1, q1⟩ := A_55.out.store6 (.int .i64 f) (.int .i64 z) (.slice none 0 0) (.int .i64 0) (.int .i64 0) (.slice none 0 0)
    exact bodyPost_ret (results_bx1 rfl isSo _ _ R_A rfl rfl rfl p1) rfl ⟨rfl, (HB_55.out.grown q1 HB_55.out.size (fun k hk => by have e2 : R_A = k := Option.some.inj hk; have := HR_A.out; omega))⟩
set_option maxRecDepth 100000 in
set_option maxHeartbeats 1000000 in
theorem specTicks_any (v hv : Value) (s : So) (w : World) (hrow : Row w v s.w.q.length (s.w.q.map Value.string)) (hhr : Row w hv s.h.length (hdF s.h)) (hs : ∀ x ∈ s.w.q, x.size ≤ maxLen) :
    Calls Try.prog 22 #[.agg #[.int .i64 s.w.t, .int .i64 s.w.z, v, .int .i64 s.c, .int .i64 s.u, hv]] w fun e w' => e = .returned (.tuple #[.int .i64 (ticksV s), .bool (soOk s)]) ∧ Below w.heap.size w w' := by
  obtain ⟨⟨t, z, q⟩, c, u, h⟩ := s
  dsimp only at hrow hhr hs ⊢
  obtain ⟨a, cap, rfl, hc1, hm1, -⟩ := row_open hrow
  obtain ⟨b, caph, rfl, hc2, hm2, -⟩ := hd_open hhr
  unfold maxLen at hm1 hm2
  have HP := Lib.hid hrow
  have HH := Lib.hid hhr
  clear hrow hhr
  have HS := Lib.hid hs
  clear hs
  obtain ⟨W0, R_T, hW0, hR_T, hX_T, hB0⟩ := entry1 w #[.int .i64 t, .int .i64 z, .slice a q.length cap, .int .i64 c, .int .i64 u, .slice b h.length caph] 29
  have HW0 := Lib.hid hW0
  have HB0 := Lib.hid hB0
  have HR_T := Lib.hid hR_T
  have HX_T := Lib.hid hX_T
  clear hW0 hB0 hR_T hX_T
  have HG := Lib.hid (fun (W1 : World) (hr : Row W1 (.slice a q.length cap) q.length (q.map Value.string)) (hh : Row W1 (.slice b h.length caph) h.length (hdF h)) => l11Good_any (.slice a q.length cap) (.slice b h.length caph) ⟨⟨t, z, q⟩, c, u, h⟩ W1 hr hh HS.out)
  cases ok : soOk ⟨⟨t, z, q⟩, c, u, h⟩ with
  | false =>
    have hv : ticksV ⟨⟨t, z, q⟩, c, u, h⟩ = 0 := by unfold ticksV; rw [ok]; rfl
    rw [ok] at HG
    rw [hv]
    clear hv ok
    have c59_T_0 := HX_T.out.at 0 (v := .int .i64 t) rfl
    have c59_T_1 := HX_T.out.at 1 (v := .int .i64 z) rfl
    have c59_T_2 := HX_T.out.at 2 (v := .slice a q.length cap) rfl
    have c59_T_3 := HX_T.out.at 3 (v := .int .i64 c) rfl
    have c59_T_4 := HX_T.out.at 4 (v := .int .i64 u) rfl
    have c59_T_5 := HX_T.out.at 5 (v := .slice b h.length caph) rfl
    go_enter Try.func22, Try.ntmps22
    go_upto_region 1 with fail
    rw [← HW0.out, ← HR_T.out]
    go_wp2_with fail
    refine (HG.out _ (HP.out.below HB0.out (Nat.le_refl _)) (HH.out.below HB0.out (Nat.le_refl _))).mono ?_
    rintro e W60 ⟨rfl, l60⟩
    clear c59_T_0 c59_T_1 c59_T_2 c59_T_3 c59_T_4 c59_T_5
    have HB_61 := Lib.hid (HB0.out.trans (l60.mono HB0.out.size))
    have T_61 := Lib.hid (HX_T.out.below l60 HX_T.out.lt)
    clear l60
    have c62_T_0 := T_61.out.at 0 (v := .int .i64 t) rfl
    have c62_T_1 := T_61.out.at 1 (v := .int .i64 z) rfl
    have c62_T_2 := T_61.out.at 2 (v := .slice a q.length cap) rfl
    have c62_T_3 := T_61.out.at 3 (v := .int .i64 c) rfl
    have c62_T_4 := T_61.out.at 4 (v := .int .i64 u) rfl
    have c62_T_5 := T_61.out.at 5 (v := .slice b h.length caph) rfl
    go_wp2_with fail
    go_ret2
    exact ⟨rfl, HB_61.out⟩
  | true =>
    have hv : ticksV ⟨⟨t, z, q⟩, c, u, h⟩ = 4 - u := if_pos ok
    have hu := (soOk_iff.1 ok).2.2.1
    dsimp only at hu
    obtain ⟨hu0, hu1⟩ := hu
    rw [ok] at HG
    rw [hv]
    clear hv ok
    have c63_T_0 := HX_T.out.at 0 (v := .int .i64 t) rfl
    have c63_T_1 := HX_T.out.at 1 (v := .int .i64 z) rfl
    have c63_T_2 := HX_T.out.at 2 (v := .slice a q.length cap) rfl
    have c63_T_3 := HX_T.out.at 3 (v := .int .i64 c) rfl
    have c63_T_4 := HX_T.out.at 4 (v := .int .i64 u) rfl
    have c63_T_5 := HX_T.out.at 5 (v := .slice b h.length caph) rfl
    go_enter Try.func22, Try.ntmps22
    go_upto_region 1 with fail
    rw [← HW0.out, ← HR_T.out]
    go_wp2_with fail
    refine (HG.out _ (HP.out.below HB0.out (Nat.le_refl _)) (HH.out.below HB0.out (Nat.le_refl _))).mono ?_
    rintro e W64 ⟨rfl, l64⟩
    clear c63_T_0 c63_T_1 c63_T_2 c63_T_3 c63_T_4 c63_T_5
    have HB_65 := Lib.hid (HB0.out.trans (l64.mono HB0.out.size))
    have T_65 := Lib.hid (HX_T.out.below l64 HX_T.out.lt)
    clear l64
    have c66_T_0 := T_65.out.at 0 (v := .int .i64 t) rfl
    have c66_T_1 := T_65.out.at 1 (v := .int .i64 z) rfl
    have c66_T_2 := T_65.out.at 2 (v := .slice a q.length cap) rfl
    have c66_T_3 := T_65.out.at 3 (v := .int .i64 c) rfl
    have c66_T_4 := T_65.out.at 4 (v := .int .i64 u) rfl
    have c66_T_5 := T_65.out.at 5 (v := .slice b h.length caph) rfl
    go_wp2_with fail
    go_ret2
    exact ⟨rfl, HB_65.out⟩
set_option maxRecDepth 100000 in
set_option maxHeartbeats 8000000 in
theorem l11Hold_any (v hv : Value) (s : So) (w : World) (hrow : Row w v s.w.q.length (s.w.q.map Value.string)) (hhr : Row w hv s.h.length (hdF s.h)) (n : Int) (hok : soOk s = true) (hn : serB n = true) :
    Calls Try.prog 67 #[.agg #[.int .i64 s.w.t, .int .i64 s.w.z, v, .int .i64 s.c, .int .i64 s.u, hv], .int .i64 n] w fun e w' => e = .returned (.tuple #[.int .i64 (plcH s.w.t s.h n : Nat), .bool (hasH s.h n)]) ∧ Below w.heap.size w w' := by
  obtain ⟨⟨t, z, q⟩, c, u, h⟩ := s
  dsimp only at hrow hhr ⊢
  obtain ⟨a, cap, rfl, hc1, hm1, -⟩ := row_open hrow
  obtain ⟨b, caph, rfl, hc2, hm2, -⟩ := hd_open hhr
  unfold maxLen at hm1 hm2
  have HP := Lib.hid hrow
  have HH := Lib.hid hhr
  clear hrow hhr
  obtain ⟨k1, k2, k3, k4, k5⟩ := soOk_iff.1 hok
  dsimp only at k1 k2 k3 k4 k5 ⊢
  have hs : ∀ x ∈ h, serB x.n = true := fun x hx => (hd1_iff.1 (k4 x hx)).1
  obtain ⟨⟨ht0, ht1⟩, -⟩ := swOk_iff.1 k1
  dsimp only at ht0 ht1
  obtain ⟨hn0, hn1⟩ := serB_bd hn
  have HPl : Hid (∀ k, k ≤ h.length → (∀ j (hj : j < h.length), j < k → gapI t h[j].n < gapI t n) → (k = h.length ∨ ∃ hk2 : k < h.length, ¬ gapI t (h[k]'hk2).n < gapI t n) → plcH t h n = k ∧ hasH h n = atH h[k]? n) := Lib.hid (fun k x1 x2 x3 => by
    have e := plcH_at x1 x2 x3
    exact ⟨e, by rw [hasH_plc k5 hs hn, e]⟩)
  have HS2 := Lib.hid hs
  clear k1 k2 k3 k4 k5 hs hn hok
  obtain ⟨W0, R_T, hW0, hR_T, hX_T, hB0⟩ := entry1 w #[.int .i64 t, .int .i64 z, .slice a q.length cap, .int .i64 c, .int .i64 u, .slice b h.length caph] 29
  have HW0 := Lib.hid hW0
  have HB0 := Lib.hid hB0
  have HR_T := Lib.hid hR_T
  have HX_T := Lib.hid hX_T
  clear hW0 hB0 hR_T hX_T
  have HL0 := Lib.hid (Below.refl W0.heap.size W0)
  have c67_T_0 := HX_T.out.at 0 (v := .int .i64 t) rfl
  have c67_T_1 := HX_T.out.at 1 (v := .int .i64 z) rfl
  have c67_T_2 := HX_T.out.at 2 (v := .slice a q.length cap) rfl
  have c67_T_3 := HX_T.out.at 3 (v := .int .i64 c) rfl
  have c67_T_4 := HX_T.out.at 4 (v := .int .i64 u) rfl
  have c67_T_5 := HX_T.out.at 5 (v := .slice b h.length caph) rfl
  go_enter Try.func67, Try.ntmps67
  go_upto_region 1 with fail
  rw [← HW0.out, ← HR_T.out]
  go_wp2_with fail
  go_loopw [6] (fun i wr => ∃ k : Nat, k ≤ h.length ∧ i = .int .i64 k ∧ Hid (∀ j (hj : j < h.length), j < k → gapI t h[j].n < gapI t n) ∧ Hid (Below W0.heap.size W0 wr)) (fun i _ => h.length - (RowKit.intOf i).toNat)
  case atStart => exact ⟨0, Nat.zero_le _, rfl, Lib.hid (fun j _ hj => absurd hj (Nat.not_lt_zero _)), HL0⟩
  case round =>
    obtain ⟨k, hk, rfl, HA, HL⟩ := hrel
    clear c67_T_0 c67_T_1 c67_T_2 c67_T_3 c67_T_4 c67_T_5
    have HBr := Lib.hid (HB0.out.trans (HL.out.mono HB0.out.size))
    have T_r := Lib.hid (HX_T.out.below HL.out HX_T.out.lt)
    by_cases hkn : k < h.length
    · obtain ⟨bb, off, rfl, hb, d0, -⟩ := row_hd HH.out hkn
      have e0 := (HBr.out.cell (p := ⟨bb, off + k * 2, none⟩) hb).trans d0
      obtain ⟨hx0, hx1⟩ := serB_bd (HS2.out _ (List.getElem_mem hkn))
      have HA2 : Hid (gapI t h[k].n < gapI t n → ∀ j (hj : j < h.length), j < k + 1 → gapI t h[j].n < gapI t n) := Lib.hid (fun hg j hj hjk => by
        by_cases e : j = k
        · subst e; exact hg
        · exact HA.out j hj (by omega))
      have HEnd : Hid (¬ gapI t h[k].n < gapI t n → plcH t h n = k ∧ hasH h n = (h[k].n == n)) := Lib.hid (fun hg => by
        obtain ⟨e1, e2⟩ := HPl.out k (by omega) HA.out (.inr ⟨hkn, by omega⟩)
        rw [List.getElem?_eq_getElem hkn] at e2
        exact ⟨e1, e2⟩)
      clear d0 HA HPl
      generalize h[k].n = m at e0 hx0 hx1 HA2 HEnd
      have i1 : (k : Int) < (h.length : Int) := by omega
      have i2 : decide (k < h.length) = true := decide_eq_true hkn
      have i3 : decide ((k : Int) < (h.length : Int)) = true := decide_eq_true i1
      have c68_T_0 := T_r.out.at 0 (v := .int .i64 t) rfl
      have c68_T_1 := T_r.out.at 1 (v := .int .i64 z) rfl
      have c68_T_2 := T_r.out.at 2 (v := .slice a q.length cap) rfl
      have c68_T_3 := T_r.out.at 3 (v := .int .i64 c) rfl
      have c68_T_4 := T_r.out.at 4 (v := .int .i64 u) rfl
      have c68_T_5 := T_r.out.at 5 (v := .slice (some ⟨bb, off, none⟩) h.length caph) rfl
      by_cases hg : gapI t m < gapI t n
      · have HA3 := Lib.hid (HA2.out hg)
        clear HA2 HEnd
        go_wp2_with fail
        go_quiet (first | (go_at_call 94; refine quiet_sm (l2Gap_any _ _ _ ?_ ?_ ?_ ?_) <;> assumption))
        go_wp2_with fail
        go_roundw
        case rel => exact ⟨k + 1, by omega, by go_num, HA3, Lib.hid (HL.out.trans ((bdrew _ _).mono HL.out.size))⟩
        case measure => (simp [RowKit.intOf]; omega)
      · obtain ⟨y1, y2⟩ := HEnd.out hg
        have HY := Lib.hid (And.intro y1 y2)
        clear HA2 HEnd y1 y2
        go_wp2_with fail
        go_quiet (first | (go_at_call 94; refine quiet_sm (l2Gap_any _ _ _ ?_ ?_ ?_ ?_) <;> assumption))
        go_wp2_with fail
        go_quiet (fail)
        go_wp2_with fail
        go_ret2
        exact ⟨by rw [HY.out.1, HY.out.2]; rfl, b_d (b_d HBr.out _) _⟩
    · obtain rfl : k = h.length := by omega
      have HY := Lib.hid (HPl.out _ (Nat.le_refl _) HA.out (.inl rfl))
      have HY2 : Hid (plcH t h n = h.length ∧ hasH h n = false) := Lib.hid ⟨HY.out.1, by rw [HY.out.2, List.getElem?_eq_none (Nat.le_refl _)]; rfl⟩
      clear HY HPl HA
      have i1 : ¬ (h.length : Int) < (h.length : Int) := by omega
      have i2 : decide (h.length < h.length) = false := decide_eq_false (by omega)
      have i3 : decide ((h.length : Int) < (h.length : Int)) = false := decide_eq_false i1
      have c69_T_0 := T_r.out.at 0 (v := .int .i64 t) rfl
      have c69_T_1 := T_r.out.at 1 (v := .int .i64 z) rfl
      have c69_T_2 := T_r.out.at 2 (v := .slice a q.length cap) rfl
      have c69_T_3 := T_r.out.at 3 (v := .int .i64 c) rfl
      have c69_T_4 := T_r.out.at 4 (v := .int .i64 u) rfl
      have c69_T_5 := T_r.out.at 5 (v := .slice b h.length caph) rfl
      go_wp2_with fail
      go_quiet (fail)
      go_wp2_with fail
      go_quiet (fail)
      go_wp2_with fail
      go_ret2
      exact ⟨by rw [HY2.out.1, HY2.out.2]; rfl, b_d (b_d HBr.out _) _⟩
set_option maxRecDepth 100000 in
set_option maxHeartbeats 2000000 in
theorem specOnH_any (v hv : Value) (s : So) (w : World) (hrow : Row w v s.w.q.length (s.w.q.map Value.string)) (hhr : Row w hv s.h.length (hdF s.h)) (hs : ∀ x ∈ s.w.q, x.size ≤ maxLen) (n : Int) :
    Calls Try.prog 29 #[.agg #[.int .i64 s.w.t, .int .i64 s.w.z, v, .int .i64 s.c, .int .i64 s.u, hv], .int .i64 n] w fun e w' => e = .returned (.tuple #[.bool (onhV s n), .bool (onhOk s n)]) ∧ Below w.heap.size w w' := by
  obtain ⟨⟨t, z, q⟩, c, u, h⟩ := s
  dsimp only at hrow hhr hs ⊢
  obtain ⟨a, cap, rfl, hc1, hm1, -⟩ := row_open hrow
  obtain ⟨b, caph, rfl, hc2, hm2, -⟩ := hd_open hhr
  unfold maxLen at hm1 hm2
  have HP := Lib.hid hrow
  have HH := Lib.hid hhr
  clear hrow hhr
  have HS := Lib.hid hs
  clear hs
  obtain ⟨W0, R_T, hW0, hR_T, hX_T, hB0⟩ := entry1 w #[.int .i64 t, .int .i64 z, .slice a q.length cap, .int .i64 c, .int .i64 u, .slice b h.length caph] 29
  have HW0 := Lib.hid hW0
  have HB0 := Lib.hid hB0
  have HR_T := Lib.hid hR_T
  have HX_T := Lib.hid hX_T
  clear hW0 hB0 hR_T hX_T
  have HG := Lib.hid (fun (W1 : World) (hr : Row W1 (.slice a q.length cap) q.length (q.map Value.string)) (hh : Row W1 (.slice b h.length caph) h.length (hdF h)) => l11Good_any (.slice a q.length cap) (.slice b h.length caph) ⟨⟨t, z, q⟩, c, u, h⟩ W1 hr hh HS.out)
  have HSer := Lib.hid (fun (W1 : World) => l2Good_any n W1)
  cases ok : soOk ⟨⟨t, z, q⟩, c, u, h⟩ with
  | false =>
    rw [ok] at HG
    have ho : onhOk ⟨⟨t, z, q⟩, c, u, h⟩ n = false := by unfold onhOk; rw [ok]; rfl
    have hv : onhV ⟨⟨t, z, q⟩, c, u, h⟩ n = false := by unfold onhV; rw [ho]; rfl
    rw [hv, ho]
    clear hv ho
    have c70_T_0 := HX_T.out.at 0 (v := .int .i64 t) rfl
    have c70_T_1 := HX_T.out.at 1 (v := .int .i64 z) rfl
    have c70_T_2 := HX_T.out.at 2 (v := .slice a q.length cap) rfl
    have c70_T_3 := HX_T.out.at 3 (v := .int .i64 c) rfl
    have c70_T_4 := HX_T.out.at 4 (v := .int .i64 u) rfl
    have c70_T_5 := HX_T.out.at 5 (v := .slice b h.length caph) rfl
    go_enter Try.func29, Try.ntmps29
    go_upto_region 1 with fail
    rw [← HW0.out, ← HR_T.out]
    go_wp2_with fail
    refine (HG.out _ (HP.out.below HB0.out (Nat.le_refl _)) (HH.out.below HB0.out (Nat.le_refl _))).mono ?_
    rintro e W71 ⟨rfl, l71⟩
    clear c70_T_0 c70_T_1 c70_T_2 c70_T_3 c70_T_4 c70_T_5
    have HB_72 := Lib.hid (HB0.out.trans (l71.mono HB0.out.size))
    have T_72 := Lib.hid (HX_T.out.below l71 HX_T.out.lt)
    clear l71
    have c73_T_0 := T_72.out.at 0 (v := .int .i64 t) rfl
    have c73_T_1 := T_72.out.at 1 (v := .int .i64 z) rfl
    have c73_T_2 := T_72.out.at 2 (v := .slice a q.length cap) rfl
    have c73_T_3 := T_72.out.at 3 (v := .int .i64 c) rfl
    have c73_T_4 := T_72.out.at 4 (v := .int .i64 u) rfl
    have c73_T_5 := T_72.out.at 5 (v := .slice b h.length caph) rfl
    go_wp2_with fail
    go_ret2
    exact ⟨rfl, HB_72.out⟩
  | true =>
    rw [ok] at HG
    cases os : serB n with
    | false =>
      rw [os] at HSer
      have ho : onhOk ⟨⟨t, z, q⟩, c, u, h⟩ n = false := by unfold onhOk; rw [ok, os]; rfl
      have hv : onhV ⟨⟨t, z, q⟩, c, u, h⟩ n = false := by unfold onhV; rw [ho]; rfl
      rw [hv, ho]
      clear hv ho
      have c74_T_0 := HX_T.out.at 0 (v := .int .i64 t) rfl
      have c74_T_1 := HX_T.out.at 1 (v := .int .i64 z) rfl
      have c74_T_2 := HX_T.out.at 2 (v := .slice a q.length cap) rfl
      have c74_T_3 := HX_T.out.at 3 (v := .int .i64 c) rfl
      have c74_T_4 := HX_T.out.at 4 (v := .int .i64 u) rfl
      have c74_T_5 := HX_T.out.at 5 (v := .slice b h.length caph) rfl
      go_enter Try.func29, Try.ntmps29
      go_upto_region 1 with fail
      rw [← HW0.out, ← HR_T.out]
      go_wp2_with fail
      refine (HG.out _ (HP.out.below HB0.out (Nat.le_refl _)) (HH.out.below HB0.out (Nat.le_refl _))).mono ?_
      rintro e W75 ⟨rfl, l75⟩
      clear c74_T_0 c74_T_1 c74_T_2 c74_T_3 c74_T_4 c74_T_5
      have HB_76 := Lib.hid (HB0.out.trans (l75.mono HB0.out.size))
      have T_76 := Lib.hid (HX_T.out.below l75 HX_T.out.lt)
      clear l75
      have c77_T_0 := T_76.out.at 0 (v := .int .i64 t) rfl
      have c77_T_1 := T_76.out.at 1 (v := .int .i64 z) rfl
      have c77_T_2 := T_76.out.at 2 (v := .slice a q.length cap) rfl
      have c77_T_3 := T_76.out.at 3 (v := .int .i64 c) rfl
      have c77_T_4 := T_76.out.at 4 (v := .int .i64 u) rfl
      have c77_T_5 := T_76.out.at 5 (v := .slice b h.length caph) rfl
      go_wp2_with fail
      refine (HSer.out _).mono ?_
      rintro e _ ⟨rfl, rfl⟩
      go_wp2_with fail
      go_ret2
      exact ⟨rfl, HB_76.out⟩
    | true =>
      rw [os] at HSer
      have ho : onhOk ⟨⟨t, z, q⟩, c, u, h⟩ n = true := by unfold onhOk; rw [ok, os]; rfl
      have hv : onhV ⟨⟨t, z, q⟩, c, u, h⟩ n = hasH h n := by unfold onhV; rw [ho]; rfl
      rw [hv, ho]
      have HHo := Lib.hid (fun (W1 : World) (hr : Row W1 (.slice a q.length cap) q.length (q.map Value.string)) (hh : Row W1 (.slice b h.length caph) h.length (hdF h)) => l11Hold_any (.slice a q.length cap) (.slice b h.length caph) ⟨⟨t, z, q⟩, c, u, h⟩ W1 hr hh n ok os)
      dsimp only at HHo
      generalize hasH h n = hb at HHo ⊢
      clear hv ho ok os
      have c78_T_0 := HX_T.out.at 0 (v := .int .i64 t) rfl
      have c78_T_1 := HX_T.out.at 1 (v := .int .i64 z) rfl
      have c78_T_2 := HX_T.out.at 2 (v := .slice a q.length cap) rfl
      have c78_T_3 := HX_T.out.at 3 (v := .int .i64 c) rfl
      have c78_T_4 := HX_T.out.at 4 (v := .int .i64 u) rfl
      have c78_T_5 := HX_T.out.at 5 (v := .slice b h.length caph) rfl
      go_enter Try.func29, Try.ntmps29
      go_upto_region 1 with fail
      rw [← HW0.out, ← HR_T.out]
      go_wp2_with fail
      refine (HG.out _ (HP.out.below HB0.out (Nat.le_refl _)) (HH.out.below HB0.out (Nat.le_refl _))).mono ?_
      rintro e W79 ⟨rfl, l79⟩
      clear c78_T_0 c78_T_1 c78_T_2 c78_T_3 c78_T_4 c78_T_5
      have HB_80 := Lib.hid (HB0.out.trans (l79.mono HB0.out.size))
      have T_80 := Lib.hid (HX_T.out.below l79 HX_T.out.lt)
      clear l79
      have c81_T_0 := T_80.out.at 0 (v := .int .i64 t) rfl
      have c81_T_1 := T_80.out.at 1 (v := .int .i64 z) rfl
      have c81_T_2 := T_80.out.at 2 (v := .slice a q.length cap) rfl
      have c81_T_3 := T_80.out.at 3 (v := .int .i64 c) rfl
      have c81_T_4 := T_80.out.at 4 (v := .int .i64 u) rfl
      have c81_T_5 := T_80.out.at 5 (v := .slice b h.length caph) rfl
      go_wp2_with fail
      refine (HSer.out _).mono ?_
      rintro e _ ⟨rfl, rfl⟩
      go_wp2_with fail
      refine (HHo.out _ (HP.out.below HB_80.out (Nat.le_refl _)) (HH.out.below HB_80.out (Nat.le_refl _))).mono ?_
      rintro e W82 ⟨rfl, l82⟩
      clear c81_T_0 c81_T_1 c81_T_2 c81_T_3 c81_T_4 c81_T_5
      have HB_83 := Lib.hid (HB_80.out.trans (l82.mono HB_80.out.size))
      have T_83 := Lib.hid (T_80.out.below l82 T_80.out.lt)
      clear T_80
      clear l82
      have c84_T_0 := T_83.out.at 0 (v := .int .i64 t) rfl
      have c84_T_1 := T_83.out.at 1 (v := .int .i64 z) rfl
      have c84_T_2 := T_83.out.at 2 (v := .slice a q.length cap) rfl
      have c84_T_3 := T_83.out.at 3 (v := .int .i64 c) rfl
      have c84_T_4 := T_83.out.at 4 (v := .int .i64 u) rfl
      have c84_T_5 := T_83.out.at 5 (v := .slice b h.length caph) rfl
      go_wp2_with fail
      go_ret2
      exact ⟨rfl, HB_83.out⟩
end Go.Proofs.Ytlendmiolhgecaa
