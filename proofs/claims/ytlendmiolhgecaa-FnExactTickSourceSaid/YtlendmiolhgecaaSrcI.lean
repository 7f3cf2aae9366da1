/-
  Sources: the program's functions that read.
-/
import Derived.Test.YtlendmiolhgecaaSrcB
import Derived.Test.YtlendmiolhgecaaSndI3
import Derived.Test.YtlendmiolhgecaaIdxH
import Derived.Deep.QuietTactic
import Derived.BigQuiet
import Derived.IntWalk
import Derived.Deep.CutRange
import Derived.WalkLawsBesides
import Derived.Lib.SmallJoins
import Derived.Deep.RegionHeld3
namespace Go.Proofs.Ytlendmiolhgecaa
open Go.RowKit Go.Lib Go.Joins
set_option linter.unusedVariables false

set_option maxRecDepth 100000 in
set_option maxHeartbeats 400000 in
theorem isClock_any (x : Int) (w : World) :
    Calls Try.prog 53 #[.int .i64 x] w fun e w' => e = .returned (.bool (inB x 0 9999)) ∧ w = w' := by
  by_cases h1 : 0 ≤ x
  · by_cases h2 : x ≤ 9999
    · rw [inB_yes h1 h2]
      go_enter Try.func53, Try.ntmps53
      go_wp2_with fail
      go_ret
      exact ⟨rfl, rfl⟩
    · rw [inB_no (fun h => h2 h.2)]
      go_enter Try.func53, Try.ntmps53
      go_wp2_with fail
      go_ret
      exact ⟨rfl, rfl⟩
  · rw [inB_no (fun h => h1 h.1)]
    go_enter Try.func53, Try.ntmps53
    go_wp2_with fail
    go_ret
    exact ⟨rfl, rfl⟩
set_option maxRecDepth 100000 in
set_option maxHeartbeats 1000000 in
theorem isHeld_any (v : Value) (l : Sw) (x : Int) (w : World) (hrow : Row w v l.q.length (l.q.map Value.string)) (hs : ∀ s ∈ l.q, s.size ≤ maxLen) :
    Calls Try.prog 54 #[.agg #[.int .i64 l.t, .int .i64 l.z, v], .int .i64 x] w fun e w' => e = .returned (.bool (heldOk l x)) ∧ Below w.heap.size w w' := by
  obtain ⟨t, z, q⟩ := l
  dsimp only at hrow hs ⊢
  obtain ⟨a, cap, rfl, hc1, hm1, -⟩ := row_open hrow
  unfold maxLen at hm1
  have HP := Lib.hid hrow
  have HS := Lib.hid hs
  clear hrow hs
  obtain ⟨W0, R_W, hW0, hR_W, hX_W, hB0⟩ := entry1 w #[.int .i64 t, .int .i64 z, .slice a q.length cap] 26
  have HW0 := Lib.hid hW0
  have HB0 := Lib.hid hB0
  have HR_W := Lib.hid hR_W
  have HX_W := Lib.hid hX_W
  clear hW0 hB0 hR_W hX_W
  have HH := Lib.hid (implHeld_any (.slice a q.length cap) ⟨t, z, q⟩ x W0 (HP.out.below HB0.out (Nat.le_refl _)) HS.out)
  generalize heldV ⟨t, z, q⟩ x = hv at HH
  generalize heldOk ⟨t, z, q⟩ x = ho at HH ⊢
  have c1_W_0 := HX_W.out.at 0 (v := .int .i64 t) rfl
  have c1_W_1 := HX_W.out.at 1 (v := .int .i64 z) rfl
  have c1_W_2 := HX_W.out.at 2 (v := .slice a q.length cap) rfl
  go_enter Try.func54, Try.ntmps54
  go_upto_region 1 with fail
  rw [← HW0.out, ← HR_W.out]
  go_wp2_with fail
  refine (HH.out).mono ?_
  rintro e W2 ⟨rfl, l2⟩
  clear c1_W_0 c1_W_1 c1_W_2
  have HB_3 := Lib.hid (HB0.out.trans (l2.mono HB0.out.size))
  have W_3 := Lib.hid (HX_W.out.below l2 HX_W.out.lt)
  clear l2
  have c4_W_0 := W_3.out.at 0 (v := .int .i64 t) rfl
  have c4_W_1 := W_3.out.at 1 (v := .int .i64 z) rfl
  have c4_W_2 := W_3.out.at 2 (v := .slice a q.length cap) rfl
  go_wp2_with fail
  go_ret
  exact ⟨rfl, HB_3.out⟩
set_option maxRecDepth 100000 in
set_option maxHeartbeats 8000000 in
theorem implIsSo_any (v hv : Value) (s : So) (w : World) (hrow : Row w v s.w.q.length (s.w.q.map Value.string)) (hhr : Row w hv s.h.length (hdF s.h)) (hs : ∀ x ∈ s.w.q, x.size ≤ maxLen) :
    Calls Try.prog 17 #[.agg #[.int .i64 s.w.t, .int .i64 s.w.z, v, .int .i64 s.c, .int .i64 s.u, hv]] w fun e w' => e = .returned (.bool (soOk s)) ∧ Below w.heap.size w w' := by
  obtain ⟨⟨t, z, q⟩, c, u, h⟩ := s
  dsimp only at hrow hhr hs ⊢
  obtain ⟨a, cap, rfl, hc1, hm1, -⟩ := row_open hrow
  obtain ⟨b, caph, rfl, hc2, hm2, -⟩ := hd_open hhr
  unfold maxLen at hm1 hm2
  have HP := Lib.hid hrow
  have HH := Lib.hid hhr
  clear hrow hhr
  have HS := Lib.hid hs
  clear hs
  obtain ⟨W0, R_T, hW0, hR_T, hX_T, hB0⟩ := entry1 w #[.int .i64 t, .int .i64 z, .slice a q.length cap, .int .i64 c, .int .i64 u, .slice b h.length caph] 29
  have HW0 := Lib.hid hW0
  have HB0 := Lib.hid hB0
  have HR_T := Lib.hid hR_T
  have HX_T := Lib.hid hX_T
  clear hW0 hB0 hR_T hX_T
  have HL0 := Lib.hid (Below.refl W0.heap.size W0)
  have HNo := Lib.hid (@soOk_no ⟨⟨t, z, q⟩, c, u, h⟩)
  have HWin := Lib.hid (fun (W1 : World) (hr : Row W1 (.slice a q.length cap) q.length (q.map Value.string)) => implIsSw_any (.slice a q.length cap) ⟨t, z, q⟩ W1 hr HS.out)
  have HCl := Lib.hid (fun (W1 : World) => isClock_any c W1)
  cases h1 : swOk ⟨t, z, q⟩ with
  | false =>
    rw [h1] at HWin
    have HE : Hid (soOk ⟨⟨t, z, q⟩, c, u, h⟩ = false) := Lib.hid (HNo.out (fun h => by have := h.1; rw [h1] at this; cases this))
    clear HNo
    have c5_T_0 := HX_T.out.at 0 (v := .int .i64 t) rfl
    have c5_T_1 := HX_T.out.at 1 (v := .int .i64 z) rfl
    have c5_T_2 := HX_T.out.at 2 (v := .slice a q.length cap) rfl
    have c5_T_3 := HX_T.out.at 3 (v := .int .i64 c) rfl
    have c5_T_4 := HX_T.out.at 4 (v := .int .i64 u) rfl
    have c5_T_5 := HX_T.out.at 5 (v := .slice b h.length caph) rfl
    go_enter Try.func17, Try.ntmps17
    go_upto_region 1 with fail
    rw [← HW0.out, ← HR_T.out]
    go_wp2_with fail
    refine (HWin.out _ (HP.out.below HB0.out (Nat.le_refl _))).mono ?_
    rintro e W6 ⟨rfl, l6⟩
    clear c5_T_0 c5_T_1 c5_T_2 c5_T_3 c5_T_4 c5_T_5
    have HB_7 := Lib.hid (HB0.out.trans (l6.mono HB0.out.size))
    have HF_7 := Lib.hid (HL0.out.trans (l6.mono HL0.out.size))
    clear HL0
    have T_7 := Lib.hid (HX_T.out.below l6 HX_T.out.lt)
    clear l6
    have c8_T_0 := T_7.out.at 0 (v := .int .i64 t) rfl
    have c8_T_1 := T_7.out.at 1 (v := .int .i64 z) rfl
    have c8_T_2 := T_7.out.at 2 (v := .slice a q.length cap) rfl
    have c8_T_3 := T_7.out.at 3 (v := .int .i64 c) rfl
    have c8_T_4 := T_7.out.at 4 (v := .int .i64 u) rfl
    have c8_T_5 := T_7.out.at 5 (v := .slice b h.length caph) rfl
    go_wp2_with fail
    go_ret
    exact ⟨ret_bool HE.out.symm, HB_7.out⟩
  | true =>
    rw [h1] at HWin
    cases h2 : inB c 0 9999 with
    | false =>
      rw [h2] at HCl
      have HE : Hid (soOk ⟨⟨t, z, q⟩, c, u, h⟩ = false) := Lib.hid (HNo.out (fun h => by exact inB_eq h2 h.2.1))
      clear HNo
      have c9_T_0 := HX_T.out.at 0 (v := .int .i64 t) rfl
      have c9_T_1 := HX_T.out.at 1 (v := .int .i64 z) rfl
      have c9_T_2 := HX_T.out.at 2 (v := .slice a q.length cap) rfl
      have c9_T_3 := HX_T.out.at 3 (v := .int .i64 c) rfl
      have c9_T_4 := HX_T.out.at 4 (v := .int .i64 u) rfl
      have c9_T_5 := HX_T.out.at 5 (v := .slice b h.length caph) rfl
      go_enter Try.func17, Try.ntmps17
      go_upto_region 1 with fail
      rw [← HW0.out, ← HR_T.out]
      go_wp2_with fail
      refine (HWin.out _ (HP.out.below HB0.out (Nat.le_refl _))).mono ?_
      rintro e W10 ⟨rfl, l10⟩
      clear c9_T_0 c9_T_1 c9_T_2 c9_T_3 c9_T_4 c9_T_5
      have HB_11 := Lib.hid (HB0.out.trans (l10.mono HB0.out.size))
      have HF_11 := Lib.hid (HL0.out.trans (l10.mono HL0.out.size))
      clear HL0
      have T_11 := Lib.hid (HX_T.out.below l10 HX_T.out.lt)
      clear l10
      have c12_T_0 := T_11.out.at 0 (v := .int .i64 t) rfl
      have c12_T_1 := T_11.out.at 1 (v := .int .i64 z) rfl
      have c12_T_2 := T_11.out.at 2 (v := .slice a q.length cap) rfl
      have c12_T_3 := T_11.out.at 3 (v := .int .i64 c) rfl
      have c12_T_4 := T_11.out.at 4 (v := .int .i64 u) rfl
      have c12_T_5 := T_11.out.at 5 (v := .slice b h.length caph) rfl
      go_wp2_with fail
      refine (HCl.out _).mono ?_
      rintro e _ ⟨rfl, rfl⟩
      go_wp2_with fail
      go_ret
      exact ⟨ret_bool HE.out.symm, HB_11.out⟩
    | true =>
      rw [h2] at HCl
      by_cases h3 : 0 ≤ u
      rotate_left
      · have h3' : u < 0 := by omega
        have HE : Hid (soOk ⟨⟨t, z, q⟩, c, u, h⟩ = false) := Lib.hid (HNo.out (fun h => by exact h3 h.2.2.1.1))
        clear HNo
        have c13_T_0 := HX_T.out.at 0 (v := .int .i64 t) rfl
        have c13_T_1 := HX_T.out.at 1 (v := .int .i64 z) rfl
        have c13_T_2 := HX_T.out.at 2 (v := .slice a q.length cap) rfl
        have c13_T_3 := HX_T.out.at 3 (v := .int .i64 c) rfl
        have c13_T_4 := HX_T.out.at 4 (v := .int .i64 u) rfl
        have c13_T_5 := HX_T.out.at 5 (v := .slice b h.length caph) rfl
        go_enter Try.func17, Try.ntmps17
        go_upto_region 1 with fail
        rw [← HW0.out, ← HR_T.out]
        go_wp2_with fail
        refine (HWin.out _ (HP.out.below HB0.out (Nat.le_refl _))).mono ?_
        rintro e W14 ⟨rfl, l14⟩
        clear c13_T_0 c13_T_1 c13_T_2 c13_T_3 c13_T_4 c13_T_5
        have HB_15 := Lib.hid (HB0.out.trans (l14.mono HB0.out.size))
        have HF_15 := Lib.hid (HL0.out.trans (l14.mono HL0.out.size))
        clear HL0
        have T_15 := Lib.hid (HX_T.out.below l14 HX_T.out.lt)
        clear l14
        have c16_T_0 := T_15.out.at 0 (v := .int .i64 t) rfl
        have c16_T_1 := T_15.out.at 1 (v := .int .i64 z) rfl
        have c16_T_2 := T_15.out.at 2 (v := .slice a q.length cap) rfl
        have c16_T_3 := T_15.out.at 3 (v := .int .i64 c) rfl
        have c16_T_4 := T_15.out.at 4 (v := .int .i64 u) rfl
        have c16_T_5 := T_15.out.at 5 (v := .slice b h.length caph) rfl
        go_wp2_with fail
        refine (HCl.out _).mono ?_
        rintro e _ ⟨rfl, rfl⟩
        go_wp2_with fail
        go_ret
        exact ⟨ret_bool HE.out.symm, HB_15.out⟩
      have h3' : ¬ u < 0 := by omega
      by_cases h4 : u ≤ 3
      rotate_left
      · have h4' : (4 : Int) ≤ u := by omega
        have HE : Hid (soOk ⟨⟨t, z, q⟩, c, u, h⟩ = false) := Lib.hid (HNo.out (fun h => by exact h4 h.2.2.1.2))
        clear HNo
        have c17_T_0 := HX_T.out.at 0 (v := .int .i64 t) rfl
        have c17_T_1 := HX_T.out.at 1 (v := .int .i64 z) rfl
        have c17_T_2 := HX_T.out.at 2 (v := .slice a q.length cap) rfl
        have c17_T_3 := HX_T.out.at 3 (v := .int .i64 c) rfl
        have c17_T_4 := HX_T.out.at 4 (v := .int .i64 u) rfl
        have c17_T_5 := HX_T.out.at 5 (v := .slice b h.length caph) rfl
        go_enter Try.func17, Try.ntmps17
        go_upto_region 1 with fail
        rw [← HW0.out, ← HR_T.out]
        go_wp2_with fail
        refine (HWin.out _ (HP.out.below HB0.out (Nat.le_refl _))).mono ?_
        rintro e W18 ⟨rfl, l18⟩
        clear c17_T_0 c17_T_1 c17_T_2 c17_T_3 c17_T_4 c17_T_5
        have HB_19 := Lib.hid (HB0.out.trans (l18.mono HB0.out.size))
        have HF_19 := Lib.hid (HL0.out.trans (l18.mono HL0.out.size))
        clear HL0
        have T_19 := Lib.hid (HX_T.out.below l18 HX_T.out.lt)
        clear l18
        have c20_T_0 := T_19.out.at 0 (v := .int .i64 t) rfl
        have c20_T_1 := T_19.out.at 1 (v := .int .i64 z) rfl
        have c20_T_2 := T_19.out.at 2 (v := .slice a q.length cap) rfl
        have c20_T_3 := T_19.out.at 3 (v := .int .i64 c) rfl
        have c20_T_4 := T_19.out.at 4 (v := .int .i64 u) rfl
        have c20_T_5 := T_19.out.at 5 (v := .slice b h.length caph) rfl
        go_wp2_with fail
        refine (HCl.out _).mono ?_
        rintro e _ ⟨rfl, rfl⟩
        go_wp2_with fail
        go_ret
        exact ⟨ret_bool HE.out.symm, HB_19.out⟩
      have h4' : ¬ (4 : Int) ≤ u := by omega
      have hub : 0 ≤ u ∧ u ≤ 3 := ⟨h3, h4⟩
      have hcb := inB_bd h2
      have hw := swOk_iff.1 h1
      dsimp only at hw
      obtain ⟨ht0, ht1⟩ := hw.1
      clear hw
      have HYes : Hid ((∀ x ∈ h, hd1 ⟨t, z, q⟩ c x = true) → AscG t h → soOk ⟨⟨t, z, q⟩, c, u, h⟩ = true) := Lib.hid (fun i j => soOk_iff.2 ⟨h1, hcb, hub, i, j⟩)
      have HW1 := Lib.hid h1
      obtain ⟨hcb0, hcb1⟩ := hcb
      clear h1 h2 hub
      have c21_T_0 := HX_T.out.at 0 (v := .int .i64 t) rfl
      have c21_T_1 := HX_T.out.at 1 (v := .int .i64 z) rfl
      have c21_T_2 := HX_T.out.at 2 (v := .slice a q.length cap) rfl
      have c21_T_3 := HX_T.out.at 3 (v := .int .i64 c) rfl
      have c21_T_4 := HX_T.out.at 4 (v := .int .i64 u) rfl
      have c21_T_5 := HX_T.out.at 5 (v := .slice b h.length caph) rfl
      go_enter Try.func17, Try.ntmps17
      go_upto_region 1 with fail
      rw [← HW0.out, ← HR_T.out]
      go_wp2_with fail
      refine (HWin.out _ (HP.out.below HB0.out (Nat.le_refl _))).mono ?_
      rintro e W22 ⟨rfl, l22⟩
      clear c21_T_0 c21_T_1 c21_T_2 c21_T_3 c21_T_4 c21_T_5
      have HB_23 := Lib.hid (HB0.out.trans (l22.mono HB0.out.size))
      have HF_23 := Lib.hid (HL0.out.trans (l22.mono HL0.out.size))
      clear HL0
      have T_23 := Lib.hid (HX_T.out.below l22 HX_T.out.lt)
      clear l22
      have c24_T_0 := T_23.out.at 0 (v := .int .i64 t) rfl
      have c24_T_1 := T_23.out.at 1 (v := .int .i64 z) rfl
      have c24_T_2 := T_23.out.at 2 (v := .slice a q.length cap) rfl
      have c24_T_3 := T_23.out.at 3 (v := .int .i64 c) rfl
      have c24_T_4 := T_23.out.at 4 (v := .int .i64 u) rfl
      have c24_T_5 := T_23.out.at 5 (v := .slice b h.length caph) rfl
      go_wp2_with fail
      refine (HCl.out _).mono ?_
      rintro e _ ⟨rfl, rfl⟩
      go_wp2_with fail
      go_loopw [3, 30] (fun l i wr => ∃ k : Nat, k ≤ h.length ∧ i = .int .i64 k ∧ l = .int .i64 (lastG t h k) ∧ Hid (∀ x ∈ h.take k, hd1 ⟨t, z, q⟩ c x = true) ∧ Hid (AscG t (h.take k)) ∧ Hid (Below W0.heap.size W0 wr)) (fun _ i _ => h.length - (RowKit.intOf i).toNat)
      case atStart => exact ⟨0, Nat.zero_le _, rfl, rfl, Lib.hid (by simp), Lib.hid (by simp [ascG_nil]), HF_23⟩
      case round =>
        obtain ⟨k, hk, rfl, rfl, HA, HG, HL⟩ := hrel
        clear c24_T_0 c24_T_1 c24_T_2 c24_T_3 c24_T_4 c24_T_5
        have HBr := Lib.hid (HB0.out.trans (HL.out.mono HB0.out.size))
        have T_r := Lib.hid (HX_T.out.below HL.out HX_T.out.lt)
        by_cases hkn : k < h.length
        · obtain ⟨bb, off, rfl, hb, d0, d1⟩ := row_hd HH.out hkn
          have e0 := (HBr.out.cell (p := ⟨bb, off + k * 2, none⟩) hb).trans d0
          have e1 := (HBr.out.cell (p := ⟨bb, off + k * 2 + 1, none⟩) hb).trans d1
          clear d0 d1
          have HPk : Hid (hd1 ⟨t, z, q⟩ c h[k] = true → ∀ x ∈ h.take (k + 1), hd1 ⟨t, z, q⟩ c x = true) := Lib.hid (fun hh x hx => by
            rw [List.take_succ_eq_append_getElem hkn] at hx
            rcases List.mem_append.1 hx with hx | hx
            · exact HA.out x hx
            · rw [List.mem_singleton.1 hx]; exact hh)
          have HQ : Hid (hd1 ⟨t, z, q⟩ c h[k] = false → soOk ⟨⟨t, z, q⟩, c, u, h⟩ = false) := Lib.hid (fun hh => HNo.out (fun hx => by have := hx.2.2.2.1 _ (List.getElem_mem hkn); rw [hh] at this; cases this))
          have HQ2 : Hid (¬ lastG t h k < gapI t h[k].n → soOk ⟨⟨t, z, q⟩, c, u, h⟩ = false) := Lib.hid (fun hh => HNo.out (fun hx => ascG_no hkn hh hx.2.2.2.2))
          have HG2 : Hid (lastG t h k < gapI t h[k].n → AscG t (h.take (k + 1))) := Lib.hid (fun hh => ascG_next hkn HG.out hh)
          have HLn : Hid (lastG t h (k + 1) = gapI t h[k].n) := Lib.hid (lastG_next hkn)
          have hd1e : hd1 ⟨t, z, q⟩ c h[k] = (serB h[k].n && (heldB ⟨t, z, q⟩ h[k].n && inB h[k].u (c + 1) (c + 3))) := rfl
          rw [hd1e] at HPk HQ
          clear hd1e
          have HHk : Hid (∀ j (hj : j + 1 = k), ∃ x : Hd, h[j]? = some x ∧ serB x.n = true ∧ lastG t h k = gapI t x.n) := Lib.hid (fun j hj => ⟨h[j]'(by omega), List.getElem?_eq_getElem (by omega), (hd1_iff.1 (HA.out _ (by rw [List.mem_take_iff_getElem]; exact ⟨j, by omega, rfl⟩))).1, lastG_at hj (by omega)⟩)
          generalize h[k].n = n at e0 HPk HQ HQ2 HG2 HLn
          generalize h[k].u = hu at e1 HPk HQ
          have c25_T_0 := T_r.out.at 0 (v := .int .i64 t) rfl
          have c25_T_1 := T_r.out.at 1 (v := .int .i64 z) rfl
          have c25_T_2 := T_r.out.at 2 (v := .slice a q.length cap) rfl
          have c25_T_3 := T_r.out.at 3 (v := .int .i64 c) rfl
          have c25_T_4 := T_r.out.at 4 (v := .int .i64 u) rfl
          have c25_T_5 := T_r.out.at 5 (v := .slice (some ⟨bb, off, none⟩) h.length caph) rfl
          go_upto_region 7 with fail
          obtain ⟨W26, hW26⟩ : ∃ W26, W26 = wr.alloc (.cells #[.int .i64 n, .int .i64 hu] 82) := ⟨_, rfl⟩
          have l26 : Below wr.heap.size wr W26 := by rw [hW26]; exact (Below.refl _ _).alloc (Nat.le_refl _) _
          have X26_X : Hid (Bx W26 wr.heap.size #[.int .i64 n, .int .i64 hu] 82) := Lib.hid (by rw [hW26]; exact Bx.new _ _ _)
          rw [← hW26]
          clear hW26
          have HG_X : Hid (w.heap.size ≤ wr.heap.size) := Lib.hid HBr.out.size
          have HN_X_T : Hid (R_T < wr.heap.size) := Lib.hid T_r.out.lt
          obtain ⟨R_X, hR_X⟩ : ∃ X, X = wr.heap.size := ⟨_, rfl⟩
          rw [← hR_X] at X26_X HG_X HN_X_T ⊢
          clear hR_X
          clear c25_T_0 c25_T_1 c25_T_2 c25_T_3 c25_T_4 c25_T_5
          have HB_27 := Lib.hid (HBr.out.trans (l26.mono HBr.out.size))
          have HF_27 := Lib.hid (HL.out.trans (l26.mono HL.out.size))
          clear HL
          have T_27 := Lib.hid (T_r.out.below l26 T_r.out.lt)
          clear l26
          have c28_T_0 := T_27.out.at 0 (v := .int .i64 t) rfl
          have c28_T_1 := T_27.out.at 1 (v := .int .i64 z) rfl
          have c28_T_2 := T_27.out.at 2 (v := .slice a q.length cap) rfl
          have c28_T_3 := T_27.out.at 3 (v := .int .i64 c) rfl
          have c28_T_4 := T_27.out.at 4 (v := .int .i64 u) rfl
          have c28_T_5 := T_27.out.at 5 (v := .slice (some ⟨bb, off, none⟩) h.length caph) rfl
          have c29_X_0 := X26_X.out.at 0 (v := .int .i64 n) rfl
          have c29_X_1 := X26_X.out.at 1 (v := .int .i64 hu) rfl
          have HHe := Lib.hid (fun (W1 : World) (hr : Row W1 (.slice a q.length cap) q.length (q.map Value.string)) => isHeld_any (.slice a q.length cap) ⟨t, z, q⟩ n W1 hr HS.out)
          have hhe : heldOk ⟨t, z, q⟩ n = (serB n && heldB ⟨t, z, q⟩ n) := by unfold heldOk; rw [HW1.out, Bool.true_and]
          rw [hhe] at HHe
          clear hhe
          cases hsn : serB n with
          | false =>
            rw [hsn] at HPk HQ HHe
            have HE := Lib.hid (HQ.out (by first | rfl | simp))
            clear HPk HQ HQ2 HG2 HA HG HYes HNo HHk HLn
            go_wp2_with fail
            refine (HHe.out _ (HP.out.below HB_27.out (Nat.le_refl _))).mono ?_
            rintro e W30 ⟨rfl, l30⟩
            clear c28_T_0 c28_T_1 c28_T_2 c28_T_3 c28_T_4 c28_T_5
            clear c29_X_0 c29_X_1
            have HB_31 := Lib.hid (HB_27.out.trans (l30.mono HB_27.out.size))
            have HF_31 := Lib.hid (HF_27.out.trans (l30.mono HF_27.out.size))
            clear HF_27
            have T_31 := Lib.hid (T_27.out.below l30 T_27.out.lt)
            clear T_27
            have X_31 := Lib.hid (X26_X.out.below l30 X26_X.out.lt)
            clear X26_X
            clear l30
            have c32_T_0 := T_31.out.at 0 (v := .int .i64 t) rfl
            have c32_T_1 := T_31.out.at 1 (v := .int .i64 z) rfl
            have c32_T_2 := T_31.out.at 2 (v := .slice a q.length cap) rfl
            have c32_T_3 := T_31.out.at 3 (v := .int .i64 c) rfl
            have c32_T_4 := T_31.out.at 4 (v := .int .i64 u) rfl
            have c32_T_5 := T_31.out.at 5 (v := .slice (some ⟨bb, off, none⟩) h.length caph) rfl
            have c33_X_0 := X_31.out.at 0 (v := .int .i64 n) rfl
            have c33_X_1 := X_31.out.at 1 (v := .int .i64 hu) rfl
            go_wp2_with fail
            go_ret
            exact ⟨ret_bool HE.out.symm, HB_31.out⟩
          | true =>
            rw [hsn] at HPk HQ HHe
            obtain ⟨hn0, hn1⟩ := serB_bd hsn
            have HSn := Lib.hid hsn
            clear hsn
            cases hhb : heldB ⟨t, z, q⟩ n with
            | false =>
              rw [hhb] at HPk HQ HHe
              have HE := Lib.hid (HQ.out (by first | rfl | simp))
              clear HPk HQ HQ2 HG2 HA HG HYes HNo HHk HLn
              go_wp2_with fail
              refine (HHe.out _ (HP.out.below HB_27.out (Nat.le_refl _))).mono ?_
              rintro e W34 ⟨rfl, l34⟩
              clear c28_T_0 c28_T_1 c28_T_2 c28_T_3 c28_T_4 c28_T_5
              clear c29_X_0 c29_X_1
              have HB_35 := Lib.hid (HB_27.out.trans (l34.mono HB_27.out.size))
              have HF_35 := Lib.hid (HF_27.out.trans (l34.mono HF_27.out.size))
              clear HF_27
              have T_35 := Lib.hid (T_27.out.below l34 T_27.out.lt)
              clear T_27
              have X_35 := Lib.hid (X26_X.out.below l34 X26_X.out.lt)
              clear X26_X
              clear l34
              have c36_T_0 := T_35.out.at 0 (v := .int .i64 t) rfl
              have c36_T_1 := T_35.out.at 1 (v := .int .i64 z) rfl
              have c36_T_2 := T_35.out.at 2 (v := .slice a q.length cap) rfl
              have c36_T_3 := T_35.out.at 3 (v := .int .i64 c) rfl
              have c36_T_4 := T_35.out.at 4 (v := .int .i64 u) rfl
              have c36_T_5 := T_35.out.at 5 (v := .slice (some ⟨bb, off, none⟩) h.length caph) rfl
              have c37_X_0 := X_35.out.at 0 (v := .int .i64 n) rfl
              have c37_X_1 := X_35.out.at 1 (v := .int .i64 hu) rfl
              go_wp2_with fail
              go_ret
              exact ⟨ret_bool HE.out.symm, HB_35.out⟩
            | true =>
              rw [hhb] at HPk HQ HHe
              clear hhb
              by_cases hu1 : hu ≤ c
              · have HE := Lib.hid (HQ.out (by rw [inB_no (by omega)]; rfl))
                clear HPk HQ HQ2 HG2 HA HG HYes HNo HHk HLn
                go_wp2_with fail
                refine (HHe.out _ (HP.out.below HB_27.out (Nat.le_refl _))).mono ?_
                rintro e W38 ⟨rfl, l38⟩
                clear c28_T_0 c28_T_1 c28_T_2 c28_T_3 c28_T_4 c28_T_5
                clear c29_X_0 c29_X_1
                have HB_39 := Lib.hid (HB_27.out.trans (l38.mono HB_27.out.size))
                have HF_39 := Lib.hid (HF_27.out.trans (l38.mono HF_27.out.size))
                clear HF_27
                have T_39 := Lib.hid (T_27.out.below l38 T_27.out.lt)
                clear T_27
                have X_39 := Lib.hid (X26_X.out.below l38 X26_X.out.lt)
                clear X26_X
                clear l38
                have c40_T_0 := T_39.out.at 0 (v := .int .i64 t) rfl
                have c40_T_1 := T_39.out.at 1 (v := .int .i64 z) rfl
                have c40_T_2 := T_39.out.at 2 (v := .slice a q.length cap) rfl
                have c40_T_3 := T_39.out.at 3 (v := .int .i64 c) rfl
                have c40_T_4 := T_39.out.at 4 (v := .int .i64 u) rfl
                have c40_T_5 := T_39.out.at 5 (v := .slice (some ⟨bb, off, none⟩) h.length caph) rfl
                have c41_X_0 := X_39.out.at 0 (v := .int .i64 n) rfl
                have c41_X_1 := X_39.out.at 1 (v := .int .i64 hu) rfl
                go_wp2_with fail
                go_ret
                exact ⟨ret_bool HE.out.symm, HB_39.out⟩
              by_cases hu2 : c + 3 < hu
              · have HE := Lib.hid (HQ.out (by rw [inB_no (by omega)]; rfl))
                clear HPk HQ HQ2 HG2 HA HG HYes HNo HHk HLn
                go_wp2_with fail
                refine (HHe.out _ (HP.out.below HB_27.out (Nat.le_refl _))).mono ?_
                rintro e W42 ⟨rfl, l42⟩
                clear c28_T_0 c28_T_1 c28_T_2 c28_T_3 c28_T_4 c28_T_5
                clear c29_X_0 c29_X_1
                have HB_43 := Lib.hid (HB_27.out.trans (l42.mono HB_27.out.size))
                have HF_43 := Lib.hid (HF_27.out.trans (l42.mono HF_27.out.size))
                clear HF_27
                have T_43 := Lib.hid (T_27.out.below l42 T_27.out.lt)
                clear T_27
                have X_43 := Lib.hid (X26_X.out.below l42 X26_X.out.lt)
                clear X26_X
                clear l42
                have c44_T_0 := T_43.out.at 0 (v := .int .i64 t) rfl
                have c44_T_1 := T_43.out.at 1 (v := .int .i64 z) rfl
                have c44_T_2 := T_43.out.at 2 (v := .slice a q.length cap) rfl
                have c44_T_3 := T_43.out.at 3 (v := .int .i64 c) rfl
                have c44_T_4 := T_43.out.at 4 (v := .int .i64 u) rfl
                have c44_T_5 := T_43.out.at 5 (v := .slice (some ⟨bb, off, none⟩) h.length caph) rfl
                have c45_X_0 := X_43.out.at 0 (v := .int .i64 n) rfl
                have c45_X_1 := X_43.out.at 1 (v := .int .i64 hu) rfl
                go_wp2_with fail
                go_ret
                exact ⟨ret_bool HE.out.symm, HB_43.out⟩
              rw [inB_yes (by omega) (by omega)] at HPk HQ
              have HA2 := Lib.hid (HPk.out rfl)
              clear HPk HQ HA HG
              go_wp2_with fail
              refine (HHe.out _ (HP.out.below HB_27.out (Nat.le_refl _))).mono ?_
              rintro e W46 ⟨rfl, l46⟩
              clear c28_T_0 c28_T_1 c28_T_2 c28_T_3 c28_T_4 c28_T_5
              clear c29_X_0 c29_X_1
              have HB_47 := Lib.hid (HB_27.out.trans (l46.mono HB_27.out.size))
              have HF_47 := Lib.hid (HF_27.out.trans (l46.mono HF_27.out.size))
              clear HF_27
              have T_47 := Lib.hid (T_27.out.below l46 T_27.out.lt)
              clear T_27
              have X_47 := Lib.hid (X26_X.out.below l46 X26_X.out.lt)
              clear X26_X
              clear l46
              have c48_T_0 := T_47.out.at 0 (v := .int .i64 t) rfl
              have c48_T_1 := T_47.out.at 1 (v := .int .i64 z) rfl
              have c48_T_2 := T_47.out.at 2 (v := .slice a q.length cap) rfl
              have c48_T_3 := T_47.out.at 3 (v := .int .i64 c) rfl
              have c48_T_4 := T_47.out.at 4 (v := .int .i64 u) rfl
              have c48_T_5 := T_47.out.at 5 (v := .slice (some ⟨bb, off, none⟩) h.length caph) rfl
              have c49_X_0 := X_47.out.at 0 (v := .int .i64 n) rfl
              have c49_X_1 := X_47.out.at 1 (v := .int .i64 hu) rfl
              have HGp := Lib.hid (fun (W1 : World) => implGapB_any t n W1 ht0 ht1 hn0 hn1)
              generalize gapI t n = gp at HGp HG2 HQ2 HLn
              have hlb := lastG_bd t h k
              by_cases hlt : lastG t h k < gp
              · have HA3 := Lib.hid (HG2.out hlt)
                have hle : ¬ gp ≤ lastG t h k := by omega
                clear HG2 HQ2 HNo HYes hlt HHk
                generalize lastG t h k = lg at hle hlb ⊢
                go_wp2_with fail
                refine (HGp.out _).mono ?_
                rintro e _ ⟨rfl, rfl⟩
                go_wp2_with fail
                go_roundw
                case rel => exact ⟨k + 1, by omega, by go_num, by rw [HLn.out], HA2, HA3, HF_47⟩
                case measure => (simp [RowKit.intOf]; omega)
              · have HE := Lib.hid (HQ2.out (by omega))
                have hle : gp ≤ lastG t h k := by omega
                clear HG2 HQ2 HNo HYes hlt HA2 HHk HLn
                generalize lastG t h k = lg at hle hlb ⊢
                go_wp2_with fail
                refine (HGp.out _).mono ?_
                rintro e _ ⟨rfl, rfl⟩
                go_wp2_with fail
                go_ret
                exact ⟨ret_bool HE.out.symm, HB_47.out⟩
        · obtain rfl : k = h.length := by omega
          have HE := Lib.hid (HYes.out (fun x hx => HA.out x (by rw [List.take_of_length_le (Nat.le_refl _)]; exact hx)) (by have := HG.out; rw [List.take_of_length_le (Nat.le_refl _)] at this; exact this))
          clear HA HG HYes HNo
          have c50_T_0 := T_r.out.at 0 (v := .int .i64 t) rfl
          have c50_T_1 := T_r.out.at 1 (v := .int .i64 z) rfl
          have c50_T_2 := T_r.out.at 2 (v := .slice a q.length cap) rfl
          have c50_T_3 := T_r.out.at 3 (v := .int .i64 c) rfl
          have c50_T_4 := T_r.out.at 4 (v := .int .i64 u) rfl
          have c50_T_5 := T_r.out.at 5 (v := .slice b h.length caph) rfl
          go_wp2_with fail
          go_ret
          exact ⟨ret_bool HE.out.symm, HBr.out⟩
set_option maxRecDepth 100000 in
set_option maxHeartbeats 1000000 in
theorem implNew_any (f z : Int) (w : World) :
    Calls Try.prog 26 #[.int .i64 f, .int .i64 z] w fun e w' => e = .returned (.tuple #[.agg #[.int .i64 (newV f z).w.t, .int .i64 (newV f z).w.z, .slice none 0 0, .int .i64 0, .int .i64 0, .slice none 0 0], .bool (soOk (newW f z))]) ∧ Below w.heap.size w w' := by
  obtain ⟨W0, R_A, hW0, hR_A, hX_A, hB0⟩ := entry1 w #[.int .i64 0, .int .i64 0, .slice none 0 0, .int .i64 0, .int .i64 0, .slice none 0 0] 29
  have HW0 := Lib.hid hW0
  have HB0 := Lib.hid hB0
  have HR_A := Lib.hid hR_A
  have HX_A := Lib.hid hX_A
  clear hW0 hB0 hR_A hX_A
  have HG := Lib.hid (fun (W1 : World) => implIsSo_any (.slice none 0 0) (.slice none 0 0) (newW f z) W1 (row_none _ none 0 (by unfold maxLen; omega)) (row_none _ none 0 (by unfold maxLen; omega)) (by simp [newW]))
  dsimp only [newW] at HG
  have hN : soOk ⟨⟨f, z, []⟩, 0, 0, []⟩ = soOk (newW f z) := rfl
  rw [hN] at HG
  clear hN
  cases ok : soOk (newW f z) with
  | false =>
    have hv : newV f z = so0 := by unfold newV; rw [ok]; rfl
    rw [ok] at HG
    rw [hv]
    clear hv ok
    dsimp only [so0, sw0]
    have c51_A_0 := HX_A.out.at 0 (v := .int .i64 0) rfl
    have c51_A_1 := HX_A.out.at 1 (v := .int .i64 0) rfl
    have c51_A_2 := HX_A.out.at 2 (v := .slice none 0 0) rfl
    have c51_A_3 := HX_A.out.at 3 (v := .int .i64 0) rfl
    have c51_A_4 := HX_A.out.at 4 (v := .int .i64 0) rfl
    have c51_A_5 := HX_A.out.at 5 (v := .slice none 0 0) rfl
    go_enter Try.func26, Try.ntmps26
    go_upto_region 1 with fail
    rw [← HW0.out, ← HR_A.out]
    go_upto_region 2 with fail
    obtain ⟨W52, hW52⟩ : ∃ W52, W52 = W0.alloc (.cells #[.int .i64 f, .int .i64 z, .slice none 0 0, .int .i64 0, .int .i64 0, .slice none 0 0] 29) := ⟨_, rfl⟩
    have l52 : Below W0.heap.size W0 W52 := by rw [hW52]; exact (Below.refl _ _).alloc (Nat.le_refl _) _
    have X52_X : Hid (Bx W52 W0.heap.size #[.int .i64 f, .int .i64 z, .slice none 0 0, .int .i64 0, .int .i64 0, .slice none 0 0] 29) := Lib.hid (by rw [hW52]; exact Bx.new _ _ _)
    rw [← hW52]
    clear hW52
    have HG_X : Hid (w.heap.size ≤ W0.heap.size) := Lib.hid HB0.out.size
    have HN_X_A : Hid (R_A < W0.heap.size) := Lib.hid HX_A.out.lt
    obtain ⟨R_X, hR_X⟩ : ∃ X, X = W0.heap.size := ⟨_, rfl⟩
    rw [← hR_X] at X52_X HG_X HN_X_A ⊢
    clear hR_X
    clear c51_A_0 c51_A_1 c51_A_2 c51_A_3 c51_A_4 c51_A_5
    have HB_53 := Lib.hid (HB0.out.trans (l52.mono HB0.out.size))
    have A_53 := Lib.hid (HX_A.out.below l52 HX_A.out.lt)
    clear l52
    have c54_A_0 := A_53.out.at 0 (v := .int .i64 0) rfl
    have c54_A_1 := A_53.out.at 1 (v := .int .i64 0) rfl
    have c54_A_2 := A_53.out.at 2 (v := .slice none 0 0) rfl
    have c54_A_3 := A_53.out.at 3 (v := .int .i64 0) rfl
    have c54_A_4 := A_53.out.at 4 (v := .int .i64 0) rfl
    have c54_A_5 := A_53.out.at 5 (v := .slice none 0 0) rfl
    have c55_X_0 := X52_X.out.at 0 (v := .int .i64 f) rfl
    have c55_X_1 := X52_X.out.at 1 (v := .int .i64 z) rfl
    have c55_X_2 := X52_X.out.at 2 (v := .slice none 0 0) rfl
    have c55_X_3 := X52_X.out.at 3 (v := .int .i64 0) rfl
    have c55_X_4 := X52_X.out.at 4 (v := .int .i64 0) rfl
    have c55_X_5 := X52_X.out.at 5 (v := .slice none 0 0) rfl
    go_wp2_with fail
    refine (HG.out _).mono ?_
    rintro e W56 ⟨rfl, l56⟩
    clear c54_A_0 c54_A_1 c54_A_2 c54_A_3 c54_A_4 c54_A_5
    clear c55_X_0 c55_X_1 c55_X_2 c55_X_3 c55_X_4 c55_X_5
    have HB_57 := Lib.hid (HB_53.out.trans (l56.mono HB_53.out.size))
    have A_57 := Lib.hid (A_53.out.below l56 A_53.out.lt)
    clear A_53
    have X_57 := Lib.hid (X52_X.out.below l56 X52_X.out.lt)
    clear X52_X
    clear l56
    have c58_A_0 := A_57.out.at 0 (v := .int .i64 0) rfl
    have c58_A_1 := A_57.out.at 1 (v := .int .i64 0) rfl
    have c58_A_2 := A_57.out.at 2 (v := .slice none 0 0) rfl
    have c58_A_3 := A_57.out.at 3 (v := .int .i64 0) rfl
    have c58_A_4 := A_57.out.at 4 (v := .int .i64 0) rfl
    have c58_A_5 := A_57.out.at 5 (v := .slice none 0 0) rfl
    have c59_X_0 := X_57.out.at 0 (v := .int .i64 f) rfl
    have c59_X_1 := X_57.out.at 1 (v := .int .i64 z) rfl
    have c59_X_2 := X_57.out.at 2 (v := .slice none 0 0) rfl
    have c59_X_3 := X_57.out.at 3 (v := .int .i64 0) rfl
    have c59_X_4 := X_57.out.at 4 (v := .int .i64 0) rfl
    have c59_X_5 := X_57.out.at 5 (v := .slice none 0 0) rfl
    have fr60_A_0 := A_57.out.free 0
    have fr60_A_1 := A_57.out.free 1
    have fr60_A_2 := A_57.out.free 2
    have fr60_A_3 := A_57.out.free 3
    have fr60_A_4 := A_57.out.free 4
    have fr60_A_5 := A_57.out.free 5
    go_wp2_with fail
    obtain ⟨p1, q1⟩ := A_57.out.store6 (.int .i64 0) (.int .i64 0) (.slice none 0 0) (.int .i64 0) (.int .i64 0) (.slice none 0 0)
    exact bodyPost_ret (results_bx1 rfl isSo _ _ R_A rfl rfl rfl p1) rfl ⟨rfl, (HB_57.out.grown q1 HB_57.out.size (fun k hk => by have e2 : R_A = k := Option.some.inj hk; have := HR_A.out; omega))⟩
  | true =>
    have hv : newV f z = newW f z := if_pos ok
    rw [ok] at HG
    rw [hv]
    clear hv ok
    dsimp only [newW]
    have c61_A_0 := HX_A.out.at 0 (v := .int .i64 0) rfl
    have c61_A_1 := HX_A.out.at 1 (v := .int .i64 0) rfl
    have c61_A_2 := HX_A.out.at 2 (v := .slice none 0 0) rfl
    have c61_A_3 := HX_A.out.at 3 (v := .int .i64 0) rfl
    have c61_A_4 := HX_A.out.at 4 (v := .int .i64 0) rfl
    have c61_A_5 := HX_A.out.at 5 (v := .slice none 0 0) rfl
    go_enter Try.func26, Try.ntmps26
    go_upto_region 1 with fail
    rw [← HW0.out, ← HR_A.out]
    go_upto_region 2 with fail
    obtain ⟨W62, hW62⟩ : ∃ W62, W62 = W0.alloc (.cells #[.int .i64 f, .int .i64 z, .slice none 0 0, .int .i64 0, .int .i64 0, .slice none 0 0] 29) := ⟨_, rfl⟩
    have l62 : Below W0.heap.size W0 W62 := by rw [hW62]; exact (Below.refl _ _).alloc (Nat.le_refl _) _
    have X62_X : Hid (Bx W62 W0.heap.size #[.int .i64 f, .int .i64 z, .slice none 0 0, .int .i64 0, .int .i64 0, .slice none 0 0] 29) := Lib.hid (by rw [hW62]; exact Bx.new _ _ _)
    rw [← hW62]
    clear hW62
    have HG_X : Hid (w.heap.size ≤ W0.heap.size) := Lib.hid HB0.out.size
    have HN_X_A : Hid (R_A < W0.heap.size) := Lib.hid HX_A.out.lt
    obtain ⟨R_X, hR_X⟩ : ∃ X, X = W0.heap.size := ⟨_, rfl⟩
    rw [← hR_X] at X62_X HG_X HN_X_A ⊢
    clear hR_X
    clear c61_A_0 c61_A_1 c61_A_2 c61_A_3 c61_A_4 c61_A_5
    have HB_63 := Lib.hid (HB0.out.trans (l62.mono HB0.out.size))
    have A_63 := Lib.hid (HX_A.out.below l62 HX_A.out.lt)
    clear l62
    have c64_A_0 := A_63.out.at 0 (v := .int .i64 0) rfl
    have c64_A_1 := A_63.out.at 1 (v := .int .i64 0) rfl
    have c64_A_2 := A_63.out.at 2 (v := .slice none 0 0) rfl
    have c64_A_3 := A_63.out.at 3 (v := .int .i64 0) rfl
    have c64_A_4 := A_63.out.at 4 (v := .int .i64 0) rfl
    have c64_A_5 := A_63.out.at 5 (v := .slice none 0 0) rfl
    have c65_X_0 := X62_X.out.at 0 (v := .int .i64 f) rfl
    have c65_X_1 := X62_X.out.at 1 (v := .int .i64 z) rfl
    have c65_X_2 := X62_X.out.at 2 (v := .slice none 0 0) rfl
    have c65_X_3 := X62_X.out.at 3 (v := .int .i64 0) rfl
    have c65_X_4 := X62_X.out.at 4 (v := .int .i64 0) rfl
    have c65_X_5 := X62_X.out.at 5 (v := .slice none 0 0) rfl
    go_wp2_with fail
    refine (HG.out _).mono ?_
    rintro e W66 ⟨rfl, l66⟩
    clear c64_A_0 c64_A_1 c64_A_2 c64_A_3 c64_A_4 c64_A_5
    clear c65_X_0 c65_X_1 c65_X_2 c65_X_3 c65_X_4 c65_X_5
    have HB_67 := Lib.hid (HB_63.out.trans (l66.mono HB_63.out.size))
    have A_67 := Lib.hid (A_63.out.below l66 A_63.out.lt)
    clear A_63
    have X_67 := Lib.hid (X62_X.out.below l66 X62_X.out.lt)
    clear X62_X
    clear l66
    have c68_A_0 := A_67.out.at 0 (v := .int .i64 0) rfl
    have c68_A_1 := A_67.out.at 1 (v := .int .i64 0) rfl
    have c68_A_2 := A_67.out.at 2 (v := .slice none 0 0) rfl
    have c68_A_3 := A_67.out.at 3 (v := .int .i64 0) rfl
    have c68_A_4 := A_67.out.at 4 (v := .int .i64 0) rfl
    have c68_A_5 := A_67.out.at 5 (v := .slice none 0 0) rfl
    have c69_X_0 := X_67.out.at 0 (v := .int .i64 f) rfl
    have c69_X_1 := X_67.out.at 1 (v := .int .i64 z) rfl
    have c69_X_2 := X_67.out.at 2 (v := .slice none 0 0) rfl
    have c69_X_3 := X_67.out.at 3 (v := .int .i64 0) rfl
    have c69_X_4 := X_67.out.at 4 (v := .int .i64 0) rfl
    have c69_X_5 := X_67.out.at 5 (v := .slice none 0 0) rfl
    have fr70_A_0 := A_67.out.free 0
    have fr70_A_1 := A_67.out.free 1
    have fr70_A_2 := A_67.out.free 2
    have fr70_A_3 := A_67.out.free 3
    have fr70_A_4 := A_67.out.free 4
    have fr70_A_5 := A_67.out.free 5
    go_wp2_with fail
    obtain ⟨p1, q1⟩ := A_67.out.store6 (.int .i64 f) (.int .i64 z) (.slice none 0 0) (.int .i64 0) (.int .i64 0) (.slice none 0 0)
    exact bodyPost_ret (results_bx1 rfl isSo _ _ R_A rfl rfl rfl p1) rfl ⟨rfl, (HB_67.out.grown q1 HB_67.out.size (fun k hk => by have e2 : R_A = k := Option.some.inj hk; have := HR_A.out; omega))⟩
set_option maxRecDepth 100000 in
set_option maxHeartbeats 1000000 in
theorem implTicks_any (v hv : Value) (s : So) (w : World) (hrow : Row w v s.w.q.length (s.w.q.map Value.string)) (hhr : Row w hv s.h.length (hdF s.h)) (hs : ∀ x ∈ s.w.q, x.size ≤ maxLen) :
    Calls Try.prog 21 #[.agg #[.int .i64 s.w.t, .int .i64 s.w.z, v, .int .i64 s.c, .int .i64 s.u, hv]] w fun e w' => e = .returned (.tuple #[.int .i64 (ticksV s), .bool (soOk s)]) ∧ Below w.heap.size w w' := by
  obtain ⟨⟨t, z, q⟩, c, u, h⟩ := s
  dsimp only at hrow hhr hs ⊢
  obtain ⟨a, cap, rfl, hc1, hm1, -⟩ := row_open hrow
  obtain ⟨b, caph, rfl, hc2, hm2, -⟩ := hd_open hhr
  unfold maxLen at hm1 hm2
  have HP := Lib.hid hrow
  have HH := Lib.hid hhr
  clear hrow hhr
  have HS := Lib.hid hs
  clear hs
  obtain ⟨W0, R_T, hW0, hR_T, hX_T, hB0⟩ := entry1 w #[.int .i64 t, .int .i64 z, .slice a q.length cap, .int .i64 c, .int .i64 u, .slice b h.length caph] 29
  have HW0 := Lib.hid hW0
  have HB0 := Lib.hid hB0
  have HR_T := Lib.hid hR_T
  have HX_T := Lib.hid hX_T
  clear hW0 hB0 hR_T hX_T
  have HG := Lib.hid (fun (W1 : World) (hr : Row W1 (.slice a q.length cap) q.length (q.map Value.string)) (hh : Row W1 (.slice b h.length caph) h.length (hdF h)) => implIsSo_any (.slice a q.length cap) (.slice b h.length caph) ⟨⟨t, z, q⟩, c, u, h⟩ W1 hr hh HS.out)
  cases ok : soOk ⟨⟨t, z, q⟩, c, u, h⟩ with
  | false =>
    have hv : ticksV ⟨⟨t, z, q⟩, c, u, h⟩ = 0 := by unfold ticksV; rw [ok]; rfl
    rw [ok] at HG
    rw [hv]
    clear hv ok
    have c71_T_0 := HX_T.out.at 0 (v := .int .i64 t) rfl
    have c71_T_1 := HX_T.out.at 1 (v := .int .i64 z) rfl
    have c71_T_2 := HX_T.out.at 2 (v := .slice a q.length cap) rfl
    have c71_T_3 := HX_T.out.at 3 (v := .int .i64 c) rfl
    have c71_T_4 := HX_T.out.at 4 (v := .int .i64 u) rfl
    have c71_T_5 := HX_T.out.at 5 (v := .slice b h.length caph) rfl
    go_enter Try.func21, Try.ntmps21
    go_upto_region 1 with fail
    rw [← HW0.out, ← HR_T.out]
    go_wp2_with fail
    refine (HG.out _ (HP.out.below HB0.out (Nat.le_refl _)) (HH.out.below HB0.out (Nat.le_refl _))).mono ?_
    rintro e W72 ⟨rfl, l72⟩
    clear c71_T_0 c71_T_1 c71_T_2 c71_T_3 c71_T_4 c71_T_5
    have HB_73 := Lib.hid (HB0.out.trans (l72.mono HB0.out.size))
    have T_73 := Lib.hid (HX_T.out.below l72 HX_T.out.lt)
    clear l72
    have c74_T_0 := T_73.out.at 0 (v := .int .i64 t) rfl
    have c74_T_1 := T_73.out.at 1 (v := .int .i64 z) rfl
    have c74_T_2 := T_73.out.at 2 (v := .slice a q.length cap) rfl
    have c74_T_3 := T_73.out.at 3 (v := .int .i64 c) rfl
    have c74_T_4 := T_73.out.at 4 (v := .int .i64 u) rfl
    have c74_T_5 := T_73.out.at 5 (v := .slice b h.length caph) rfl
    go_wp2_with fail
    go_ret2
    exact ⟨rfl, HB_73.out⟩
  | true =>
    have hv : ticksV ⟨⟨t, z, q⟩, c, u, h⟩ = 4 - u := if_pos ok
    have hu := (soOk_iff.1 ok).2.2.1
    dsimp only at hu
    obtain ⟨hu0, hu1⟩ := hu
    rw [ok] at HG
    rw [hv]
    clear hv ok
    have c75_T_0 := HX_T.out.at 0 (v := .int .i64 t) rfl
    have c75_T_1 := HX_T.out.at 1 (v := .int .i64 z) rfl
    have c75_T_2 := HX_T.out.at 2 (v := .slice a q.length cap) rfl
    have c75_T_3 := HX_T.out.at 3 (v := .int .i64 c) rfl
    have c75_T_4 := HX_T.out.at 4 (v := .int .i64 u) rfl
    have c75_T_5 := HX_T.out.at 5 (v := .slice b h.length caph) rfl
    go_enter Try.func21, Try.ntmps21
    go_upto_region 1 with fail
    rw [← HW0.out, ← HR_T.out]
    go_wp2_with fail
    refine (HG.out _ (HP.out.below HB0.out (Nat.le_refl _)) (HH.out.below HB0.out (Nat.le_refl _))).mono ?_
    rintro e W76 ⟨rfl, l76⟩
    clear c75_T_0 c75_T_1 c75_T_2 c75_T_3 c75_T_4 c75_T_5
    have HB_77 := Lib.hid (HB0.out.trans (l76.mono HB0.out.size))
    have T_77 := Lib.hid (HX_T.out.below l76 HX_T.out.lt)
    clear l76
    have c78_T_0 := T_77.out.at 0 (v := .int .i64 t) rfl
    have c78_T_1 := T_77.out.at 1 (v := .int .i64 z) rfl
    have c78_T_2 := T_77.out.at 2 (v := .slice a q.length cap) rfl
    have c78_T_3 := T_77.out.at 3 (v := .int .i64 c) rfl
    have c78_T_4 := T_77.out.at 4 (v := .int .i64 u) rfl
    have c78_T_5 := T_77.out.at 5 (v := .slice b h.length caph) rfl
    go_wp2_with fail
    go_ret2
    exact ⟨rfl, HB_77.out⟩
set_option maxRecDepth 100000 in
set_option maxHeartbeats 400000 in
theorem hasHold1_any (x : Hd) (n : Int) (R : Nat) (w : World) (hR : w.cell? ⟨R, 0, none⟩ = some (.int .i64 n)) (hl : R < w.heap.size) :
    Calls Try.prog 105 #[.agg #[.int .i64 x.n, .int .i64 x.u], .pointer (some ⟨R, 0, none⟩)] w fun e w' => e = .returned (.bool (x.n == n)) ∧ Below w.heap.size w w' := by
  obtain ⟨xn, xu⟩ := x
  dsimp only
  obtain ⟨W0, R_X, hW0, hR_X, hX_X, hB0⟩ := entry1 w #[.int .i64 xn, .int .i64 xu] 82
  have HW0 := Lib.hid hW0
  have HB0 := Lib.hid hB0
  have HR_X := Lib.hid hR_X
  have HX_X := Lib.hid hX_X
  clear hW0 hB0 hR_X hX_X
  have hR2 := (HB0.out.cell (p := ⟨R, 0, none⟩) hl).trans hR
  have c79_X_0 := HX_X.out.at 0 (v := .int .i64 xn) rfl
  have c79_X_1 := HX_X.out.at 1 (v := .int .i64 xu) rfl
  go_enter Try.func105, Try.ntmps105
  go_upto_region 1 with fail
  rw [← HW0.out, ← HR_X.out]
  go_wp2_with fail
  go_ret
  exact ⟨rfl, HB0.out⟩
set_option maxRecDepth 100000 in
set_option maxHeartbeats 1000000 in
theorem hasHold_any (v hv : Value) (s : So) (n : Int) (w : World) (hhr : Row w hv s.h.length (hdF s.h)) (hl : s.h.length ≤ 6) :
    Calls Try.prog 57 #[.agg #[.int .i64 s.w.t, .int .i64 s.w.z, v, .int .i64 s.c, .int .i64 s.u, hv], .int .i64 n] w fun e w' => e = .returned (.bool (hasH s.h n)) ∧ Below w.heap.size w w' := by
  have eg : ∀ args w, (callFunc 105 args).run Try.prog w = .ok (.enter 105 args) w := enters_of Try.func105 (by kernel_rfl) rfl
  obtain ⟨⟨t, z, q⟩, c, u, h⟩ := s
  dsimp only at hhr hl ⊢
  obtain ⟨b, caph, rfl, hc2, hm2, -⟩ := hd_open hhr
  unfold maxLen at hm2
  have HH := Lib.hid hhr
  clear hhr
  obtain ⟨W0, R_T, R_N, hW0, hR_T, hR_N, hX_T, hX_N, hB0⟩ := entry2 w #[.int .i64 t, .int .i64 z, v, .int .i64 c, .int .i64 u, .slice b h.length caph] #[.int .i64 n] 29 3
  have HW0 := Lib.hid hW0
  have HB0 := Lib.hid hB0
  have HR_T := Lib.hid hR_T
  have HX_T := Lib.hid hX_T
  have HR_N := Lib.hid hR_N
  have HX_N := Lib.hid hX_N
  clear hW0 hB0 hR_T hX_T hR_N hX_N
  have HC := Lib.hid (containsHd_any (fun x => x.n == n) (.slice b h.length caph) h 105 #[.pointer (some ⟨R_N, 0, none⟩)] W0 (HH.out.below HB0.out (Nat.le_refl _)) eg (fun W hW x _ => hasHold1_any x n R_N W ((hW.cell (p := ⟨R_N, 0, none⟩) HX_N.out.lt).trans (HX_N.out.at 0 (v := .int .i64 n) rfl)) (Nat.lt_of_lt_of_le HX_N.out.lt hW.size)))
  have hd : h.any (fun x => x.n == n) = hasH h n := rfl
  rw [hd] at HC
  clear hd eg
  generalize hasH h n = hb at HC ⊢
  have c80_T_0 := HX_T.out.at 0 (v := .int .i64 t) rfl
  have c80_T_1 := HX_T.out.at 1 (v := .int .i64 z) rfl
  have c80_T_2 := HX_T.out.at 2 (v := v) rfl
  have c80_T_3 := HX_T.out.at 3 (v := .int .i64 c) rfl
  have c80_T_4 := HX_T.out.at 4 (v := .int .i64 u) rfl
  have c80_T_5 := HX_T.out.at 5 (v := .slice b h.length caph) rfl
  have c81_N_0 := HX_N.out.at 0 (v := .int .i64 n) rfl
  go_enter Try.func57, Try.ntmps57
  go_upto_region 1 with fail
  rw [← HW0.out, ← HR_N.out, ← HR_T.out]
  go_wp2_with fail
  refine (HC.out).mono ?_
  rintro e W82 ⟨rfl, l82⟩
  clear c80_T_0 c80_T_1 c80_T_2 c80_T_3 c80_T_4 c80_T_5
  clear c81_N_0
  have HB_83 := Lib.hid (HB0.out.trans (l82.mono HB0.out.size))
  have T_83 := Lib.hid (HX_T.out.below l82 HX_T.out.lt)
  have N_83 := Lib.hid (HX_N.out.below l82 HX_N.out.lt)
  clear l82
  have c84_T_0 := T_83.out.at 0 (v := .int .i64 t) rfl
  have c84_T_1 := T_83.out.at 1 (v := .int .i64 z) rfl
  have c84_T_2 := T_83.out.at 2 (v := v) rfl
  have c84_T_3 := T_83.out.at 3 (v := .int .i64 c) rfl
  have c84_T_4 := T_83.out.at 4 (v := .int .i64 u) rfl
  have c84_T_5 := T_83.out.at 5 (v := .slice b h.length caph) rfl
  have c85_N_0 := N_83.out.at 0 (v := .int .i64 n) rfl
  go_wp2_with fail
  go_ret
  exact ⟨rfl, HB_83.out⟩
set_option maxRecDepth 100000 in
set_option maxHeartbeats 2000000 in
theorem implOnH_any (v hv : Value) (s : So) (w : World) (hrow : Row w v s.w.q.length (s.w.q.map Value.string)) (hhr : Row w hv s.h.length (hdF s.h)) (hs : ∀ x ∈ s.w.q, x.size ≤ maxLen) (n : Int) :
    Calls Try.prog 18 #[.agg #[.int .i64 s.w.t, .int .i64 s.w.z, v, .int .i64 s.c, .int .i64 s.u, hv], .int .i64 n] w fun e w' => e = .returned (.tuple #[.bool (onhV s n), .bool (onhOk s n)]) ∧ Below w.heap.size w w' := by
  obtain ⟨⟨t, z, q⟩, c, u, h⟩ := s
  dsimp only at hrow hhr hs ⊢
  obtain ⟨a, cap, rfl, hc1, hm1, -⟩ := row_open hrow
  obtain ⟨b, caph, rfl, hc2, hm2, -⟩ := hd_open hhr
  unfold maxLen at hm1 hm2
  have HP := Lib.hid hrow
  have HH := Lib.hid hhr
  clear hrow hhr
  have HS := Lib.hid hs
  clear hs
  obtain ⟨W0, R_T, hW0, hR_T, hX_T, hB0⟩ := entry1 w #[.int .i64 t, .int .i64 z, .slice a q.length cap, .int .i64 c, .int .i64 u, .slice b h.length caph] 29
  have HW0 := Lib.hid hW0
  have HB0 := Lib.hid hB0
  have HR_T := Lib.hid hR_T
  have HX_T := Lib.hid hX_T
  clear hW0 hB0 hR_T hX_T
  have HG := Lib.hid (fun (W1 : World) (hr : Row W1 (.slice a q.length cap) q.length (q.map Value.string)) (hh : Row W1 (.slice b h.length caph) h.length (hdF h)) => implIsSo_any (.slice a q.length cap) (.slice b h.length caph) ⟨⟨t, z, q⟩, c, u, h⟩ W1 hr hh HS.out)
  have HSer := Lib.hid (fun (W1 : World) => implIsSerial_any n W1)
  cases ok : soOk ⟨⟨t, z, q⟩, c, u, h⟩ with
  | false =>
    rw [ok] at HG
    have ho : onhOk ⟨⟨t, z, q⟩, c, u, h⟩ n = false := by unfold onhOk; rw [ok]; rfl
    have hv : onhV ⟨⟨t, z, q⟩, c, u, h⟩ n = false := by unfold onhV; rw [ho]; rfl
    rw [hv, ho]
    clear hv ho
    have c86_T_0 := HX_T.out.at 0 (v := .int .i64 t) rfl
    have c86_T_1 := HX_T.out.at 1 (v := .int .i64 z) rfl
    have c86_T_2 := HX_T.out.at 2 (v := .slice a q.length cap) rfl
    have c86_T_3 := HX_T.out.at 3 (v := .int .i64 c) rfl
    have c86_T_4 := HX_T.out.at 4 (v := .int .i64 u) rfl
    have c86_T_5 := HX_T.out.at 5 (v := .slice b h.length caph) rfl
    go_enter Try.func18, Try.ntmps18
    go_upto_region 1 with fail
    rw [← HW0.out, ← HR_T.out]
    go_wp2_with fail
    refine (HG.out _ (HP.out.below HB0.out (Nat.le_refl _)) (HH.out.below HB0.out (Nat.le_refl _))).mono ?_
    rintro e W87 ⟨rfl, l87⟩
    clear c86_T_0 c86_T_1 c86_T_2 c86_T_3 c86_T_4 c86_T_5
    have HB_88 := Lib.hid (HB0.out.trans (l87.mono HB0.out.size))
    have T_88 := Lib.hid (HX_T.out.below l87 HX_T.out.lt)
    clear l87
    have c89_T_0 := T_88.out.at 0 (v := .int .i64 t) rfl
    have c89_T_1 := T_88.out.at 1 (v := .int .i64 z) rfl
    have c89_T_2 := T_88.out.at 2 (v := .slice a q.length cap) rfl
    have c89_T_3 := T_88.out.at 3 (v := .int .i64 c) rfl
    have c89_T_4 := T_88.out.at 4 (v := .int .i64 u) rfl
    have c89_T_5 := T_88.out.at 5 (v := .slice b h.length caph) rfl
    go_wp2_with fail
    go_ret2
    exact ⟨rfl, HB_88.out⟩
  | true =>
    rw [ok] at HG
    cases os : serB n with
    | false =>
      rw [os] at HSer
      have ho : onhOk ⟨⟨t, z, q⟩, c, u, h⟩ n = false := by unfold onhOk; rw [ok, os]; rfl
      have hv : onhV ⟨⟨t, z, q⟩, c, u, h⟩ n = false := by unfold onhV; rw [ho]; rfl
      rw [hv, ho]
      clear hv ho
      have c90_T_0 := HX_T.out.at 0 (v := .int .i64 t) rfl
      have c90_T_1 := HX_T.out.at 1 (v := .int .i64 z) rfl
      have c90_T_2 := HX_T.out.at 2 (v := .slice a q.length cap) rfl
      have c90_T_3 := HX_T.out.at 3 (v := .int .i64 c) rfl
      have c90_T_4 := HX_T.out.at 4 (v := .int .i64 u) rfl
      have c90_T_5 := HX_T.out.at 5 (v := .slice b h.length caph) rfl
      go_enter Try.func18, Try.ntmps18
      go_upto_region 1 with fail
      rw [← HW0.out, ← HR_T.out]
      go_wp2_with fail
      refine (HG.out _ (HP.out.below HB0.out (Nat.le_refl _)) (HH.out.below HB0.out (Nat.le_refl _))).mono ?_
      rintro e W91 ⟨rfl, l91⟩
      clear c90_T_0 c90_T_1 c90_T_2 c90_T_3 c90_T_4 c90_T_5
      have HB_92 := Lib.hid (HB0.out.trans (l91.mono HB0.out.size))
      have T_92 := Lib.hid (HX_T.out.below l91 HX_T.out.lt)
      clear l91
      have c93_T_0 := T_92.out.at 0 (v := .int .i64 t) rfl
      have c93_T_1 := T_92.out.at 1 (v := .int .i64 z) rfl
      have c93_T_2 := T_92.out.at 2 (v := .slice a q.length cap) rfl
      have c93_T_3 := T_92.out.at 3 (v := .int .i64 c) rfl
      have c93_T_4 := T_92.out.at 4 (v := .int .i64 u) rfl
      have c93_T_5 := T_92.out.at 5 (v := .slice b h.length caph) rfl
      go_wp2_with fail
      refine (HSer.out _).mono ?_
      rintro e _ ⟨rfl, rfl⟩
      go_wp2_with fail
      go_ret2
      exact ⟨rfl, HB_92.out⟩
    | true =>
      rw [os] at HSer
      have ho : onhOk ⟨⟨t, z, q⟩, c, u, h⟩ n = true := by unfold onhOk; rw [ok, os]; rfl
      have hv : onhV ⟨⟨t, z, q⟩, c, u, h⟩ n = hasH h n := by unfold onhV; rw [ho]; rfl
      rw [hv, ho]
      have HHo := Lib.hid (fun (W1 : World) (hh : Row W1 (.slice b h.length caph) h.length (hdF h)) => hasHold_any (.slice a q.length cap) (.slice b h.length caph) ⟨⟨t, z, q⟩, c, u, h⟩ n W1 hh (soOk_len ok).1)
      dsimp only at HHo
      generalize hasH h n = hb at HHo ⊢
      clear hv ho ok os
      have c94_T_0 := HX_T.out.at 0 (v := .int .i64 t) rfl
      have c94_T_1 := HX_T.out.at 1 (v := .int .i64 z) rfl
      have c94_T_2 := HX_T.out.at 2 (v := .slice a q.length cap) rfl
      have c94_T_3 := HX_T.out.at 3 (v := .int .i64 c) rfl
      have c94_T_4 := HX_T.out.at 4 (v := .int .i64 u) rfl
      have c94_T_5 := HX_T.out.at 5 (v := .slice b h.length caph) rfl
      go_enter Try.func18, Try.ntmps18
      go_upto_region 1 with fail
      rw [← HW0.out, ← HR_T.out]
      go_wp2_with fail
      refine (HG.out _ (HP.out.below HB0.out (Nat.le_refl _)) (HH.out.below HB0.out (Nat.le_refl _))).mono ?_
      rintro e W95 ⟨rfl, l95⟩
      clear c94_T_0 c94_T_1 c94_T_2 c94_T_3 c94_T_4 c94_T_5
      have HB_96 := Lib.hid (HB0.out.trans (l95.mono HB0.out.size))
      have T_96 := Lib.hid (HX_T.out.below l95 HX_T.out.lt)
      clear l95
      have c97_T_0 := T_96.out.at 0 (v := .int .i64 t) rfl
      have c97_T_1 := T_96.out.at 1 (v := .int .i64 z) rfl
      have c97_T_2 := T_96.out.at 2 (v := .slice a q.length cap) rfl
      have c97_T_3 := T_96.out.at 3 (v := .int .i64 c) rfl
      have c97_T_4 := T_96.out.at 4 (v := .int .i64 u) rfl
      have c97_T_5 := T_96.out.at 5 (v := .slice b h.length caph) rfl
      go_wp2_with fail
      refine (HSer.out _).mono ?_
      rintro e _ ⟨rfl, rfl⟩
      go_wp2_with fail
      refine (HHo.out _ (HH.out.below HB_96.out (Nat.le_refl _))).mono ?_
      rintro e W98 ⟨rfl, l98⟩
      clear c97_T_0 c97_T_1 c97_T_2 c97_T_3 c97_T_4 c97_T_5
      have HB_99 := Lib.hid (HB_96.out.trans (l98.mono HB_96.out.size))
      have T_99 := Lib.hid (T_96.out.below l98 T_96.out.lt)
      clear T_96
      clear l98
      have c100_T_0 := T_99.out.at 0 (v := .int .i64 t) rfl
      have c100_T_1 := T_99.out.at 1 (v := .int .i64 z) rfl
      have c100_T_2 := T_99.out.at 2 (v := .slice a q.length cap) rfl
      have c100_T_3 := T_99.out.at 3 (v := .int .i64 c) rfl
      have c100_T_4 := T_99.out.at 4 (v := .int .i64 u) rfl
      have c100_T_5 := T_99.out.at 5 (v := .slice b h.length caph) rfl
      go_wp2_with fail
      go_ret2
      exact ⟨rfl, HB_99.out⟩
end Go.Proofs.Ytlendmiolhgecaa
