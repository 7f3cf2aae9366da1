/-
  The walk of the law FnSerials.
-/
import Derived.Test.YtfdpjgjclbnnfaaDrawSer
import Derived.Test.YtfdpjgjclbnnfaaBig
namespace Go.Proofs.Ytfdpjgjclbnnfaa
open Go.RowKit
set_option linter.unusedVariables false

theorem back_ok {x n : Int} (h : aftOk x n = true) : aftOk (aftV x n) (-n) = true ∧ aftV (aftV x n) (-n) = x ∧ gapOk x (aftV x n) = true ∧ (gapV x (aftV x n) - n).tmod 65536 = 0 ∧ serB (aftV x n) = true ∧ 0 ≤ aftV x n ∧ aftV x n ≤ 65535 := by
  obtain ⟨h1, h2, h3, h4⟩ := aftOk_bd h
  have e : aftV x n = aftI x n := if_pos h
  obtain ⟨y0, y1⟩ := aftI_bd x n
  rw [e]
  have k1 : aftOk (aftI x n) (-n) = true := by unfold aftOk; rw [serB_yes y0 y1, inB_yes (by omega) (by omega)]; rfl
  have k2 : gapOk x (aftI x n) = true := by unfold gapOk; rw [serB_yes h1 h2, serB_yes y0 y1]; rfl
  refine ⟨k1, ?_, k2, ?_, serB_yes y0 y1, y0, y1⟩
  · unfold aftV
    rw [if_pos k1]
    unfold aftI
    omega
  · unfold gapV
    rw [if_pos k2]
    apply Int.tmod_eq_zero_of_dvd
    apply Int.dvd_of_emod_eq_zero
    unfold gapI aftI
    omega

theorem ok_comm (a b : Int) : gapOk b a = gapOk a b := Bool.and_comm _ _
theorem bef_not {a b : Int} (h : befV a b = true) : befV b a = false := by
  unfold befV at h
  rw [Bool.and_eq_true] at h
  obtain ⟨h1, h2, h3, h4⟩ := gapOk_bd h.1
  have hb := inB_bd h.2
  unfold befV befB
  rw [inB_no (by unfold gapI at hb ⊢; omega), Bool.and_false]
theorem lat_eq {a b : Int} (h : gapOk a b = true) : (befV a b = true → latV a b = b ∧ a ≠ b) ∧ (befV a b = false → latV a b = a) := by
  unfold befV latV
  rw [h, if_pos rfl, Bool.true_and]
  constructor
  · intro hb
    rw [hb, if_pos rfl]
    refine ⟨rfl, fun e => ?_⟩
    have := inB_bd hb
    subst e
    unfold gapI at this
    omega
  · intro hb
    rw [hb]; rfl
theorem there_ok {a b : Int} (h : gapOk a b = true) : aftOk a (gapV a b) = true ∧ aftV a (gapV a b) = b := by
  obtain ⟨h1, h2, h3, h4⟩ := gapOk_bd h
  obtain ⟨g0, g1⟩ := gapI_bd a b
  have e : gapV a b = gapI a b := if_pos h
  rw [e]
  have k1 : aftOk a (gapI a b) = true := by unfold aftOk; rw [serB_yes h1 h2, inB_yes (by omega) (by omega)]; rfl
  refine ⟨k1, ?_⟩
  unfold aftV
  rw [if_pos k1]
  unfold aftI gapI
  omega

theorem four (a b : Int) : (gapOk a b = false ∧ befV a b = false ∧ befV b a = false ∧ latV a b = 0) ∨
    (gapOk a b = true ∧ befV a b = false ∧ befV b a = false ∧ latV a b = a ∧ gapV a b = 0 ∧ a = b) ∨
    (gapOk a b = true ∧ befV a b = false ∧ latV a b = a ∧ 32768 ≤ gapV a b ∧ a ≠ b) ∨
    (gapOk a b = true ∧ befV a b = true ∧ befV b a = false ∧ latV a b = b ∧ 1 ≤ gapV a b ∧ gapV a b < 32768 ∧ a ≠ b) := by
  have hc := ok_comm a b
  cases h : gapOk a b with
  | false =>
    refine .inl ⟨rfl, by unfold befV; rw [h]; rfl, by unfold befV; rw [hc, h]; rfl, by unfold latV; rw [h]; rfl⟩
  | true =>
    have hg := gapV_bef (a := a) (b := b)
    obtain ⟨l1, l2⟩ := lat_eq h
    obtain ⟨h1, h2, h3, h4⟩ := gapOk_bd h
    have eg : gapV a b = gapI a b := if_pos h
    cases hb : befV a b with
    | true =>
      rw [hb] at hg
      have hg' := hg.symm
      rw [Bool.and_eq_true] at hg'
      exact .inr (.inr (.inr ⟨rfl, rfl, bef_not hb, (l1 hb).1, of_decide_eq_true hg'.1, of_decide_eq_true hg'.2, (l1 hb).2⟩))
    | false =>
      by_cases e : a = b
      · refine .inr (.inl ⟨rfl, rfl, by rw [← hb, e], l2 hb, by rw [eg, e]; unfold gapI; omega, e⟩)
      · refine .inr (.inr (.inl ⟨rfl, rfl, l2 hb, ?_, e⟩))
        rw [hb] at hg
        have hg' : ¬ (1 ≤ gapV a b ∧ gapV a b < 32768) := fun ⟨x, y⟩ => by rw [decide_eq_true x, decide_eq_true y] at hg; cases hg
        have : gapV a b ≠ 0 := by rw [eg]; unfold gapI; omega
        have := gapV_bd a b
        omega

set_option maxRecDepth 100000 in
set_option maxHeartbeats 2000000 in
theorem fnSerials_walk (w : World) (v0 : Value) (z0 : List Int) (w0 : Row w v0 z0.length (z0.map (Value.int .u8))) (b0 : ∀ z ∈ z0, (Lit.int .u8 z).wf = true) (_hsh : w.ShapedOpen Try.prog) :
    Calls Try.prog 3 #[v0] w fun e w' => e = .returned (.bool true) ∧ Below w.heap.size w w' := by
  have hz : ∀ x ∈ z0, 0 ≤ x ∧ x < 256 := fun x hx => by have := bounds_u8 (b0 x hx); omega
  by_cases hbig : (65536 : Int) < z0.length
  · have HV := Lib.hid (vBig_row v0 _ _ true w0 (decide_eq_true hbig))
    clear w0 b0 hz
    go_enter Try.func3, Try.ntmps3
    go_wp2_with (go_at_call 14; refine (HV.out _).mono ?_; rintro e w' ⟨rfl, rfl⟩)
    go_ret
    exact ⟨rfl, Below.refl _ _⟩
  · have HV := Lib.hid (vBig_row v0 _ _ false w0 (decide_eq_false hbig))
    have HR := Lib.hid w0
    have HD1 := Lib.hid (fun w hr => drawAfter_any v0 z0 w hr hz)
    have HD2 := Lib.hid (fun w hr => drawBefore_any v0 z0 w hr hz)
    have HD3 := Lib.hid (fun w hr => drawInSpan_any v0 z0 w hr hz)
    clear w0 b0 hz
    go_enter Try.func3, Try.ntmps3
    go_wp2_with fail
    refine (HV.out _).mono ?_
    rintro e w' ⟨rfl, rfl⟩
    go_wp2_with fail
    refine (HD1.out _ HR.out).mono ?_
    rintro e W1 ⟨x, n, x0, x1, n0, n1, rfl, l1⟩
    have HI := Lib.hid (fun w => implAfter_any x n w)
    have HS := Lib.hid (fun w => specAfter_any x n w)
    have HB1 := Lib.hid l1
    clear l1
    cases ho : aftOk x n
    rw [ho] at HI HS
    clear ho
    generalize aftV x n = y at HI HS
    go_wp2_with fail
    refine (HI.out _).mono ?_
    rintro e w2 ⟨rfl, rfl⟩
    go_wp2_with fail
    refine (HS.out _).mono ?_
    rintro e w2 ⟨rfl, rfl⟩
    go_wp2_with fail
    refine (HD2.out _ (HR.out.below HB1.out (Nat.le_refl _))).mono ?_
    rintro e W4 ⟨a, b, a0, a1, b0, b1, rfl, l4⟩
    have HB4 := Lib.hid (HB1.out.trans (l4.mono HB1.out.size))
    clear l4 HB1 HI HS
    rotate_left
    obtain ⟨k1, k2, k3, k4, k5, k6, k7⟩ := back_ok ho
    rw [ho] at HI HS
    have HI2 := Lib.hid (fun w => implAfter_any (aftV x n) (-n) w)
    have HG := Lib.hid (fun w => implGap_any x (aftV x n) w)
    have HIs := Lib.hid (fun w => implIsSerial_any (aftV x n) w)
    rw [k1, k2] at HI2
    rw [k3] at HG
    rw [k5] at HIs
    obtain ⟨g0, g1⟩ := gapV_bd x (aftV x n)
    clear ho k1 k2 k3 k5
    generalize gapV x (aftV x n) = g at HG k4 g0 g1
    generalize aftV x n = y at HI HS HI2 HG HIs k6 k7
    go_wp2_with fail
    refine (HI.out _).mono ?_
    rintro e w2 ⟨rfl, rfl⟩
    go_wp2_with fail
    refine (HS.out _).mono ?_
    rintro e w2 ⟨rfl, rfl⟩
    go_wp2_with fail
    refine (HI2.out _).mono ?_
    rintro e w2 ⟨rfl, rfl⟩
    go_wp2_with fail
    refine (HG.out _).mono ?_
    rintro e W3 ⟨rfl, l3⟩
    have HB3 := Lib.hid (HB1.out.trans (l3.mono HB1.out.size))
    clear l3 HB1
    go_wp2_with (go_at_call 19; refine (HIs.out _).mono ?_; rintro e w2 ⟨rfl, rfl⟩)
    refine (HD2.out _ (HR.out.below HB3.out (Nat.le_refl _))).mono ?_
    rintro e W4 ⟨a, b, a0, a1, b0, b1, rfl, l4⟩
    have HB4 := Lib.hid (HB3.out.trans (l4.mono HB3.out.size))
    clear l4 HB3 HI HS HI2 HG HIs k4 k6 k7 g0 g1
    all_goals
      have HP1 := Lib.hid (fun w => implBefore_any a b w)
      have HP2 := Lib.hid (fun w => implBefore_any b a w)
      have HPs := Lib.hid (fun w => specBefore_any a b w)
      have HQ := Lib.hid (fun w => implLater_any a b w)
      have HQs := Lib.hid (fun w => specLater_any a b w)
      have HGp := Lib.hid (fun w => implGap_any a b w)
      have HAf := Lib.hid (fun w => implAfter_any a (gapV a b) w)
      have HTh := Lib.hid (@there_ok a b)
      obtain ⟨g0, g1⟩ := gapV_bd a b
      rw [ok_comm a b] at HP2
      rcases four a b with ⟨h1, h2, h3, h4⟩ | ⟨h1, h2, h3, h4, h5, hE⟩ | ⟨h1, h2, h4, h5, hne⟩ | ⟨h1, h2, h3, h4, h5, h6, hne⟩
    all_goals
      rw [h1, h2] at HP1
      rw [h1] at HP2
      rw [h1, h2] at HPs
      rw [h1, h4] at HQ HQs
      rw [h1] at HGp
      try rw [h3] at HP2
      try (rw [(HTh.out h1).1, (HTh.out h1).2] at HAf)
      try subst hE
      clear h1 h2 h4 HTh
      try clear h3
      generalize gapV a _ = g at *
      try subst h5
      try generalize befV b a = s at *
      try (have hab : (a == b) = false := by simpa using hne)
      try (have hab' : (a != b) = true := by simpa using hne)
      try clear hne
      go_wp2_with fail
      refine (HP1.out _).mono ?_
      rintro e W5 ⟨rfl, l5⟩
      go_wp2_with fail
      refine (HP2.out _).mono ?_
      rintro e W6 ⟨rfl, l6⟩
      have HB6 := Lib.hid ((HB4.out.trans (l5.mono HB4.out.size)).trans (l6.mono (HB4.out.trans (l5.mono HB4.out.size)).size))
      clear l5 l6
      go_wp2_with fail
      refine (HPs.out _).mono ?_
      rintro e w2 ⟨rfl, rfl⟩
      go_wp2_with fail
      refine (HQ.out _).mono ?_
      rintro e W7 ⟨rfl, l7⟩
      have HB7 := Lib.hid (HB6.out.trans (l7.mono HB6.out.size))
      clear l7
      go_wp2_with fail
      refine (HQs.out _).mono ?_
      rintro e w2 ⟨rfl, rfl⟩
      go_wp2_with fail
      try (go_at_call 18; refine (HGp.out _).mono ?_; rintro e W8 ⟨rfl, l8⟩; replace HB7 := Lib.hid (HB7.out.trans (l8.mono HB7.out.size)); clear l8; go_wp2_with fail; refine (HAf.out _).mono ?_; rintro e w2 ⟨rfl, rfl⟩; go_wp2_with fail)
      refine (HD3.out _ (HR.out.below HB7.out (Nat.le_refl _))).mono ?_
      rintro e W9 ⟨p, q, r, rfl, l9⟩
      have HB9 := Lib.hid (HB7.out.trans (l9.mono HB7.out.size))
      have HJ := Lib.hid (fun w => implInSpan_any p q r w)
      have HJs := Lib.hid (fun w => specInSpan_any p q r w)
      have HK := Lib.hid (fun w => implIsSerial_any p w)
      have HKs := Lib.hid (fun w => specIsSerial_any p w)
      generalize spanV p q r = b1 at HJ HJs
      generalize spanOk p q r = b2 at HJ HJs
      generalize serB p = b3 at HK HKs
      clear l9 HP1 HP2 HPs HQ HQs HGp HAf g0 g1
      go_wp2_with fail
      refine (HJ.out _).mono ?_
      rintro e W10 ⟨rfl, l10⟩
      have HB10 := Lib.hid (HB9.out.trans (l10.mono HB9.out.size))
      clear l10
      go_wp2_with fail
      refine (HJs.out _).mono ?_
      rintro e w2 ⟨rfl, rfl⟩
      go_wp2_with (first | (go_at_call 19; refine (HK.out _).mono ?_; rintro e w2 ⟨rfl, rfl⟩) | (go_at_call 28; refine (HKs.out _).mono ?_; rintro e w2 ⟨rfl, rfl⟩))
      go_ret
      exact ⟨rfl, HB10.out⟩
end Go.Proofs.Ytfdpjgjclbnnfaa
