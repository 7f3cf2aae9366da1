/-
  Links: the program's SendAll.
-/
import Derived.Test.YtbhhmaialilabaaSendI
import Derived.Test.YtbhhmaialilabaaLink3
namespace Go.Proofs.Ytbhhmaialilabaa
open Go.RowKit Go.Lib Go.Joins
set_option linter.unusedVariables false

/-- What sending many texts holds: the link's block, the result's block, the queue. -/
structure SA (w0 w : World) (R R4 : Nat) (v : Value) (L : Lk) : Prop where
  box : Lq w R v L.f L.u
  res : Lq w R4 (.slice none 0 0) ⟨#[]⟩ 0
  own : w.ownsRow (w0.heap.size + 2) 9 1 v L.q.length (L.q.map Value.string)
  bel : Below w0.heap.size w0 w
  r : R = w0.heap.size
  r4 : R4 = w0.heap.size + 1
theorem SA.step {w0 w w' : World} {R R4 : Nat} {v : Value} {L : Lk} (h : SA w0 w R R4 v L) (hb : Below w.heap.size w w') : SA w0 w' R R4 v L :=
  ⟨h.box.below hb h.box.lt, h.res.below hb h.res.lt, own_below h.own hb (Nat.le_refl _), h.bel.trans (hb.mono h.bel.size), h.r, h.r4⟩
theorem SA.ne {w0 w : World} {R R4 : Nat} {v : Value} {L : Lk} (h : SA w0 w R R4 v L) : R4 ≠ R := by have h1 := h.r; have h2 := h.r4; omega
/-- Another link is stored into the block. -/
theorem SA.put {w0 w : World} {R R4 : Nat} {v v' : Value} {L L' : Lk} (h : SA w0 w R R4 v L) (ho : w.ownsRow (w0.heap.size + 2) 9 1 v' L'.q.length (L'.q.map Value.string)) :
    SA w0 (((w.setCell ⟨R, 0, none⟩ v').setCell ⟨R, 1, none⟩ (.string L'.f)).setCell ⟨R, 2, none⟩ (.int .i64 L'.u)) R R4 v' L' := by
  obtain ⟨p1, q1⟩ := h.box.store (v' := v') (f' := L'.f) (u' := L'.u)
  refine ⟨p1, h.res.grown q1 (fun e => h.ne (Option.some.inj e)), ho.kept q1 ?_, h.bel.grown q1 h.bel.size (fun k hk => by have e2 : R = k := Option.some.inj hk; have := h.r; omega), h.r, h.r4⟩
  cases hv : v'.ownBlock with
  | none => exact .inl rfl
  | some k => exact .inr (fun e => by have e2 : k = R := Option.some.inj e; have h1 := (ho.lt k hv).1; have h2 := h.r; omega)
theorem all_bad {l : Lk} {t : List ByteArray} (h : allOk l t = false) : allL l t = lk0 ∧ allN l t = 0 := by
  unfold allL allN
  rw [h]
  exact ⟨rfl, rfl⟩
theorem own_base2 {w : World} {b n : Nat} {e : TypeId} {v : Value} {xs : List Value} (h : w.ownsRow (b + 2) e 1 v n xs) : w.ownsRow b e 1 v n xs := own_base h (by omega)
set_option maxRecDepth 100000 in
set_option maxHeartbeats 8000000 in
theorem implSendAll_any (v u : Value) (l : Lk) (t : List ByteArray) (w : World) (hrow : Row w v l.q.length (l.q.map Value.string)) (hfit : FitA v l.q.length) (hu : Row w u t.length (t.map Value.string)) :
    Calls Try.prog 32 #[.agg #[v, .string l.f, .int .i64 l.u], u] w fun e w' => ∃ v', e = .returned (.tuple #[.agg #[v', .string (allL l t).f, .int .i64 (allL l t).u], .int .i64 (allN l t), .bool (allOk l t)]) ∧ w'.ownsRow w.heap.size 9 1 v' (allL l t).q.length ((allL l t).q.map Value.string) ∧ Below w.heap.size w w' := by
  obtain ⟨W, hW⟩ : ∃ W, W = (w.alloc (.cells #[v, .string l.f, .int .i64 l.u] 26)).alloc (.cells #[.slice none 0 0, .string ⟨#[]⟩, .int .i64 0] 26) := ⟨_, rfl⟩
  have hB : Below w.heap.size w W := by rw [hW]; exact ((Below.refl w.heap.size w).alloc (Nat.le_refl _) _).alloc (by simp) _
  have hT : Lb W w.heap.size v l := by rw [hW]; exact (Lb.new hrow).below ((Below.refl _ _).alloc (Nat.le_refl _) _)
  have hA : Lq W (w.heap.size + 1) (.slice none 0 0) ⟨#[]⟩ 0 := by
    rw [hW]
    have := Lq.new (w.alloc (.cells #[v, .string l.f, .int .i64 l.u] 26)) (.slice none 0 0) ⟨#[]⟩ 0
    rw [World.size_alloc] at this
    exact this
  have hWs : w.heap.size + 2 ≤ W.heap.size := by rw [hW]; simp
  have HWs := Lib.hid hWs
  have HW := Lib.hid hW
  have HB := Lib.hid hB
  have HA := Lib.hid hA
  have HT := Lib.hid hT
  have HG := Lib.hid (implIsLink_any v l W hT.row)
  have HFit := Lib.hid hfit
  obtain ⟨a, cap, rfl, hc1, hm1, _⟩ := row_open hrow
  obtain ⟨au, cu, rfl, hcu1, hmu1, hcellu⟩ := row_open hu
  have HU := Lib.hid hcellu
  unfold maxLen at hm1 hmu1
  obtain ⟨R, hR⟩ : ∃ R, R = w.heap.size := ⟨_, rfl⟩
  obtain ⟨R4, hR4⟩ : ∃ R4, R4 = w.heap.size + 1 := ⟨_, rfl⟩
  rw [← hR] at HT
  rw [← hR4] at HA
  have HR := Lib.hid hR
  have HR4 := Lib.hid hR4
  obtain ⟨m, hM⟩ : ∃ m, m = t.length := ⟨_, rfl⟩
  rw [← hM] at hcu1 ⊢
  have HM := Lib.hid hM
  clear hW hB hT hA hR hR4 hrow hfit hu hcellu hWs hM
  obtain ⟨x0, x1, x2⟩ := HT.out.cells
  cases ok : lkOk l with
  | false =>
    have hk : allOk l t = false := by unfold allOk; rw [ok]; rfl
    obtain ⟨e1, e2⟩ := all_bad hk
    rw [ok] at HG
    rw [e1, e2, hk]
    clear ok hk e1 e2
    go_enter Try.func32, Try.ntmps32
    go_upto_region 1 with fail
    rw [← HW.out, ← HR4.out, ← HR.out]
    go_wp2_with fail
    refine HG.out.mono ?_
    rintro e W2 ⟨rfl, l2⟩
    have HB2 := Lib.hid (HB.out.trans (l2.mono HB.out.size))
    have HA2 := Lib.hid (HA.out.below l2 HA.out.lt)
    clear l2
    obtain ⟨y0, y1, y2⟩ := HA2.out.cells
    have f0 := HA2.out.free 0
    have f1 := HA2.out.free 1
    have f2 := HA2.out.free 2
    go_wp2_with fail
    obtain ⟨p1, q1⟩ := HA2.out.store (v' := .slice none 0 0) (f' := ⟨#[]⟩) (u' := 0)
    refine bodyPost_ret (results_lk2 rfl _ _ R4 rfl rfl rfl p1) rfl ⟨_, rfl, own_nilS _ _, HB2.out.grown q1 HB2.out.size (fun k hk => by have e2 : R4 = k := Option.some.inj hk; have := HR4.out; omega)⟩
  | true =>
    rw [ok] at HG
    by_cases hm20 : m ≤ 20
    rotate_left
    · have hk : allOk l t = false := by unfold allOk; rw [decide_eq_false (show ¬ t.length ≤ 20 by rw [← HM.out]; exact hm20), Bool.and_false]
      obtain ⟨e1, e2⟩ := all_bad hk
      rw [e1, e2, hk]
      have hm' : (20 : Int) < (m : Int) := by omega
      clear ok hk e1 e2 hm20
      go_enter Try.func32, Try.ntmps32
      go_upto_region 1 with fail
      rw [← HW.out, ← HR4.out, ← HR.out]
      go_wp2_with fail
      refine HG.out.mono ?_
      rintro e W2 ⟨rfl, l2⟩
      have HB2 := Lib.hid (HB.out.trans (l2.mono HB.out.size))
      have HA2 := Lib.hid (HA.out.below l2 HA.out.lt)
      clear l2
      obtain ⟨y0, y1, y2⟩ := HA2.out.cells
      have f0 := HA2.out.free 0
      have f1 := HA2.out.free 1
      have f2 := HA2.out.free 2
      go_wp2_with fail
      obtain ⟨p1, q1⟩ := HA2.out.store (v' := .slice none 0 0) (f' := ⟨#[]⟩) (u' := 0)
      refine bodyPost_ret (results_lk2 rfl _ _ R4 rfl rfl rfl p1) rfl ⟨_, rfl, own_nilS _ _, HB2.out.grown q1 HB2.out.size (fun k hk => by have e2 : R4 = k := Option.some.inj hk; have := HR4.out; omega)⟩
    have hk : allOk l t = true := by unfold allOk; rw [ok, decide_eq_true (show t.length ≤ 20 by rw [← HM.out]; exact hm20)]; rfl
    have HE1 : Hid (allL l t = (run7 l t).1) := Lib.hid (if_pos hk)
    have HE2 : Hid (allN l t = (run7 l t).2) := Lib.hid (if_pos hk)
    have HKk := Lib.hid hk
    have h8 : l.q.length ≤ 8 := (lkOk_parts ok).2.2.1
    have HCl := Lib.hid (fun (W1 : World) hr => cloneS_any (.slice a l.q.length cap) l.q W1 hr HFit.out.fitS (by omega))
    have hm' : ¬ (20 : Int) < (m : Int) := by omega
    clear ok hk h8
    go_enter Try.func32, Try.ntmps32
    go_upto_region 1 with fail
    rw [← HW.out, ← HR4.out, ← HR.out]
    go_wp2_with fail
    refine HG.out.mono ?_
    rintro e W2 ⟨rfl, l2⟩
    have HB2 := Lib.hid (HB.out.trans (l2.mono HB.out.size))
    have HA2 := Lib.hid (HA.out.below l2 HA.out.lt)
    have HT2 := Lib.hid (HT.out.below l2)
    have HWs2 := Lib.hid (Nat.le_trans HWs.out l2.size)
    clear l2 x0 x1 x2
    obtain ⟨x0, x1, x2⟩ := HT2.out.cells
    go_wp2_with fail
    refine (HCl.out _ HT2.out.row).mono ?_
    rintro e W3 ⟨v3, rfl, o3, l3⟩
    obtain ⟨a3, c3, rfl, _, _⟩ := own_someS0 o3
    have HS3 : Hid (SA w W3 R R4 (.slice a l.q.length cap) ⟨[], l.f, l.u⟩ → True) := Lib.hid (fun _ => trivial)
    have HO3 := Lib.hid (own_base o3 HWs2.out)
    have HB3 := Lib.hid (HB2.out.trans (l3.mono HB2.out.size))
    have HA3 := Lib.hid (HA2.out.below l3 HA2.out.lt)
    have HT3 := Lib.hid (HT2.out.lq.below l3 HT2.out.lt)
    clear l3 o3 x0 x1 x2 HS3
    obtain ⟨x0, x1, x2⟩ := HT3.out.cells
    have fx := HT3.out.free 0
    go_upto_region 4 with fail
    obtain ⟨p1, q1⟩ := HT3.out.put0 (.slice a3 l.q.length c3)
    have hS4 : SA w (W3.setCell ⟨R, 0, none⟩ (.slice a3 l.q.length c3)) R R4 (.slice a3 l.q.length c3) l := by
      refine ⟨p1, HA3.out.grown q1 (fun e => by have e2 : R4 = R := Option.some.inj e; have h1 := HR.out; have h2 := HR4.out; omega), HO3.out.kept q1 ?_, HB3.out.grown q1 HB3.out.size (fun k hk => by have e2 : R = k := Option.some.inj hk; have := HR.out; omega), HR.out, HR4.out⟩
      cases hv : (Value.slice a3 l.q.length c3).ownBlock with
      | none => exact .inl rfl
      | some k => exact .inr (fun e => by have e2 : k = R := Option.some.inj e; have h1 := (HO3.out.lt k hv).1; have h2 := HR.out; omega)
    have HS4 := Lib.hid hS4
    obtain ⟨W4, hW4⟩ : ∃ W4, W4 = W3.setCell ⟨R, 0, none⟩ (.slice a3 l.q.length c3) := ⟨_, rfl⟩
    rw [← hW4] at HS4 ⊢
    clear hW4 hS4 p1 q1 x0 x1 x2 fx HO3 HB3 HA3 HT3
    go_wp2_with fail
    go_loopw [7, 27] (fun y i wr => ∃ (k : Nat) (v' : Value), k ≤ m ∧ i = .int .i64 k ∧ y = .int .i64 (run7 l (t.take k)).2 ∧ Hid (SA w wr R R4 v' (run7 l (t.take k)).1)) (fun _ i _ => m - (RowKit.intOf i).toNat)
    case atStart => exact ⟨0, _, Nat.zero_le _, rfl, rfl, HS4⟩
    case round =>
      obtain ⟨k, v', hk, rfl, rfl, HS⟩ := hrel
      by_cases hkm : k < m
      · have hkt : k < t.length := by rw [← HM.out]; exact hkm
        obtain ⟨b, off, rfl, hb, hc⟩ := HU.out k hkt
        have hcx := (HS.out.bel.cell (p := ⟨b, off + k, none⟩) hb).trans hc
        have HStep : Hid (run7 l (t.take (k + 1)) = step7 (run7 l (t.take k)) t[k]) := Lib.hid (by rw [List.take_succ_eq_append_getElem hkt, run7_snoc])
        obtain ⟨hc0, hck⟩ := run7_bd l k (t.take k) (by rw [List.length_take]; omega)
        obtain ⟨s, hs⟩ : ∃ s, s = t[k] := ⟨_, rfl⟩
        rw [← hs] at hcx HStep
        obtain ⟨L, hL⟩ : ∃ L, L = (run7 l (t.take k)).1 := ⟨_, rfl⟩
        obtain ⟨c, hcc⟩ : ∃ c, c = (run7 l (t.take k)).2 := ⟨_, rfl⟩
        have hst : step7 (run7 l (t.take k)) s = if sendOk L s = true then (sendL L s, c) else (L, c + 1) := by rw [hL, hcc]; rfl
        rw [hst] at HStep
        rw [← hL] at HS
        rw [← hcc] at hc0 hck ⊢
        have hw1 : IntKind.i64.wrap (c + 1) = c + 1 := IntWalk.i64_in _ (by omega)
        obtain ⟨a6, c6, rfl, _, _⟩ := own_someS0 HS.out.own
        have HSe := Lib.hid (implSend_any (.slice a6 L.q.length c6) L s wr (row_own HS.out.own) (fitA_own HS.out.own))
        clear hc hs hL hcc hst
        obtain ⟨x0, x1, x2⟩ := HS.out.box.cells
        cases hsd : sendOk L s with
        | false =>
          rw [hsd] at HStep HSe
          have HSt := Lib.hid (show run7 l (t.take (k + 1)) = (L, c + 1) from HStep.out)
          clear hsd HStep
          go_wp2_with fail
          refine HSe.out.mono ?_
          rintro e W6 ⟨v6, rfl, o6, l6⟩
          obtain ⟨a7, c7, rfl, _, _⟩ := own_someS0 o6
          have HS6 := Lib.hid (HS.out.step l6)
          clear o6 l6
          go_wp2_with fail
          go_roundw
          case rel => exact ⟨k + 1, _, by omega, by go_num, by rw [HSt.out], by rw [HSt.out]; exact Lib.hid (HS6.out.step ((Below.refl _ _).alloc (Nat.le_refl _) _))⟩
          case measure => (simp [RowKit.intOf]; omega)
        | true =>
          rw [hsd] at HStep HSe
          have HSt := Lib.hid (show run7 l (t.take (k + 1)) = (sendL L s, c) from HStep.out)
          clear hsd HStep
          obtain ⟨L2, hL2⟩ : ∃ L2, L2 = sendL L s := ⟨_, rfl⟩
          rw [← hL2] at HSt HSe
          clear hL2
          go_wp2_with fail
          refine HSe.out.mono ?_
          rintro e W6 ⟨v6, rfl, o6, l6⟩
          obtain ⟨a7, c7, rfl, _, _⟩ := own_someS0 o6
          have HS6 := Lib.hid (HS.out.step l6)
          have HO6 := Lib.hid (own_base o6 (show w.heap.size + 2 ≤ wr.heap.size by have h1 := HS.out.res.lt; have h2 := HS.out.r4; omega))
          clear o6 l6
          go_upto_region 9 with fail
          obtain ⟨W7, hW7⟩ : ∃ W7, W7 = W6.alloc (.cells #[.slice a7 L2.q.length c7, .string L2.f, .int .i64 L2.u] 26) := ⟨_, rfl⟩
          have l7 : Below W6.heap.size W6 W7 := by rw [hW7]; exact (Below.refl _ _).alloc (Nat.le_refl _) _
          have HX7 : Hid (Lq W7 W6.heap.size (.slice a7 L2.q.length c7) L2.f L2.u) := Lib.hid (by rw [hW7]; exact Lq.new W6 _ _ _)
          have HS7 := Lib.hid (HS6.out.step l7)
          have HO7 := Lib.hid (own_below HO6.out l7 (Nat.le_refl _))
          rw [← hW7]
          obtain ⟨X, hX⟩ : ∃ X, X = W6.heap.size := ⟨_, rfl⟩
          rw [← hX] at HX7 ⊢
          clear hW7 hX l7 HS6 HO6 x0 x1 x2
          obtain ⟨x0, x1, x2⟩ := HS7.out.box.cells
          obtain ⟨z0, z1, z2⟩ := HX7.out.cells
          have f0 := HS7.out.box.free 0
          have f1 := HS7.out.box.free 1
          have f2 := HS7.out.box.free 2
          go_wp2_with fail
          go_roundw
          case rel => exact ⟨k + 1, .slice a7 L2.q.length c7, by omega, by go_num, by rw [HSt.out], by rw [HSt.out]; exact Lib.hid (HS7.out.put HO7.out)⟩
          case measure => (simp [RowKit.intOf]; omega)
      · obtain rfl : k = m := by omega
        rw [show t.take k = t from List.take_of_length_le (by rw [HM.out]; exact Nat.le_refl _)] at HS ⊢
        obtain ⟨a6, c6, rfl, _, _⟩ := own_someS0 HS.out.own
        rw [← HE1.out] at HS
        rw [← HE2.out]
        obtain ⟨x0, x1, x2⟩ := HS.out.box.cells
        obtain ⟨y0, y1, y2⟩ := HS.out.res.cells
        have f0 := HS.out.res.free 0
        have f1 := HS.out.res.free 1
        have f2 := HS.out.res.free 2
        go_wp2_with fail
        obtain ⟨p1, q1⟩ := HS.out.res.store (v' := .slice a6 (allL l t).q.length c6) (f' := (allL l t).f) (u' := (allL l t).u)
        refine bodyPost_ret (results_lk2 rfl _ _ R4 rfl rfl rfl p1) rfl ⟨_, by rw [HKk.out]; rfl, own_base2 (HS.out.own.kept q1 ?_), HS.out.bel.grown q1 HS.out.bel.size (fun k hk => by have e2 : R4 = k := Option.some.inj hk; have := HS.out.r4; omega)⟩
        cases hv : (Value.slice a6 (allL l t).q.length c6).ownBlock with
        | none => exact .inl rfl
        | some k => exact .inr (fun e => by have e2 : k = R4 := Option.some.inj e; have h1 := (HS.out.own.lt k hv).1; have h2 := HS.out.r4; omega)
end Go.Proofs.Ytbhhmaialilabaa
