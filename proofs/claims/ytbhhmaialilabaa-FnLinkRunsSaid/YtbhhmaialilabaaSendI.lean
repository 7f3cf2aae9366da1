/-
  Links: the program's SendOn.
-/
import Derived.Test.YtbhhmaialilabaaQw
import Derived.Test.YtbhhmaialilabaaLinkI2
namespace Go.Proofs.Ytbhhmaialilabaa
open Go.RowKit Go.Lib Go.Joins
set_option linter.unusedVariables false

theorem nextFate_four {l : Lk} (h : lkOk l = true) : nextFate l = 107 ∨ nextFate l = 108 ∨ nextFate l = 100 ∨ nextFate l = 115 := by
  rw [show nextFate l = fateB l from if_pos h]
  exact fateB_four h
theorem usedN_min (l : Lk) : (min (l.u + 1) (l.f.size : Int)) = usedN l := by
  unfold usedN
  split <;> omega
set_option maxRecDepth 100000 in
set_option maxHeartbeats 8000000 in
theorem implSend_any (v : Value) (l : Lk) (s : ByteArray) (w : World) (hrow : Row w v l.q.length (l.q.map Value.string)) (hfit : FitA v l.q.length) :
    Calls Try.prog 16 #[.agg #[v, .string l.f, .int .i64 l.u], .string s] w fun e w' => ∃ v', e = .returned (.tuple #[.agg #[v', .string (sendL l s).f, .int .i64 (sendL l s).u], .bool (sendOk l s)]) ∧ w'.ownsRow w.heap.size 9 1 v' (sendL l s).q.length ((sendL l s).q.map Value.string) ∧ Below w.heap.size w w' := by
  obtain ⟨W, hW⟩ : ∃ W, W = (w.alloc (.cells #[v, .string l.f, .int .i64 l.u] 26)).alloc (.cells #[.slice none 0 0, .string ⟨#[]⟩, .int .i64 0] 26) := ⟨_, rfl⟩
  have hB : Below w.heap.size w W := by rw [hW]; exact ((Below.refl w.heap.size w).alloc (Nat.le_refl _) _).alloc (by simp) _
  have hT : Lb W w.heap.size v l := by rw [hW]; exact (Lb.new hrow).below ((Below.refl _ _).alloc (Nat.le_refl _) _)
  have hA : Lq W (w.heap.size + 1) (.slice none 0 0) ⟨#[]⟩ 0 := by
    rw [hW]
    have := Lq.new (w.alloc (.cells #[v, .string l.f, .int .i64 l.u] 26)) (.slice none 0 0) ⟨#[]⟩ 0
    rw [World.size_alloc] at this
    exact this
  have HW := Lib.hid hW
  have HB := Lib.hid hB
  have HA := Lib.hid hA
  have HT := Lib.hid hT
  have HG := Lib.hid (implNextFate_any v l W hT.row)
  have HTl := Lib.hid (fun W1 => tooLong_any s W1)
  have HQw := Lib.hid (fun (hl : l.q.length ≤ 8) (hroom : nextFate l = 108 ∨ l.q.length ≠ 8) (hb : nextFate l = 107 ∨ nextFate l = 108 ∨ nextFate l = 100 ∨ nextFate l = 115) (W1 : World) hr => queueWith_any v l.q s (nextFate l) W1 hr hfit hl hroom hb)
  have HNo := Lib.hid (@sendOk_no l s)
  have HYes := Lib.hid (@sendOk_yes l s)
  have HOk : Hid (sendOk l s = ((lkOk l && decide (s.size ≤ 60)) && (decide (fateB l = 108) || decide (l.q.length ≠ 8)))) := Lib.hid rfl
  have HNf := Lib.hid (fun (h : lkOk l = true) => (show nextFate l = fateB l from if_pos h))
  have H4 := Lib.hid (@nextFate_four l)
  have H8 := Lib.hid (fun (h : lkOk l = true) => (lkOk_parts h).2.2.1)
  have HU := Lib.hid (fun (h : lkOk l = true) => (show 0 ≤ l.u ∧ l.u ≤ 40 by have := lkOk_parts h; omega))
  have HMin := Lib.hid (usedN_min l)
  obtain ⟨a, cap, rfl, hc1, hm1, _⟩ := row_open hrow
  unfold maxLen at hm1
  obtain ⟨R, hR⟩ : ∃ R, R = w.heap.size := ⟨_, rfl⟩
  obtain ⟨R4, hR4⟩ : ∃ R4, R4 = w.heap.size + 1 := ⟨_, rfl⟩
  rw [← hR] at HT
  rw [← hR4] at HA
  have HR := Lib.hid hR
  have HR4 := Lib.hid hR4
  clear hW hB hT hA hR hR4 hrow hfit
  obtain ⟨x0, x1, x2⟩ := HT.out.cells
  have hsh : (shortB s = decide (s.size ≤ 60)) := rfl
  rw [hsh] at HTl
  clear hsh
  obtain ⟨x, hx⟩ : ∃ x : Int, x = ((nextFate l).toNat : Int) := ⟨_, rfl⟩
  rw [← hx] at HG HQw
  have HX := Lib.hid hx
  clear hx
  cases ok : lkOk l with
  | false =>
    have hk : sendOk l s = false := by rw [HOk.out, ok]; rfl
    have HE := Lib.hid (HNo.out hk)
    have HKk := Lib.hid hk
    rw [ok] at HG
    clear ok hk HNo HYes HQw HOk HNf H4 H8 HU HMin HTl
    go_enter Try.func16, Try.ntmps16
    go_upto_region 1 with fail
    rw [← HW.out, ← HR4.out, ← HR.out]
    go_wp2_with fail
    refine HG.out.mono ?_
    rintro e W2 ⟨rfl, l2⟩
    have HB2 := Lib.hid (HB.out.trans (l2.mono HB.out.size))
    have HA2 := Lib.hid (HA.out.below l2 HA.out.lt)
    have HT2 := Lib.hid (HT.out.below l2)
    clear l2 x0 x1 x2
    obtain ⟨x0, x1, x2⟩ := HT2.out.cells
    obtain ⟨y0, y1, y2⟩ := HA2.out.cells
    have f0 := HA2.out.free 0
    have f1 := HA2.out.free 1
    have f2 := HA2.out.free 2
    go_wp2_with fail
    obtain ⟨p1, q1⟩ := HA2.out.store (v' := .slice none 0 0) (f' := ⟨#[]⟩) (u' := 0)
    refine bodyPost_ret (results_lk rfl _ _ R4 rfl rfl p1) rfl ⟨_, by rw [HE.out, HKk.out]; rfl, by rw [HE.out]; exact own_nilS _ _, HB2.out.grown q1 HB2.out.size (fun k hk => by have e2 : R4 = k := Option.some.inj hk; have := HR4.out; omega)⟩
  | true =>
    rw [ok] at HG
    have h8 := H8.out ok
    have h4 := H4.out ok
    have hnf := HNf.out ok
    obtain ⟨hu0, hu1⟩ := HU.out ok
    by_cases hs : s.size ≤ 60
    rotate_left
    · have hk : sendOk l s = false := by rw [HOk.out, decide_eq_false hs, Bool.and_false]; rfl
      have HE := Lib.hid (HNo.out hk)
      have HKk := Lib.hid hk
      rw [decide_eq_false hs] at HTl
      clear ok hk HNo HYes HQw HOk HNf H4 H8 HU HMin h4 hnf hs
      go_enter Try.func16, Try.ntmps16
      go_upto_region 1 with fail
      rw [← HW.out, ← HR4.out, ← HR.out]
      go_wp2_with fail
      refine HG.out.mono ?_
      rintro e W2 ⟨rfl, l2⟩
      have HB2 := Lib.hid (HB.out.trans (l2.mono HB.out.size))
      have HA2 := Lib.hid (HA.out.below l2 HA.out.lt)
      have HT2 := Lib.hid (HT.out.below l2)
      clear l2 x0 x1 x2
      obtain ⟨x0, x1, x2⟩ := HT2.out.cells
      obtain ⟨y0, y1, y2⟩ := HA2.out.cells
      have f0 := HA2.out.free 0
      have f1 := HA2.out.free 1
      have f2 := HA2.out.free 2
      go_wp2_with fail
      refine (HTl.out _).mono ?_
      rintro e W9 ⟨rfl, rfl⟩
      go_wp2_with fail
      obtain ⟨p1, q1⟩ := HA2.out.store (v' := .slice none 0 0) (f' := ⟨#[]⟩) (u' := 0)
      refine bodyPost_ret (results_lk rfl _ _ R4 rfl rfl p1) rfl ⟨_, by rw [HE.out, HKk.out]; rfl, by rw [HE.out]; exact own_nilS _ _, HB2.out.grown q1 HB2.out.size (fun k hk => by have e2 : R4 = k := Option.some.inj hk; have := HR4.out; omega)⟩
    rw [decide_eq_true hs] at HTl
    by_cases hbad : ¬ nextFate l = 108 ∧ l.q.length = 8
    · have hk : sendOk l s = false := by rw [HOk.out, ← hnf, decide_eq_false hbad.1, decide_eq_false (show ¬ (l.q.length ≠ 8) from fun h => h hbad.2), Bool.or_false, Bool.and_false]
      have HE := Lib.hid (HNo.out hk)
      have HKk := Lib.hid hk
      have hx1 : (x == 108) = false := by
        rw [HX.out]
        have := byte_is (nextFate l) 108 (by omega)
        simp
        exact fun h => hbad.1 (this.2 h)
      have hx2 : (x != 108) = true := by rw [bne, hx1]; rfl
      have hn8 : ((l.q.length : Int) == 8) = true := by rw [hbad.2]; rfl
      clear ok hk HNo HYes HQw HOk HNf H4 H8 HU HMin h4 hnf hs hbad
      go_enter Try.func16, Try.ntmps16
      go_upto_region 1 with fail
      rw [← HW.out, ← HR4.out, ← HR.out]
      go_wp2_with fail
      refine HG.out.mono ?_
      rintro e W2 ⟨rfl, l2⟩
      have HB2 := Lib.hid (HB.out.trans (l2.mono HB.out.size))
      have HA2 := Lib.hid (HA.out.below l2 HA.out.lt)
      have HT2 := Lib.hid (HT.out.below l2)
      clear l2 x0 x1 x2
      obtain ⟨x0, x1, x2⟩ := HT2.out.cells
      obtain ⟨y0, y1, y2⟩ := HA2.out.cells
      have f0 := HA2.out.free 0
      have f1 := HA2.out.free 1
      have f2 := HA2.out.free 2
      go_wp2_with fail
      refine (HTl.out _).mono ?_
      rintro e W9 ⟨rfl, rfl⟩
      go_wp2_with fail
      obtain ⟨p1, q1⟩ := HA2.out.store (v' := .slice none 0 0) (f' := ⟨#[]⟩) (u' := 0)
      refine bodyPost_ret (results_lk rfl _ _ R4 rfl rfl p1) rfl ⟨_, by rw [HE.out, HKk.out]; rfl, by rw [HE.out]; exact own_nilS _ _, HB2.out.grown q1 HB2.out.size (fun k hk => by have e2 : R4 = k := Option.some.inj hk; have := HR4.out; omega)⟩
    have hroom : nextFate l = 108 ∨ l.q.length ≠ 8 := by
      by_cases h : nextFate l = 108
      · exact .inl h
      · exact .inr (fun h2 => hbad ⟨h, h2⟩)
    have hk : sendOk l s = true := by
      rw [HOk.out, ok, decide_eq_true hs, ← hnf]
      rcases hroom with h | h
      · rw [decide_eq_true h]; rfl
      · rw [decide_eq_true h, Bool.or_true]; rfl
    have HE := Lib.hid (HYes.out hk)
    have HKk := Lib.hid hk
    have HNF := Lib.hid hnf
    have HQ2 := Lib.hid (HQw.out h8 hroom h4)
    have hmin : min (IntKind.i64.wrap (l.u + 1)) (l.f.size : Int) = usedN l := by rw [IntWalk.i64_in _ (by omega)]; exact HMin.out
    have hw1 : IntKind.i64.wrap (l.u + 1) = l.u + 1 := IntWalk.i64_in _ (by omega)
    have hmin2 : min (l.u + 1) (l.f.size : Int) = usedN l := HMin.out
    have HM1 := Lib.hid hmin
    have HM2 := Lib.hid hmin2
    have hg : (x != 108 && ((l.q.length : Int) == 8)) = false := by
      rcases hroom with h | h
      · have : x = 108 := by rw [HX.out, h]; rfl
        rw [this]; rfl
      · have : ((l.q.length : Int) == 8) = false := by simp; omega
        rw [this, Bool.and_false]
    have hgc : (x = 108) ∨ (l.q.length ≠ 8) := by
      rcases hroom with h | h
      · exact .inl (by rw [HX.out, h]; rfl)
      · exact .inr h
    have HGc := Lib.hid hgc
    clear ok hk HNo HYes HQw HOk HNf H4 H8 HU HMin h4 hnf hs hbad hroom hmin hmin2 hg hgc
    by_cases hx8 : x = 108
    · have hd1 : (x != 108) = false := by rw [hx8]; rfl
      have hd2 : (x == 108) = true := by rw [hx8]; rfl
      clear hx8
      go_enter Try.func16, Try.ntmps16
      go_upto_region 1 with fail
      rw [← HW.out, ← HR4.out, ← HR.out]
      go_wp2_with fail
      refine HG.out.mono ?_
      rintro e W2 ⟨rfl, l2⟩
      have HB2 := Lib.hid (HB.out.trans (l2.mono HB.out.size))
      have HA2 := Lib.hid (HA.out.below l2 HA.out.lt)
      have HT2 := Lib.hid (HT.out.below l2)
      clear l2 x0 x1 x2
      obtain ⟨x0, x1, x2⟩ := HT2.out.cells
      obtain ⟨y0, y1, y2⟩ := HA2.out.cells
      have f0 := HA2.out.free 0
      have f1 := HA2.out.free 1
      have f2 := HA2.out.free 2
      go_wp2_with fail
      refine (HTl.out _).mono ?_
      rintro e W9 ⟨rfl, rfl⟩
      go_wp2_with fail
      refine (HQ2.out _ HT2.out.row).mono ?_
      rintro e W5 ⟨v5, rfl, o5, l5⟩
      obtain ⟨a5, c5, rfl, _, _⟩ := own_someS0 o5
      have HO5 := Lib.hid o5
      have HB5 := Lib.hid (HB2.out.trans (l5.mono HB2.out.size))
      have HA5 := Lib.hid (HA2.out.below l5 HA2.out.lt)
      have HT5 := Lib.hid (HT2.out.lq.below l5 HT2.out.lt)
      have hltA := HA2.out.lt
      have hltT := HT2.out.lt
      clear o5 l5 x0 x1 x2 y0 y1 y2 f0 f1 f2
      obtain ⟨x0, x1, x2⟩ := HT5.out.cells
      have fx := HT5.out.free 0
      go_upto_region 5 with fail
      obtain ⟨p1, q1⟩ := HT5.out.put0 (.slice a5 (putQ (nextFate l) l.q s).length c5)
      have HA6 := Lib.hid (HA5.out.grown q1 (fun e => by have e2 : R4 = R := Option.some.inj e; have h1 := HR.out; have h2 := HR4.out; omega))
      have HO6 := Lib.hid (HO5.out.kept q1 (by
        cases hv : (Value.slice a5 (putQ (nextFate l) l.q s).length c5).ownBlock with
        | none => exact .inl rfl
        | some k => exact .inr (fun e => by have e3 : k = R := Option.some.inj e; have := (HO5.out.lt k hv).1; omega)))
      have HB6 := Lib.hid (HB5.out.grown q1 HB5.out.size (fun k hk => by have e2 : R = k := Option.some.inj hk; have := HR.out; omega))
      have HT6 := Lib.hid p1
      obtain ⟨W6, hW6⟩ : ∃ W6, W6 = W5.setCell ⟨R, 0, none⟩ (.slice a5 (putQ (nextFate l) l.q s).length c5) := ⟨_, rfl⟩
      rw [← hW6] at HA6 HO6 HB6 HT6 ⊢
      clear hW6 p1 q1 x0 x1 x2 fx HA5 HO5 HB5 HT5
      obtain ⟨x0, x1, x2⟩ := HT6.out.cells
      have fx := HT6.out.free 2
      have hmm := HM2.out
      go_upto_region 6 with fail
      clear hmm
      obtain ⟨p1, q1⟩ := HT6.out.put2 (usedN l)
      have HA7 := Lib.hid (HA6.out.grown q1 (fun e => by have e2 : R4 = R := Option.some.inj e; have h1 := HR.out; have h2 := HR4.out; omega))
      have HO7 := Lib.hid (HO6.out.kept q1 (by
        cases hv : (Value.slice a5 (putQ (nextFate l) l.q s).length c5).ownBlock with
        | none => exact .inl rfl
        | some k => exact .inr (fun e => by have e3 : k = R := Option.some.inj e; have := (HO6.out.lt k hv).1; omega)))
      have HB7 := Lib.hid (HB6.out.grown q1 HB6.out.size (fun k hk => by have e2 : R = k := Option.some.inj hk; have := HR.out; omega))
      have HT7 := Lib.hid p1
      obtain ⟨W7, hW7⟩ : ∃ W7, W7 = W6.setCell ⟨R, 2, none⟩ (.int .i64 (usedN l)) := ⟨_, rfl⟩
      rw [← hW7] at HA7 HO7 HB7 HT7 ⊢
      clear hW7 p1 q1 x0 x1 x2 fx HA6 HO6 HB6 HT6
      obtain ⟨x0, x1, x2⟩ := HT7.out.cells
      obtain ⟨y0, y1, y2⟩ := HA7.out.cells
      have f0 := HA7.out.free 0
      have f1 := HA7.out.free 1
      have f2 := HA7.out.free 2
      go_wp2_with fail
      obtain ⟨p1, q1⟩ := HA7.out.store (v' := .slice a5 (putQ (nextFate l) l.q s).length c5) (f' := l.f) (u' := usedN l)
      refine bodyPost_ret (results_lk rfl _ _ R4 rfl rfl p1) rfl ⟨_, by rw [HE.out, HKk.out], ?_, HB7.out.grown q1 HB7.out.size (fun k hk => by have e2 : R4 = k := Option.some.inj hk; have := HR4.out; omega)⟩
      rw [HE.out]
      show World.ownsRow _ _ _ _ _ (putQ (fateB l) l.q s).length ((putQ (fateB l) l.q s).map Value.string)
      rw [← HNF.out]
      refine own_base (HO7.out.kept q1 ?_) HB2.out.size
      cases hv : (Value.slice a5 (putQ (nextFate l) l.q s).length c5).ownBlock with
      | none => exact .inl rfl
      | some k => exact .inr (fun e => by have e3 : k = R4 := Option.some.inj e; have h1 := (HO7.out.lt k hv).1; omega)
    · have hd1 : (x != 108) = true := by simp; exact hx8
      have hd2 : (x == 108) = false := by simp; exact hx8
      have hn8 : ((l.q.length : Int) == 8) = false := by have := HGc.out.resolve_left hx8; simp; omega
      clear hx8
      go_enter Try.func16, Try.ntmps16
      go_upto_region 1 with fail
      rw [← HW.out, ← HR4.out, ← HR.out]
      go_wp2_with fail
      refine HG.out.mono ?_
      rintro e W2 ⟨rfl, l2⟩
      have HB2 := Lib.hid (HB.out.trans (l2.mono HB.out.size))
      have HA2 := Lib.hid (HA.out.below l2 HA.out.lt)
      have HT2 := Lib.hid (HT.out.below l2)
      clear l2 x0 x1 x2
      obtain ⟨x0, x1, x2⟩ := HT2.out.cells
      obtain ⟨y0, y1, y2⟩ := HA2.out.cells
      have f0 := HA2.out.free 0
      have f1 := HA2.out.free 1
      have f2 := HA2.out.free 2
      go_wp2_with fail
      refine (HTl.out _).mono ?_
      rintro e W9 ⟨rfl, rfl⟩
      go_wp2_with fail
      refine (HQ2.out _ HT2.out.row).mono ?_
      rintro e W5 ⟨v5, rfl, o5, l5⟩
      obtain ⟨a5, c5, rfl, _, _⟩ := own_someS0 o5
      have HO5 := Lib.hid o5
      have HB5 := Lib.hid (HB2.out.trans (l5.mono HB2.out.size))
      have HA5 := Lib.hid (HA2.out.below l5 HA2.out.lt)
      have HT5 := Lib.hid (HT2.out.lq.below l5 HT2.out.lt)
      have hltA := HA2.out.lt
      have hltT := HT2.out.lt
      clear o5 l5 x0 x1 x2 y0 y1 y2 f0 f1 f2
      obtain ⟨x0, x1, x2⟩ := HT5.out.cells
      have fx := HT5.out.free 0
      go_upto_region 5 with fail
      obtain ⟨p1, q1⟩ := HT5.out.put0 (.slice a5 (putQ (nextFate l) l.q s).length c5)
      have HA6 := Lib.hid (HA5.out.grown q1 (fun e => by have e2 : R4 = R := Option.some.inj e; have h1 := HR.out; have h2 := HR4.out; omega))
      have HO6 := Lib.hid (HO5.out.kept q1 (by
        cases hv : (Value.slice a5 (putQ (nextFate l) l.q s).length c5).ownBlock with
        | none => exact .inl rfl
        | some k => exact .inr (fun e => by have e3 : k = R := Option.some.inj e; have := (HO5.out.lt k hv).1; omega)))
      have HB6 := Lib.hid (HB5.out.grown q1 HB5.out.size (fun k hk => by have e2 : R = k := Option.some.inj hk; have := HR.out; omega))
      have HT6 := Lib.hid p1
      obtain ⟨W6, hW6⟩ : ∃ W6, W6 = W5.setCell ⟨R, 0, none⟩ (.slice a5 (putQ (nextFate l) l.q s).length c5) := ⟨_, rfl⟩
      rw [← hW6] at HA6 HO6 HB6 HT6 ⊢
      clear hW6 p1 q1 x0 x1 x2 fx HA5 HO5 HB5 HT5
      obtain ⟨x0, x1, x2⟩ := HT6.out.cells
      have fx := HT6.out.free 2
      have hmm := HM2.out
      go_upto_region 6 with fail
      clear hmm
      obtain ⟨p1, q1⟩ := HT6.out.put2 (usedN l)
      have HA7 := Lib.hid (HA6.out.grown q1 (fun e => by have e2 : R4 = R := Option.some.inj e; have h1 := HR.out; have h2 := HR4.out; omega))
      have HO7 := Lib.hid (HO6.out.kept q1 (by
        cases hv : (Value.slice a5 (putQ (nextFate l) l.q s).length c5).ownBlock with
        | none => exact .inl rfl
        | some k => exact .inr (fun e => by have e3 : k = R := Option.some.inj e; have := (HO6.out.lt k hv).1; omega)))
      have HB7 := Lib.hid (HB6.out.grown q1 HB6.out.size (fun k hk => by have e2 : R = k := Option.some.inj hk; have := HR.out; omega))
      have HT7 := Lib.hid p1
      obtain ⟨W7, hW7⟩ : ∃ W7, W7 = W6.setCell ⟨R, 2, none⟩ (.int .i64 (usedN l)) := ⟨_, rfl⟩
      rw [← hW7] at HA7 HO7 HB7 HT7 ⊢
      clear hW7 p1 q1 x0 x1 x2 fx HA6 HO6 HB6 HT6
      obtain ⟨x0, x1, x2⟩ := HT7.out.cells
      obtain ⟨y0, y1, y2⟩ := HA7.out.cells
      have f0 := HA7.out.free 0
      have f1 := HA7.out.free 1
      have f2 := HA7.out.free 2
      go_wp2_with fail
      obtain ⟨p1, q1⟩ := HA7.out.store (v' := .slice a5 (putQ (nextFate l) l.q s).length c5) (f' := l.f) (u' := usedN l)
      refine bodyPost_ret (results_lk rfl _ _ R4 rfl rfl p1) rfl ⟨_, by rw [HE.out, HKk.out], ?_, HB7.out.grown q1 HB7.out.size (fun k hk => by have e2 : R4 = k := Option.some.inj hk; have := HR4.out; omega)⟩
      rw [HE.out]
      show World.ownsRow _ _ _ _ _ (putQ (fateB l) l.q s).length ((putQ (fateB l) l.q s).map Value.string)
      rw [← HNF.out]
      refine own_base (HO7.out.kept q1 ?_) HB2.out.size
      cases hv : (Value.slice a5 (putQ (nextFate l) l.q s).length c5).ownBlock with
      | none => exact .inl rfl
      | some k => exact .inr (fun e => by have e3 : k = R4 := Option.some.inj e; have h1 := (HO7.out.lt k hv).1; omega)
end Go.Proofs.Ytbhhmaialilabaa
