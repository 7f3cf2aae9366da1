/-
  Timers: BackOff, the specification's and the program's.
-/
import Derived.Test.YtoehedogdbafpaaTimI5
import Derived.Laws.ResultCell
import Derived.Deep.CutRange
namespace Go.Proofs.Ytoehedogdbafpaa
open Go.RowKit Go.Lib Go.Joins
set_option linter.unusedVariables false

theorem results_tm {fn : Func} {p u : Tmp} (h : fn.results = #[.cell p 42, .tmp u]) (tmps : Array Value) (w : World) (g : Nat) {t : Tm} (hp : tmps.getD p undef = .pointer (some ⟨g, 0, none⟩)) {x : Value} (hu : tmps.getD u undef = x) (hg : Tb w g t) :
    (results fn tmps).run Try.prog w = .ok (.tuple #[.agg #[.int .i64 t.i, .int .i64 t.d, .int .i64 t.p], x]) w := by
  rw [results_cell_tmp h, hu]
  have hp' : tmps[p]?.getD undef = .pointer (some ⟨g, 0, none⟩) := by simpa using hp
  simp [asAddr, hp', Result.andThen, run_loadVar_row w g 42 42 _ _ _ hg Try.underlying42 (by rfl) (by kernel_rfl)]
theorem Tb.put {w : World} {R : Nat} {t : Tm} (h : Tb w R t) (u : Tm) : Tb (((w.setCell ⟨R, 0, none⟩ (.int .i64 u.i)).setCell ⟨R, 1, none⟩ (.int .i64 u.d)).setCell ⟨R, 2, none⟩ (.int .i64 u.p)) R u ∧ w.grownBy (((w.setCell ⟨R, 0, none⟩ (.int .i64 u.i)).setCell ⟨R, 1, none⟩ (.int .i64 u.d)).setCell ⟨R, 2, none⟩ (.int .i64 u.p)) (some R) := by
  obtain ⟨a0, b0⟩ := blk_set (i := 0) h (.int .i64 u.i)
  obtain ⟨a1, b1⟩ := blk_set (i := 1) a0 (.int .i64 u.d)
  obtain ⟨a2, b2⟩ := blk_set (i := 2) a1 (.int .i64 u.p)
  refine ⟨?_, grown_trans (grown_trans b0 b1) b2⟩
  unfold Tb
  rw [a2]
  rfl
theorem Tb.put1 {w : World} {R : Nat} {t : Tm} (h : Tb w R t) (x : Int) : Tb (w.setCell ⟨R, 1, none⟩ (.int .i64 x)) R ⟨t.i, x, t.p⟩ ∧ w.grownBy (w.setCell ⟨R, 1, none⟩ (.int .i64 x)) (some R) := by
  obtain ⟨a0, b0⟩ := blk_set (i := 1) h (.int .i64 x)
  exact ⟨by unfold Tb; rw [a0]; rfl, b0⟩
theorem Tb.put2 {w : World} {R : Nat} {t : Tm} (h : Tb w R t) (x : Int) : Tb (w.setCell ⟨R, 2, none⟩ (.int .i64 x)) R ⟨t.i, t.d, x⟩ ∧ w.grownBy (w.setCell ⟨R, 2, none⟩ (.int .i64 x)) (some R) := by
  obtain ⟨a0, b0⟩ := blk_set (i := 2) h (.int .i64 x)
  exact ⟨by unfold Tb; rw [a0]; rfl, b0⟩
/-- What is asked ahead. -/
def back1 (t : Tm) (m : Int) : Bool := (tmOk t && decide (t.p ≠ 0)) && ((decide (1 ≤ m) && decide (m ≤ 10000)) && decide (t.p ≤ m))
theorem back_no {t : Tm} {m : Int} (h : back1 t m = false) : backOk t m = false ∧ backV t m = tm0 := by
  have e : backOk t m = false := by
    unfold back1 at h
    unfold backOk
    rw [← Bool.and_assoc] at h ⊢
    rw [← Bool.and_assoc, h]; rfl
  exact ⟨e, by unfold backV; rw [e]; rfl⟩
theorem back_yes {t : Tm} {m : Int} (h : back1 t m = true) : backOk t m = tmOk (backT t m) ∧ backV t m = (if tmOk (backT t m) = true then backT t m else tm0) ∧ (0 ≤ t.p ∧ t.p ≤ 10000) ∧ (0 ≤ t.d ∧ t.d ≤ 10000) ∧ (1 ≤ m ∧ m ≤ 10000) := by
  have e : backOk t m = tmOk (backT t m) := by
    unfold back1 at h
    unfold backOk
    rw [← Bool.and_assoc] at h ⊢
    rw [← Bool.and_assoc, h]; rfl
  refine ⟨e, by unfold backV; rw [e], ?_⟩
  unfold back1 at h
  simp only [Bool.and_eq_true, decide_eq_true_eq] at h
  obtain ⟨⟨h1, h2⟩, ⟨h3, h4⟩, h5⟩ := h
  have := tmOk_iff.1 h1
  exact ⟨this.2.2, this.2.1, h3, h4⟩
theorem back1_ways (t : Tm) (m : Int) : (tmOk t = false ∧ back1 t m = false) ∨ (tmOk t = true ∧ t.p = 0 ∧ back1 t m = false) ∨ (tmOk t = true ∧ t.p ≠ 0 ∧ ¬ (1 ≤ m ∧ m ≤ 10000) ∧ back1 t m = false) ∨ (tmOk t = true ∧ t.p ≠ 0 ∧ (1 ≤ m ∧ m ≤ 10000) ∧ m < t.p ∧ back1 t m = false) ∨ (tmOk t = true ∧ t.p ≠ 0 ∧ (1 ≤ m ∧ m ≤ 10000) ∧ ¬ m < t.p ∧ back1 t m = true) := by
  unfold back1
  cases h1 : tmOk t with
  | false => exact .inl ⟨rfl, rfl⟩
  | true =>
    by_cases h2 : t.p = 0
    · exact .inr (.inl ⟨rfl, h2, by simp [h2]⟩)
    · by_cases h3 : 1 ≤ m ∧ m ≤ 10000
      · by_cases h4 : m < t.p
        · exact .inr (.inr (.inr (.inl ⟨rfl, h2, h3, h4, by rw [decide_eq_false (p := t.p ≤ m) (by omega)]; simp⟩)))
        · exact .inr (.inr (.inr (.inr ⟨rfl, h2, h3, h4, by simp [h2, h3.1, h3.2]; omega⟩)))
      · refine .inr (.inr (.inl ⟨rfl, h2, h3, ?_⟩))
        by_cases h5 : 1 ≤ m
        · rw [decide_eq_false (p := m ≤ 10000) (fun h => h3 ⟨h5, h⟩)]; simp
        · rw [decide_eq_false h5]; simp
/-- The worlds of BackOff's two boxes. -/
theorem back_boxes (w : World) (t : Tm) : ∃ W0, W0 = (w.alloc (.cells #[.int .i64 t.i, .int .i64 t.d, .int .i64 t.p] 42)).alloc (.cells #[.int .i64 0, .int .i64 0, .int .i64 0] 42) ∧ Tb W0 w.heap.size t ∧ Tb W0 (w.heap.size + 1) tm0 ∧ Below w.heap.size w W0 :=
  ⟨_, rfl, heap_first w _ _, heap_second w _ _, b_a (b_a (Below.refl _ _) _) _⟩
set_option maxRecDepth 100000 in
set_option maxHeartbeats 2000000 in
theorem specBack_any (t : Tm) (m : Int) (w : World) (hmw : (Lit.int .i64 m).wf = true) :
    Calls Try.prog 39 #[.agg #[.int .i64 t.i, .int .i64 t.d, .int .i64 t.p], .int .i64 m] w fun e w' => e = .returned (.tuple #[.agg #[.int .i64 (backV t m).i, .int .i64 (backV t m).d, .int .i64 (backV t m).p], .bool (backOk t m)]) ∧ Below w.heap.size w w' := by
  obtain ⟨W0, hW0, hT, hZ, hB⟩ := back_boxes w t
  have HW0 := Lib.hid hW0
  obtain ⟨R, hR⟩ : ∃ R, R = w.heap.size := ⟨_, rfl⟩
  rw [← hR] at hT hZ
  have HT := Lib.hid hT
  have HZ := Lib.hid hZ
  have HB := Lib.hid hB
  have HR := Lib.hid hR
  obtain ⟨x0, x1, x2⟩ := hT.cells
  have HOne := Lib.hid (show ∀ W, Calls Try.prog 76 #[.agg #[.int .i64 t.i, .int .i64 t.d, .int .i64 t.p]] W fun e w' => e = .returned (.bool (tmOk t)) ∧ Below W.heap.size W w' from fun W => l8One_any t W)
  have hways := back1_ways t m
  have HNo := Lib.hid (@back_no t m)
  have HYes := Lib.hid (@back_yes t m)
  generalize back1 t m = ok at hways HNo HYes
  obtain ⟨rs, hrs⟩ : ∃ r, r = backV t m := ⟨_, rfl⟩
  obtain ⟨bs, hbs⟩ : ∃ r, r = backOk t m := ⟨_, rfl⟩
  rw [← hrs, ← hbs] at HNo HYes ⊢
  clear hW0 hR hT hZ hB hrs hbs
  go_enter Try.func39, Try.ntmps39
  go_upto_region 1 with fail
  rw [← HW0.out, ← HR.out]
  go_cut [26] from 8 to 26 (fun b wx => b = .bool (!ok) ∧ Hid (Below W0.heap.size W0 wx))
  case first =>
    rcases hways with ⟨h1, h2⟩ | ⟨h1, h2, h3⟩ | ⟨h1, h2, h3, h4⟩ | ⟨h1, h2, h3, h4, h5⟩ | ⟨h1, h2, h3, h4, h5⟩
    · rw [h1] at HOne
      subst h2
      clear HNo HYes HZ HB h1 
      go_wp2_with fail
      refine (HOne.out _).mono ?_
      rintro e W1 ⟨rfl, l1⟩
      obtain ⟨y0, y1, y2⟩ := (HT.out.below l1 HT.out.lt).cells
      have HL1 := Lib.hid l1
      clear l1 x0 x1 x2
      go_wp2_with fail
      go_meet
      case rel => exact ⟨rfl, HL1⟩
    · rw [h1] at HOne
      subst h3
      have hz : (t.p == 0) = true := by simp [h2]
      clear HNo HYes HZ HB h1 h2
      go_wp2_with fail
      refine (HOne.out _).mono ?_
      rintro e W1 ⟨rfl, l1⟩
      obtain ⟨y0, y1, y2⟩ := (HT.out.below l1 HT.out.lt).cells
      have HL1 := Lib.hid l1
      clear l1 x0 x1 x2
      go_wp2_with fail
      go_meet
      case rel => exact ⟨rfl, HL1⟩
    · rw [h1] at HOne
      subst h4
      have hz : (t.p == 0) = false := by simp [h2]
      have HIn := Lib.hid (l1In_any m 1 10000)
      rw [inB_no h3] at HIn
      clear HNo HYes HZ HB h1 h2 h3
      go_wp2_with fail
      refine (HOne.out _).mono ?_
      rintro e W1 ⟨rfl, l1⟩
      obtain ⟨y0, y1, y2⟩ := (HT.out.below l1 HT.out.lt).cells
      have HL1 := Lib.hid l1
      clear l1 x0 x1 x2
      go_wp2_with fail
      refine (HIn.out _).mono ?_
      rintro e W2 ⟨rfl, rfl⟩
      go_wp2_with fail
      go_meet
      case rel => exact ⟨rfl, HL1⟩
    · rw [h1] at HOne
      subst h5
      have hz : (t.p == 0) = false := by simp [h2]
      have HIn := Lib.hid (l1In_any m 1 10000)
      rw [inB_yes h3.1 h3.2] at HIn
      have hg : decide (m < t.p) = true := decide_eq_true h4
      clear HNo HYes HZ HB h1 h2 h3 h4
      go_wp2_with fail
      refine (HOne.out _).mono ?_
      rintro e W1 ⟨rfl, l1⟩
      obtain ⟨y0, y1, y2⟩ := (HT.out.below l1 HT.out.lt).cells
      have HL1 := Lib.hid l1
      clear l1 x0 x1 x2
      go_wp2_with fail
      refine (HIn.out _).mono ?_
      rintro e W2 ⟨rfl, rfl⟩
      go_wp2_with fail
      go_meet
      case rel => exact ⟨rfl, HL1⟩
    · rw [h1] at HOne
      subst h5
      have hz : (t.p == 0) = false := by simp [h2]
      have HIn := Lib.hid (l1In_any m 1 10000)
      rw [inB_yes h3.1 h3.2] at HIn
      have hg : decide (m < t.p) = false := decide_eq_false h4
      clear HNo HYes HZ HB h1 h2 h3 h4
      go_wp2_with fail
      refine (HOne.out _).mono ?_
      rintro e W1 ⟨rfl, l1⟩
      obtain ⟨y0, y1, y2⟩ := (HT.out.below l1 HT.out.lt).cells
      have HL1 := Lib.hid l1
      clear l1 x0 x1 x2
      go_wp2_with fail
      refine (HIn.out _).mono ?_
      rintro e W2 ⟨rfl, rfl⟩
      go_wp2_with fail
      go_meet
      case rel => exact ⟨rfl, HL1⟩
  case rest =>
    obtain ⟨rfl, HL1⟩ := hcut
    rename World => W1
    have HZ1 := Lib.hid (HZ.out.below HL1.out HZ.out.lt)
    have HT1 := Lib.hid (HT.out.below HL1.out HT.out.lt)
    have HB1 := Lib.hid (HB.out.trans (HL1.out.mono HB.out.size))
    clear hways x0 x1 x2 HL1 HT HZ HB
    cases ok with
    | false =>
      obtain ⟨hn1, hn2⟩ := HNo.out rfl
      have HN := Lib.hid (And.intro hn1 hn2)
      clear hn1 hn2 HNo HYes
      obtain ⟨z0, z1, z2⟩ := HZ1.out.cells
      have f0 := HZ1.out.free 0
      have f1 := HZ1.out.free 1
      have f2 := HZ1.out.free 2
      have hp := HZ1.out.put tm0
      go_wp2_with fail
      refine bodyPost_ret (results_tm (t := tm0) rfl _ _ (R + 1) rfl rfl hp.1) rfl ⟨by rw [HN.out.1, HN.out.2]; rfl, ?_⟩
      exact HB1.out.grown hp.2 HB1.out.size (fun k hk => by have e := Option.some.inj hk; have := HR.out; omega)
    | true =>
      obtain ⟨hy1, hy2, hy3, hy4, hy5⟩ := HYes.out rfl
      have HY := Lib.hid (And.intro hy1 hy2)
      clear hy1 hy2 HNo HYes
      obtain ⟨z0, z1, z2⟩ := HT1.out.cells
      have hw2 : IntKind.i64.wrap (2 * t.p) = 2 * t.p := IntWalk.i64_in _ (by omega)
      obtain ⟨u, hu⟩ : ∃ u, u = min (2 * t.p) m := ⟨_, rfl⟩
      have hub : 0 ≤ u ∧ u ≤ 10000 := by omega
      have hwd : IntKind.i64.wrap (t.d + u) = t.d + u := IntWalk.i64_in _ (by omega)
      have hbT : backT t m = ⟨t.i, t.d + u, u⟩ := by unfold backT; rw [hu]
      rw [hbT] at HY
      clear hbT hy3 hy4 hy5 hub
      have HLs := Lib.hid (l1Least_any (2 * t.p) m)
      rw [← hu] at HLs
      clear hu
      have HOn := Lib.hid (l8One_any ⟨t.i, t.d + u, u⟩)
      unfold tmV at HOn
      go_wp2_with fail
      refine (HLs.out _).mono ?_
      rintro e W2 ⟨rfl, rfl⟩
      have HT7 := Lib.hid (Tb.new W1 ⟨t.i, t.d + u, u⟩)
      have HB7 := Lib.hid (b_a HB1.out (.cells #[.int .i64 t.i, .int .i64 (t.d + u), .int .i64 u] 42))
      have HZ7 := Lib.hid (HZ1.out.below ((Below.refl _ _).alloc (Nat.le_refl _) (.cells #[.int .i64 t.i, .int .i64 (t.d + u), .int .i64 u] 42)) HZ1.out.lt)
      have hlast : R + 1 < W1.heap.size := HZ1.out.lt
      have HLast := Lib.hid hlast
      clear hlast
      cases ho : tmOk ⟨t.i, t.d + u, u⟩ with
      | false =>
        rw [ho] at HOn HY
        clear ho
        go_wp2_with fail
        refine (HOn.out _).mono ?_
        rintro e W8 ⟨rfl, l8⟩
        have HB8 := Lib.hid (HB7.out.trans (l8.mono HB7.out.size))
        have HZ8 := Lib.hid (HZ7.out.below l8 HZ7.out.lt)
        obtain ⟨v0, v1, v2⟩ := HZ8.out.cells
        have k0 := HZ8.out.free 0
        have k1 := HZ8.out.free 1
        have k2 := HZ8.out.free 2
        have hp := HZ8.out.put tm0
        clear l8 z0 z1 z2
        go_wp2_with fail
        refine bodyPost_ret (results_tm (t := tm0) rfl _ _ (R + 1) rfl rfl hp.1) rfl ⟨by rw [HY.out.1, HY.out.2]; rfl, ?_⟩
        exact HB8.out.grown hp.2 HB8.out.size (fun k hk => by have e := Option.some.inj hk; have := HR.out; omega)
      | true =>
        rw [ho] at HOn HY
        clear ho
        go_wp2_with fail
        refine (HOn.out _).mono ?_
        rintro e W8 ⟨rfl, l8⟩
        have HB8 := Lib.hid (HB7.out.trans (l8.mono HB7.out.size))
        have HZ8 := Lib.hid (HZ7.out.below l8 HZ7.out.lt)
        have HT8 := Lib.hid (HT7.out.below l8 HT7.out.lt)
        obtain ⟨n0, n1, n2⟩ := HT8.out.cells
        obtain ⟨v0, v1, v2⟩ := HZ8.out.cells
        have k0 := HZ8.out.free 0
        have k1 := HZ8.out.free 1
        have k2 := HZ8.out.free 2
        have hp := HZ8.out.put ⟨t.i, t.d + u, u⟩
        clear l8 z0 z1 z2
        go_wp2_with fail
        refine bodyPost_ret (results_tm (t := ⟨t.i, t.d + u, u⟩) rfl _ _ (R + 1) rfl rfl hp.1) rfl ⟨by rw [HY.out.1, HY.out.2]; rfl, ?_⟩
        exact HB8.out.grown hp.2 HB8.out.size (fun k hk => by have e := Option.some.inj hk; have := HR.out; omega)
set_option maxRecDepth 100000 in
set_option maxHeartbeats 2000000 in
theorem implBack_any (t : Tm) (m : Int) (w : World) (hmw : (Lit.int .i64 m).wf = true) :
    Calls Try.prog 38 #[.agg #[.int .i64 t.i, .int .i64 t.d, .int .i64 t.p], .int .i64 m] w fun e w' => e = .returned (.tuple #[.agg #[.int .i64 (backV t m).i, .int .i64 (backV t m).d, .int .i64 (backV t m).p], .bool (backOk t m)]) ∧ Below w.heap.size w w' := by
  obtain ⟨W0, hW0, hT, hZ, hB⟩ := back_boxes w t
  have HW0 := Lib.hid hW0
  obtain ⟨R, hR⟩ : ∃ R, R = w.heap.size := ⟨_, rfl⟩
  rw [← hR] at hT hZ
  have HT := Lib.hid hT
  have HZ := Lib.hid hZ
  have HB := Lib.hid hB
  have HR := Lib.hid hR
  obtain ⟨x0, x1, x2⟩ := hT.cells
  have HOne := Lib.hid (isTimer_any t)
  have hways := back1_ways t m
  have HNo := Lib.hid (@back_no t m)
  have HYes := Lib.hid (@back_yes t m)
  generalize back1 t m = ok at hways HNo HYes
  obtain ⟨rs, hrs⟩ : ∃ r, r = backV t m := ⟨_, rfl⟩
  obtain ⟨bs, hbs⟩ : ∃ r, r = backOk t m := ⟨_, rfl⟩
  rw [← hrs, ← hbs] at HNo HYes ⊢
  clear hW0 hR hT hZ hB hrs hbs
  go_enter Try.func38, Try.ntmps38
  go_upto_region 1 with fail
  rw [← HW0.out, ← HR.out]
  go_cut [23] from 6 to 23 (fun b wx => b = .bool (!ok) ∧ Hid (Below W0.heap.size W0 wx))
  case first =>
    rcases hways with ⟨h1, h2⟩ | ⟨h1, h2, h3⟩ | ⟨h1, h2, h3, h4⟩ | ⟨h1, h2, h3, h4, h5⟩ | ⟨h1, h2, h3, h4, h5⟩
    · rw [h1] at HOne
      subst h2
      clear HNo HYes HZ HB h1 
      go_wp2_with fail
      refine (HOne.out _).mono ?_
      rintro e W1 ⟨rfl, l1⟩
      obtain ⟨y0, y1, y2⟩ := (HT.out.below l1 HT.out.lt).cells
      have HL1 := Lib.hid l1
      clear l1 x0 x1 x2
      go_wp2_with fail
      go_meet
      case rel => exact ⟨rfl, HL1⟩
    · rw [h1] at HOne
      subst h3
      have hz : (t.p == 0) = true := by simp [h2]
      clear HNo HYes HZ HB h1 h2
      go_wp2_with fail
      refine (HOne.out _).mono ?_
      rintro e W1 ⟨rfl, l1⟩
      obtain ⟨y0, y1, y2⟩ := (HT.out.below l1 HT.out.lt).cells
      have HL1 := Lib.hid l1
      clear l1 x0 x1 x2
      go_wp2_with fail
      go_meet
      case rel => exact ⟨rfl, HL1⟩
    · rw [h1] at HOne
      subst h4
      have hz : (t.p == 0) = false := by simp [h2]
      have hpp : 1 ≤ t.p := by have := (tmOk_iff.1 (by assumption : tmOk t = true)).2.2; omega
      by_cases hc : m < t.p
      · have hg : decide (m < t.p) = true := decide_eq_true hc
        clear HNo HYes HZ HB h1 h2 h3 hc hpp
        go_wp2_with fail
        refine (HOne.out _).mono ?_
        rintro e W1 ⟨rfl, l1⟩
        obtain ⟨y0, y1, y2⟩ := (HT.out.below l1 HT.out.lt).cells
        have HL1 := Lib.hid l1
        clear l1 x0 x1 x2
        go_wp2_with fail
        go_meet
        case rel => exact ⟨rfl, HL1⟩
      · have hg : decide (m < t.p) = false := decide_eq_false hc
        have hg2 : decide (10000 < m) = true := decide_eq_true (by omega)
        clear HNo HYes HZ HB h1 h2 h3 hc hpp
        go_wp2_with fail
        refine (HOne.out _).mono ?_
        rintro e W1 ⟨rfl, l1⟩
        obtain ⟨y0, y1, y2⟩ := (HT.out.below l1 HT.out.lt).cells
        have HL1 := Lib.hid l1
        clear l1 x0 x1 x2
        go_wp2_with fail
        go_meet
        case rel => exact ⟨rfl, HL1⟩
    · rw [h1] at HOne
      subst h5
      have hz : (t.p == 0) = false := by simp [h2]
      have hg : decide (m < t.p) = true := decide_eq_true h4
      clear HNo HYes HZ HB h1 h2 h3 h4
      go_wp2_with fail
      refine (HOne.out _).mono ?_
      rintro e W1 ⟨rfl, l1⟩
      obtain ⟨y0, y1, y2⟩ := (HT.out.below l1 HT.out.lt).cells
      have HL1 := Lib.hid l1
      clear l1 x0 x1 x2
      go_wp2_with fail
      go_meet
      case rel => exact ⟨rfl, HL1⟩
    · rw [h1] at HOne
      subst h5
      have hz : (t.p == 0) = false := by simp [h2]
      have hg : decide (m < t.p) = false := decide_eq_false h4
      have hg2 : decide (10000 < m) = false := decide_eq_false (by omega)
      clear HNo HYes HZ HB h1 h2 h3 h4
      go_wp2_with fail
      refine (HOne.out _).mono ?_
      rintro e W1 ⟨rfl, l1⟩
      obtain ⟨y0, y1, y2⟩ := (HT.out.below l1 HT.out.lt).cells
      have HL1 := Lib.hid l1
      clear l1 x0 x1 x2
      go_wp2_with fail
      go_meet
      case rel => exact ⟨rfl, HL1⟩
  case rest =>
    obtain ⟨rfl, HL1⟩ := hcut
    rename World => W1
    have HZ1 := Lib.hid (HZ.out.below HL1.out HZ.out.lt)
    have HT1 := Lib.hid (HT.out.below HL1.out HT.out.lt)
    have HB1 := Lib.hid (HB.out.trans (HL1.out.mono HB.out.size))
    clear hways x0 x1 x2 HL1 HT HZ HB
    cases ok with
    | false =>
      obtain ⟨hn1, hn2⟩ := HNo.out rfl
      have HN := Lib.hid (And.intro hn1 hn2)
      clear hn1 hn2 HNo HYes
      obtain ⟨z0, z1, z2⟩ := HZ1.out.cells
      have f0 := HZ1.out.free 0
      have f1 := HZ1.out.free 1
      have f2 := HZ1.out.free 2
      have hp := HZ1.out.put tm0
      go_wp2_with fail
      refine bodyPost_ret (results_tm (t := tm0) rfl _ _ (R + 1) rfl rfl hp.1) rfl ⟨by rw [HN.out.1, HN.out.2]; rfl, ?_⟩
      exact HB1.out.grown hp.2 HB1.out.size (fun k hk => by have e := Option.some.inj hk; have := HR.out; omega)
    | true =>
      obtain ⟨hy1, hy2, hy3, hy4, hy5⟩ := HYes.out rfl
      have HY := Lib.hid (And.intro hy1 hy2)
      clear hy1 hy2 HNo HYes
      obtain ⟨z0, z1, z2⟩ := HT1.out.cells
      have hw2 : IntKind.i64.wrap (2 * t.p) = 2 * t.p := IntWalk.i64_in _ (by omega)
      obtain ⟨u, hu⟩ : ∃ u, u = min (2 * t.p) m := ⟨_, rfl⟩
      have hub : 0 ≤ u ∧ u ≤ 10000 := by omega
      have hwd : IntKind.i64.wrap (t.d + u) = t.d + u := IntWalk.i64_in _ (by omega)
      have hbT : backT t m = ⟨t.i, t.d + u, u⟩ := by unfold backT; rw [hu]
      rw [hbT] at HY
      clear hbT hy3 hy4 hy5 hub
      have hmn : min (2 * t.p) m = u := hu.symm
      clear hu
      have HOn := Lib.hid (isTimer_any ⟨t.i, t.d + u, u⟩)
      have f1 := HT1.out.free 1
      have f2 := HT1.out.free 2
      have hp2 := HT1.out.put2 u
      have hp1 := hp2.1.put1 (t.d + u)
      have g1 := hp2.1.free 1
      have HT7 := Lib.hid hp1.1
      have hgr := grown_trans hp2.2 hp1.2
      have HB7 := Lib.hid (HB1.out.grown hgr HB1.out.size (fun k hk => by have e := Option.some.inj hk; have := HR.out; omega))
      have HZ7 := Lib.hid (HZ1.out.gr hgr (by omega))
      clear hp2 hp1 hgr
      cases ho : tmOk ⟨t.i, t.d + u, u⟩ with
      | false =>
        rw [ho] at HOn HY
        clear ho
        go_wp2_with fail
        refine (HOn.out _).mono ?_
        rintro e W8 ⟨rfl, l8⟩
        have HB8 := Lib.hid (HB7.out.trans (l8.mono HB7.out.size))
        have HZ8 := Lib.hid (HZ7.out.below l8 HZ7.out.lt)
        obtain ⟨v0, v1, v2⟩ := HZ8.out.cells
        have k0 := HZ8.out.free 0
        have k1 := HZ8.out.free 1
        have k2 := HZ8.out.free 2
        have hp := HZ8.out.put tm0
        clear l8 z0 z1 z2
        go_wp2_with fail
        refine bodyPost_ret (results_tm (t := tm0) rfl _ _ (R + 1) rfl rfl hp.1) rfl ⟨by rw [HY.out.1, HY.out.2]; rfl, ?_⟩
        exact HB8.out.grown hp.2 HB8.out.size (fun k hk => by have e := Option.some.inj hk; have := HR.out; omega)
      | true =>
        rw [ho] at HOn HY
        clear ho
        go_wp2_with fail
        refine (HOn.out _).mono ?_
        rintro e W8 ⟨rfl, l8⟩
        have HB8 := Lib.hid (HB7.out.trans (l8.mono HB7.out.size))
        have HZ8 := Lib.hid (HZ7.out.below l8 HZ7.out.lt)
        have HT8 := Lib.hid (HT7.out.below l8 HT7.out.lt)
        obtain ⟨n0, n1, n2⟩ := HT8.out.cells
        obtain ⟨v0, v1, v2⟩ := HZ8.out.cells
        have k0 := HZ8.out.free 0
        have k1 := HZ8.out.free 1
        have k2 := HZ8.out.free 2
        have hp := HZ8.out.put ⟨t.i, t.d + u, u⟩
        clear l8 z0 z1 z2
        go_wp2_with fail
        refine bodyPost_ret (results_tm (t := ⟨t.i, t.d + u, u⟩) rfl _ _ (R + 1) rfl rfl hp.1) rfl ⟨by rw [HY.out.1, HY.out.2]; rfl, ?_⟩
        exact HB8.out.grown hp.2 HB8.out.size (fun k hk => by have e := Option.some.inj hk; have := HR.out; omega)
end Go.Proofs.Ytoehedogdbafpaa
