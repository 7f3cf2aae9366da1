/-
  Timers, the program's way: sorted by their ticks; NextDue, DueTimers, RunTimers.
-/
import Derived.Test.YtoehedogdbafpaaTimO
import Derived.Test.YtoehedogdbafpaaTimI5
import Derived.Test.YtoehedogdbafpaaTim6
namespace Go.Proofs.Ytoehedogdbafpaa
open Go.RowKit Go.Lib Go.Joins
set_option linter.unusedVariables false

/-- An append to a row of the call's own that is not nil: where the new one lies. -/
theorem wpList_append_fitG {P : Program} (w : World) {ops : Array Oper} {rest : List Oper} {o : Oper} {a : Act} {Q : Exit → Act → World → Prop} (hgd : o.guard = none) (s x : Operand) (t : TypeId)
    (ho : o.op = .call { callee := .builtin .append, args := #[s, x], argTypes := #[t, t] })
    (base : Nat) (e : TypeId) (i : TypeInfo) (z : Value) (size bytes : Nat) (ht : P.underlying t = some (.slice e)) (hi : P.info? e = some i) (hz : i.zero = some z)
    (hsize : i.size = size) (hby : i.bytes = bytes) (hzs : z.cells.size = size) (hsz : 0 < size)
    (g0 c0 : Nat) (n : Nat) (xs : List Value) (hs : a.eval s = .slice (some ⟨g0, 0, none⟩) n c0) (hown : w.ownsRow base e size (.slice (some ⟨g0, 0, none⟩) n c0) n xs)
    (vx : Value) (m : Nat) (ys : List Value) (hx : a.eval x = vx) (hfit : Fit vx m) (hl : ys.length = m * size) (hrow : Row w vx m ys) (h1 : ∀ u ∈ ys, u.oneCell' = true)
    (h63 : n + m ≤ maxLen) (hbytes : (n + m) * bytes ≤ 140737488355328) (hbase : base ≤ w.heap.size)
    (h : ∀ g' c' w', w'.ownsRow base e size (.slice (some ⟨g', 0, none⟩) (n + m) c') (n + m) (xs ++ ys) → w.grownBy w' (some g0) → wpList P ops Q rest (a.put o.dst (.slice (some ⟨g', 0, none⟩) (n + m) c')) w') :
    wpList P ops Q (o :: rest) a w := by
  rcases hfit with ⟨rfl, rfl⟩ | ⟨ad, c, rfl⟩
  · have hy : ys = [] := List.eq_nil_of_length_eq_zero (by omega)
    subst hy
    refine wpList_append_own_none hgd s x t ho base e i size ht hi _ n xs hs hown hx ?_
    exact h g0 c0 w (by rw [List.append_nil]; exact hown) (gr_self w _)
  · refine wpList_append_own_at w hgd s x t ho base e i z size bytes ht hi hz hsize hby hzs hsz _ n xs hs hown ad m c ys hx hl (row_news hrow) h1 h63 hbytes hbase (fun v' w' h2 h3 h4 _ => ?_)
    obtain ⟨hl2, ⟨hv, _⟩ | ⟨g', c', cur, rfl, rest2⟩⟩ := h2
    · cases (h4.1 hv).1
    · exact h g' c' w' ⟨hl2, .inr ⟨g', c', cur, rfl, rest2⟩⟩ h3
set_option maxRecDepth 100000 in
theorem dueOf_any (t : Tm) (W : World) :
    Calls Try.prog 61 #[.agg #[.int .i64 t.i, .int .i64 t.d, .int .i64 t.p]] W fun e w' => e = .returned (.int .i64 t.d) ∧ Below W.heap.size W w' := by
  go_enter Try.func61, Try.ntmps61
  go_wp2_with fail
  go_ret
  exact ⟨rfl, (Below.refl _ _).alloc (Nat.le_refl _) _⟩
theorem keep7T {W w' : World} {a0 a1 a2 a3 a4 a5 a6 : Addr} {v0 v1 v2 v3 v4 v5 v6 : Value} {B : Nat} (h0 : W.cell? a0 = some v0) (h1 : W.cell? a1 = some v1) (h2 : W.cell? a2 = some v2) (h3 : W.cell? a3 = some v3) (h4 : W.cell? a4 = some v4) (h5 : W.cell? a5 = some v5) (h6 : W.cell? a6 = some v6)
    (b0 : a0.block < B) (b1 : a1.block < B) (b2 : a2.block < B) (b3 : a3.block < B) (b4 : a4.block < B) (b5 : a5.block < B) (b6 : a6.block < B) (hb : Below B W w') :
    w'.cell? a0 = some v0 ∧ w'.cell? a1 = some v1 ∧ w'.cell? a2 = some v2 ∧ w'.cell? a3 = some v3 ∧ w'.cell? a4 = some v4 ∧ w'.cell? a5 = some v5 ∧ w'.cell? a6 = some v6 ∧ Below B W w' :=
  ⟨(hb.cell b0).trans h0, (hb.cell b1).trans h1, (hb.cell b2).trans h2, (hb.cell b3).trans h3, (hb.cell b4).trans h4, (hb.cell b5).trans h5, (hb.cell b6).trans h6, hb⟩
set_option maxRecDepth 100000 in
set_option maxHeartbeats 2000000 in
theorem cmpClosureT_any (x y : Tm) (K : Nat) (W : World) (hKl : K < W.heap.size) (hK : W.cell? ⟨K, 0, none⟩ = some (.func (.func 61) #[] #[])) :
    Calls Try.prog 82 (#[.agg #[.int .i64 x.i, .int .i64 x.d, .int .i64 x.p], .agg #[.int .i64 y.i, .int .i64 y.d, .int .i64 y.p]] ++ #[.pointer (some ⟨K, 0, none⟩)]) W fun e w' => e = .returned (.int .i64 (cmpZ x.d y.d)) ∧ Below W.heap.size W w' := by
  obtain ⟨W5, hW5⟩ : ∃ W5, W5 = (W.alloc (.cells #[.int .i64 x.i, .int .i64 x.d, .int .i64 x.p] 42)).alloc (.cells #[.int .i64 y.i, .int .i64 y.d, .int .i64 y.p] 42) := ⟨_, rfl⟩
  have hR1 : Tb W5 W.heap.size x := by rw [hW5]; exact heap_first W _ _
  have hR2 : Tb W5 (W.heap.size + 1) y := by rw [hW5]; exact heap_second W _ _
  have hB5 : Below W.heap.size W W5 := by rw [hW5]; exact b_a (b_a (Below.refl _ _) _) _
  have hk5 := (hB5.cell hKl).trans hK
  obtain ⟨c1, c2, c3⟩ := hR1.cells
  obtain ⟨c4, c5, c6⟩ := hR2.cells
  have HQ := Lib.hid (fun (w' : World) (hb : Below W5.heap.size W5 w') => keep7T hk5 c1 c2 c3 c4 c5 c6 (Nat.lt_of_lt_of_le hKl hB5.size) hR1.lt hR1.lt hR1.lt hR2.lt hR2.lt hR2.lt hb)
  have HB5 := Lib.hid hB5
  obtain ⟨c, hc⟩ : ∃ c, c = cmpZ x.d y.d := ⟨_, rfl⟩
  rw [← hc]
  have HC := Lib.hid hc
  have HKx := Lib.hid (dueOf_any x)
  have HKy := Lib.hid (dueOf_any y)
  clear hR1 hR2 hB5 hc hK
  obtain ⟨xi, xd, xp⟩ := x
  obtain ⟨yi, yd, yp⟩ := y
  dsimp only at c1 c2 c3 c4 c5 c6 HQ HC HKx HKy hW5 ⊢
  show Calls Try.prog 82 #[.agg #[.int .i64 xi, .int .i64 xd, .int .i64 xp], .agg #[.int .i64 yi, .int .i64 yd, .int .i64 yp], .pointer (some ⟨K, 0, none⟩)] W _
  go_enter Try.func82, Try.ntmps82
  go_upto_region 1 with fail
  rw [← hW5]
  clear hW5
  go_cut [5] from 6 to 12 (fun r wz => r = .int .i64 c ∧ Hid (Below W5.heap.size W5 wz))
  case first => as_aux_lemma =>
    go_region_held3 (fun w' => w'.cell? ⟨K, 0, none⟩ = some (.func (.func 61) #[] #[]) ∧ w'.cell? ⟨W.heap.size, 0, none⟩ = some (.int .i64 xi) ∧ w'.cell? ⟨W.heap.size, 1, none⟩ = some (.int .i64 xd) ∧ w'.cell? ⟨W.heap.size, 2, none⟩ = some (.int .i64 xp) ∧ w'.cell? ⟨W.heap.size + 1, 0, none⟩ = some (.int .i64 yi) ∧ w'.cell? ⟨W.heap.size + 1, 1, none⟩ = some (.int .i64 yd) ∧ w'.cell? ⟨W.heap.size + 1, 2, none⟩ = some (.int .i64 yp) ∧ Below W5.heap.size W5 w')
      ((refine HQ.out _ ?_; repeat (first | assumption | exact Below.refl _ _ | refine Below.drew ?_)))
      (first | (go_at_call 61; first | (refine (HKx.out _).mono ?_; rintro e w5 ⟨rfl, l5⟩; have hb5 := below_call (W0 := W5) (by repeat (first | assumption | exact Below.refl _ _ | refine Below.drew ?_)) l5) | (refine (HKy.out _).mono ?_; rintro e w5 ⟨rfl, l5⟩; have hb5 := below_call (W0 := W5) (by repeat (first | assumption | exact Below.refl _ _ | refine Below.drew ?_)) l5)) | (go_at_call 83; refine (compareZ_any _ _ _).mono ?_; rintro e w5 ⟨rfl, rfl⟩))
    all_goals go_wp2_with fail
    all_goals go_meet
    all_goals
      case rel => exact ⟨vint HC.out.symm, Lib.hid (by repeat (first | assumption | exact Below.refl _ _ | refine Below.drew ?_))⟩
  case rest => as_aux_lemma =>
    obtain ⟨rfl, HW⟩ := hcut
    go_wp2_with fail
    go_ret
    exact ⟨rfl, HB5.out.trans (HW.out.mono HB5.out.size)⟩
theorem ltD_cmp (x y : Tm) : ltD x y = decide (cmpZ x.d y.d < 0) := (cmpZ_neg _ _).symm
set_option maxRecDepth 100000 in
set_option maxHeartbeats 2000000 in
theorem sortedByT_any (v : Value) (xs : List Tm) (w : World) (hrow : Row w v xs.length (tmF xs)) (hfit : Fit v xs.length) (hn2 : xs.length ≤ 20) :
    Calls Try.prog 60 #[v, .func (.func 61) #[] #[]] w fun e w' => ∃ g c, e = .returned (.slice (some ⟨g, 0, none⟩) xs.length c) ∧
      w'.ownsRow w.heap.size 42 3 (.slice (some ⟨g, 0, none⟩) xs.length c) xs.length (tmF (sortG ltD xs)) ∧ Below w.heap.size w w' := by
  obtain ⟨i0, hi, hz0, hz1, hz2⟩ := info_parts infoT
  have eg : ∀ args w, (callFunc 82 args).run Try.prog w = .ok (.enter 82 args) w := enters_of Try.func82 (by kernel_rfl) rfl
  have HEG := Lib.hid eg
  have HR := Lib.hid hrow
  have HFit := Lib.hid hfit
  have HLn := Lib.hid (tmF_len xs)
  obtain ⟨a, cap, rfl, _, _, _⟩ := tm_open hrow
  clear eg hrow hfit
  have key : ∀ (w1 : World) (g1 c1 : Nat), w1.ownsRow (w.heap.size + 1) 42 3 (.slice (some ⟨g1, 0, none⟩) xs.length c1) xs.length (tmF xs) → Below w.heap.size w w1 →
      w1.cell? ⟨w.heap.size, 0, none⟩ = some (.func (.func 61) #[] #[]) → w.heap.size < w1.heap.size →
      Calls Try.prog 81 #[.slice (some ⟨g1, 0, none⟩) xs.length c1, .func (.func 82) #[] #[.pointer (some ⟨w.heap.size, 0, none⟩)]] w1 fun e w' => e = .returned (.tuple #[]) ∧
        w'.ownsRow w.heap.size 42 3 (.slice (some ⟨g1, 0, none⟩) xs.length c1) xs.length (tmF (sortG ltD xs)) ∧ Below w.heap.size w w' := by
    intro w1 g1 c1 ho hb hk hlt
    have hg1 := (ho.lt g1 rfl).1
    refine (stableFuncT_any ltD (fun x y => cmpZ x.d y.d) ltD_cmp g1 c1 xs.length (w.heap.size + 1) xs 82 #[.pointer (some ⟨w.heap.size, 0, none⟩)] w1 HEG.out
      (fun W hW x y => cmpClosureT_any x y w.heap.size W (Nat.lt_of_lt_of_le hlt hW.size) (hW.cell hk (by intro e; have e2 : w.heap.size = g1 := Option.some.inj e; omega))) rfl hn2 ho).mono ?_
    rintro e w2 ⟨h1, h2, h3⟩
    exact ⟨h1, ownz_base h2 (by omega), hb.grown h3 hb.size (fun k hk => by have e2 : g1 = k := Option.some.inj hk; omega)⟩
  have HKey := Lib.hid key
  clear key
  obtain ⟨W1, hW1⟩ : ∃ W1, W1 = (w.alloc (.cells #[.func (.func 61) #[] #[]] 72)).alloc (.cells #[] 42) := ⟨_, rfl⟩
  have HB0 : Hid (Below w.heap.size w W1) := Lib.hid (by rw [hW1]; exact ((Below.refl w.heap.size w).alloc (Nat.le_refl _) _).alloc (by simp) _)
  have HK0 : Hid (W1.cell? ⟨w.heap.size, 0, none⟩ = some (.func (.func 61) #[] #[])) := Lib.hid (by
    rw [hW1]
    have := heap_first w (.cells #[.func (.func 61) #[] #[]] 72) (.cells #[] 42)
    simp [World.cell?, this])
  have HO0 : Hid (W1.ownsRow (w.heap.size + 1) 42 3 (.slice (some ⟨w.heap.size + 1, 0, none⟩) 0 0) 0 []) := Lib.hid (by
    rw [hW1]
    have h := litz (w.alloc (.cells #[.func (.func 61) #[] #[]] 72)) (w.heap.size + 1) 42 3 (by simp)
    simpa using h)
  have HSz : Hid (w.heap.size + 2 = W1.heap.size) := Lib.hid (by rw [hW1]; simp)
  have HW1 := Lib.hid hW1
  clear hW1
  have hn3 := hn2
  go_enter Try.func60, Try.ntmps60
  go_wp2_with (at_builtin; rw [← HW1.out]; refine wpList_append_fitG _ rfl _ _ 24 rfl (w.heap.size + 1) 42 i0 (.agg #[.int .i64 0, .int .i64 0, .int .i64 0]) 3 24 Try.underlying24 hi hz0 hz1 hz2 rfl (by decide) (w.heap.size + 1) 0 0 [] rfl HO0.out _ xs.length (tmF xs) rfl HFit.out HLn.out (HR.out.below HB0.out (Nat.le_refl _)) (tmF_one xs) (by unfold maxLen; omega) (by omega) (by have := HSz.out; omega) ?_; intro g1 c1 w1 hown hgrow; have hk1 := hgrow.cell HK0.out (by intro e; have e2 : w.heap.size = w.heap.size + 1 := Option.some.inj e; omega); have hb1 := HB0.out.grown hgrow HB0.out.size (fun k hk => by have e2 : w.heap.size + 1 = k := Option.some.inj hk; omega); have hlt1 : w.heap.size < w1.heap.size := Nat.lt_of_lt_of_le (by have := HSz.out; omega) hgrow.size; rw [Nat.zero_add, List.nil_append] at hown; rw [Nat.zero_add]; have HS := Lib.hid (HKey.out w1 g1 c1 hown hb1 hk1 hlt1); clear hk1 hb1 hlt1 hown hgrow)
  refine HS.out.mono ?_
  rintro e w2 ⟨rfl, ho, hb⟩
  have HO := Lib.hid ho
  have HB := Lib.hid hb
  clear ho hb
  go_wp2_with fail
  go_ret
  exact ⟨_, _, rfl, HO.out, HB.out⟩
set_option maxRecDepth 100000 in
set_option maxHeartbeats 2000000 in
theorem implNext_any (v : Value) (s : List Tm) (w : World) (hrow : Row w v s.length (tmF s)) (hfit : Fit v s.length) :
    Calls Try.prog 28 #[v] w fun e w' => e = .returned (.tuple #[.int .i64 (nextT s).d, .int .i64 (nextT s).i, .bool (nextOk s)]) ∧ Below w.heap.size w w' := by
  have HI := Lib.hid (implIsT_any v s w hrow)
  have HRow := Lib.hid (fun (W : World) (hb : Below w.heap.size w W) => hrow.below hb (Nat.le_refl _))
  obtain ⟨a, cap, rfl, _, _, _⟩ := tm_open hrow
  have key : nextOk s = false → nextT s = tm0 := fun h => by unfold nextT; rw [h]; rfl
  cases hs : tsOk s with
  | false =>
    have e1 : nextOk s = false := by unfold nextOk; rw [hs]; rfl
    rw [key e1, e1]
    rw [hs] at HI
    clear e1 hs key hrow hfit
    go_enter Try.func28, Try.ntmps28
    go_wp2_with fail
    refine HI.out.mono ?_
    rintro e w2 ⟨rfl, l2⟩
    go_wp2_with fail
    go_ret3
    exact ⟨rfl, l2⟩
  | true =>
    rw [hs] at HI
    by_cases hne : s = []
    · have e1 : nextOk s = false := by unfold nextOk; rw [hs, hne]; rfl
      rw [key e1, e1]
      subst hne
      clear e1 hs key hrow hfit
      go_enter Try.func28, Try.ntmps28
      go_wp2_with fail
      refine HI.out.mono ?_
      rintro e w2 ⟨rfl, l2⟩
      go_wp2_with fail
      go_ret3
      exact ⟨rfl, l2⟩
    · have e0 : (!s.isEmpty) = true := by cases s with | nil => exact absurd rfl hne | cons _ _ => rfl
      have e1 : nextOk s = true := by unfold nextOk; rw [hs, e0]; rfl
      have e2 : nextT s = fstT s := by unfold nextT; rw [e1, if_pos rfl]
      have hsc := sortD_cons (tsOk_iff.1 hs).2.1 hne
      rw [e1, e2]
      have hn10 := tsOk_len hs
      have HSb := Lib.hid (fun (W : World) (hb : Below w.heap.size w W) => sortedByT_any (.slice a s.length cap) s W (HRow.out _ hb) hfit (by omega))
      rw [hsc] at HSb
      have hpos : 0 < s.length := List.length_pos_iff.2 hne
      have hlen : ((s.length : Int) == 0) = false := by simp; omega
      generalize sortG ltD (wo s (fstT s).i) = rest at HSb
      generalize fstT s = t at HSb ⊢
      obtain ⟨n, hN⟩ : ∃ n, n = s.length := ⟨_, rfl⟩
      rw [← hN] at hpos hlen HSb HI hn10 ⊢
      have hpI : (0 : Int) < (n : Int) := by omega
      clear e0 e1 e2 hs key hrow hne hsc hN HRow hfit
      go_enter Try.func28, Try.ntmps28
      go_wp2_with fail
      refine HI.out.mono ?_
      rintro e w2 ⟨rfl, l2⟩
      have HB2 := Lib.hid l2
      clear l2
      go_wp2_with fail
      refine (HSb.out _ HB2.out).mono ?_
      rintro e w3 ⟨g, c, rfl, o3, l3⟩
      have HB3 := Lib.hid (HB2.out.trans (l3.mono HB2.out.size))
      obtain ⟨y0, y1, y2, _, _, _, _⟩ := ownT_facts o3 (k := 0) (t := t) rfl
      rw [Nat.zero_mul] at y0 y1 y2
      clear o3 l3
      go_wp2_with fail
      go_quiet (fail)
      go_wp2_with fail
      go_ret3
      exact ⟨rfl, b_d (b_a HB3.out _) _⟩
theorem due_take {l : List Tm} {now : Int} {k : Nat} {t : Tm} (hk : k < l.length) (ht : t = l[k]) : ((l.take (k + 1)).filter (fun t => decide (t.d ≤ now))).map (·.i) = (if t.d ≤ now then ((l.take k).filter (fun t => decide (t.d ≤ now))).map (·.i) ++ [t.i] else ((l.take k).filter (fun t => decide (t.d ≤ now))).map (·.i)) := by
  rw [List.take_succ_eq_append_getElem hk, List.filter_append, List.map_append, ← ht]
  by_cases h : t.d ≤ now
  · rw [if_pos h, List.filter_cons_of_pos (by simpa using h)]; rfl
  · rw [if_neg h, List.filter_cons_of_neg (by simpa using h)]; simp
theorem DuT.first8 {W0 wr : World} {vi : Value} {g c n : Nat} {ids : List Int} {zs : List Tm} (h : DuT W0 wr vi ids (.slice (some ⟨g, 0, none⟩) zs.length c) zs) {k : Nat} (hk : k < zs.length) : wr.cell? ⟨g, k * 3, none⟩ = some (.int .i64 zs[k].i) ∧ wr.cell? ⟨g, k * 3 + 1, none⟩ = some (.int .i64 zs[k].d) ∧ wr.cell? ⟨g, k * 3 + 2, none⟩ = some (.int .i64 zs[k].p) := by
  obtain ⟨y0, y1, y2, _⟩ := ownT_facts h.ot (List.getElem?_eq_getElem hk)
  exact ⟨y0, y1, y2⟩
set_option maxRecDepth 100000 in
set_option maxHeartbeats 2000000 in
theorem implDue_any (v : Value) (s : List Tm) (now : Int) (w : World) (hrow : Row w v s.length (tmF s)) (hfit : Fit v s.length) :
    Calls Try.prog 20 #[v, .int .i64 now] w fun e w' => ∃ v', e = .returned (.tuple #[v', .bool (dueOk s now)]) ∧ w'.ownsRow w.heap.size 3 1 v' (dueV s now).length ((dueV s now).map (Value.int .i64)) ∧ Below w.heap.size w w' := by
  obtain ⟨j0, hj, hy0, hy1, hy2⟩ := info_parts infoInt
  have HI := Lib.hid (implIsT_any v s w hrow)
  have HRow := Lib.hid (fun (W : World) (hb : Below w.heap.size w W) => hrow.below hb (Nat.le_refl _))
  have HTk := Lib.hid (isTick_any now)
  obtain ⟨a, cap, rfl, _, _, _⟩ := tm_open hrow
  have HFit := Lib.hid hfit
  clear hrow hfit
  by_cases hok : dueOk s now = true
  · have hv : tsOk s = true ∧ tk now = true := by unfold dueOk at hok; exact Bool.and_eq_true_iff.1 hok
    have e2 : dueV s now = dueL s now := if_pos hok
    have e3 := due_sorted now s.length s (Nat.le_refl _) (tsOk_iff.1 hv.1).2.1
    rw [hok, e2]
    have hn10 := tsOk_len hv.1
    have HSb := Lib.hid (fun (W : World) (hb : Below w.heap.size w W) => sortedByT_any (.slice a s.length cap) s W (HRow.out _ hb) HFit.out (by omega))
    have hsl := sortG_len ltD s
    obtain ⟨goal, hgoal⟩ : ∃ g, g = dueL s now := ⟨_, rfl⟩
    rw [← hgoal] at e3 ⊢
    generalize sortG ltD s = l at HSb hsl e3
    have HG := Lib.hid e3
    rw [hv.1] at HI
    rw [hv.2] at HTk
    rw [← hsl] at HSb HI hn10 ⊢
    have HSl := Lib.hid hsl
    obtain ⟨n, hN⟩ : ∃ n, n = l.length := ⟨_, rfl⟩
    rw [← hN] at HSb HI hn10 ⊢
    have HN := Lib.hid hN
    clear hok hv e2 e3 hgoal hsl hN
    go_enter Try.func20, Try.ntmps20
    go_wp2_with fail
    refine HI.out.mono ?_
    rintro e w2 ⟨rfl, l2⟩
    have HB2 := Lib.hid l2
    clear l2
    go_wp2_with fail
    refine (HTk.out _).mono ?_
    rintro e w3 ⟨rfl, rfl⟩
    have HO2 := Lib.hid (litz w2 w.heap.size 3 1 HB2.out.size)
    have HB3 := Lib.hid (b_a HB2.out (.cells #[] 3))
    go_wp2_with fail
    refine (HSb.out _ HB3.out).mono ?_
    rintro e w4 ⟨g4, c4, rfl, o4, l4⟩
    rw [HN.out] at o4
    have HD := Lib.hid (DuT.start HO2.out HB3.out o4 l4)
    clear o4 l4
    go_wp2_with fail
    go_loopw [6, 22] (fun z u wr => ∃ ai ci, ∃ k : Nat, ∃ ids : List Int, k ≤ n ∧ u = .int .i64 k ∧ z = .slice ai ids.length ci ∧ Hid (DuT w wr (.slice ai ids.length ci) ids (.slice (some ⟨g4, 0, none⟩) l.length c4) l) ∧ Hid (ids = ((l.take k).filter (fun t => decide (t.d ≤ now))).map (·.i)) ∧ ids.length ≤ k) (fun _ u _ => n - (Go.RowKit.intOf u).toNat)
    case atStart => exact ⟨_, _, 0, [], Nat.zero_le _, rfl, rfl, HD, Lib.hid rfl, Nat.le_refl _⟩
    case round =>
      clear HD HO2
      obtain ⟨ai, ci, k, ids, hk, rfl, rfl, HD, HE, hlen⟩ := hrel
      by_cases hkn : k < n
      · have hkl : k < l.length := by rw [← HN.out]; exact hkn
        obtain ⟨y0, y1, y2⟩ := HD.out.first8 (n := n) hkl
        have HT := Lib.hid (@due_take l now k l[k] hkl rfl)
        generalize l[k] = t at y0 y1 y2 HT
        have hkI : (k : Int) < (n : Int) := by omega
        clear hkl
        by_cases hd : t.d ≤ now
        · have hd' : decide (t.d ≤ now) = true := decide_eq_true hd
          have HE2 : Hid (ids ++ [t.i] = ((l.take (k + 1)).filter (fun t => decide (t.d ≤ now))).map (·.i)) := Lib.hid (by rw [HT.out, if_pos hd, ← HE.out])
          have HD6 := Lib.hid ((HD.out.alloc (.cells #[.int .i64 t.i, .int .i64 t.d, .int .i64 t.p] 42)).alloc (.cells #[.int .i64 t.i] 3))
          have HLi := Lib.hid (row_int1 (wr.alloc (.cells #[.int .i64 t.i, .int .i64 t.d, .int .i64 t.p] 42)) t.i)
          have HSz : Hid ((wr.alloc (.cells #[.int .i64 t.i, .int .i64 t.d, .int .i64 t.p] 42)).heap.size = wr.heap.size + 1) := Lib.hid (by simp)
          rw [HSz.out] at HLi
          clear HT hd HSz
          go_wp2_with (at_builtin; refine wpList_append_own_at _ rfl _ _ 27 rfl w.heap.size 3 j0 (.int .i64 0) 1 8 Try.underlying27 hj hy0 hy1 hy2 rfl (by decide) _ ids.length (ids.map (Value.int .i64)) rfl HD6.out.oi ⟨wr.heap.size + 1, 0, none⟩ 1 1 [.int .i64 t.i] rfl rfl (row_news HLi.out) (one_int _) (by unfold maxLen; omega) (by omega) HD6.out.bel.size ?_; intro v' w7 hown' hgrow _ hblk; obtain ⟨ids5, hz5⟩ : ∃ z, z = ids ++ [t.i] := ⟨_, rfl⟩; have hs7 := HD6.out.app hown' hgrow hblk; rw [← hz5] at hs7; obtain ⟨a7, c7, rfl, hs7⟩ := hs7; have HS7 := Lib.hid hs7; have HZ5 := Lib.hid hz5; clear hown' hgrow hs7 hz5 hblk)
          go_roundw
          case rel => exact ⟨_, _, k + 1, ids5, by omega, by go_num, rfl, HS7, Lib.hid (by rw [HZ5.out]; exact HE2.out), by rw [HZ5.out]; simp; omega⟩
          case measure => (simp [Go.RowKit.intOf]; omega)
        · have hd' : decide (t.d ≤ now) = false := decide_eq_false hd
          have HE2 : Hid (ids = ((l.take (k + 1)).filter (fun t => decide (t.d ≤ now))).map (·.i)) := Lib.hid (by rw [HT.out, if_neg hd, ← HE.out])
          clear HT hd
          go_wp2_with fail
          go_roundw
          case rel => exact ⟨_, _, k + 1, ids, by omega, by go_num, rfl, Lib.hid (HD.out.alloc _), HE2, by omega⟩
          case measure => (simp [Go.RowKit.intOf]; omega)
      · obtain rfl : k = n := by omega
        have HF : Hid (ids = goal) := Lib.hid (by rw [HE.out, HN.out, List.take_of_length_le (Nat.le_refl _)]; exact HG.out.symm)
        go_wp2_with fail
        go_ret2
        rw [← HF.out]
        exact ⟨_, rfl, HD.out.oi, HD.out.bel⟩
  · have hok' : dueOk s now = false := by cases h : dueOk s now with | true => exact absurd h hok | false => rfl
    have e2 : dueV s now = [] := by unfold dueV; rw [hok']; rfl
    rw [hok', e2]
    cases hs : tsOk s with
    | false =>
      rw [hs] at HI
      clear hok hok' e2 hs
      go_enter Try.func20, Try.ntmps20
      go_wp2_with fail
      refine HI.out.mono ?_
      rintro e w2 ⟨rfl, l2⟩
      go_wp2_with fail
      go_ret2
      exact ⟨_, rfl, litz w2 w.heap.size 3 1 l2.size, b_a l2 _⟩
    | true =>
      have ht : tk now = false := by
        cases h : tk now with
        | false => rfl
        | true => exact absurd (by unfold dueOk; rw [hs, h]; rfl) hok
      rw [hs] at HI
      rw [ht] at HTk
      clear hok hok' e2 hs ht
      go_enter Try.func20, Try.ntmps20
      go_wp2_with fail
      refine HI.out.mono ?_
      rintro e w2 ⟨rfl, l2⟩
      have HB2 := Lib.hid l2
      clear l2
      go_wp2_with fail
      refine (HTk.out _).mono ?_
      rintro e w3 ⟨rfl, rfl⟩
      go_wp2_with fail
      go_ret2
      exact ⟨_, rfl, litz w2 w.heap.size 3 1 HB2.out.size, b_a HB2.out _⟩
end Go.Proofs.Ytoehedogdbafpaa
