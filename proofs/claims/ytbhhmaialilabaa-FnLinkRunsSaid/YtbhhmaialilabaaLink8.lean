/-
  Links: the specification's SendAll and Drain.
-/
import Derived.Test.YtbhhmaialilabaaLink7
import Derived.Test.YtbhhmaialilabaaSendAI
namespace Go.Proofs.Ytbhhmaialilabaa
open Go.RowKit Go.Lib Go.Joins
set_option linter.unusedVariables false

/-- What sending many texts holds, the link in a block of its own. -/
structure SB (w0 w : World) (X R4 : Nat) (v : Value) (L : Lk) : Prop where
  box : Lq w X v L.f L.u
  res : Lq w R4 (.slice none 0 0) ⟨#[]⟩ 0
  own : w.ownsRow (w0.heap.size + 2) 9 1 v L.q.length (L.q.map Value.string)
  bel : Below w0.heap.size w0 w
  x : w0.heap.size + 2 ≤ X
  nv : ∀ k, v.ownBlock = some k → k ≠ X
  r4 : R4 = w0.heap.size + 1
/-- An append of a slice that may be nil, at a step of a region that draws; and which block it leads to. -/
theorem step_append_fitT {P : Program} {w : World} {ops : Array Oper} {o : Oper} {a : Act} {K : Act → World → Prop} {Q : Exit → Act → World → Prop} {E : Prop} (hgd : o.guard = none) (s x : Operand) (t : TypeId)
    (ho : o.op = .call { callee := .builtin .append, args := #[s, x], argTypes := #[t, t] })
    (base : Nat) (e : TypeId) (i : TypeInfo) (z : Value) (bytes : Nat) (ht : P.underlying t = some (.slice e)) (hi : P.info? e = some i) (hz : i.zero = some z)
    (hsize : i.size = 1) (hby : i.bytes = bytes) (hzs : z.cells.size = 1)
    (v : Value) (n : Nat) (xs : List Value) (hs : a.eval s = v) (hown : w.ownsRow base e 1 v n xs)
    (vx : Value) (m : Nat) (ys : List Value) (hx : a.eval x = vx) (hfit : FitS vx m) (hrow : Row w vx m ys) (hl : ys.length = m) (h1 : ∀ u ∈ ys, u.oneCell' = true)
    (h63 : n + m ≤ maxLen) (hbytes : (n + m) * bytes ≤ 140737488355328) (hbase : base ≤ w.heap.size)
    (h : ∀ v' w', w'.ownsRow base e 1 v' (n + m) (xs ++ ys) → w.grownBy w' v.ownBlock → (v'.ownBlock = v.ownBlock ∨ v'.ownBlock = some w.heap.size) → K (a.put o.dst v') w') :
    if Region.wanted o (yielded ops a.tmps) = true then Oper.wp P o a w K Q else E := by
  rcases hfit with ⟨rfl, rfl⟩ | ⟨ad, c, rfl⟩
  · have hy : ys = [] := List.eq_nil_of_length_eq_zero hl
    subst hy
    have hw : Region.wanted o (yielded ops a.tmps) = true := by simp [Region.wanted, hgd]
    rw [if_pos hw]
    have hr := run_append_owned_none (P := P) (w := w) base t o.type e i 1 ht hi v n xs hown
    unfold Oper.wp execOp
    simp only [ho, resolve, invoke, builtin, Sem.run_bind, Sem.run_pure, Result.andThen_ok, List.map_toArray, List.map_cons, List.map_nil, hs, hx, hr]
    exact h v w (by rw [List.append_nil]; exact hown) (World.grownBy.refl w _) (.inl rfl)
  · exact step_append_row hgd s x t ho base e i z bytes ht hi hz hsize hby hzs v n xs hs hown ad m c ys hx hrow hl h1 h63 hbytes hbase h
theorem sb_store {w0 w : World} {X R4 B : Nat} {v : Value} {L : Lk} (hx : Lq w X (.slice none 0 0) ⟨#[]⟩ 0) (hr : Lq w R4 (.slice none 0 0) ⟨#[]⟩ 0) (ho : w.ownsRow B 9 1 v L.q.length (L.q.map Value.string)) (hb : Below w0.heap.size w0 w) (hB : w0.heap.size + 2 ≤ B) (hX : w0.heap.size + 2 ≤ X) (hn : ∀ k, v.ownBlock = some k → k ≠ X) (h4 : R4 = w0.heap.size + 1) :
    SB w0 (((w.setCell ⟨X, 0, none⟩ v).setCell ⟨X, 1, none⟩ (.string L.f)).setCell ⟨X, 2, none⟩ (.int .i64 L.u)) X R4 v L := by
  obtain ⟨p1, q1⟩ := hx.store (v' := v) (f' := L.f) (u' := L.u)
  refine ⟨p1, hr.grown q1 (fun e => by have := Option.some.inj e; omega), own_base (ho.kept q1 ?_) hB, hb.grown q1 hb.size (fun k hk => by have e2 : X = k := Option.some.inj hk; omega), hX, hn, h4⟩
  cases hv : v.ownBlock with
  | none => exact .inl rfl
  | some k => exact .inr (fun e => hn k hv (Option.some.inj e))
theorem sb_new {w0 w : World} {R4 B : Nat} {v : Value} {L : Lk} (hr : Lq w R4 (.slice none 0 0) ⟨#[]⟩ 0) (ho : w.ownsRow B 9 1 v L.q.length (L.q.map Value.string)) (hb : Below w0.heap.size w0 w) (hB : w0.heap.size + 2 ≤ B) (hX : w0.heap.size + 2 ≤ w.heap.size) (h4 : R4 = w0.heap.size + 1) :
    SB w0 (w.alloc (.cells #[v, .string L.f, .int .i64 L.u] 26)) w.heap.size R4 v L :=
  ⟨Lq.new _ _ _ _, hr.below ((Below.refl _ _).alloc (Nat.le_refl _) _) hr.lt, own_base (own_below ho ((Below.refl _ _).alloc (Nat.le_refl _) _) (Nat.le_refl _)) hB, hb.alloc hb.size _, hX, fun k hk e => absurd (ho.lt k hk).2 (by omega), h4⟩
theorem SB.step {w0 w w' : World} {X R4 : Nat} {v : Value} {L : Lk} (h : SB w0 w X R4 v L) (hb : Below w.heap.size w w') : SB w0 w' X R4 v L :=
  ⟨h.box.below hb h.box.lt, h.res.below hb h.res.lt, own_below h.own hb (Nat.le_refl _), h.bel.trans (hb.mono h.bel.size), h.x, h.nv, h.r4⟩
/-- Another link is stored into the block. -/
theorem SB.put {w0 w : World} {X R4 : Nat} {v v' : Value} {L L' : Lk} (h : SB w0 w X R4 v L) (ho : w.ownsRow (w0.heap.size + 2) 9 1 v' L'.q.length (L'.q.map Value.string)) (hn : ∀ k, v'.ownBlock = some k → k ≠ X) :
    SB w0 (((w.setCell ⟨X, 0, none⟩ v').setCell ⟨X, 1, none⟩ (.string L'.f)).setCell ⟨X, 2, none⟩ (.int .i64 L'.u)) X R4 v' L' := by
  obtain ⟨p1, q1⟩ := h.box.store (v' := v') (f' := L'.f) (u' := L'.u)
  refine ⟨p1, h.res.grown q1 (fun e => by have := Option.some.inj e; have := h.x; have := h.r4; omega), ho.kept q1 ?_, h.bel.grown q1 h.bel.size (fun k hk => by have e2 : X = k := Option.some.inj hk; have := h.x; omega), h.x, hn, h.r4⟩
  cases hv : v'.ownBlock with
  | none => exact .inl rfl
  | some k => exact .inr (fun e => hn k hv (Option.some.inj e))
/-- The same, and the answer of one text more in a block beside it. -/
structure SC (w0 w : World) (X R4 : Nat) (v : Value) (L : Lk) (Y : Nat) (v' : Value) (L' : Lk) : Prop where
  sb : SB w0 w X R4 v L
  ans : Lq w Y v' L'.f L'.u
  own : w.ownsRow (w0.heap.size + 2) 9 1 v' L'.q.length (L'.q.map Value.string)
  nv : ∀ k, v'.ownBlock = some k → k ≠ X
theorem sc_store {w0 w : World} {X Y R4 B : Nat} {v v' : Value} {L L' : Lk} (h : SB w0 w X R4 v L) (hy : Lq w Y (.slice none 0 0) ⟨#[]⟩ 0) (ho : w.ownsRow B 9 1 v' L'.q.length (L'.q.map Value.string)) (hB : w0.heap.size + 2 ≤ B) (hn : ∀ k, v'.ownBlock = some k → k ≠ X) (hn2 : ∀ k, v'.ownBlock = some k → k ≠ Y) (hv : ∀ k, v.ownBlock = some k → k ≠ Y) (hXY : Y ≠ X) (hY : w0.heap.size + 2 ≤ Y) :
    SC w0 (((w.setCell ⟨Y, 0, none⟩ v').setCell ⟨Y, 1, none⟩ (.string L'.f)).setCell ⟨Y, 2, none⟩ (.int .i64 L'.u)) X R4 v L Y v' L' := by
  obtain ⟨p1, q1⟩ := hy.store (v' := v') (f' := L'.f) (u' := L'.u)
  refine ⟨⟨h.box.grown q1 (fun e => hXY (Option.some.inj e).symm), h.res.grown q1 (fun e => by have := Option.some.inj e; have := h.r4; omega), h.own.kept q1 ?_, h.bel.grown q1 h.bel.size (fun k hk => by have e2 : Y = k := Option.some.inj hk; omega), h.x, h.nv, h.r4⟩, p1, own_base (ho.kept q1 ?_) hB, hn⟩
  · cases e : v.ownBlock with
    | none => exact .inl rfl
    | some k => exact .inr (fun e' => hv k e (Option.some.inj e'))
  · cases e : v'.ownBlock with
    | none => exact .inl rfl
    | some k => exact .inr (fun e' => hn2 k e (Option.some.inj e'))
theorem sc_new {w0 w : World} {X R4 B : Nat} {v v' : Value} {L L' : Lk} (h : SB w0 w X R4 v L) (ho : w.ownsRow B 9 1 v' L'.q.length (L'.q.map Value.string)) (hB : w0.heap.size + 2 ≤ B) (hn : ∀ k, v'.ownBlock = some k → k ≠ X) :
    SC w0 (w.alloc (.cells #[v', .string L'.f, .int .i64 L'.u] 26)) X R4 v L w.heap.size v' L' :=
  ⟨h.step ((Below.refl _ _).alloc (Nat.le_refl _) _), Lq.new _ _ _ _, own_base (own_below ho ((Below.refl _ _).alloc (Nat.le_refl _) _) (Nat.le_refl _)) hB, hn⟩
set_option maxRecDepth 100000 in
set_option maxHeartbeats 8000000 in
theorem specSendAll_any (v u : Value) (l : Lk) (t : List ByteArray) (w : World) (hrow : Row w v l.q.length (l.q.map Value.string)) (hfit : FitA v l.q.length) (hf : l.f.size ≤ 1048576) (hu : Row w u t.length (t.map Value.string)) :
    Calls Try.prog 33 #[.agg #[v, .string l.f, .int .i64 l.u], u] w fun e w' => ∃ v', e = .returned (.tuple #[.agg #[v', .string (allL l t).f, .int .i64 (allL l t).u], .int .i64 (allN l t), .bool (allOk l t)]) ∧ w'.ownsRow w.heap.size 9 1 v' (allL l t).q.length ((allL l t).q.map Value.string) ∧ Below w.heap.size w w' := by
  obtain ⟨i0, hi, hz0, hz1, hz2⟩ := info_parts infoStr
  obtain ⟨W, hW⟩ : ∃ W, W = (w.alloc (.cells #[v, .string l.f, .int .i64 l.u] 26)).alloc (.cells #[.slice none 0 0, .string ⟨#[]⟩, .int .i64 0] 26) := ⟨_, rfl⟩
  have hB : Below w.heap.size w W := by rw [hW]; exact ((Below.refl w.heap.size w).alloc (Nat.le_refl _) _).alloc (by simp) _
  have hT : Lb W w.heap.size v l := by rw [hW]; exact (Lb.new hrow).below ((Below.refl _ _).alloc (Nat.le_refl _) _)
  have hA : Lq W (w.heap.size + 1) (.slice none 0 0) ⟨#[]⟩ 0 := by
    rw [hW]
    have := Lq.new (w.alloc (.cells #[v, .string l.f, .int .i64 l.u] 26)) (.slice none 0 0) ⟨#[]⟩ 0
    rw [World.size_alloc] at this
    exact this
  have hWs : w.heap.size + 2 ≤ W.heap.size := by rw [hW]; simp
  have HWs := Lib.hid hWs
  have HW := Lib.hid hW
  have HB := Lib.hid hB
  have HA := Lib.hid hA
  have HT := Lib.hid hT
  have HG := Lib.hid (l7Good_any v l W hT.row hf)
  have HFit := Lib.hid hfit
  have HF := Lib.hid hf
  obtain ⟨a, cap, rfl, hc1, hm1, _⟩ := row_open hrow
  obtain ⟨au, cu, rfl, hcu1, hmu1, hcellu⟩ := row_open hu
  have HU := Lib.hid hcellu
  unfold maxLen at hm1 hmu1
  obtain ⟨R, hR⟩ : ∃ R, R = w.heap.size := ⟨_, rfl⟩
  obtain ⟨R4, hR4⟩ : ∃ R4, R4 = w.heap.size + 1 := ⟨_, rfl⟩
  rw [← hR] at HT
  rw [← hR4] at HA
  have HR := Lib.hid hR
  have HR4 := Lib.hid hR4
  obtain ⟨m, hM⟩ : ∃ m, m = t.length := ⟨_, rfl⟩
  rw [← hM] at hcu1 ⊢
  have HM := Lib.hid hM
  clear hW hB hT hA hR hR4 hrow hfit hu hcellu hWs hM hf
  obtain ⟨x0, x1, x2⟩ := HT.out.cells
  cases ok : lkOk l with
  | false =>
    have hk : allOk l t = false := by unfold allOk; rw [ok]; rfl
    obtain ⟨e1, e2⟩ := all_bad hk
    rw [ok] at HG
    rw [e1, e2, hk]
    clear ok hk e1 e2
    go_enter Try.func33, Try.ntmps33
    go_upto_region 1 with fail
    rw [← HW.out, ← HR4.out, ← HR.out]
    go_wp2_with fail
    refine HG.out.mono ?_
    rintro e W2 ⟨rfl, l2⟩
    have HB2 := Lib.hid (HB.out.trans (l2.mono HB.out.size))
    have HA2 := Lib.hid (HA.out.below l2 HA.out.lt)
    clear l2
    obtain ⟨y0, y1, y2⟩ := HA2.out.cells
    have f0 := HA2.out.free 0
    have f1 := HA2.out.free 1
    have f2 := HA2.out.free 2
    go_wp2_with fail
    obtain ⟨p1, q1⟩ := HA2.out.store (v' := .slice none 0 0) (f' := ⟨#[]⟩) (u' := 0)
    refine bodyPost_ret (results_lk2 rfl _ _ R4 rfl rfl rfl p1) rfl ⟨_, rfl, own_nilS _ _, HB2.out.grown q1 HB2.out.size (fun k hk => by have e2 : R4 = k := Option.some.inj hk; have := HR4.out; omega)⟩
  | true =>
    rw [ok] at HG
    by_cases hm20 : m ≤ 20
    rotate_left
    · have hk : allOk l t = false := by unfold allOk; rw [decide_eq_false (show ¬ t.length ≤ 20 by rw [← HM.out]; exact hm20), Bool.and_false]
      obtain ⟨e1, e2⟩ := all_bad hk
      rw [e1, e2, hk]
      have hm' : (20 : Int) < (m : Int) := by omega
      clear ok hk e1 e2 hm20
      go_enter Try.func33, Try.ntmps33
      go_upto_region 1 with fail
      rw [← HW.out, ← HR4.out, ← HR.out]
      go_wp2_with fail
      refine HG.out.mono ?_
      rintro e W2 ⟨rfl, l2⟩
      have HB2 := Lib.hid (HB.out.trans (l2.mono HB.out.size))
      have HA2 := Lib.hid (HA.out.below l2 HA.out.lt)
      clear l2
      obtain ⟨y0, y1, y2⟩ := HA2.out.cells
      have f0 := HA2.out.free 0
      have f1 := HA2.out.free 1
      have f2 := HA2.out.free 2
      go_wp2_with fail
      obtain ⟨p1, q1⟩ := HA2.out.store (v' := .slice none 0 0) (f' := ⟨#[]⟩) (u' := 0)
      refine bodyPost_ret (results_lk2 rfl _ _ R4 rfl rfl rfl p1) rfl ⟨_, rfl, own_nilS _ _, HB2.out.grown q1 HB2.out.size (fun k hk => by have e2 : R4 = k := Option.some.inj hk; have := HR4.out; omega)⟩
    have hk : allOk l t = true := by unfold allOk; rw [ok, decide_eq_true (show t.length ≤ 20 by rw [← HM.out]; exact hm20)]; rfl
    have HE1 : Hid (allL l t = (run7 l t).1) := Lib.hid (if_pos hk)
    have HE2 : Hid (allN l t = (run7 l t).2) := Lib.hid (if_pos hk)
    have HKk := Lib.hid hk
    have h8 : l.q.length ≤ 8 := (lkOk_parts ok).2.2.1
    have HOk := Lib.hid ok
    have hm' : ¬ (20 : Int) < (m : Int) := by omega
    clear ok hk
    go_enter Try.func33, Try.ntmps33
    go_upto_region 1 with fail
    rw [← HW.out, ← HR4.out, ← HR.out]
    go_wp2_with fail
    refine HG.out.mono ?_
    rintro e W2 ⟨rfl, l2⟩
    have HB2 := Lib.hid (HB.out.trans (l2.mono HB.out.size))
    have HA2 := Lib.hid (HA.out.below l2 HA.out.lt)
    have HT2 := Lib.hid (HT.out.below l2)
    have HWs2 := Lib.hid (Nat.le_trans HWs.out l2.size)
    clear l2 x0 x1 x2
    obtain ⟨x0, x1, x2⟩ := HT2.out.cells
    have HLen : Hid ((l.q.map Value.string).length = l.q.length) := Lib.hid (List.length_map _)
    have HK := Lib.hid (fun (w' : World) (hb : Below W2.heap.size W2 w') => (show w'.cell? ⟨R, 0, none⟩ = some (.slice a l.q.length cap) ∧ w'.cell? ⟨R, 1, none⟩ = some (.string l.f) ∧ w'.cell? ⟨R, 2, none⟩ = some (.int .i64 l.u) ∧ Below W2.heap.size W2 w' from
      ⟨(hb.cell (p := ⟨R, 0, none⟩) HT2.out.lt).trans x0, (hb.cell (p := ⟨R, 1, none⟩) HT2.out.lt).trans x1, (hb.cell (p := ⟨R, 2, none⟩) HT2.out.lt).trans x2, hb⟩))
    have hX0 : R4 < W2.heap.size := HA2.out.lt
    have hXR : R < W2.heap.size := HT2.out.lt
    go_upto_region 3 with fail
    go_cut [7] from 21 to 28 (fun p wx => ∃ (X : Nat) (v' : Value), p = .pointer (some ⟨X, 0, none⟩) ∧ Hid (SB w wx X R4 v' l))
    case first =>
      have tokA : True := trivial
      have tokB : True := trivial
      go_region_held3 (fun w' => w'.cell? ⟨R, 0, none⟩ = some (.slice a l.q.length cap) ∧ w'.cell? ⟨R, 1, none⟩ = some (.string l.f) ∧ w'.cell? ⟨R, 2, none⟩ = some (.int .i64 l.u) ∧ Below W2.heap.size W2 w')
        ((refine HK.out _ ?_; (repeat (first | assumption | exact Below.refl _ _ | refine Below.drew ?_ | refine below_alloc' ?_))))
        (first
          | (have _t := tokB; go_at_call 64; refine (l7With_any _ _ _ _ _ _ _ _).mono ?_; rintro e w7 ⟨rfl, l7⟩; have hb7 := below_call7 (by repeat (first | assumption | exact Below.refl _ _ | refine Below.drew ?_ | refine below_alloc' ?_) : Below W2.heap.size W2 _) l7; have ho7 := own_below hown2 (show Below w6.heap.size w6 w7 from by first | exact l7 | exact ((Below.refl _ _).alloc (Nat.le_refl _) _).trans (l7.mono (by simp))) (Nat.le_refl _); (first | have hX7 := hXa.below l7 hXa.lt | have hX7 := (Lq.new w6 (.slice none 0 0) ⟨#[]⟩ 0).below l7 (by simp) | have hX7 := Lq.new w7 (.slice none 0 0) ⟨#[]⟩ 0); obtain ⟨y0, y1, y2⟩ := hX7.cells; have f0 := hX7.free 0; have f1 := hX7.free 1; have f2 := hX7.free 2; have hst := (hX7.store (v' := .slice a2 l.q.length c2) (f' := l.f) (u' := l.u)).2; (first | have hbs := hb7.grown hst hb7.size (fun k hk => by have e2 := Option.some.inj hk; have := hb6.size; omega) | have hbs := (below_alloc' hb7).grown hst (below_alloc' hb7).size (fun k hk => by have e2 := Option.some.inj hk; have := hb7.size; omega)); clear tokB _t; dsimp only)
          | (have _t := tokA; refine step_append_fitT (by rfl) _ _ _ (by rfl) W2.heap.size 9 i0 (.string ⟨#[]⟩) 16 Try.underlying24 hi hz0 hz1 hz2 rfl _ 0 [] (by rfl) (own_lit (by first | exact heap_alloc_new _ _ | exact heap_new_drew _ _ | exact heap_first _ _ _ | exact heap_second _ _ _) (by simp)) _ l.q.length (l.q.map Value.string) (by rfl) HFit.out.fitS (HT2.out.row.below (by repeat (first | assumption | exact Below.refl _ _ | refine Below.drew ?_ | refine below_alloc' ?_) : Below W2.heap.size W2 _) (Nat.le_refl _)) HLen.out (one_strs _) (by unfold maxLen; omega) (by omega) (below_size' (by repeat (first | assumption | exact Below.refl _ _ | refine Below.drew ?_ | refine below_alloc' ?_))) ?_; intro v2 w6 hown2 hgrow2 hat2; obtain ⟨a2, c2, rfl, hcc2, hcm2⟩ := own_someS0 hown2; have hb6 : Below W2.heap.size W2 w6 := below_grown (by repeat (first | assumption | exact Below.refl _ _ | refine Below.drew ?_ | refine below_alloc' ?_)) hgrow2 (fun q hq => lit_block (by simp) hq); (first | have hXa : Lq w6 W2.heap.size (.slice none 0 0) ⟨#[]⟩ 0 := Lq.grown (by exact heap_first _ _ _) hgrow2 (by intro e; have e2 := Option.some.inj e; simp at e2) | have hXa : Lq w6 (W2.heap.size + 1) (.slice none 0 0) ⟨#[]⟩ 0 := Lq.grown (by exact heap_second _ _ _) hgrow2 (by intro e; have e2 := Option.some.inj e; simp at e2) | skip); clear hgrow2 tokA _t))
      all_goals go_wp2_with fail
      all_goals go_meet
      all_goals
        have ho8 : w7.ownsRow W2.heap.size 9 1 (.slice a2 l.q.length c2) l.q.length (l.q.map Value.string) := by simpa using ho7
        rw [Nat.zero_add] at hat2 hown2
        have hr8 := HA2.out.below hb7 hX0
        have hb8 := HB2.out.trans (hb7.mono HB2.out.size)
        have hz8 := HWs2.out
        have hz6 := hb6.size
        have hz7 := hb7.size
        case rel => first
          | exact ⟨_, _, rfl, Lib.hid (sb_new hr8 ho8 hb8 hz8 (by omega) HR4.out)⟩
          | exact ⟨_, _, rfl, Lib.hid (sb_store hX7 hr8 ho8 hb8 hz8 (by omega) (fun k hk e => absurd (hown2.lt k hk).2 (by omega)) HR4.out)⟩
          | exact ⟨_, _, rfl, Lib.hid (sb_store hX7 hr8 ho8 hb8 hz8 (by omega) (fun k hk e => by
              rcases hat2 with h | h
              · have h1 := hk.symm.trans h
                have h2 := Option.some.inj h1
                simp at h2
                omega
              · have h1 := hk.symm.trans h
                have h2 := Option.some.inj h1
                simp at h2
                omega) HR4.out)⟩
    case rest =>
      obtain ⟨X, v4, rfl, HS4⟩ := hcut
      rename World => W4
      clear HK hX0 hXR x0 x1 x2 HA2 HT2 HB2
      go_wp2_with fail
      go_loopw [8, 9] (fun y i wr => ∃ (k : Nat) (v' : Value), k ≤ m ∧ i = .int .i64 k ∧ y = .int .i64 (run7 l (t.take k)).2 ∧ Hid (SB w wr X R4 v' (run7 l (t.take k)).1)) (fun _ i _ => m - (RowKit.intOf i).toNat)
      case atStart => exact ⟨0, _, Nat.zero_le _, rfl, rfl, HS4⟩
      case round =>
        obtain ⟨k, v', hk, rfl, rfl, HS⟩ := hrel
        by_cases hkm : k < m
        · have hkt : k < t.length := by rw [← HM.out]; exact hkm
          obtain ⟨b, off, rfl, hb, hc⟩ := HU.out k hkt
          have hcx := (HS.out.bel.cell (p := ⟨b, off + k, none⟩) hb).trans hc
          have hbl : b < wr.heap.size := Nat.lt_of_lt_of_le hb HS.out.bel.size
          have HStep : Hid (run7 l (t.take (k + 1)) = step7 (run7 l (t.take k)) t[k]) := Lib.hid (by rw [List.take_succ_eq_append_getElem hkt, run7_snoc])
          obtain ⟨hc0, hck⟩ := run7_bd l k (t.take k) (by rw [List.length_take]; omega)
          have hfz : (run7 l (t.take k)).1.f.size ≤ 1048576 := by have := (lkOk_parts (run_valid HOk.out _ (t.take k) rfl)).2.2.2.1; omega
          obtain ⟨s, hs⟩ : ∃ s, s = t[k] := ⟨_, rfl⟩
          rw [← hs] at hcx HStep
          obtain ⟨L, hL⟩ : ∃ L, L = (run7 l (t.take k)).1 := ⟨_, rfl⟩
          obtain ⟨c, hcc⟩ : ∃ c, c = (run7 l (t.take k)).2 := ⟨_, rfl⟩
          have hst : step7 (run7 l (t.take k)) s = if sendOk L s = true then (sendL L s, c) else (L, c + 1) := by rw [hL, hcc]; rfl
          rw [hst] at HStep
          rw [← hL] at HS hfz
          rw [← hcc] at hc0 hck ⊢
          have hw1 : IntKind.i64.wrap (c + 1) = c + 1 := IntWalk.i64_in _ (by omega)
          obtain ⟨a6, c6, rfl, _, _⟩ := own_someS0 HS.out.own
          have HFa := Lib.hid (fitA_own HS.out.own).fitS
          have HFz := Lib.hid hfz
          have HCx := Lib.hid hcx
          have HSe := Lib.hid (fun (W1 : World) hr => specSend_any (.slice a6 L.q.length c6) L s W1 hr HFa.out HFz.out)
          clear hc hs hL hcc hst hfz
          obtain ⟨x0, x1, x2⟩ := HS.out.box.cells
          have HKr := Lib.hid (fun (w' : World) (hb : Below wr.heap.size wr w') => (show w'.cell? ⟨X, 0, none⟩ = some (.slice a6 L.q.length c6) ∧ w'.cell? ⟨X, 1, none⟩ = some (.string L.f) ∧ w'.cell? ⟨X, 2, none⟩ = some (.int .i64 L.u) ∧ w'.cell? ⟨b, off + k, none⟩ = some (.string s) ∧ Below wr.heap.size wr w' from
            ⟨(hb.cell (p := ⟨X, 0, none⟩) HS.out.box.lt).trans x0, (hb.cell (p := ⟨X, 1, none⟩) HS.out.box.lt).trans x1, (hb.cell (p := ⟨X, 2, none⟩) HS.out.box.lt).trans x2, (hb.cell (p := ⟨b, off + k, none⟩) hbl).trans HCx.out, hb⟩))
          have hXl := HS.out.box.lt
          have hX2 := HS.out.x
          obtain ⟨L2, hL2⟩ : ∃ L2, L2 = sendL L s := ⟨_, rfl⟩
          rw [← hL2] at HStep HSe
          generalize sendOk L s = ok at HStep HSe
          clear hL2
          have k1 : (k : Int) < (m : Int) := by omega
          go_upto_region 8 with fail
          go_cut [10, 11] from 35 to 43 (fun p bb wx => ∃ (Y : Nat) (v6 : Value), p = .pointer (some ⟨Y, 0, none⟩) ∧ bb = .bool ok ∧ Hid (SC w wx X R4 (.slice a6 L.q.length c6) L Y v6 L2))
          case first =>
            go_region_held3 (fun w' => w'.cell? ⟨X, 0, none⟩ = some (.slice a6 L.q.length c6) ∧ w'.cell? ⟨X, 1, none⟩ = some (.string L.f) ∧ w'.cell? ⟨X, 2, none⟩ = some (.int .i64 L.u) ∧ w'.cell? ⟨b, off + k, none⟩ = some (.string s) ∧ Below wr.heap.size wr w')
              ((refine HKr.out _ ?_; (repeat (first | assumption | exact Below.refl _ _ | refine Below.drew ?_ | refine below_alloc' ?_))))
              ((go_at_call 17; refine (HSe.out _ ((row_own HS.out.own).below (by repeat (first | assumption | exact Below.refl _ _ | refine Below.drew ?_ | refine below_alloc' ?_) : Below wr.heap.size wr _) (Nat.le_refl _))).mono ?_; rintro e w6 ⟨v6, rfl, o6, l6⟩; obtain ⟨a7, c7, rfl, _, _⟩ := own_someS0 o6; have hb6 := below_call7 (by repeat (first | assumption | exact Below.refl _ _ | refine Below.drew ?_ | refine below_alloc' ?_) : Below wr.heap.size wr _) l6; (first | have hX7 : Lq w6 wr.heap.size (.slice none 0 0) ⟨#[]⟩ 0 := Lq.below (by exact Lq.new wr _ _ _) l6 (by simp) | have hX7 := Lq.new w6 (.slice none 0 0) ⟨#[]⟩ 0); obtain ⟨y0, y1, y2⟩ := hX7.cells; have f0 := hX7.free 0; have f1 := hX7.free 1; have f2 := hX7.free 2; have hst := (hX7.store (v' := .slice a7 L2.q.length c7) (f' := L2.f) (u' := L2.u)).2; (first | have hbs := hb6.grown hst hb6.size (fun k hk => by have e2 := Option.some.inj hk; omega) | have hbs := (below_alloc' hb6).grown hst (below_alloc' hb6).size (fun k hk => by have e2 := Option.some.inj hk; have := hb6.size; omega)); dsimp only))
            all_goals go_wp2_with fail
            all_goals go_meet
            all_goals
              have hs8 := HS.out.step hb6
              have hz8 : w.heap.size + 2 ≤ wr.heap.size := by omega
              have hlt6 : ∀ k, (Value.slice a7 L2.q.length c7).ownBlock = some k → wr.heap.size ≤ k := fun k hk => by have := (o6.lt k hk).1; simp at this; omega
              case rel => first
                | exact ⟨_, _, rfl, rfl, Lib.hid (sc_new hs8 (own_base o6 (show w.heap.size + 2 ≤ _ by simp; omega)) (Nat.le_refl _) (fun k hk e => by have := hlt6 k hk; omega))⟩
                | exact ⟨_, _, rfl, rfl, Lib.hid (sc_store hs8 hX7 (own_base o6 (show w.heap.size + 2 ≤ _ by simp; omega)) (Nat.le_refl _) (fun k hk e => by have := hlt6 k hk; omega) (fun k hk e => by have := (o6.lt k hk).1; simp at this; omega) (fun k hk e => by have := (HS.out.own.lt k hk).2; omega) (by omega) hz8)⟩
          case rest =>
            obtain ⟨Y, v6, rfl, rfl, HC⟩ := hcut
            rename World => W6
            obtain ⟨a7, c7, rfl, _, _⟩ := own_someS0 HC.out.own
            clear x0 x1 x2 HKr HSe HCx hXl hX2 hcx
            cases ok with
            | false =>
              have HSt := Lib.hid (show run7 l (t.take (k + 1)) = (L, c + 1) from HStep.out)
              clear HStep
              go_wp2_with fail
              go_roundw
              case rel => exact ⟨k + 1, _, by omega, by go_num, by rw [HSt.out], by rw [HSt.out]; exact Lib.hid HC.out.sb⟩
              case measure => (simp [RowKit.intOf]; omega)
            | true =>
              have HSt := Lib.hid (show run7 l (t.take (k + 1)) = (L2, c) from HStep.out)
              clear HStep
              obtain ⟨x0, x1, x2⟩ := HC.out.sb.box.cells
              obtain ⟨z0, z1, z2⟩ := HC.out.ans.cells
              have f0 := HC.out.sb.box.free 0
              have f1 := HC.out.sb.box.free 1
              have f2 := HC.out.sb.box.free 2
              go_wp2_with fail
              go_roundw
              case rel => exact ⟨k + 1, .slice a7 L2.q.length c7, by omega, by go_num, by rw [HSt.out], by rw [HSt.out]; exact Lib.hid (HC.out.sb.put HC.out.own HC.out.nv)⟩
              case measure => (simp [RowKit.intOf]; omega)
        · obtain rfl : k = m := by omega
          rw [show t.take k = t from List.take_of_length_le (by rw [HM.out]; exact Nat.le_refl _)] at HS ⊢
          obtain ⟨a6, c6, rfl, _, _⟩ := own_someS0 HS.out.own
          rw [← HE1.out] at HS
          rw [← HE2.out]
          obtain ⟨x0, x1, x2⟩ := HS.out.box.cells
          obtain ⟨y0, y1, y2⟩ := HS.out.res.cells
          have f0 := HS.out.res.free 0
          have f1 := HS.out.res.free 1
          have f2 := HS.out.res.free 2
          go_wp2_with fail
          obtain ⟨p1, q1⟩ := HS.out.res.store (v' := .slice a6 (allL l t).q.length c6) (f' := (allL l t).f) (u' := (allL l t).u)
          refine bodyPost_ret (results_lk2 rfl _ _ R4 rfl rfl rfl p1) rfl ⟨_, by rw [HKk.out]; rfl, own_base2 (HS.out.own.kept q1 ?_), HS.out.bel.grown q1 HS.out.bel.size (fun k hk => by have e2 : R4 = k := Option.some.inj hk; have := HS.out.r4; omega)⟩
          cases hv : (Value.slice a6 (allL l t).q.length c6).ownBlock with
          | none => exact .inl rfl
          | some k => exact .inr (fun e => by have e2 : k = R4 := Option.some.inj e; have h1 := (HS.out.own.lt k hv).1; have h2 := HS.out.r4; omega)
end Go.Proofs.Ytbhhmaialilabaa
