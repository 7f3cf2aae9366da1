/-
  The law of runs over links: sending many texts is sending each, draining is taking each, and the letters' counts.
-/
import Derived.Test.YtbhhmaialilabaaRLink
import Derived.Test.YtbhhmaialilabaaRBig
import Derived.Test.YtbhhmaialilabaaRHas
import Derived.Test.YtbhhmaialilabaaDrawLink5
import Derived.Test.YtbhhmaialilabaaSendAI
import Derived.Test.YtbhhmaialilabaaLink8
import Derived.Test.YtbhhmaialilabaaDrainI
import Derived.Test.YtbhhmaialilabaaLink9
import Derived.Test.YtbhhmaialilabaaCountI
import Derived.Test.YtbhhmaialilabaaLink5
import Derived.Test.YtbhhmaialilabaaDropI
import Derived.Deep.CutRange
import Derived.BigQuiet
import Derived.WalkLawsBesides
namespace Go.Proofs.Ytbhhmaialilabaa
open Go.RowKit Go.Lib Go.Joins
set_option linter.unusedVariables false

/-- What the law's loops hold: the block that the link of now lies in, and its queue. -/
structure SR (Wb w : World) (R : Nat) (v : Value) (L : Lk) : Prop where
  box : Lq w R v L.f L.u
  own : ∃ B, w.ownsRow B 9 1 v L.q.length (L.q.map Value.string)
  bel : Below Wb.heap.size Wb w
  r : R = Wb.heap.size
theorem SR.step {Wb w w' : World} {R : Nat} {v : Value} {L : Lk} (h : SR Wb w R v L) (hb : Below w.heap.size w w') : SR Wb w' R v L := by
  obtain ⟨B, ho⟩ := h.own
  exact ⟨h.box.below hb h.box.lt, ⟨B, own_below ho hb (Nat.le_refl _)⟩, h.bel.trans (hb.mono h.bel.size), h.r⟩
/-- Another link is stored into the block. -/
theorem SR.put {Wb w : World} {R B : Nat} {v v' : Value} {L L' : Lk} (h : SR Wb w R v L) (ho : w.ownsRow B 9 1 v' L'.q.length (L'.q.map Value.string)) (hB : Wb.heap.size < B) :
    SR Wb (((w.setCell ⟨R, 0, none⟩ v').setCell ⟨R, 1, none⟩ (.string L'.f)).setCell ⟨R, 2, none⟩ (.int .i64 L'.u)) R v' L' := by
  obtain ⟨p1, q1⟩ := h.box.store (v' := v') (f' := L'.f) (u' := L'.u)
  refine ⟨p1, ⟨B, ho.kept q1 ?_⟩, h.bel.grown q1 h.bel.size (fun k hk => by have e2 : R = k := Option.some.inj hk; have := h.r; omega), h.r⟩
  cases hv : v'.ownBlock with
  | none => exact .inl rfl
  | some k => exact .inr (fun e => by have e2 : k = R := Option.some.inj e; have h1 := (ho.lt k hv).1; have h2 := h.r; omega)
theorem SR.row {Wb w : World} {R : Nat} {v : Value} {L : Lk} (h : SR Wb w R v L) : Row w v L.q.length (L.q.map Value.string) := by obtain ⟨B, ho⟩ := h.own; exact row_own ho
theorem SR.fit {Wb w : World} {R : Nat} {v : Value} {L : Lk} (h : SR Wb w R v L) : FitA v L.q.length := by obtain ⟨B, ho⟩ := h.own; exact fitA_own ho
theorem SR.some {Wb w : World} {R : Nat} {v : Value} {L : Lk} (h : SR Wb w R v L) : ∃ a c, v = .slice a L.q.length c := by obtain ⟨B, ho⟩ := h.own; obtain ⟨a, c, e, _⟩ := own_someS0 ho; exact ⟨a, c, e⟩
theorem keep_lc {W0 W : World} {X : Nat} {q : Addr} {v y : Value} {f : ByteArray} {u : Int} (hx : Lq W0 X v f u) (hy : W0.cell? q = some y) (hq : q.block < W0.heap.size) (h : Below W0.heap.size W0 W) :
    W.cell? ⟨X, 0, none⟩ = some v ∧ W.cell? ⟨X, 1, none⟩ = some (.string f) ∧ W.cell? ⟨X, 2, none⟩ = some (.int .i64 u) ∧ W.cell? q = some y ∧ Below W0.heap.size W0 W := by
  obtain ⟨a, b, c⟩ := (hx.below h hx.lt).cells
  exact ⟨a, b, c, (h.cell hq).trans hy, h⟩
theorem keep_l {W0 W : World} {X : Nat} {v : Value} {f : ByteArray} {u : Int} (hx : Lq W0 X v f u) (h : Below W0.heap.size W0 W) :
    W.cell? ⟨X, 1, none⟩ = some (.string f) ∧ W.cell? ⟨X, 2, none⟩ = some (.int .i64 u) ∧ Below W0.heap.size W0 W := by
  obtain ⟨a, b, c⟩ := (hx.below h hx.lt).cells
  exact ⟨b, c, h⟩
theorem below_drewN {B : Nat} {w w1 : World} {n : Nat} (h : Below B w w1) : Below B w (w1.drewN n) := h.trans ((bdrewN _ _ _))
/-- The next link is stored into a block that was laid ahead of the call. -/
theorem next_store {wr W w5 : World} {v : Value} {L : Lk} (hb : Below wr.heap.size wr w5) (l : Below W.heap.size W w5) (o : w5.ownsRow W.heap.size 9 1 v L.q.length (L.q.map Value.string)) (hz : W.heap[wr.heap.size]? = some (.cells #[.slice none 0 0, .string ⟨#[]⟩, .int .i64 0] 26 (0, 0))) :
    Lq w5 wr.heap.size (.slice none 0 0) ⟨#[]⟩ 0 ∧ Lq (((w5.setCell ⟨wr.heap.size, 0, none⟩ v).setCell ⟨wr.heap.size, 1, none⟩ (.string L.f)).setCell ⟨wr.heap.size, 2, none⟩ (.int .i64 L.u)) wr.heap.size v L.f L.u ∧
    (((w5.setCell ⟨wr.heap.size, 0, none⟩ v).setCell ⟨wr.heap.size, 1, none⟩ (.string L.f)).setCell ⟨wr.heap.size, 2, none⟩ (.int .i64 L.u)).ownsRow wr.heap.size 9 1 v L.q.length (L.q.map Value.string) ∧
    Below wr.heap.size wr (((w5.setCell ⟨wr.heap.size, 0, none⟩ v).setCell ⟨wr.heap.size, 1, none⟩ (.string L.f)).setCell ⟨wr.heap.size, 2, none⟩ (.int .i64 L.u)) := by
  have hlt : wr.heap.size < W.heap.size := (Array.getElem?_eq_some_iff.1 hz).1
  have hq : Lq w5 wr.heap.size (.slice none 0 0) ⟨#[]⟩ 0 := (l.block _ hlt).trans hz
  obtain ⟨p1, q1⟩ := hq.store (v' := v) (f' := L.f) (u' := L.u)
  refine ⟨hq, p1, own_base (o.kept q1 ?_) (Nat.le_of_lt hlt), hb.grown q1 hb.size (fun k hk => by have e2 : wr.heap.size = k := Option.some.inj hk; omega)⟩
  cases hv : v.ownBlock with
  | none => exact .inl rfl
  | some k => exact .inr (fun e => by have e2 : k = wr.heap.size := Option.some.inj e; have h1 := (o.lt k hv).1; omega)
theorem runs1 {l : Lk} {t : List ByteArray} (h : allOk l t = true) : allL l t = (run7 l t).1 ∧ allN l t = (run7 l t).2 ∧ t.length ≤ 20 := by
  refine ⟨if_pos h, if_pos h, ?_⟩
  unfold allOk at h
  exact of_decide_eq_true (Bool.and_eq_true_iff.1 h).2
theorem drains1 {l : Lk} (h : lkOk l = true) : drainT l = l.q ∧ takeN l l.q.length = drainL l ∧ l.q.length ≤ 8 ∧ ∀ k (hk : k < l.q.length), takeOk (takeN l k) = true ∧ takeL (takeN l k) = takeN l (k + 1) ∧ takeS (takeN l k) = l.q[k] :=
  ⟨if_pos h, takeN_all h, (lkOk_parts h).2.2.1, fun k hk => takeN_step h hk⟩
theorem counts1 {l : Lk} (h : lkOk l = true) : sumI (cntV l) = (l.f.size : Int) - l.u ∧ 0 ≤ sumI (cntV l) ∧ sumI (cntV l) ≤ 40 ∧ (cntV l).length ≤ 1000 ∧ ∀ x ∈ cntV l, 0 ≤ x ∧ x ≤ 1000 := by
  obtain ⟨a, b, c, d, e, h1, h2⟩ := cnt_law h
  have hs : sumI (cntV l) = (a : Int) + b + c + d := by rw [e]; unfold sumI; simp
  refine ⟨by omega, by omega, by omega, by rw [e]; simp, ?_⟩
  intro x hx
  rw [e] at hx
  simp only [List.mem_cons, List.not_mem_nil, or_false] at hx
  rcases hx with rfl | rfl | rfl | rfl <;> omega
set_option maxRecDepth 100000 in
set_option maxHeartbeats 16000000 in
theorem fnLinkRuns_walk (w : World) (v0 : Value) (z0 : List Int) (w0 : Row w v0 z0.length (z0.map (Value.int .u8))) (b0 : ∀ z ∈ z0, (Lit.int .u8 z).wf = true) (_hsh : w.ShapedOpen Try.prog) :
    Calls Try.prog 4 #[v0] w fun e w' => e = .returned (.bool true) ∧ Below w.heap.size w w' := by
  clear _hsh
  have hz : ∀ x ∈ z0, 0 ≤ x ∧ x < 256 := fun x hx => by have := bounds_u8 (b0 x hx); omega
  by_cases hbig : (65536 : Int) < z0.length
  · have HV := Lib.hid (rBig_row v0 _ _ true w0 (decide_eq_true hbig))
    clear w0 b0 hz
    go_enter Try.func4, Try.ntmps4
    go_wp2_with (go_at_call 14; refine (HV.out _).mono ?_; rintro e w' ⟨rfl, rfl⟩)
    go_ret
    exact ⟨rfl, Below.refl _ _⟩
  have HV := Lib.hid (rBig_row v0 _ _ false w0 (decide_eq_false hbig))
  have HR := Lib.hid w0
  have HD1 := Lib.hid (fun w hr => drawAll_any v0 z0 w hr hz)
  have HD2 := Lib.hid (fun w hr => drawDrain_any v0 z0 w hr hz)
  have HD3 := Lib.hid (fun w hr => drawCount_any v0 z0 w hr hz)
  clear w0 b0 hz hbig
  go_enter Try.func4, Try.ntmps4
  go_wp2_with fail
  refine (HV.out _).mono ?_
  rintro e w' ⟨rfl, rfl⟩
  clear HV
  go_wp2_with fail
  refine (HD1.out _ (HR.out.below (Below.refl _ _) (Nat.le_refl _))).mono ?_
  rintro e W2 ⟨v_l, l, v_u, t, rfl, o_l, o_u, hf1, hq1, ht1, l2⟩
  obtain ⟨a_l, c_l, rfl, _, _⟩ := own_someS0 o_l
  have O_l := Lib.hid o_l
  clear o_l
  obtain ⟨a_u, c_u, rfl, _, _⟩ := own_someS0 o_u
  have O_u := Lib.hid o_u
  clear o_u
  have HB_3 := Lib.hid l2
  clear l2
  clear HD1
  go_upto_region 4 with fail
  obtain ⟨W4, hW4⟩ : ∃ W4, W4 = W2.alloc (.cells #[.slice a_l l.q.length c_l, .string l.f, .int .i64 l.u] 26) := ⟨_, rfl⟩
  have l4 : Below W2.heap.size W2 W4 := by rw [hW4]; exact (Below.refl _ _).alloc (Nat.le_refl _) _
  have T3_b4 : Hid (Lq W4 W2.heap.size (.slice a_l l.q.length c_l) l.f l.u) := Lib.hid (by rw [hW4]; exact Lq.new _ _ _ _)
  rw [← hW4]
  clear hW4
  obtain ⟨X_T3, hX_T3⟩ : ∃ X, X = W2.heap.size := ⟨_, rfl⟩
  rw [← hX_T3] at T3_b4 ⊢
  clear hX_T3
  have HB_5 := Lib.hid (HB_3.out.trans (l4.mono HB_3.out.size))
  have l_5 := Lib.hid (own_below O_l.out l4 (Nat.le_refl _))
  clear O_l
  have u_5 := Lib.hid (own_below O_u.out l4 (Nat.le_refl _))
  clear O_u
  clear HB_3
  clear l4
  obtain ⟨hc0_T3_6, hc1_T3_6, hc2_T3_6⟩ := T3_b4.out.cells
  have HAi := Lib.hid (fun W h hfa hu => implSendAll_any (.slice a_l l.q.length c_l) (.slice a_u t.length c_u) l t W h hfa hu)
  have HAs := Lib.hid (fun W h hfa hu => specSendAll_any (.slice a_l l.q.length c_l) (.slice a_u t.length c_u) l t W h hfa (by omega) hu)
  have HF := Lib.hid (@runs1 l t)
  generalize allL l t = m at HAi HAs HF
  generalize allN l t = left at HAi HAs HF
  generalize allOk l t = ok at HAi HAs HF
  go_wp2_with fail
  refine (HAi.out _ (row_own l_5.out) (fitA_own l_5.out) (row_own u_5.out)).mono ?_
  rintro e W7 ⟨v_m, rfl, o_m, l7⟩
  obtain ⟨a_m, c_m, rfl, _, _⟩ := own_someS0 o_m
  have O_m := Lib.hid o_m
  clear o_m
  have HB_8 := Lib.hid (HB_5.out.trans (l7.mono HB_5.out.size))
  have l_8 := Lib.hid (own_below l_5.out l7 (Nat.le_refl _))
  clear l_5
  have u_8 := Lib.hid (own_below u_5.out l7 (Nat.le_refl _))
  clear u_5
  have T3_8 := Lib.hid (T3_b4.out.below l7 T3_b4.out.lt)
  clear T3_b4
  clear HB_5
  clear hc0_T3_6 hc1_T3_6 hc2_T3_6
  obtain ⟨hc0_T3_9, hc1_T3_9, hc2_T3_9⟩ := T3_8.out.cells
  clear l7
  clear HAi
  go_upto_region 5 with fail
  obtain ⟨W10, hW10⟩ : ∃ W10, W10 = W7.alloc (.cells #[.slice a_m m.q.length c_m, .string m.f, .int .i64 m.u] 26) := ⟨_, rfl⟩
  have l10 : Below W7.heap.size W7 W10 := by rw [hW10]; exact (Below.refl _ _).alloc (Nat.le_refl _) _
  have T5_b10 : Hid (Lq W10 W7.heap.size (.slice a_m m.q.length c_m) m.f m.u) := Lib.hid (by rw [hW10]; exact Lq.new _ _ _ _)
  rw [← hW10]
  clear hW10
  obtain ⟨X_T5, hX_T5⟩ : ∃ X, X = W7.heap.size := ⟨_, rfl⟩
  rw [← hX_T5] at T5_b10 ⊢
  clear hX_T5
  have HB_11 := Lib.hid (HB_8.out.trans (l10.mono HB_8.out.size))
  have l_11 := Lib.hid (own_below l_8.out l10 (Nat.le_refl _))
  clear l_8
  have u_11 := Lib.hid (own_below u_8.out l10 (Nat.le_refl _))
  clear u_8
  have m_11 := Lib.hid (own_below O_m.out l10 (Nat.le_refl _))
  clear O_m
  have T3_11 := Lib.hid (T3_8.out.below l10 T3_8.out.lt)
  clear T3_8
  clear HB_8
  clear hc0_T3_9 hc1_T3_9 hc2_T3_9
  obtain ⟨hc0_T3_12, hc1_T3_12, hc2_T3_12⟩ := T3_11.out.cells
  clear l10
  clear hc0_T3_12 hc1_T3_12 hc2_T3_12
  obtain ⟨hc0_T3_13, hc1_T3_13, hc2_T3_13⟩ := T3_11.out.cells
  obtain ⟨hc0_T5_14, hc1_T5_14, hc2_T5_14⟩ := T5_b10.out.cells
  go_wp2_with fail
  refine (HAs.out _ (row_own l_11.out) (fitA_own l_11.out) (row_own u_11.out)).mono ?_
  rintro e W15 ⟨v_w, rfl, o_w, l15⟩
  obtain ⟨a_w, c_w, rfl, _, _⟩ := own_someS0 o_w
  have O_w := Lib.hid o_w
  clear o_w
  have HB_16 := Lib.hid (HB_11.out.trans (l15.mono HB_11.out.size))
  have l_16 := Lib.hid (own_below l_11.out l15 (Nat.le_refl _))
  clear l_11
  have u_16 := Lib.hid (own_below u_11.out l15 (Nat.le_refl _))
  clear u_11
  have m_16 := Lib.hid (own_below m_11.out l15 (Nat.le_refl _))
  clear m_11
  have T3_16 := Lib.hid (T3_11.out.below l15 T3_11.out.lt)
  clear T3_11
  have T5_16 := Lib.hid (T5_b10.out.below l15 T5_b10.out.lt)
  clear T5_b10
  clear HB_11
  clear hc0_T3_13 hc1_T3_13 hc2_T3_13
  obtain ⟨hc0_T3_17, hc1_T3_17, hc2_T3_17⟩ := T3_16.out.cells
  clear hc0_T5_14 hc1_T5_14 hc2_T5_14
  obtain ⟨hc0_T5_18, hc1_T5_18, hc2_T5_18⟩ := T5_16.out.cells
  clear l15
  clear HAs
  go_upto_region 6 with fail
  obtain ⟨W19, hW19⟩ : ∃ W19, W19 = W15.alloc (.cells #[.slice a_w m.q.length c_w, .string m.f, .int .i64 m.u] 26) := ⟨_, rfl⟩
  have l19 : Below W15.heap.size W15 W19 := by rw [hW19]; exact (Below.refl _ _).alloc (Nat.le_refl _) _
  have T8_b19 : Hid (Lq W19 W15.heap.size (.slice a_w m.q.length c_w) m.f m.u) := Lib.hid (by rw [hW19]; exact Lq.new _ _ _ _)
  rw [← hW19]
  clear hW19
  obtain ⟨X_T8, hX_T8⟩ : ∃ X, X = W15.heap.size := ⟨_, rfl⟩
  rw [← hX_T8] at T8_b19 ⊢
  clear hX_T8
  have HB_20 := Lib.hid (HB_16.out.trans (l19.mono HB_16.out.size))
  have l_20 := Lib.hid (own_below l_16.out l19 (Nat.le_refl _))
  clear l_16
  have u_20 := Lib.hid (own_below u_16.out l19 (Nat.le_refl _))
  clear u_16
  have m_20 := Lib.hid (own_below m_16.out l19 (Nat.le_refl _))
  clear m_16
  have w_20 := Lib.hid (own_below O_w.out l19 (Nat.le_refl _))
  clear O_w
  have T3_20 := Lib.hid (T3_16.out.below l19 T3_16.out.lt)
  clear T3_16
  have T5_20 := Lib.hid (T5_16.out.below l19 T5_16.out.lt)
  clear T5_16
  clear HB_16
  clear hc0_T3_17 hc1_T3_17 hc2_T3_17
  obtain ⟨hc0_T3_21, hc1_T3_21, hc2_T3_21⟩ := T3_20.out.cells
  clear hc0_T5_18 hc1_T5_18 hc2_T5_18
  obtain ⟨hc0_T5_22, hc1_T5_22, hc2_T5_22⟩ := T5_20.out.cells
  clear l19
  clear hc0_T3_21 hc1_T3_21 hc2_T3_21
  obtain ⟨hc0_T3_23, hc1_T3_23, hc2_T3_23⟩ := T3_20.out.cells
  clear hc0_T5_22 hc1_T5_22 hc2_T5_22
  obtain ⟨hc0_T5_24, hc1_T5_24, hc2_T5_24⟩ := T5_20.out.cells
  obtain ⟨hc0_T8_25, hc1_T8_25, hc2_T8_25⟩ := T8_b19.out.cells
  go_wp2_with fail
  refine (rLinks_same _ _ m _ (row_own m_20.out) (row_own w_20.out)).mono ?_
  rintro e W26 ⟨rfl, l26⟩
  have HB_27 := Lib.hid (HB_20.out.trans (l26.mono HB_20.out.size))
  have l_27 := Lib.hid (own_below l_20.out l26 (Nat.le_refl _))
  clear l_20
  have u_27 := Lib.hid (own_below u_20.out l26 (Nat.le_refl _))
  clear u_20
  have m_27 := Lib.hid (own_below m_20.out l26 (Nat.le_refl _))
  clear m_20
  have w_27 := Lib.hid (own_below w_20.out l26 (Nat.le_refl _))
  clear w_20
  have T3_27 := Lib.hid (T3_20.out.below l26 T3_20.out.lt)
  clear T3_20
  have T5_27 := Lib.hid (T5_20.out.below l26 T5_20.out.lt)
  clear T5_20
  have T8_27 := Lib.hid (T8_b19.out.below l26 T8_b19.out.lt)
  clear T8_b19
  clear HB_20
  clear hc0_T3_23 hc1_T3_23 hc2_T3_23
  obtain ⟨hc0_T3_28, hc1_T3_28, hc2_T3_28⟩ := T3_27.out.cells
  clear hc0_T5_24 hc1_T5_24 hc2_T5_24
  obtain ⟨hc0_T5_29, hc1_T5_29, hc2_T5_29⟩ := T5_27.out.cells
  clear hc0_T8_25 hc1_T8_25 hc2_T8_25
  obtain ⟨hc0_T8_30, hc1_T8_30, hc2_T8_30⟩ := T8_27.out.cells
  clear l26
  clear w_27
  clear T8_27 hc0_T8_30 hc1_T8_30 hc2_T8_30
  go_upto_if 68 with fail
  go_cut [] from 11 to 97 (fun wx => Hid (Below W26.heap.size W26 wx))
  case first => as_aux_lemma =>
    cases ok with
    | false =>
      have HZ := Lib.hid (Below.refl W26.heap.size W26)
      clear HF
      go_wp2_with fail
      go_meet
      case rel => exact HZ
    | true =>
      obtain ⟨e1, e2, ht20⟩ := HF.out rfl
      have HE1 := Lib.hid e1
      have HE2 := Lib.hid e2
      clear HF e1 e2
      have HZ := Lib.hid (Below.refl W26.heap.size W26)
      have HLt := Lib.hid (own_below l_27.out (Below.refl W26.heap.size W26) (Nat.le_refl _))
      obtain ⟨au, cu, hau, _, _, hcu⟩ := row_open (row_own u_27.out)
      injection hau with hau1 hau2 hau3
      clear hau2
      subst hau1
      subst hau3
      have HU := Lib.hid hcu
      clear hcu
      go_upto_region 10 with fail
      obtain ⟨W31, hW31⟩ : ∃ W31, W31 = W26.alloc (.cells #[.slice a_l l.q.length c_l, .string l.f, .int .i64 l.u] 26) := ⟨_, rfl⟩
      have l31 : Below W26.heap.size W26 W31 := by rw [hW31]; exact (Below.refl _ _).alloc (Nat.le_refl _) _
      have HX31 : Hid (Lq W31 W26.heap.size (.slice a_l l.q.length c_l) l.f l.u) := Lib.hid (by rw [hW31]; exact Lq.new _ _ _ _)
      have HWb31 : Hid (W26.heap.size < W31.heap.size) := Lib.hid (by rw [hW31, World.size_alloc]; exact Nat.lt_succ_self _)
      rw [← hW31]
      clear hW31
      obtain ⟨X_T11, hX_T11⟩ : ∃ X, X = W26.heap.size := ⟨_, rfl⟩
      rw [← hX_T11] at HX31 ⊢
      have HS31 : Hid (SR W26 W31 X_T11 (.slice a_l l.q.length c_l) l) := Lib.hid ⟨HX31.out, ⟨_, own_below l_27.out l31 (Nat.le_refl _)⟩, (Below.refl _ _).trans l31, hX_T11⟩
      clear hX_T11 l31
      clear hc0_T3_28 hc1_T3_28 hc2_T3_28 hc0_T5_29 hc1_T5_29 hc2_T5_29
      go_wp2_with fail
      go_loopw [12, 13] (fun y i wr => ∃ (k : Nat) (v' : Value), k ≤ t.length ∧ i = .int .i64 k ∧ y = .int .i64 (run7 l (t.take k)).2 ∧ Hid (SR W26 wr X_T11 v' (run7 l (t.take k)).1)) (fun _ i _ => t.length - (RowKit.intOf i).toNat)
      case atStart => exact ⟨0, _, Nat.zero_le _, rfl, rfl, HS31⟩
      case round =>
        obtain ⟨k, v', hk, rfl, rfl, HS⟩ := hrel
        by_cases hkt : k < t.length
        · obtain ⟨b, off, rfl, hb, hc⟩ := HU.out k hkt
          have hcx := (HS.out.bel.cell (p := ⟨b, off + k, none⟩) hb).trans hc
          have HStep : Hid (run7 l (t.take (k + 1)) = step7 (run7 l (t.take k)) t[k]) := Lib.hid (by rw [List.take_succ_eq_append_getElem hkt, run7_snoc])
          obtain ⟨hc0, hck⟩ := run7_bd l k (t.take k) (by rw [List.length_take]; omega)
          obtain ⟨s, hs⟩ : ∃ s, s = t[k] := ⟨_, rfl⟩
          rw [← hs] at hcx HStep
          obtain ⟨L, hL⟩ : ∃ L, L = (run7 l (t.take k)).1 := ⟨_, rfl⟩
          obtain ⟨c, hcc⟩ : ∃ c, c = (run7 l (t.take k)).2 := ⟨_, rfl⟩
          have hst : step7 (run7 l (t.take k)) s = if sendOk L s = true then (sendL L s, c) else (L, c + 1) := by rw [hL, hcc]; rfl
          rw [hst] at HStep
          rw [← hL] at HS
          rw [← hcc] at hc0 hck ⊢
          have hw1 : IntKind.i64.wrap (c + 1) = c + 1 := IntWalk.i64_in _ (by omega)
          obtain ⟨a6, c6, rfl⟩ := HS.out.some
          have HSe := Lib.hid (fun W h => implSend_any (.slice a6 L.q.length c6) L s W h HS.out.fit)
          have HCx := Lib.hid hcx
          have HLt2 := Lib.hid (Nat.lt_of_lt_of_le hb HS.out.bel.size)
          have HKt := Lib.hid hkt
          clear hc hs hL hcc hst hcx hb
          generalize sendL L s = L2 at HStep HSe
          generalize sendOk L s = one at HStep HSe
          go_upto_region 13 with fail
          go_cut [14, 15] from 76 to 84 (fun a b wx => ∃ X v7, a = .pointer (some ⟨X, 0, none⟩) ∧ b = .bool one ∧ Hid (Lq wx X v7 L2.f L2.u) ∧ Hid (wx.ownsRow wr.heap.size 9 1 v7 L2.q.length (L2.q.map Value.string)) ∧ Hid (Below wr.heap.size wr wx))
          case first => as_aux_lemma =>
            obtain ⟨x0, x1, x2⟩ := HS.out.box.cells
            have hcx := HCx.out
            clear hw1 HStep
            go_region_held3 (fun w' => w'.cell? ⟨X_T11, 0, none⟩ = some (.slice a6 L.q.length c6) ∧ w'.cell? ⟨X_T11, 1, none⟩ = some (.string L.f) ∧ w'.cell? ⟨X_T11, 2, none⟩ = some (.int .i64 L.u) ∧ w'.cell? ⟨b, off + k, none⟩ = some (.string s) ∧ Below wr.heap.size wr w')
              ((refine keep_lc HS.out.box HCx.out HLt2.out ?_; repeat (first | assumption | exact Below.refl _ _ | refine Below.drew ?_ | refine below_alloc' ?_)))
              (first | (go_at_call 16; refine (HSe.out _ (HS.out.row.below (by repeat (first | assumption | exact Below.refl _ _ | refine Below.drew ?_ | refine below_alloc' ?_) : Below wr.heap.size wr _) (Nat.le_refl _))).mono ?_; rintro e w5 ⟨v6, rfl, o6, l6⟩; obtain ⟨a7, c7, rfl, _, _⟩ := own_someS0 o6; have hb5 := below_call7 (by repeat (first | assumption | exact Below.refl _ _ | refine Below.drew ?_ | refine below_alloc' ?_) : Below wr.heap.size wr _) l6; have ho5 := own_base o6 (Below.size (by repeat (first | assumption | exact Below.refl _ _ | refine Below.drew ?_ | refine below_alloc' ?_) : Below wr.heap.size wr _)); (first | (have hk := next_store hb5 l6 o6 (heap_alloc_new _ _); obtain ⟨y0, y1, y2⟩ := hk.1.cells; have f0 := hk.1.free 0; have f1 := hk.1.free 1; have f2 := hk.1.free 2; obtain ⟨_, hk1, hk2, hk3⟩ := hk) | (have hk := next_store hb5 l6 o6 (heap_new_drew _ _); obtain ⟨y0, y1, y2⟩ := hk.1.cells; have f0 := hk.1.free 0; have f1 := hk.1.free 1; have f2 := hk.1.free 2; obtain ⟨_, hk1, hk2, hk3⟩ := hk) | skip); clear o6 l6))
            all_goals go_wp2_with fail
            all_goals go_meet
            all_goals
              case rel => first | exact ⟨_, .slice a7 L2.q.length c7, rfl, rfl, Lib.hid hk1, Lib.hid hk2, Lib.hid hk3⟩ | exact ⟨_, .slice a7 L2.q.length c7, rfl, rfl, Lib.hid (by first | exact heap_alloc_new _ _ | exact heap_new_drew _ _), Lib.hid (own_below ho5 (by repeat (first | exact Below.refl _ _ | refine Below.drew ?_ | refine below_alloc' ?_)) (Nat.le_refl _)), Lib.hid (by repeat (first | assumption | exact Below.refl _ _ | refine Below.drew ?_ | refine below_alloc' ?_) : Below wr.heap.size wr _)⟩
          case rest => as_aux_lemma =>
            obtain ⟨X, v7, rfl, rfl, HX7, HO7, HBw7⟩ := hcut
            rename World => W7
            obtain ⟨a7, c7, rfl, _, _⟩ := own_someS0 HO7.out
            have HBw : Hid (W26.heap.size < wr.heap.size) := Lib.hid (by have h1 := HS.out.box.lt; have h2 := HS.out.r; omega)
            have HS7 := Lib.hid (HS.out.step HBw7.out)
            clear HBw7 HSe HCx HLt2
            cases one with
            | false =>
              have HSt := Lib.hid (show run7 l (t.take (k + 1)) = (L, c + 1) from HStep.out)
              clear HStep
              go_wp2_with fail
              go_roundw
              case rel => exact ⟨k + 1, _, by omega, by go_num, by rw [HSt.out], by rw [HSt.out]; exact HS7⟩
              case measure => (simp [RowKit.intOf]; omega)
            | true =>
              have HSt := Lib.hid (show run7 l (t.take (k + 1)) = (L2, c) from HStep.out)
              clear HStep
              obtain ⟨x0, x1, x2⟩ := HS7.out.box.cells
              obtain ⟨z0, z1, z2⟩ := HX7.out.cells
              have f0 := HS7.out.box.free 0
              have f1 := HS7.out.box.free 1
              have f2 := HS7.out.box.free 2
              go_wp2_with fail
              go_roundw
              case rel => exact ⟨k + 1, .slice a7 L2.q.length c7, by omega, by go_num, by rw [HSt.out], by rw [HSt.out]; exact Lib.hid (HS7.out.put HO7.out HBw.out)⟩
              case measure => (simp [RowKit.intOf]; omega)
        · obtain rfl : k = t.length := by omega
          rw [show t.take t.length = t from List.take_of_length_le (Nat.le_refl _)] at HS ⊢
          rw [← HE1.out] at HS
          rw [← HE2.out]
          obtain ⟨a6, c6, rfl⟩ := HS.out.some
          obtain ⟨x0, x1, x2⟩ := HS.out.box.cells
          have HT5 := Lib.hid (T5_27.out.below HS.out.bel T5_27.out.lt)
          obtain ⟨y0, y1, y2⟩ := HT5.out.cells
          have HMr := Lib.hid (own_below m_27.out HS.out.bel (Nat.le_refl _))
          go_wp2_with fail
          refine (rLinks_same _ _ m _ HS.out.row (row_own HMr.out)).mono ?_
          rintro e W9 ⟨rfl, l9⟩
          have HB9 := Lib.hid (HS.out.bel.trans (l9.mono HS.out.bel.size))
          clear l9
          go_wp2_with fail
          go_meet
          case rel => exact HB9
  case rest => as_aux_lemma =>
    rename World => W32
    have l32 := hcut.out
    clear hcut HF hf1 hq1 ht1
    clear l_27
    clear m_27
    clear u_27
    clear T3_27 hc0_T3_28 hc1_T3_28 hc2_T3_28
    clear T5_27 hc0_T5_29 hc1_T5_29 hc2_T5_29
    have HB_33 := Lib.hid (HB_27.out.trans (l32.mono HB_27.out.size))
    clear HB_27
    clear l32
    go_wp2_with fail
    refine (HD2.out _ (HR.out.below HB_33.out (Nat.le_refl _))).mono ?_
    rintro e W34 ⟨v_d, d, rfl, o_d, hf2, hq2, l34⟩
    obtain ⟨a_d, c_d, rfl, _, _⟩ := own_someS0 o_d
    have O_d := Lib.hid o_d
    clear o_d
    have HB_35 := Lib.hid (HB_33.out.trans (l34.mono HB_33.out.size))
    clear HB_33
    clear l34
    clear HD2
    go_upto_region 20 with fail
    obtain ⟨W36, hW36⟩ : ∃ W36, W36 = W34.alloc (.cells #[.slice a_d d.q.length c_d, .string d.f, .int .i64 d.u] 26) := ⟨_, rfl⟩
    have l36 : Below W34.heap.size W34 W36 := by rw [hW36]; exact (Below.refl _ _).alloc (Nat.le_refl _) _
    have T16_b36 : Hid (Lq W36 W34.heap.size (.slice a_d d.q.length c_d) d.f d.u) := Lib.hid (by rw [hW36]; exact Lq.new _ _ _ _)
    rw [← hW36]
    clear hW36
    obtain ⟨X_T16, hX_T16⟩ : ∃ X, X = W34.heap.size := ⟨_, rfl⟩
    rw [← hX_T16] at T16_b36 ⊢
    clear hX_T16
    have HB_37 := Lib.hid (HB_35.out.trans (l36.mono HB_35.out.size))
    have d_37 := Lib.hid (own_below O_d.out l36 (Nat.le_refl _))
    clear O_d
    clear HB_35
    clear l36
    obtain ⟨hc0_T16_38, hc1_T16_38, hc2_T16_38⟩ := T16_b36.out.cells
    have HRi := Lib.hid (fun W h hfa => implDrain_any (.slice a_d d.q.length c_d) d W h hfa)
    have HRs := Lib.hid (fun W h hfa => specDrain_any (.slice a_d d.q.length c_d) d W h hfa (by omega))
    have HF := Lib.hid (@drains1 d)
    generalize drainL d = em at HRi HRs HF
    generalize drainT d = tx at HRi HRs HF
    generalize lkOk d = fine at HRi HRs HF
    go_wp2_with fail
    refine (HRi.out _ (row_own d_37.out) (fitA_own d_37.out)).mono ?_
    rintro e W39 ⟨v_e, v_x, rfl, o_e, o_x, _, l39⟩
    obtain ⟨a_e, c_e, rfl, _, _⟩ := own_someS0 o_e
    have O_e := Lib.hid o_e
    clear o_e
    obtain ⟨a_x, c_x, rfl, _, _⟩ := own_someS0 o_x
    have O_x := Lib.hid o_x
    clear o_x
    have HB_40 := Lib.hid (HB_37.out.trans (l39.mono HB_37.out.size))
    have d_40 := Lib.hid (own_below d_37.out l39 (Nat.le_refl _))
    clear d_37
    have T16_40 := Lib.hid (T16_b36.out.below l39 T16_b36.out.lt)
    clear T16_b36
    clear HB_37
    clear hc0_T16_38 hc1_T16_38 hc2_T16_38
    obtain ⟨hc0_T16_41, hc1_T16_41, hc2_T16_41⟩ := T16_40.out.cells
    clear l39
    clear HRi
    go_upto_region 21 with fail
    obtain ⟨W42, hW42⟩ : ∃ W42, W42 = W39.alloc (.cells #[.slice a_e em.q.length c_e, .string em.f, .int .i64 em.u] 26) := ⟨_, rfl⟩
    have l42 : Below W39.heap.size W39 W42 := by rw [hW42]; exact (Below.refl _ _).alloc (Nat.le_refl _) _
    have T17_b42 : Hid (Lq W42 W39.heap.size (.slice a_e em.q.length c_e) em.f em.u) := Lib.hid (by rw [hW42]; exact Lq.new _ _ _ _)
    rw [← hW42]
    clear hW42
    obtain ⟨X_T17, hX_T17⟩ : ∃ X, X = W39.heap.size := ⟨_, rfl⟩
    rw [← hX_T17] at T17_b42 ⊢
    clear hX_T17
    have HB_43 := Lib.hid (HB_40.out.trans (l42.mono HB_40.out.size))
    have d_43 := Lib.hid (own_below d_40.out l42 (Nat.le_refl _))
    clear d_40
    have e_43 := Lib.hid (own_below O_e.out l42 (Nat.le_refl _))
    clear O_e
    have x_43 := Lib.hid (own_below O_x.out l42 (Nat.le_refl _))
    clear O_x
    have T16_43 := Lib.hid (T16_40.out.below l42 T16_40.out.lt)
    clear T16_40
    clear HB_40
    clear hc0_T16_41 hc1_T16_41 hc2_T16_41
    obtain ⟨hc0_T16_44, hc1_T16_44, hc2_T16_44⟩ := T16_43.out.cells
    clear l42
    clear hc0_T16_44 hc1_T16_44 hc2_T16_44
    obtain ⟨hc0_T16_45, hc1_T16_45, hc2_T16_45⟩ := T16_43.out.cells
    obtain ⟨hc0_T17_46, hc1_T17_46, hc2_T17_46⟩ := T17_b42.out.cells
    go_wp2_with fail
    refine (HRs.out _ (row_own d_43.out) (fitA_own d_43.out)).mono ?_
    rintro e W47 ⟨v_w, v_y, rfl, o_w, o_y, _, l47⟩
    obtain ⟨a_w, c_w, rfl, _, _⟩ := own_someS0 o_w
    have O_w := Lib.hid o_w
    clear o_w
    obtain ⟨a_y, c_y, rfl, _, _⟩ := own_someS0 o_y
    have O_y := Lib.hid o_y
    clear o_y
    have HB_48 := Lib.hid (HB_43.out.trans (l47.mono HB_43.out.size))
    have d_48 := Lib.hid (own_below d_43.out l47 (Nat.le_refl _))
    clear d_43
    have e_48 := Lib.hid (own_below e_43.out l47 (Nat.le_refl _))
    clear e_43
    have x_48 := Lib.hid (own_below x_43.out l47 (Nat.le_refl _))
    clear x_43
    have T16_48 := Lib.hid (T16_43.out.below l47 T16_43.out.lt)
    clear T16_43
    have T17_48 := Lib.hid (T17_b42.out.below l47 T17_b42.out.lt)
    clear T17_b42
    clear HB_43
    clear hc0_T16_45 hc1_T16_45 hc2_T16_45
    obtain ⟨hc0_T16_49, hc1_T16_49, hc2_T16_49⟩ := T16_48.out.cells
    clear hc0_T17_46 hc1_T17_46 hc2_T17_46
    obtain ⟨hc0_T17_50, hc1_T17_50, hc2_T17_50⟩ := T17_48.out.cells
    clear l47
    clear HRs
    go_upto_region 22 with fail
    obtain ⟨W51, hW51⟩ : ∃ W51, W51 = W47.alloc (.cells #[.slice a_w em.q.length c_w, .string em.f, .int .i64 em.u] 26) := ⟨_, rfl⟩
    have l51 : Below W47.heap.size W47 W51 := by rw [hW51]; exact (Below.refl _ _).alloc (Nat.le_refl _) _
    have T20_b51 : Hid (Lq W51 W47.heap.size (.slice a_w em.q.length c_w) em.f em.u) := Lib.hid (by rw [hW51]; exact Lq.new _ _ _ _)
    rw [← hW51]
    clear hW51
    obtain ⟨X_T20, hX_T20⟩ : ∃ X, X = W47.heap.size := ⟨_, rfl⟩
    rw [← hX_T20] at T20_b51 ⊢
    clear hX_T20
    have HB_52 := Lib.hid (HB_48.out.trans (l51.mono HB_48.out.size))
    have d_52 := Lib.hid (own_below d_48.out l51 (Nat.le_refl _))
    clear d_48
    have e_52 := Lib.hid (own_below e_48.out l51 (Nat.le_refl _))
    clear e_48
    have x_52 := Lib.hid (own_below x_48.out l51 (Nat.le_refl _))
    clear x_48
    have w_52 := Lib.hid (own_below O_w.out l51 (Nat.le_refl _))
    clear O_w
    have y_52 := Lib.hid (own_below O_y.out l51 (Nat.le_refl _))
    clear O_y
    have T16_52 := Lib.hid (T16_48.out.below l51 T16_48.out.lt)
    clear T16_48
    have T17_52 := Lib.hid (T17_48.out.below l51 T17_48.out.lt)
    clear T17_48
    clear HB_48
    clear hc0_T16_49 hc1_T16_49 hc2_T16_49
    obtain ⟨hc0_T16_53, hc1_T16_53, hc2_T16_53⟩ := T16_52.out.cells
    clear hc0_T17_50 hc1_T17_50 hc2_T17_50
    obtain ⟨hc0_T17_54, hc1_T17_54, hc2_T17_54⟩ := T17_52.out.cells
    clear l51
    clear hc0_T16_53 hc1_T16_53 hc2_T16_53
    obtain ⟨hc0_T16_55, hc1_T16_55, hc2_T16_55⟩ := T16_52.out.cells
    clear hc0_T17_54 hc1_T17_54 hc2_T17_54
    obtain ⟨hc0_T17_56, hc1_T17_56, hc2_T17_56⟩ := T17_52.out.cells
    obtain ⟨hc0_T20_57, hc1_T20_57, hc2_T20_57⟩ := T20_b51.out.cells
    go_wp2_with fail
    refine (rLinks_same _ _ em _ (row_own e_52.out) (row_own w_52.out)).mono ?_
    rintro e W58 ⟨rfl, l58⟩
    have HB_59 := Lib.hid (HB_52.out.trans (l58.mono HB_52.out.size))
    have d_59 := Lib.hid (own_below d_52.out l58 (Nat.le_refl _))
    clear d_52
    have e_59 := Lib.hid (own_below e_52.out l58 (Nat.le_refl _))
    clear e_52
    have x_59 := Lib.hid (own_below x_52.out l58 (Nat.le_refl _))
    clear x_52
    have w_59 := Lib.hid (own_below w_52.out l58 (Nat.le_refl _))
    clear w_52
    have y_59 := Lib.hid (own_below y_52.out l58 (Nat.le_refl _))
    clear y_52
    have T16_59 := Lib.hid (T16_52.out.below l58 T16_52.out.lt)
    clear T16_52
    have T17_59 := Lib.hid (T17_52.out.below l58 T17_52.out.lt)
    clear T17_52
    have T20_59 := Lib.hid (T20_b51.out.below l58 T20_b51.out.lt)
    clear T20_b51
    clear HB_52
    clear hc0_T16_55 hc1_T16_55 hc2_T16_55
    obtain ⟨hc0_T16_60, hc1_T16_60, hc2_T16_60⟩ := T16_59.out.cells
    clear hc0_T17_56 hc1_T17_56 hc2_T17_56
    obtain ⟨hc0_T17_61, hc1_T17_61, hc2_T17_61⟩ := T17_59.out.cells
    clear hc0_T20_57 hc1_T20_57 hc2_T20_57
    obtain ⟨hc0_T20_62, hc1_T20_62, hc2_T20_62⟩ := T20_59.out.cells
    clear l58
    clear w_59
    clear T20_59 hc0_T20_62 hc1_T20_62 hc2_T20_62
    go_wp2_with fail
    refine (rTexts_any _ _ tx tx _ (row_own x_59.out) (row_own y_59.out)).mono ?_
    rintro e _ ⟨hx, kk, rfl⟩
    rw [decide_eq_true rfl] at hx
    subst hx
    obtain ⟨W63, hW63⟩ : ∃ W, W = W58.drewN kk := ⟨_, rfl⟩
    have l63 : Below W58.heap.size W58 W63 := by rw [hW63]; exact bdrewN _ _ _
    rw [← hW63]
    clear hW63
    have HB_64 := Lib.hid (HB_59.out.trans (l63.mono HB_59.out.size))
    have d_64 := Lib.hid (own_below d_59.out l63 (Nat.le_refl _))
    clear d_59
    have e_64 := Lib.hid (own_below e_59.out l63 (Nat.le_refl _))
    clear e_59
    have x_64 := Lib.hid (own_below x_59.out l63 (Nat.le_refl _))
    clear x_59
    have y_64 := Lib.hid (own_below y_59.out l63 (Nat.le_refl _))
    clear y_59
    have T16_64 := Lib.hid (T16_59.out.below l63 T16_59.out.lt)
    clear T16_59
    have T17_64 := Lib.hid (T17_59.out.below l63 T17_59.out.lt)
    clear T17_59
    clear HB_59
    clear hc0_T16_60 hc1_T16_60 hc2_T16_60
    obtain ⟨hc0_T16_65, hc1_T16_65, hc2_T16_65⟩ := T16_64.out.cells
    clear hc0_T17_61 hc1_T17_61 hc2_T17_61
    obtain ⟨hc0_T17_66, hc1_T17_66, hc2_T17_66⟩ := T17_64.out.cells
    clear l63
    clear y_64
    go_upto_if 127 with fail
    go_cut [] from 23 to 155 (fun wx => Hid (Below W63.heap.size W63 wx))
    case first => as_aux_lemma =>
      cases fine with
      | false =>
        have HZ := Lib.hid (Below.refl W63.heap.size W63)
        clear HF
        go_wp2_with fail
        go_meet
        case rel => exact HZ
      | true =>
        obtain ⟨e1, e2, h8, hst⟩ := HF.out rfl
        subst e1
        have HE1 := Lib.hid e2
        have HSt := Lib.hid hst
        clear HF e2 hst
        have HZ := Lib.hid (Below.refl W63.heap.size W63)
        obtain ⟨au, cu, hau, _, _, hcu⟩ := row_open (row_own x_64.out)
        injection hau with hau1 hau2 hau3
        clear hau2
        subst hau1
        subst hau3
        have HU := Lib.hid hcu
        clear hcu
        go_upto_region 26 with fail
        obtain ⟨W67, hW67⟩ : ∃ W67, W67 = W63.alloc (.cells #[.slice a_d d.q.length c_d, .string d.f, .int .i64 d.u] 26) := ⟨_, rfl⟩
        have l67 : Below W63.heap.size W63 W67 := by rw [hW67]; exact (Below.refl _ _).alloc (Nat.le_refl _) _
        have HX67 : Hid (Lq W67 W63.heap.size (.slice a_d d.q.length c_d) d.f d.u) := Lib.hid (by rw [hW67]; exact Lq.new _ _ _ _)
        have HWb67 : Hid (W63.heap.size < W67.heap.size) := Lib.hid (by rw [hW67, World.size_alloc]; exact Nat.lt_succ_self _)
        rw [← hW67]
        clear hW67
        obtain ⟨X_T23, hX_T23⟩ : ∃ X, X = W63.heap.size := ⟨_, rfl⟩
        rw [← hX_T23] at HX67 ⊢
        have HS67 : Hid (SR W63 W67 X_T23 (.slice a_d d.q.length c_d) d) := Lib.hid ⟨HX67.out, ⟨_, own_below d_64.out l67 (Nat.le_refl _)⟩, (Below.refl _ _).trans l67, hX_T23⟩
        clear hX_T23 l67
        clear hc0_T16_65 hc1_T16_65 hc2_T16_65 hc0_T17_66 hc1_T17_66 hc2_T17_66
        go_wp2_with fail
        go_loopw [24] (fun i wr => ∃ (k : Nat) (v' : Value), k ≤ d.q.length ∧ i = .int .i64 k ∧ Hid (SR W63 wr X_T23 v' (takeN d k))) (fun i _ => d.q.length - (RowKit.intOf i).toNat)
        case atStart => exact ⟨0, _, Nat.zero_le _, rfl, HS67⟩
        case round =>
          obtain ⟨k, v', hk, rfl, HS⟩ := hrel
          by_cases hkt : k < d.q.length
          · obtain ⟨b, off, rfl, hb, hc⟩ := HU.out k hkt
            obtain ⟨g1, g2, g3⟩ := HSt.out k hkt
            obtain ⟨s, hs⟩ : ∃ s, s = d.q[k] := ⟨_, rfl⟩
            rw [← hs] at hc g3
            obtain ⟨a6, c6, rfl⟩ := HS.out.some
            have HTk := Lib.hid (implTake_any (.slice a6 (takeN d k).q.length c6) (takeN d k) wr HS.out.row HS.out.fit)
            rw [g1, g2, g3] at HTk
            obtain ⟨L, hL⟩ : ∃ L, L = takeN d k := ⟨_, rfl⟩
            obtain ⟨L2, hL2⟩ : ∃ L2, L2 = takeN d (k + 1) := ⟨_, rfl⟩
            rw [← hL] at HS HTk
            rw [← hL2] at HTk
            have HL2 := Lib.hid hL2
            have HHc := Lib.hid hc
            have HHb := Lib.hid hb
            clear hs g1 g2 g3 hL hL2 hc hb
            obtain ⟨x0, x1, x2⟩ := HS.out.box.cells
            go_wp2_with fail
            refine HTk.out.mono ?_
            rintro e W6 ⟨v6, rfl, o6, l6⟩
            obtain ⟨a7, c7, rfl, _, _⟩ := own_someS0 o6
            have HS6 := Lib.hid (HS.out.step l6)
            have HO6 := Lib.hid o6
            have HBw : Hid (W63.heap.size < wr.heap.size) := Lib.hid (by have h1 := HS.out.box.lt; have h2 := HS.out.r; omega)
            clear o6 l6
            go_upto_region 30 with fail
            obtain ⟨W7, hW7⟩ : ∃ W7, W7 = W6.alloc (.cells #[.slice a7 L2.q.length c7, .string L2.f, .int .i64 L2.u] 26) := ⟨_, rfl⟩
            have l7 : Below W6.heap.size W6 W7 := by rw [hW7]; exact (Below.refl _ _).alloc (Nat.le_refl _) _
            have HX7 : Hid (Lq W7 W6.heap.size (.slice a7 L2.q.length c7) L2.f L2.u) := Lib.hid (by rw [hW7]; exact Lq.new W6 _ _ _)
            have HS7 := Lib.hid (HS6.out.step l7)
            have HO7 := Lib.hid (own_below HO6.out l7 (Nat.le_refl _))
            rw [← hW7]
            obtain ⟨X, hX⟩ : ∃ X, X = W6.heap.size := ⟨_, rfl⟩
            rw [← hX] at HX7 ⊢
            clear hW7 hX l7 HS6 HO6 x0 x1 x2
            obtain ⟨x0, x1, x2⟩ := HS7.out.box.cells
            obtain ⟨z0, z1, z2⟩ := HX7.out.cells
            have f0 := HS7.out.box.free 0
            have f1 := HS7.out.box.free 1
            have f2 := HS7.out.box.free 2
            have hcx := (HS7.out.bel.cell (p := ⟨b, off + k, none⟩) HHb.out).trans HHc.out
            go_wp2_with fail
            go_roundw
            case rel => exact ⟨k + 1, .slice a7 L2.q.length c7, by omega, by go_num, by rw [← HL2.out]; exact Lib.hid (HS7.out.put HO7.out HBw.out)⟩
            case measure => (simp [RowKit.intOf]; omega)
          · obtain rfl : k = d.q.length := by omega
            rw [HE1.out] at HS
            obtain ⟨a6, c6, rfl⟩ := HS.out.some
            obtain ⟨x0, x1, x2⟩ := HS.out.box.cells
            have HT17 := Lib.hid (T17_64.out.below HS.out.bel T17_64.out.lt)
            obtain ⟨y0, y1, y2⟩ := HT17.out.cells
            have HMr := Lib.hid (own_below e_64.out HS.out.bel (Nat.le_refl _))
            go_wp2_with fail
            refine (rLinks_same _ _ em _ HS.out.row (row_own HMr.out)).mono ?_
            rintro e W9 ⟨rfl, l9⟩
            have HB9 := Lib.hid (HS.out.bel.trans (l9.mono HS.out.bel.size))
            clear l9
            go_wp2_with fail
            go_meet
            case rel => exact HB9
    case rest => as_aux_lemma =>
      rename World => W68
      have l68 := hcut.out
      clear hcut HF hf2 hq2
      clear d_64
      clear e_64
      clear x_64
      clear T16_64 hc0_T16_65 hc1_T16_65 hc2_T16_65
      clear T17_64 hc0_T17_66 hc1_T17_66 hc2_T17_66
      have HB_69 := Lib.hid (HB_64.out.trans (l68.mono HB_64.out.size))
      clear HB_64
      clear l68
      go_wp2_with fail
      refine (HD3.out _ (HR.out.below HB_69.out (Nat.le_refl _))).mono ?_
      rintro e W70 ⟨v_c, c, rfl, o_c, hf3, hq3, l70⟩
      obtain ⟨a_c, c_c, rfl, _, _⟩ := own_someS0 o_c
      have O_c := Lib.hid o_c
      clear o_c
      have HB_71 := Lib.hid (HB_69.out.trans (l70.mono HB_69.out.size))
      clear HB_69
      clear l70
      clear HD3
      go_upto_region 36 with fail
      obtain ⟨W72, hW72⟩ : ∃ W72, W72 = W70.alloc (.cells #[.slice a_c c.q.length c_c, .string c.f, .int .i64 c.u] 26) := ⟨_, rfl⟩
      have l72 : Below W70.heap.size W70 W72 := by rw [hW72]; exact (Below.refl _ _).alloc (Nat.le_refl _) _
      have T28_b72 : Hid (Lq W72 W70.heap.size (.slice a_c c.q.length c_c) c.f c.u) := Lib.hid (by rw [hW72]; exact Lq.new _ _ _ _)
      rw [← hW72]
      clear hW72
      obtain ⟨X_T28, hX_T28⟩ : ∃ X, X = W70.heap.size := ⟨_, rfl⟩
      rw [← hX_T28] at T28_b72 ⊢
      clear hX_T28
      have HB_73 := Lib.hid (HB_71.out.trans (l72.mono HB_71.out.size))
      have c_73 := Lib.hid (own_below O_c.out l72 (Nat.le_refl _))
      clear O_c
      clear HB_71
      clear l72
      obtain ⟨hc0_T28_74, hc1_T28_74, hc2_T28_74⟩ := T28_b72.out.cells
      have HCi := Lib.hid (fun W h => implCount_any (.slice a_c c.q.length c_c) c W h)
      have HCs := Lib.hid (fun W h => specCount_any (.slice a_c c.q.length c_c) c W h (by omega))
      have HF := Lib.hid (@counts1 c)
      generalize cntV c = cs at HCi HCs HF
      generalize lkOk c = told at HCi HCs HF
      go_wp2_with fail
      refine (HCi.out _ (row_own c_73.out)).mono ?_
      rintro e W75 ⟨v_i, rfl, o_i, l75⟩
      obtain ⟨a_i, c_i, rfl, _, _⟩ := own_someS0 o_i
      have O_i := Lib.hid o_i
      clear o_i
      have HB_76 := Lib.hid (HB_73.out.trans (l75.mono HB_73.out.size))
      have c_76 := Lib.hid (own_below c_73.out l75 (Nat.le_refl _))
      clear c_73
      have T28_76 := Lib.hid (T28_b72.out.below l75 T28_b72.out.lt)
      clear T28_b72
      clear HB_73
      clear hc0_T28_74 hc1_T28_74 hc2_T28_74
      obtain ⟨hc0_T28_77, hc1_T28_77, hc2_T28_77⟩ := T28_76.out.cells
      clear l75
      clear HCi
      go_wp2_with fail
      refine (HCs.out _ (row_own c_76.out)).mono ?_
      rintro e W78 ⟨v_j, rfl, o_j, l78⟩
      obtain ⟨a_j, c_j, rfl, _, _⟩ := own_someS0 o_j
      have O_j := Lib.hid o_j
      clear o_j
      have HB_79 := Lib.hid (HB_76.out.trans (l78.mono HB_76.out.size))
      have c_79 := Lib.hid (own_below c_76.out l78 (Nat.le_refl _))
      clear c_76
      have i_79 := Lib.hid (own_below O_i.out l78 (Nat.le_refl _))
      clear O_i
      have T28_79 := Lib.hid (T28_76.out.below l78 T28_76.out.lt)
      clear T28_76
      clear HB_76
      clear hc0_T28_77 hc1_T28_77 hc2_T28_77
      obtain ⟨hc0_T28_80, hc1_T28_80, hc2_T28_80⟩ := T28_79.out.cells
      clear l78
      clear HCs
      go_upto_region 38 with fail
      cases told with
      | false =>
        clear HF
        have HI38 : Hid (∀ n, Calls Try.prog 41 #[(.slice a_i cs.length c_i), (.slice a_j cs.length c_j)] (W78.drewN n) fun e w' => e = .returned (.bool true) ∧ ∃ m, w' = (W78.drewN n).drewN m) := Lib.hid (fun n => (rInts_any _ _ cs cs _ ((row_own i_79.out).below (bdrewN _ _ _) (Nat.le_refl _)) ((row_own O_j.out).below (bdrewN _ _ _) (Nat.le_refl _))).mono fun e w' h => ⟨by rw [h.1, decide_eq_true rfl], h.2⟩)
        go_quiet (first | (go_at_call 41; refine Calls.quiet_of (HI38.out _)))
        go_wp2_with fail
        go_ret
        exact ⟨by simp, HB_79.out.trans (bdrewN _ _ _)⟩
      | true =>
        obtain ⟨e1, e2, e3, e4, e5⟩ := HF.out rfl
        clear HF
        have hw : IntKind.i64.wrap ((c.f.size : Int) - c.u) = sumI cs := by rw [← e1]; exact IntWalk.i64_in _ (by omega)
        have HI38 : Hid (∀ n, Calls Try.prog 41 #[(.slice a_i cs.length c_i), (.slice a_j cs.length c_j)] (W78.drewN n) fun e w' => e = .returned (.bool true) ∧ ∃ m, w' = (W78.drewN n).drewN m) := Lib.hid (fun n => (rInts_any _ _ cs cs _ ((row_own i_79.out).below (bdrewN _ _ _) (Nat.le_refl _)) ((row_own O_j.out).below (bdrewN _ _ _) (Nat.le_refl _))).mono fun e w' h => ⟨by rw [h.1, decide_eq_true rfl], h.2⟩)
        have HS38 : Hid (∀ n, Calls Try.prog 42 #[(.slice a_i cs.length c_i)] (W78.drewN n) fun e w' => e = .returned (.int .i64 (sumI cs)) ∧ w' = W78.drewN n) := Lib.hid (fun n => (rSum_any _ cs _ ((row_own i_79.out).below (bdrewN _ _ _) (Nat.le_refl _)) e5 e4).mono fun e w' h => ⟨h.1, h.2.symm⟩)
        clear e1 e2 e3 e4 e5
        go_quiet (first | (go_at_call 41; refine Calls.quiet_of (HI38.out _)) | (go_at_call 42; refine Calls.quiet_of_same (HS38.out _)))
        go_wp2_with fail
        go_ret
        exact ⟨by simp, HB_79.out.trans (bdrewN _ _ _)⟩
end Go.Proofs.Ytbhhmaialilabaa
