/-
  Receive windows: releases (the specification's).
-/
import Derived.Test.YtpmjdppipalfcaaRcv3
import Derived.Deep.QuietTactic
import Derived.BigQuiet
import Derived.IntWalk
import Derived.Deep.CutRange
import Derived.WalkLawsBesides
import Derived.Lib.SmallJoins
import Derived.Deep.RegionHeld3
namespace Go.Proofs.Ytpmjdppipalfcaa
open Go.RowKit Go.Lib Go.Joins
set_option linter.unusedVariables false

theorem isSlInfo : (Try.prog.info? 66).map (fun i => (i.zero, i.size, i.bytes)) = some (some (.agg #[.bool false, .string ⟨#[]⟩]), 2, 24) := infoSl
theorem ownz_lit {w : World} {g base z : Nat} {t : TypeId} (h : w.heap[g]? = some (.cells #[] t (0, 0))) (hb : base ≤ g) : w.ownsRow base t z (.slice (some ⟨g, 0, none⟩) 0 0) 0 [] :=
  ⟨by simp, .inr ⟨g, 0, #[], rfl, hb, h, Nat.le_refl _, Nat.zero_le _, by simp, by simp⟩⟩
theorem step_append_fitZ {P : Program} {w : World} {ops : Array Oper} {o : Oper} {a : Act} {K : Act → World → Prop} {Q : Exit → Act → World → Prop} {E : Prop} (hgd : o.guard = none) (s x : Operand) (t : TypeId)
    (ho : o.op = .call { callee := .builtin .append, args := #[s, x], argTypes := #[t, t] })
    (base : Nat) (e : TypeId) (i : TypeInfo) (z : Value) (sz bytes : Nat) (ht : P.underlying t = some (.slice e)) (hi : P.info? e = some i) (hz : i.zero = some z)
    (hsize : i.size = sz) (hby : i.bytes = bytes) (hzs : z.cells.size = sz) (hsz : 0 < sz)
    (v : Value) (n : Nat) (xs : List Value) (hs : a.eval s = v) (hown : w.ownsRow base e sz v n xs)
    (vx : Value) (m : Nat) (ys : List Value) (hx : a.eval x = vx) (hfit : Fit vx m) (hrow : Row w vx m ys) (hl : ys.length = m * sz) (h1 : ∀ u ∈ ys, u.oneCell' = true)
    (h63 : n + m ≤ maxLen) (hbytes : (n + m) * bytes ≤ 140737488355328) (hbase : base ≤ w.heap.size)
    (h : ∀ v' w', w'.ownsRow base e sz v' (n + m) (xs ++ ys) → w.grownBy w' v.ownBlock → (v'.ownBlock = v.ownBlock ∨ v'.ownBlock = some w.heap.size) → K (a.put o.dst v') w') :
    if Region.wanted o (yielded ops a.tmps) = true then Oper.wp P o a w K Q else E := by
  rcases hfit with ⟨rfl, rfl⟩ | ⟨ad, c, rfl⟩
  · have hy : ys = [] := List.eq_nil_of_length_eq_zero (by omega)
    subst hy
    have hw : Region.wanted o (yielded ops a.tmps) = true := by simp [Region.wanted, hgd]
    rw [if_pos hw]
    have hr := run_append_owned_none (P := P) (w := w) base t o.type e i sz ht hi v n xs hown
    unfold Oper.wp execOp
    simp only [ho, resolve, invoke, builtin, Sem.run_bind, Sem.run_pure, Result.andThen_ok, List.map_toArray, List.map_cons, List.map_nil, hs, hx, hr]
    exact h v w (by rw [List.append_nil]; exact hown) (World.grownBy.refl w _) (.inl rfl)
  · exact step_append_rowz hgd s x t ho base e i z sz bytes ht hi hz hsize hby hzs hsz v n xs hs hown ad m c ys hx hrow hl h1 h63 hbytes hbase h
def sLen (v : Value) : Nat := match v with | .slice _ n _ => n | _ => 0
/-- The loop of a release: i items are released. -/
structure RelI (W0 wr : World) (R B : Nat) (x : Int) (q : List Sl) (i : Nat) (aS : Option Addr) (cS : Nat) (u : Value) : Prop where
  le : i ≤ relN q
  bx : Bx wr R #[.int .i64 (aftI x i), .slice aS (q.drop i).length cS] 26
  row : Row wr (.slice aS (q.drop i).length cS) (q.drop i).length (slF (q.drop i))
  apart : ∀ k, (Value.slice aS (q.drop i).length cS).ownBlock = some k → W0.heap.size ≤ k ∧ k ≠ R
  ev : wr.ownsRow B 9 1 u i (((relE q).take i).map Value.string)
  evA : ∀ k, u.ownBlock = some k → k ≠ R ∧ (Value.slice aS (q.drop i).length cS).ownBlock ≠ some k
  bel : Below W0.heap.size W0 wr
  sz : B ≤ wr.heap.size
theorem row_kept {w w' : World} {a : Option Addr} {n c m : Nat} {xs : List Value} {o : Option Nat} (h : Row w (.slice a n c) m xs) (hg : w.grownBy w' o) (hne : ∀ k, (Value.slice a n c).ownBlock = some k → o ≠ some k) : Row w' (.slice a n c) m xs := by
  obtain ⟨a1, c1, e, h1, h2, h3⟩ := h
  injection e with e1 e2 e3
  subst e1 e2 e3
  refine ⟨_, _, rfl, h1, h2, fun hx => ?_⟩
  obtain ⟨b, off, rfl, hlt, hc⟩ := h3 hx
  exact ⟨b, off, rfl, Nat.lt_of_lt_of_le hlt hg.size, fun i hi => (hg.cell (hc i hi) (fun e => hne b rfl e.symm))⟩
theorem rel_end {q : List Sl} {i : Nat} (h : i ≤ relN q) (hh : hasQ q i = false) : i = relN q := by
  rcases Nat.lt_or_ge i (relN q) with h1 | h1
  · rw [(rel_lt q i h1).1] at hh; cases hh
  · omega
theorem rel_more {q : List Sl} {i : Nat} (h : i ≤ relN q) (hh : hasQ q i = true) : i < relN q := by
  rcases Nat.lt_or_ge i (relN q) with h1 | h1
  · exact h1
  · rw [show i = relN q by omega, rel_at] at hh; cases hh
theorem rel_take {q : List Sl} {i : Nat} (h : i < relN q) : (relE q).take (i + 1) = (relE q).take i ++ [⟨#[43]⟩ ++ itmQ q i] := by
  obtain ⟨_, h2⟩ := rel_lt q i h
  obtain ⟨h3, h4⟩ := List.getElem?_eq_some_iff.1 h2
  rw [List.take_succ_eq_append_getElem h3, h4]
theorem tail_zero {w : World} {b off m cS : Nat} {r : List Sl} (hc : cS = 1) (hm : m = r.length + 1) (hmc : m ≤ cS) : Row w (.slice (some ⟨b, off, none⟩) (m - 1) (cS - 1)) (m - 1) (slF r) := by
  have h0 : r.length = 0 := by omega
  obtain rfl := List.eq_nil_of_length_eq_zero h0
  subst hc
  have : m = 1 := hm
  subst this
  exact row_none w _ _ (by unfold maxLen; omega)
theorem tail_two {w : World} {b off m cS : Nat} {t : Sl} {r : List Sl} (h : Row w (.slice (some ⟨b, off, none⟩) (t :: r).length cS) (t :: r).length (slF (t :: r))) (hm : m = r.length + 1) : Row w (.slice (some ⟨b, off + 2, none⟩) (m - 1) (cS - 1)) (m - 1) (slF r) := by
  have e : m = (t :: r).length := hm
  rw [← e] at h
  obtain ⟨a', cap', e1, h1, h2, h3⟩ := h
  injection e1 with e2 _ e3
  subst e2 e3
  refine ⟨_, _, rfl, by omega, by omega, fun hx => ?_⟩
  obtain ⟨b', off', e, hb, hc⟩ := h3 (by unfold slF; rw [flat_cons]; simp [slC])
  injection e with e
  injection e with e1 e2
  subst e1 e2
  refine ⟨b, off + 2, rfl, hb, fun i hi => ?_⟩
  have hl : (slF (t :: r)).length = (slF r).length + 2 := by rw [slF_len, slF_len, List.length_cons]; omega
  rw [Nat.add_assoc, hc (2 + i) (by omega)]
  congr 1
  have : slF (t :: r) = slC t ++ slF r := flat_cons slC t r
  simp only [this]
  rw [List.getElem_append_right (by rw [slC_len]; omega)]
  congr 1
  rw [slC_len]; omega
theorem rel_step {W0 wr w3 : World} {R B i b off o2 m cS : Nat} {x : Int} {q r : List Sl} {t : Sl} {u v3 : Value} {o : Obj} (HI : RelI W0 wr R B x q i (some ⟨b, off, none⟩) cS u) (hd : q.drop i = t :: r) (hm : m = r.length + 1) (hr : i < relN q) (hx : i ≤ 1000)
    (hs : itmQ q i = t.s) (hB : W0.heap.size ≤ B) (hR : W0.heap.size ≤ R) (hb : b < wr.heap.size)
    (hown : w3.ownsRow B 9 1 v3 (i + 1) (((relE q).take i).map Value.string ++ [.string (⟨#[43]⟩ ++ t.s)])) (hgr : (wr.alloc o).grownBy w3 u.ownBlock)
    (hat : v3.ownBlock = u.ownBlock ∨ v3.ownBlock = some (wr.alloc o).heap.size) (hrow : Row w3 (.slice (some ⟨b, o2, none⟩) (m - 1) (cS - 1)) (m - 1) (slF r)) :
    RelI W0 ((w3.setCell ⟨R, 0, none⟩ (.int .i64 (aftI (aftI x i) 1))).setCell ⟨R, 1, none⟩ (.slice (some ⟨b, o2, none⟩) (m - 1) (cS - 1))).drew R B x q (i + 1) (some ⟨b, o2, none⟩) (cS - 1) v3 := by
  have hd2 : q.drop (i + 1) = r := by rw [← List.drop_drop, hd]; rfl
  have hrl : m - 1 = r.length := by omega
  have hap := HI.apart b rfl
  have hbx := (HI.bx.alloc o).grown hgr (fun e => (HI.evA R e.symm).1 rfl)
  obtain ⟨p1, q1⟩ := hbx.store2 (.int .i64 (aftI (aftI x i) 1)) (.slice (some ⟨b, o2, none⟩) (m - 1) (cS - 1))
  have hne : ∀ k, v3.ownBlock = some k → k ≠ R ∧ k ≠ b := by
    intro k hk
    rcases hat with e | e
    · rw [e] at hk
      exact ⟨(HI.evA k hk).1, fun e2 => (HI.evA k hk).2 (by rw [e2]; rfl)⟩
    · rw [e] at hk
      have e2 : wr.heap.size + 1 = k := by have e3 := Option.some.inj hk; simpa using e3
      have := HI.bx.lt
      omega
  have hbel : Below W0.heap.size W0 w3 := (HI.bel.alloc HI.bel.size o).grown hgr (by have := HI.bel.size; simp; omega) (fun k hk => Nat.le_trans hB (HI.ev.lt k hk).1)
  refine ⟨hr, ?_, ?_, ?_, ?_, ?_, ?_, ?_⟩
  · rw [hd2, ← hrl, show ((i + 1 : Nat) : Int) = (i : Int) + 1 by omega, ← aft_aft x (a := i) (b := 1) (by omega) (by omega)]
    exact p1.drew
  · rw [hd2, ← hrl]
    exact (row_kept hrow q1 (fun k hk e => by have e2 : b = k := Option.some.inj hk; have e3 : R = k := Option.some.inj e; omega)).below ((Below.refl _ _).drew) (Nat.le_refl _)
  · intro k hk
    have e2 : b = k := Option.some.inj hk
    rw [← e2]
    exact hap
  · rw [rel_take hr, hs, List.map_append]
    refine ownz_none (hown.kept q1 ?_) (grown_drew1 _)
    cases hv : v3.ownBlock with
    | none => exact .inl rfl
    | some k => exact .inr (fun e => (hne k hv).1 (Option.some.inj e))
  · intro k hk
    exact ⟨(hne k hk).1, fun e => (hne k hk).2 (Option.some.inj e).symm⟩
  · exact (hbel.grown q1 hbel.size (fun k hk => by have e2 : R = k := Option.some.inj hk; omega)).drew
  · have h1 := hgr.size
    have h2 := q1.size
    have h3 := HI.sz
    simp at h1
    simp only [World.drew] at *
    omega
theorem not_lit {w : World} {R : Nat} (h : R < w.heap.size) : some R ≠ (Value.slice (some ⟨w.heap.size, 0, none⟩) 0 0).ownBlock := fun e => by have e2 : R = w.heap.size := Option.some.inj e; omega
set_option maxRecDepth 100000 in
set_option maxHeartbeats 8000000 in
theorem l10Release_any (v : Value) (l : Rw) (w : World) (hrow : Row w v l.q.length (slF l.q)) (hfit : Fit v l.q.length) (hx : 0 ≤ l.x ∧ l.x ≤ 65535) (hl : l.q.length ≤ 1000) (hs : ∀ s ∈ l.q, s.s.size ≤ 8) :
    Calls Try.prog 76 #[.agg #[.int .i64 l.x, v]] w fun e w' => ∃ v' u', e = .returned (.tuple #[.agg #[.int .i64 (relW l).x, v'], u']) ∧ Row w' v' (relW l).q.length (slF (relW l).q) ∧ w'.ownsRow w.heap.size 9 1 u' (relE l.q).length ((relE l.q).map Value.string) ∧ (∀ k, v'.ownBlock = some k → w.heap.size ≤ k) ∧ Below w.heap.size w w' := by
  obtain ⟨i0, hi, hz0, hz1, hz2⟩ := info_parts infoSl
  obtain ⟨i1, hi1, hy0, hy1, hy2⟩ := info_parts infoStr
  have HFit := Lib.hid hfit
  clear hfit
  obtain ⟨x, q⟩ := l
  dsimp only at hrow HFit hx hl hs ⊢
  obtain ⟨a, cap, rfl, hc1, hm1, _⟩ := sl_open hrow
  unfold maxLen at hm1
  have HP := Lib.hid hrow
  have HS := Lib.hid hs
  clear hrow hs
  obtain ⟨W0, R_T, R_A, hW0, hR_T, hR_A, hX_T, hX_A, hB0⟩ := entry2 w #[.int .i64 x, .slice a q.length cap] #[.int .i64 0, .slice none 0 0] 26 26
  have HW0 := Lib.hid hW0
  have HB0 := Lib.hid hB0
  have HR_T := Lib.hid hR_T
  have HX_T := Lib.hid hX_T
  have HR_A := Lib.hid hR_A
  have HX_A := Lib.hid hX_A
  clear hW0 hB0 hR_T hX_T hR_A hX_A
  have c1_T_0 := HX_T.out.at 0 (v := .int .i64 x) rfl
  have c1_T_1 := HX_T.out.at 1 (v := .slice a q.length cap) rfl
  have c2_A_0 := HX_A.out.at 0 (v := .int .i64 0) rfl
  have c2_A_1 := HX_A.out.at 1 (v := .slice none 0 0) rfl
  go_enter Try.func76, Try.ntmps76
  go_upto_region 1 with fail
  rw [← HW0.out, ← HR_A.out, ← HR_T.out]
  go_upto_region 1 with fail
  go_cut [4] from 6 to 12 (fun p wx => ∃ X v', p = .pointer (some ⟨X, 0, none⟩) ∧ Hid (Bx wx X #[.int .i64 x, v'] 26) ∧ Hid (wx.ownsRow W0.heap.size 66 2 v' q.length (slF q)) ∧ Hid (∀ k, v'.ownBlock = some k → k ≠ X) ∧ Hid (Below W0.heap.size W0 wx) ∧ Hid (W0.heap.size ≤ X))
  case first => as_aux_lemma =>
    have HK1 := Lib.hid (fun (w' : World) (hb : Below W0.heap.size W0 w') => (show w'.cell? ⟨R_T, 0, none⟩ = some (.int .i64 x) ∧ w'.cell? ⟨R_T, 1, none⟩ = some (.slice a q.length cap) ∧ Below w.heap.size w w' from ⟨(hb.cell (p := ⟨R_T, 0, none⟩) HX_T.out.lt).trans (HX_T.out.at 0 (v := .int .i64 x) rfl), (hb.cell (p := ⟨R_T, 1, none⟩) HX_T.out.lt).trans (HX_T.out.at 1 (v := .slice a q.length cap) rfl), HB0.out.trans (hb.mono HB0.out.size)⟩))
    have HKx := Lib.hid (fun (w' w9 : World) (X : Nat) (hb : Below W0.heap.size W0 w') (hX : W0.heap.size ≤ X) (hg : w'.grownBy w9 (some X)) => (show (w9).cell? ⟨R_T, 0, none⟩ = some (.int .i64 x) ∧ (w9).cell? ⟨R_T, 1, none⟩ = some (.slice a q.length cap) ∧ Below w.heap.size w (w9) from HK1.out w9 (hb.grown hg hb.size (fun k hk => by have e2 : X = k := Option.some.inj hk; omega))))
    have tokA : True := trivial
    go_region_held3 (fun w' => w'.cell? ⟨R_T, 0, none⟩ = some (.int .i64 x) ∧ w'.cell? ⟨R_T, 1, none⟩ = some (.slice a q.length cap) ∧ Below w.heap.size w w')
      ((first | (with_reducible refine HK1.out _ ?_; (repeat (first | with_reducible assumption | with_reducible exact Below.refl _ _ | with_reducible refine Below.drew ?_ | with_reducible refine below_alloc' ?_)); done) | (refine HKx.out _ _ _ hb6 ?_ (hXa.store2 _ _).2; first | exact Nat.le_refl _ | exact hb6.size | omega)))
      (first | (have _t := tokA; refine step_append_fitZ (by rfl) _ _ _ (by rfl) W0.heap.size 66 i0 (.agg #[.bool false, .string ⟨#[]⟩]) 2 24 Try.underlying24 hi hz0 hz1 hz2 rfl (by decide) _ 0 [] (by rfl) (ownz_lit (by first | exact heap_alloc_new _ _ | exact heap_new_drew _ _ | exact heap_first _ _ _ | exact heap_second _ _ _) (by simp)) _ q.length (slF q) (by rfl) HFit.out ((HP.out.below HB0.out (Nat.le_refl _)).below (by repeat (first | with_reducible assumption | with_reducible exact Below.refl _ _ | with_reducible refine Below.drew ?_ | with_reducible refine below_alloc' ?_) : Below W0.heap.size W0 _) (Nat.le_refl _)) (slF_len q) (slF_one q) (by unfold maxLen; omega) (by omega) (below_size' (by repeat (first | with_reducible assumption | with_reducible exact Below.refl _ _ | with_reducible refine Below.drew ?_ | with_reducible refine below_alloc' ?_) : Below W0.heap.size W0 _)) ?_; intro v2 w6 hown2 hgrow2 hat2; obtain ⟨a2, c2, rfl, hcc2, hcm2⟩ := ownz_slice hown2; rw [Nat.zero_add, List.nil_append] at hown2; rw [Nat.zero_add] at hat2; have hb6 : Below W0.heap.size W0 w6 := below_grown (by repeat (first | assumption | exact Below.refl _ _ | refine Below.drew ?_ | refine below_alloc' ?_)) hgrow2 (fun q hq => lit_block (by simp) hq); (first | have hXa : Bx w6 (W0.heap.size + 1) #[.int .i64 0, .slice none 0 0] 26 := Bx.grown (show Bx ((W0.alloc (.cells #[] 66)).alloc (.cells #[.int .i64 0, .slice none 0 0] 26)).drew (W0.heap.size + 1) #[.int .i64 0, .slice none 0 0] 26 from heap_second W0 _ _) hgrow2 (fun e => by have e2 : W0.heap.size + 1 = W0.heap.size := Option.some.inj e; omega) | have hXa : Bx w6 W0.heap.size #[.int .i64 0, .slice none 0 0] 26 := Bx.grown (show Bx ((W0.alloc (.cells #[.int .i64 0, .slice none 0 0] 26)).alloc (.cells #[] 66)).drew W0.heap.size #[.int .i64 0, .slice none 0 0] 26 from heap_first W0 _ _) hgrow2 (fun e => by have e2 : W0.heap.size = W0.heap.size + 1 := Option.some.inj e; omega) | skip); (first | have hNe : ∀ k, (Value.slice a2 q.length c2).ownBlock = some k → k ≠ W0.heap.size + 1 := (fun k h1 h2 => by rcases hat2 with e | e; (have e2 : W0.heap.size = k := Option.some.inj (e.symm.trans h1); omega); (have e2 := Option.some.inj (e.symm.trans h1); simp at e2; omega)) | have hNe : ∀ k, (Value.slice a2 q.length c2).ownBlock = some k → k ≠ W0.heap.size := (fun k h1 h2 => by rcases hat2 with e | e; (have e2 : W0.heap.size + 1 = k := Option.some.inj (e.symm.trans h1); omega); (have e2 := Option.some.inj (e.symm.trans h1); simp at e2; omega)) | skip); clear hat2; (try have y0 := hXa.at 0 (v := .int .i64 0) rfl); (try have y1 := hXa.at 1 (v := .slice none 0 0) rfl); (try have f0 := hXa.free 0); (try have f1 := hXa.free 1); clear tokA _t))
    all_goals go_wp2_with fail
    all_goals go_meet
    all_goals
      case rel => first
        | with_reducible exact ⟨_, _, rfl, Lib.hid (Bx.new _ _ _), Lib.hid (ownz_none hown2 (World.grownBy_alloc _ _ none)), Lib.hid (fun k h1 h2 => by have := (hown2.lt k h1).2; omega), Lib.hid (below_alloc' hb6), Lib.hid hb6.size⟩
        | exact ⟨_, _, rfl, Lib.hid (hXa.store2 _ _).1, Lib.hid (hown2.kept (hXa.store2 _ _).2 (by
            cases hv : (Value.slice a2 q.length c2).ownBlock with
            | none => exact .inl rfl
            | some k => exact .inr (fun e => hNe k hv (Option.some.inj e)))), Lib.hid hNe, Lib.hid (hb6.grown (hXa.store2 _ _).2 hb6.size (fun k hk => by have e2 := Option.some.inj hk; omega)), Lib.hid (by omega)⟩
  case rest =>
    obtain ⟨R_O, v_O, rfl, HX_O, HO_O, HNE_O, HCut, HG0_O⟩ := hcut
    rename World => W3
    have l3 := HCut.out
    have HCutB := HCut
    clear HCut
    obtain ⟨a_O, c_O, rfl, _, _⟩ := ownz_slice HO_O.out
    have HN_O_T : Hid (R_T < R_O) := Lib.hid (Nat.lt_of_lt_of_le HX_T.out.lt HG0_O.out)
    have HN_O_A : Hid (R_A < R_O) := Lib.hid (Nat.lt_of_lt_of_le HX_A.out.lt HG0_O.out)
    have HG_O : Hid (w.heap.size ≤ R_O) := Lib.hid (Nat.le_trans HB0.out.size HG0_O.out)
    clear c1_T_0 c1_T_1
    clear c2_A_0 c2_A_1
    have HB_4 := Lib.hid (HB0.out.trans (l3.mono HB0.out.size))
    have T_4 := Lib.hid (HX_T.out.below l3 HX_T.out.lt)
    have A_4 := Lib.hid (HX_A.out.below l3 HX_A.out.lt)
    clear l3
    have c5_T_0 := T_4.out.at 0 (v := .int .i64 x) rfl
    have c5_T_1 := T_4.out.at 1 (v := .slice a q.length cap) rfl
    have c6_A_0 := A_4.out.at 0 (v := .int .i64 0) rfl
    have c6_A_1 := A_4.out.at 1 (v := .slice none 0 0) rfl
    have c7_O_0 := HX_O.out.at 0 (v := .int .i64 x) rfl
    have c7_O_1 := HX_O.out.at 1 (v := .slice a_O q.length c_O) rfl
    go_upto_region 3 with fail
    have lL : Below W3.heap.size W3 (W3.alloc (.cells #[] 9)) := (Below.refl _ _).alloc (Nat.le_refl _) _
    have hol := own_lit (heap_alloc_new W3 (.cells #[] 9)) (Nat.le_refl W3.heap.size)
    obtain ⟨WL, hWL⟩ : ∃ W9, W9 = W3.alloc (.cells #[] 9) := ⟨_, rfl⟩
    rw [← hWL] at lL hol ⊢
    clear hWL
    have hr0 := (rowz_own HO_O.out).below lL (Nat.le_refl _)
    have hx0 := HX_O.out.below lL HX_O.out.lt
    have HI0 : Hid (RelI W0 WL R_O W3.heap.size x q 0 a_O c_O (.slice (some ⟨W3.heap.size, 0, none⟩) 0 0)) := Lib.hid (by
      refine ⟨Nat.zero_le _, ?_, ?_, ?_, hol, ?_, ?_, ?_⟩
      · rw [show ((0 : Nat) : Int) = 0 from rfl, aft_zero9 hx]; exact hx0
      · exact hr0
      · exact fun k hk => ⟨(HO_O.out.lt k hk).1, HNE_O.out k hk⟩
      · intro k hk
        have e : W3.heap.size = k := Option.some.inj hk
        refine ⟨by have := HX_O.out.lt; omega, fun h => ?_⟩
        have := (HO_O.out.lt k h).2
        omega
      · exact HCutB.out.trans (lL.mono HCutB.out.size)
      · exact lL.size)
    clear hol hr0 hx0
    clear c5_T_0 c5_T_1
    clear c6_A_0 c6_A_1
    clear c7_O_0 c7_O_1
    have HB_8 := Lib.hid (HB_4.out.trans (lL.mono HB_4.out.size))
    have T_8 := Lib.hid (T_4.out.below lL T_4.out.lt)
    clear T_4
    have A_8 := Lib.hid (A_4.out.below lL A_4.out.lt)
    clear A_4
    have O_8 := Lib.hid (HX_O.out.below lL HX_O.out.lt)
    clear HX_O
    clear lL
    have c9_T_0 := T_8.out.at 0 (v := .int .i64 x) rfl
    have c9_T_1 := T_8.out.at 1 (v := .slice a q.length cap) rfl
    have c10_A_0 := A_8.out.at 0 (v := .int .i64 0) rfl
    have c10_A_1 := A_8.out.at 1 (v := .slice none 0 0) rfl
    have c11_O_0 := O_8.out.at 0 (v := .int .i64 x) rfl
    have c11_O_1 := O_8.out.at 1 (v := .slice a_O q.length c_O) rfl
    go_wp2_with fail
    go_loopw [5] (fun u wr => ∃ (i : Nat) (aS : Option Addr) (cS : Nat), sLen u = i ∧ Hid (RelI W0 wr R_O W3.heap.size x q i aS cS u)) (fun u _ => q.length + 1 - sLen u)
    case atStart => exact ⟨0, a_O, c_O, rfl, HI0⟩
    case round =>
      clear c9_T_0 c9_T_1
      clear c10_A_0 c10_A_1
      clear c11_O_0 c11_O_1
      obtain ⟨i, aS, cS, hsl, HI⟩ := hrel
      have t0 := HI.out.bx.at 0 (v := .int .i64 (aftI x i)) rfl
      have t1 := HI.out.bx.at 1 (v := .slice aS (q.drop i).length cS) rfl
      have hh := has_drop q i 0
      rw [Nat.add_zero] at hh
      have hit := itm_drop q i 0
      rw [Nat.add_zero] at hit
      have hdl : (q.drop i).length = q.length - i := List.length_drop
      have HRow := Lib.hid HI.out.row
      generalize hd : q.drop i = s at t1 hh hit hdl HRow
      cases s with
      | nil =>
        have hE := rel_end HI.out.le hh.symm
        have hA := HX_A.out.below HI.out.bel HX_A.out.lt
        have fA0 := hA.free 0
        have fA1 := hA.free 1
        have zA0 := hA.at 0 (v := .int .i64 0) rfl
        have zA1 := hA.at 1 (v := .slice none 0 0) rfl
        have hW : relW ⟨x, q⟩ = ⟨aftI x i, q.drop i⟩ := by unfold relW; rw [rel_drop, ← hE]
        have hL : (relE q).length = i := by rw [relE_len]; exact hE.symm
        have HW2 := Lib.hid hW
        have HL2 := Lib.hid hL
        have HA := Lib.hid hA
        have HD := Lib.hid hd
        clear hE hW hL hA hd hh hit
        (try dsimp only [List.length_nil] at t1)
        go_wp2_with fail
        obtain ⟨p1, q1⟩ := HA.out.store2 (.int .i64 (aftI x i)) (.slice aS 0 cS)
        refine bodyPost_ret (results_bx1 rfl isRw _ _ R_A rfl rfl rfl p1) rfl ?_
        rw [HW2.out, HL2.out]
        refine ⟨_, _, rfl, ?_, ?_, ?_, ?_⟩
        · have hr := row_kept HI.out.row q1 (fun k hk e => by have e2 : R_A = k := Option.some.inj e; have h1 := (HI.out.apart k hk).1; have h2 := HX_A.out.lt; omega)
          rw [HD.out] at hr ⊢
          exact hr
        · have ho := HI.out.ev.kept q1 (by
            cases hv : u5.ownBlock with
            | none => exact .inl rfl
            | some k => exact .inr (fun e => by have e2 : k = R_A := Option.some.inj e; have h1 := (HI.out.ev.lt k hv).1; have h2 := HX_A.out.lt; have h3 := HCutB.out.size; omega))
          rw [List.take_of_length_le (by rw [HL2.out]; exact Nat.le_refl _)] at ho
          exact own_base ho (Nat.le_trans HB0.out.size HCutB.out.size)
        · exact fun k hk => Nat.le_trans HB0.out.size (HI.out.apart k (by first | exact hk | (rw [HD.out]; exact hk))).1
        · exact (HB0.out.trans (HI.out.bel.mono HB0.out.size)).grown q1 (HB0.out.trans (HI.out.bel.mono HB0.out.size)).size (fun k hk => by have e2 : R_A = k := Option.some.inj hk; have := HR_A.out; omega)
      | cons t r =>
        obtain ⟨b, off, rfl, hb, e0, e1⟩ := row_sl (k := 0) HRow.out (by simp)
        rw [Nat.zero_mul, Nat.add_zero] at e0 e1
        have hts : (t :: r)[0] = t := rfl
        rw [hts] at e0 e1
        have hH : hasQ (t :: r) 0 = t.h := rfl
        have hI : itmQ (t :: r) 0 = t.s := rfl
        rw [hH] at hh
        rw [hI] at hit
        have hts8 : t.s.size ≤ 8 := HS.out t (List.mem_of_mem_drop (by rw [hd]; exact List.mem_cons_self))
        clear hts hH hI
        obtain ⟨th, ts⟩ := t
        dsimp only at e0 e1 hh hit hts8
        dsimp only [List.length_cons] at t1 hdl
        obtain ⟨hcS, hmS⟩ : r.length + 1 ≤ cS ∧ cS ≤ maxLen := by
          obtain ⟨_, c9, e9, k1, k2, _⟩ := sl_open HRow.out
          injection e9 with _ _ e9
          rw [e9]
          exact ⟨k1, k2⟩
        unfold maxLen at hmS
        have HDL := Lib.hid hdl
        clear hdl
        obtain ⟨m, hm0⟩ : ∃ m, m = r.length + 1 := ⟨_, rfl⟩
        rw [← hm0] at t1 hcS
        have hm1' : 1 ≤ m := by omega
        have HM0 := Lib.hid hm0
        clear hm0
        have i1' : (1 : Int) ≤ (m : Int) := by omega
        have i2' : (m : Int) ≤ (cS : Int) := by omega
        have i3' : (0 : Int) < (m : Int) := by omega
        have i8' : (1 : Int) ≤ (cS : Int) := by omega
        have i9' : 1 ≤ cS := by omega
        cases th with
        | false =>
          have hE := rel_end HI.out.le hh.symm
          have hA := HX_A.out.below HI.out.bel HX_A.out.lt
          have fA0 := hA.free 0
          have fA1 := hA.free 1
          have zA0 := hA.at 0 (v := .int .i64 0) rfl
          have zA1 := hA.at 1 (v := .slice none 0 0) rfl
          have hW : relW ⟨x, q⟩ = ⟨aftI x i, q.drop i⟩ := by unfold relW; rw [rel_drop, ← hE]
          have hL : (relE q).length = i := by rw [relE_len]; exact hE.symm
          have HW2 := Lib.hid hW
          have HL2 := Lib.hid hL
          have HA := Lib.hid hA
          have HD := Lib.hid hd
          clear hE hW hL hA hd hh hit
          (try dsimp only [List.length_nil] at t1)
          go_wp2_with fail
          obtain ⟨p1, q1⟩ := HA.out.store2 (.int .i64 (aftI x i)) (.slice (some ⟨b, off, none⟩) m cS)
          refine bodyPost_ret (results_bx1 rfl isRw _ _ R_A rfl rfl rfl p1) rfl ?_
          rw [HW2.out, HL2.out]
          refine ⟨_, _, rfl, ?_, ?_, ?_, ?_⟩
          · have hr := row_kept HI.out.row q1 (fun k hk e => by have e2 : R_A = k := Option.some.inj e; have h1 := (HI.out.apart k hk).1; have h2 := HX_A.out.lt; omega)
            rw [HD.out] at hr ⊢
            rw [List.length_cons, ← HM0.out] at hr ⊢
            exact hr
          · have ho := HI.out.ev.kept q1 (by
              cases hv : u5.ownBlock with
              | none => exact .inl rfl
              | some k => exact .inr (fun e => by have e2 : k = R_A := Option.some.inj e; have h1 := (HI.out.ev.lt k hv).1; have h2 := HX_A.out.lt; have h3 := HCutB.out.size; omega))
            rw [List.take_of_length_le (by rw [HL2.out]; exact Nat.le_refl _)] at ho
            exact own_base ho (Nat.le_trans HB0.out.size HCutB.out.size)
          · exact fun k hk => Nat.le_trans HB0.out.size (HI.out.apart k (by first | exact hk | (rw [HD.out]; exact hk))).1
          · exact (HB0.out.trans (HI.out.bel.mono HB0.out.size)).grown q1 (HB0.out.trans (HI.out.bel.mono HB0.out.size)).size (fun k hk => by have e2 : R_A = k := Option.some.inj hk; have := HR_A.out; omega)
        | true =>
          have hm := rel_more HI.out.le hh.symm
          have hT := rel_take hm
          rw [← hit] at hT
          have HT := Lib.hid hT
          have hrl := relN_le q
          have hib : i ≤ 1000 := by omega
          have hsz := HI.out.sz
          have HIt := Lib.hid hit.symm
          clear hT hrl hh hit
          have HC := Lib.hid (fun (W1 : World) => l2After_any (aftI x i) 1 W1 (aftI_bd x i).1 (aftI_bd x i).2 (by omega) (by omega))
          obtain ⟨aU, cU, rfl, _, _⟩ := own_someS0 HI.out.ev
          have HRk := Lib.hid (fun (w3 : World) (o : Obj) (hg : (wr.alloc o).grownBy w3 (Value.slice aU i cU).ownBlock) => row_kept (HRow.out.below (b_a (Below.refl wr.heap.size wr) o) (Nat.le_refl _)) hg (fun k hk e => by have h1 := (HI.out.evA k e).2; rw [hd] at h1; exact h1 hk))
          go_upto_region 5 with (at_builtin; refine wpList_append_own_at _ rfl _ _ 29 rfl W3.heap.size 9 i1 (.string ⟨#[]⟩) 1 16 Try.underlying29 hi1 hy0 hy1 hy2 rfl (by decide) _ i (((relE q).take i).map Value.string) rfl (ownz_none HI.out.ev (World.grownBy_alloc _ _ none)) ⟨wr.heap.size, 0, none⟩ 1 1 [.string (⟨#[43]⟩ ++ ts)] rfl rfl (cell_one_new _ _ _) (by intro u hu; simp at hu; subst hu; rfl) (by unfold maxLen; omega) (by omega) (by simp; omega) ?_; intro v3 w3 hown3 hgrow3 hnil3 hat3; have hBx := (HI.out.bx.alloc (.cells #[.string (⟨#[43]⟩ ++ ts)] 9)).grown hgrow3 (fun e => (HI.out.evA R_O e.symm).1 rfl); have o0 := hBx.at 0 (v := .int .i64 (aftI x i)) rfl; have o1 := hBx.at 1 (v := .slice (some ⟨b, off, none⟩) (q.drop i).length cS) rfl; have fo0 := hBx.free 0; have fo1 := hBx.free 1; clear hnil3; obtain ⟨a3, c3, rfl, _, _⟩ := own_someS0 hown3)
          have HBx := Lib.hid hBx
          have HOw := Lib.hid hown3
          have HGr := Lib.hid hgrow3
          have HAt := Lib.hid hat3
          have HR3 := Lib.hid (HRk.out _ _ hgrow3)
          clear hBx hown3 hgrow3 hat3 e0 e1 t0 t1
          rw [hd, List.length_cons, ← HM0.out] at o1
          by_cases hc1 : cS = 1
          all_goals go_region_with (go_at_call 59; refine (HC.out _).mono ?_; rintro e _ ⟨rfl, rfl⟩)
          all_goals go_wp2_with fail
          all_goals
            go_roundw
            case rel => first
              | exact ⟨i + 1, some ⟨b, off, none⟩, 0, rfl, Lib.hid (by
                  have h := rel_step HI.out hd HM0.out hm hib HIt.out HCutB.out.size HG0_O.out hb HOw.out HGr.out HAt.out (tail_zero (off := off) hc1 HM0.out hcS)
                  rw [show cS - 1 = 0 by omega] at h
                  exact h)⟩
              | exact ⟨i + 1, _, _, rfl, Lib.hid (rel_step HI.out hd HM0.out hm hib HIt.out HCutB.out.size HG0_O.out hb HOw.out HGr.out HAt.out (tail_two HR3.out HM0.out))⟩
            case measure => (simp [sLen]; have := relN_le q; omega)
end Go.Proofs.Ytpmjdppipalfcaa
