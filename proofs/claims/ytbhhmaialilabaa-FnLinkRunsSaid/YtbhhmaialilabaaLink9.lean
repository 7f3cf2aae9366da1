/-
  Links: the specification's Drain.
-/
import Derived.Test.YtbhhmaialilabaaLink8
import Derived.Test.YtbhhmaialilabaaDrainI
namespace Go.Proofs.Ytbhhmaialilabaa
open Go.RowKit Go.Lib Go.Joins
set_option linter.unusedVariables false

theorem block_below {w w' : World} {q : Nat} {o : Obj} (h : w.heap[q]? = some o) (l : Below w.heap.size w w') : w'.heap[q]? = some o := (l.block q (Array.getElem?_eq_some_iff.1 h).1).trans h
theorem block_grown {w w' : World} {q : Nat} {o : Obj} {r : Option Nat} (h : w.heap[q]? = some o) (hg : w.grownBy w' r) (hne : some q ≠ r) : w'.heap[q]? = some o := (hg.block q (Array.getElem?_eq_some_iff.1 h).1 (fun e => hne e)).trans h
theorem block_alloc {w : World} {q : Nat} {o o' : Obj} (h : w.heap[q]? = some o) : (w.alloc o').heap[q]? = some o := (Below.heap_alloc _ _ _ (Array.getElem?_eq_some_iff.1 h).1).trans h
theorem cut_in {P G : Prop} (h : P) (k : P → G) : G := k h
theorem block_lt {w : World} {q : Nat} {o : Obj} (h : w.heap[q]? = some o) : q < w.heap.size := (Array.getElem?_eq_some_iff.1 h).1
set_option maxRecDepth 100000 in
set_option maxHeartbeats 8000000 in
theorem specDrain_any (v : Value) (l : Lk) (w : World) (hrow : Row w v l.q.length (l.q.map Value.string)) (hfit : FitA v l.q.length) (hf : l.f.size ≤ 1048576) :
    Calls Try.prog 36 #[.agg #[v, .string l.f, .int .i64 l.u]] w fun e w' => ∃ v1 v2, e = .returned (.tuple #[.agg #[v1, .string (drainL l).f, .int .i64 (drainL l).u], v2, .bool (lkOk l)]) ∧ w'.ownsRow w.heap.size 9 1 v1 (drainL l).q.length ((drainL l).q.map Value.string) ∧ w'.ownsRow w.heap.size 9 1 v2 (drainT l).length ((drainT l).map Value.string) ∧ (∀ k, v1.ownBlock = some k → v2.ownBlock ≠ some k) ∧ Below w.heap.size w w' := by
  rw [drainL_q]
  obtain ⟨i0, hi, hz0, hz1, hz2⟩ := info_parts infoStr
  obtain ⟨W, hW⟩ : ∃ W, W = (w.alloc (.cells #[v, .string l.f, .int .i64 l.u] 26)).alloc (.cells #[.slice none 0 0, .string ⟨#[]⟩, .int .i64 0] 26) := ⟨_, rfl⟩
  have hB : Below w.heap.size w W := by rw [hW]; exact ((Below.refl w.heap.size w).alloc (Nat.le_refl _) _).alloc (by simp) _
  have hT : Lb W w.heap.size v l := by rw [hW]; exact (Lb.new hrow).below ((Below.refl _ _).alloc (Nat.le_refl _) _)
  have hA : Lq W (w.heap.size + 1) (.slice none 0 0) ⟨#[]⟩ 0 := by
    rw [hW]
    have := Lq.new (w.alloc (.cells #[v, .string l.f, .int .i64 l.u] 26)) (.slice none 0 0) ⟨#[]⟩ 0
    rw [World.size_alloc] at this
    exact this
  have HW := Lib.hid hW
  have HB := Lib.hid hB
  have HA := Lib.hid hA
  have HT := Lib.hid hT
  have HG := Lib.hid (l7Good_any v l W hT.row hf)
  have HFit := Lib.hid hfit
  obtain ⟨a, cap, rfl, hc1, hm1, _⟩ := row_open hrow
  unfold maxLen at hm1
  obtain ⟨R, hR⟩ : ∃ R, R = w.heap.size := ⟨_, rfl⟩
  obtain ⟨R4, hR4⟩ : ∃ R4, R4 = w.heap.size + 1 := ⟨_, rfl⟩
  rw [← hR] at HT
  rw [← hR4] at HA
  have HR := Lib.hid hR
  have HR4 := Lib.hid hR4
  obtain ⟨n, hN⟩ : ∃ n, n = l.q.length := ⟨_, rfl⟩
  rw [← hN] at hc1 HT HW HG HFit ⊢
  have HN := Lib.hid hN
  clear hW hB hT hA hR hR4 hrow hN hfit hf
  obtain ⟨x0, x1, x2⟩ := HT.out.cells
  cases ok : lkOk l with
  | false =>
    rw [ok] at HG
    have HE1 : Hid (drainL l = lk0) := Lib.hid (by unfold drainL; rw [ok]; rfl)
    have HE2 : Hid (drainT l = []) := Lib.hid (by unfold drainT; rw [ok]; rfl)
    clear ok
    go_enter Try.func36, Try.ntmps36
    go_upto_region 1 with fail
    rw [← HW.out, ← HR4.out, ← HR.out]
    go_wp2_with fail
    refine HG.out.mono ?_
    rintro e W2 ⟨rfl, l2⟩
    have HB2 := Lib.hid (HB.out.trans (l2.mono HB.out.size))
    have HA2 := Lib.hid (HA.out.below l2 HA.out.lt)
    clear l2
    obtain ⟨y0, y1, y2⟩ := HA2.out.cells
    have f0 := HA2.out.free 0
    have f1 := HA2.out.free 1
    have f2 := HA2.out.free 2
    have hltA := HA2.out.lt
    go_wp2_with fail
    obtain ⟨p1, q1⟩ := HA2.out.store (v' := .slice none 0 0) (f' := ⟨#[]⟩) (u' := 0)
    have hsz : (((W2.setCell ⟨R4, 0, none⟩ (.slice none 0 0)).setCell ⟨R4, 1, none⟩ (.string ⟨#[]⟩)).setCell ⟨R4, 2, none⟩ (.int .i64 0)).heap.size = W2.heap.size := by simp
    have h := heap_alloc_new (((W2.setCell ⟨R4, 0, none⟩ (.slice none 0 0)).setCell ⟨R4, 1, none⟩ (.string ⟨#[]⟩)).setCell ⟨R4, 2, none⟩ (.int .i64 0)) (.cells #[] 9)
    rw [hsz] at h
    refine bodyPost_ret (results_lk2 rfl _ _ R4 rfl rfl rfl (p1.below ((Below.refl _ _).alloc (Nat.le_refl _) _) p1.lt)) rfl ⟨_, _, by rw [HE1.out]; rfl, own_nilS _ _, by rw [HE2.out]; exact own_base (own_lit h (Nat.le_refl _)) HB2.out.size, (fun k hk => by cases hk), (HB2.out.grown q1 HB2.out.size (fun k hk => by have e2 : R4 = k := Option.some.inj hk; have := HR4.out; omega)).alloc (by have := HB2.out.size; simp; omega) _⟩
  | true =>
    rw [ok] at HG
    have h8 : n ≤ 8 := by have := (lkOk_parts ok).2.2.1; have := HN.out; omega
    have HE1 : Hid (drainL l = ⟨[], l.f, l.u⟩) := Lib.hid (by unfold drainL; rw [ok]; rfl)
    have HE2 : Hid (drainT l = l.q) := Lib.hid (by unfold drainT; rw [ok]; rfl)
    clear ok
    go_enter Try.func36, Try.ntmps36
    go_upto_region 1 with fail
    rw [← HW.out, ← HR4.out, ← HR.out]
    go_wp2_with fail
    refine HG.out.mono ?_
    rintro e W2 ⟨rfl, l2⟩
    have HB2 := Lib.hid (HB.out.trans (l2.mono HB.out.size))
    have HA2 := Lib.hid (HA.out.below l2 HA.out.lt)
    have HT2 := Lib.hid (HT.out.below l2)
    clear l2 x0 x1 x2
    obtain ⟨x0, x1, x2⟩ := HT2.out.cells
    have HLen : Hid ((l.q.map Value.string).length = n) := Lib.hid (by rw [List.length_map, HN.out])
    have HTr := Lib.hid HT2.out.row
    rw [← HN.out] at HTr
    have hltA := HA2.out.lt
    have hltR := HT2.out.lt
    have HK := Lib.hid (fun (w' : World) (hb : Below W2.heap.size W2 w') => (show w'.cell? ⟨R, 0, none⟩ = some (.slice a n cap) ∧ w'.cell? ⟨R, 1, none⟩ = some (.string l.f) ∧ w'.cell? ⟨R, 2, none⟩ = some (.int .i64 l.u) ∧ Below w.heap.size w w' from
      ⟨(hb.cell (p := ⟨R, 0, none⟩) hltR).trans x0, (hb.cell (p := ⟨R, 1, none⟩) hltR).trans x1, (hb.cell (p := ⟨R, 2, none⟩) hltR).trans x2, HB2.out.trans (hb.mono HB2.out.size)⟩))
    have HK2 := Lib.hid (fun (w' : World) (y : Value) (f' : ByteArray) (u' : Int) (hb : Below W2.heap.size W2 w') => (show (((w'.setCell ⟨R4, 0, none⟩ y).setCell ⟨R4, 1, none⟩ (.string f')).setCell ⟨R4, 2, none⟩ (.int .i64 u')).cell? ⟨R, 0, none⟩ = some (.slice a n cap) ∧ (((w'.setCell ⟨R4, 0, none⟩ y).setCell ⟨R4, 1, none⟩ (.string f')).setCell ⟨R4, 2, none⟩ (.int .i64 u')).cell? ⟨R, 1, none⟩ = some (.string l.f) ∧ (((w'.setCell ⟨R4, 0, none⟩ y).setCell ⟨R4, 1, none⟩ (.string f')).setCell ⟨R4, 2, none⟩ (.int .i64 u')).cell? ⟨R, 2, none⟩ = some (.int .i64 l.u) ∧ Below w.heap.size w (((w'.setCell ⟨R4, 0, none⟩ y).setCell ⟨R4, 1, none⟩ (.string f')).setCell ⟨R4, 2, none⟩ (.int .i64 u')) by
      obtain ⟨c0, c1, c2, c4⟩ := HK.out w' hb
      have ha := HA2.out.below hb HA2.out.lt
      obtain ⟨_, q1⟩ := ha.store (v' := y) (f' := f') (u' := u')
      have hR := HR.out
      have hR4 := HR4.out
      exact ⟨q1.cell c0 (by intro e; have e2 : R = R4 := Option.some.inj e; omega), q1.cell c1 (by intro e; have e2 : R = R4 := Option.some.inj e; omega), q1.cell c2 (by intro e; have e2 : R = R4 := Option.some.inj e; omega), c4.grown q1 c4.size (fun k hk => by have e2 : R4 = k := Option.some.inj hk; omega)⟩))
    go_upto_region 3 with fail
    have tokA : True := trivial
    have tokB : True := trivial
    go_region_held3 (fun w' => w'.cell? ⟨R, 0, none⟩ = some (.slice a n cap) ∧ w'.cell? ⟨R, 1, none⟩ = some (.string l.f) ∧ w'.cell? ⟨R, 2, none⟩ = some (.int .i64 l.u) ∧ Below w.heap.size w w')
      ((first | (refine HK.out _ ?_; (repeat (first | assumption | exact Below.refl _ _ | refine Below.drew ?_ | refine below_alloc' ?_)); done) | (refine HK2.out _ _ _ _ ?_; (repeat (first | assumption | exact Below.refl _ _ | refine Below.drew ?_ | refine below_alloc' ?_)); done)))
      (first
        | (have _t := tokB; go_at_call 64; refine (l7With_any _ _ _ _ _ _ _ _).mono ?_; rintro e w7 ⟨rfl, l7⟩; have hb7 := below_call7 (by repeat (first | assumption | exact Below.refl _ _ | refine Below.drew ?_ | refine below_alloc' ?_) : Below W2.heap.size W2 _) l7; (first | have ho7 := own_below hown2 (show Below w6.heap.size w6 w7 from by first | exact l7 | exact ((Below.refl _ _).alloc (Nat.le_refl _) _).trans (l7.mono (by simp))) (Nat.le_refl _) | skip); (first | have hA7 : w7.heap[W2.heap.size]? = some (.cells #[] 9 (0, 0)) := block_below (by first | exact hA6 | exact heap_alloc_new _ _ | exact heap_new_drew _ _ | exact heap_first _ _ _) l7 | skip); (first | have hB7 : w7.heap[W2.heap.size + 1]? = some (.cells #[] 9 (0, 0)) := block_below (by first | exact hB6 | exact heap_second _ _ _) l7 | skip); (first | have hC7 : w7.heap[w6.heap.size]? = some (.cells #[] 9 (0, 0)) := block_below (by exact heap_alloc_new _ _) l7 | skip); have hr7 := HA2.out.below hb7 hltA; obtain ⟨y0, y1, y2⟩ := hr7.cells; have f0 := hr7.free 0; have f1 := hr7.free 1; have f2 := hr7.free 2; clear tokB _t; dsimp only)
        | (have _t := tokA; refine step_append_fitT (by rfl) _ _ _ (by rfl) W2.heap.size 9 i0 (.string ⟨#[]⟩) 16 Try.underlying24 hi hz0 hz1 hz2 rfl _ 0 [] (by rfl) (own_lit (by first | exact heap_alloc_new _ _ | exact heap_new_drew _ _ | exact heap_first _ _ _ | exact heap_second _ _ _ | exact hA7 | exact hB7) (by first | (simp; done) | (have := hb7.size; omega))) _ n (l.q.map Value.string) (by rfl) HFit.out.fitS (HTr.out.below (by repeat (first | assumption | exact Below.refl _ _ | refine Below.drew ?_ | refine below_alloc' ?_) : Below W2.heap.size W2 _) (Nat.le_refl _)) HLen.out (one_strs _) (by unfold maxLen; omega) (by omega) (below_size' (by repeat (first | assumption | exact Below.refl _ _ | refine Below.drew ?_ | refine below_alloc' ?_))) ?_; intro v2 w6 hown2 hgrow2 hat2; rw [Nat.zero_add, List.nil_append] at hown2; obtain ⟨a2, c2, rfl, hcc2, hcm2⟩ := own_someS0 hown2; have hb6 : Below W2.heap.size W2 w6 := below_grown (by repeat (first | assumption | exact Below.refl _ _ | refine Below.drew ?_ | refine below_alloc' ?_)) hgrow2 (fun q hq => lit_block (by first | (simp; done) | (have := hb7.size; omega)) hq); have hr6 := HA2.out.below hb6 hltA; obtain ⟨y0, y1, y2⟩ := hr6.cells; have f0 := hr6.free 0; have f1 := hr6.free 1; have f2 := hr6.free 2; clear tokA _t))
    all_goals go_wp2_with fail
    all_goals
      have HBf := HB2.out.trans (hb6.mono HB2.out.size)
      have hs2 := HB2.out.size
      have hs6 := hb6.size
      have hs7 := hb7.size
      have hap : ∀ k, (Value.slice a2 n c2).ownBlock = some k → k ≠ R4 := fun k hk e => by have := (hown2.lt k hk).1; omega
      have hap2 : (Value.slice a2 n c2).ownBlock = none ∨ (Value.slice a2 n c2).ownBlock ≠ some R4 := by
        cases hv : (Value.slice a2 n c2).ownBlock with
        | none => exact .inl rfl
        | some k => exact .inr (fun e => hap k hv (Option.some.inj e))
    all_goals
      first
        | (have hA6 : w6.heap[W2.heap.size]? = some (.cells #[] 9 (0, 0)) := by
             refine block_grown (q := W2.heap.size) ?_ hgrow2 ?_
             · first | exact hA7 | exact block_alloc hA7
             · intro e
               have e2 := Option.some.inj e
               try dsimp only at e2
               have := block_lt hA7
               omega
           obtain ⟨p1, q1⟩ := hr6.store (v' := .slice (some ⟨W2.heap.size, 0, none⟩) 0 0) (f' := l.f) (u' := l.u)
           refine bodyPost_ret (results_lk2 rfl _ _ R4 rfl rfl rfl p1) rfl ⟨_, _, by rw [HE1.out], (own_base (own_lit hA6 (Nat.le_refl _)) hs2).kept q1 (.inr (fun e => by have e2 : W2.heap.size = R4 := Option.some.inj e; omega)), ?_, ?_, HBf.grown q1 HBf.size (fun k hk => by have e2 : R4 = k := Option.some.inj hk; have := HR4.out; omega)⟩)
        | (have hB6 : w6.heap[W2.heap.size + 1]? = some (.cells #[] 9 (0, 0)) := by
             refine block_grown (q := W2.heap.size + 1) hB7 hgrow2 ?_
             intro e
             have e2 := Option.some.inj e
             try dsimp only at e2
             omega
           obtain ⟨p1, q1⟩ := hr6.store (v' := .slice (some ⟨W2.heap.size + 1, 0, none⟩) 0 0) (f' := l.f) (u' := l.u)
           refine bodyPost_ret (results_lk2 rfl _ _ R4 rfl rfl rfl p1) rfl ⟨_, _, by rw [HE1.out], (own_base (own_lit hB6 (Nat.le_refl _)) (by omega)).kept q1 (.inr (fun e => by have e2 : W2.heap.size + 1 = R4 := Option.some.inj e; omega)), ?_, ?_, HBf.grown q1 HBf.size (fun k hk => by have e2 : R4 = k := Option.some.inj hk; have := HR4.out; omega)⟩)
      · rw [HE2.out, ← HN.out]
        exact own_base (hown2.kept q1 hap2) hs2
      · intro k hk hv
        have hk2 := Option.some.inj hk
        try dsimp only at hk2
        rcases hat2 with h | h
        · have h2 := Option.some.inj (hv.symm.trans h)
          try dsimp only at h2
          first
            | (omega; done)
            | (have := block_lt hA7; omega)
        · have h2 := Option.some.inj (hv.symm.trans h)
          try simp at h2
          first
            | (have := block_lt hB7; omega)
            | (have := block_lt hA7; omega)
end Go.Proofs.Ytbhhmaialilabaa
