/-
  Links: the program's Drain.
-/
import Derived.Test.YtbhhmaialilabaaQw
import Derived.Test.YtbhhmaialilabaaLinkI2
import Derived.Test.YtbhhmaialilabaaLink3
namespace Go.Proofs.Ytbhhmaialilabaa
open Go.RowKit Go.Lib Go.Joins
set_option linter.unusedVariables false

theorem drainL_q (l : Lk) : (drainL l).q = [] := by
  unfold drainL
  split <;> rfl
set_option maxRecDepth 100000 in
set_option maxHeartbeats 8000000 in
theorem implDrain_any (v : Value) (l : Lk) (w : World) (hrow : Row w v l.q.length (l.q.map Value.string)) (hfit : FitA v l.q.length) :
    Calls Try.prog 35 #[.agg #[v, .string l.f, .int .i64 l.u]] w fun e w' => ∃ v1 v2, e = .returned (.tuple #[.agg #[v1, .string (drainL l).f, .int .i64 (drainL l).u], v2, .bool (lkOk l)]) ∧ w'.ownsRow w.heap.size 9 1 v1 (drainL l).q.length ((drainL l).q.map Value.string) ∧ w'.ownsRow w.heap.size 9 1 v2 (drainT l).length ((drainT l).map Value.string) ∧ (∀ k, v1.ownBlock = some k → v2.ownBlock ≠ some k) ∧ Below w.heap.size w w' := by
  rw [drainL_q]
  obtain ⟨W, hW⟩ : ∃ W, W = (w.alloc (.cells #[v, .string l.f, .int .i64 l.u] 26)).alloc (.cells #[.slice none 0 0, .string ⟨#[]⟩, .int .i64 0] 26) := ⟨_, rfl⟩
  have hB : Below w.heap.size w W := by rw [hW]; exact ((Below.refl w.heap.size w).alloc (Nat.le_refl _) _).alloc (by simp) _
  have hT : Lb W w.heap.size v l := by rw [hW]; exact (Lb.new hrow).below ((Below.refl _ _).alloc (Nat.le_refl _) _)
  have hA : Lq W (w.heap.size + 1) (.slice none 0 0) ⟨#[]⟩ 0 := by
    rw [hW]
    have := Lq.new (w.alloc (.cells #[v, .string l.f, .int .i64 l.u] 26)) (.slice none 0 0) ⟨#[]⟩ 0
    rw [World.size_alloc] at this
    exact this
  have HW := Lib.hid hW
  have HB := Lib.hid hB
  have HA := Lib.hid hA
  have HT := Lib.hid hT
  have HG := Lib.hid (implIsLink_any v l W hT.row)
  have HFit := Lib.hid hfit
  obtain ⟨a, cap, rfl, hc1, hm1, _⟩ := row_open hrow
  unfold maxLen at hm1
  obtain ⟨R, hR⟩ : ∃ R, R = w.heap.size := ⟨_, rfl⟩
  obtain ⟨R4, hR4⟩ : ∃ R4, R4 = w.heap.size + 1 := ⟨_, rfl⟩
  rw [← hR] at HT
  rw [← hR4] at HA
  have HR := Lib.hid hR
  have HR4 := Lib.hid hR4
  obtain ⟨n, hN⟩ : ∃ n, n = l.q.length := ⟨_, rfl⟩
  rw [← hN] at hc1 HT HW HG HFit ⊢
  have HN := Lib.hid hN
  clear hW hB hT hA hR hR4 hrow hN hfit
  obtain ⟨x0, x1, x2⟩ := HT.out.cells
  cases ok : lkOk l with
  | false =>
    rw [ok] at HG
    have HE1 : Hid (drainL l = lk0) := Lib.hid (by unfold drainL; rw [ok]; rfl)
    have HE2 : Hid (drainT l = []) := Lib.hid (by unfold drainT; rw [ok]; rfl)
    clear ok
    go_enter Try.func35, Try.ntmps35
    go_upto_region 1 with fail
    rw [← HW.out, ← HR4.out, ← HR.out]
    go_wp2_with fail
    refine HG.out.mono ?_
    rintro e W2 ⟨rfl, l2⟩
    have HB2 := Lib.hid (HB.out.trans (l2.mono HB.out.size))
    have HA2 := Lib.hid (HA.out.below l2 HA.out.lt)
    clear l2
    obtain ⟨y0, y1, y2⟩ := HA2.out.cells
    have f0 := HA2.out.free 0
    have f1 := HA2.out.free 1
    have f2 := HA2.out.free 2
    have hltA := HA2.out.lt
    go_wp2_with fail
    obtain ⟨p1, q1⟩ := HA2.out.store (v' := .slice none 0 0) (f' := ⟨#[]⟩) (u' := 0)
    have hsz : (((W2.setCell ⟨R4, 0, none⟩ (.slice none 0 0)).setCell ⟨R4, 1, none⟩ (.string ⟨#[]⟩)).setCell ⟨R4, 2, none⟩ (.int .i64 0)).heap.size = W2.heap.size := by simp
    have h := heap_alloc_new (((W2.setCell ⟨R4, 0, none⟩ (.slice none 0 0)).setCell ⟨R4, 1, none⟩ (.string ⟨#[]⟩)).setCell ⟨R4, 2, none⟩ (.int .i64 0)) (.cells #[] 9)
    rw [hsz] at h
    refine bodyPost_ret (results_lk2 rfl _ _ R4 rfl rfl rfl (p1.below ((Below.refl _ _).alloc (Nat.le_refl _) _) p1.lt)) rfl ⟨_, _, by rw [HE1.out]; rfl, own_nilS _ _, by rw [HE2.out]; exact own_base (own_lit h (Nat.le_refl _)) HB2.out.size, (fun k hk => by cases hk), (HB2.out.grown q1 HB2.out.size (fun k hk => by have e2 : R4 = k := Option.some.inj hk; have := HR4.out; omega)).alloc (by have := HB2.out.size; simp; omega) _⟩
  | true =>
    rw [ok] at HG
    have h8 : n ≤ 8 := by have := (lkOk_parts ok).2.2.1; have := HN.out; omega
    have HE1 : Hid (drainL l = ⟨[], l.f, l.u⟩) := Lib.hid (by unfold drainL; rw [ok]; rfl)
    have HE2 : Hid (drainT l = l.q) := Lib.hid (by unfold drainT; rw [ok]; rfl)
    have HCl := Lib.hid (fun (W1 : World) hr => cloneS_any (.slice a n cap) l.q W1 hr (by rw [← HN.out]; exact HFit.out.fitS) (by rw [← HN.out]; omega))
    clear ok
    go_enter Try.func35, Try.ntmps35
    go_upto_region 1 with fail
    rw [← HW.out, ← HR4.out, ← HR.out]
    go_wp2_with fail
    refine HG.out.mono ?_
    rintro e W2 ⟨rfl, l2⟩
    have HB2 := Lib.hid (HB.out.trans (l2.mono HB.out.size))
    have HA2 := Lib.hid (HA.out.below l2 HA.out.lt)
    have HT2 := Lib.hid (HT.out.below l2)
    clear l2 x0 x1 x2
    obtain ⟨x0, x1, x2⟩ := HT2.out.cells
    go_wp2_with fail
    refine (HCl.out _ HT2.out.row).mono ?_
    rintro e W3 ⟨v3, rfl, o3, l3⟩
    obtain ⟨a3, c3, rfl, _, _⟩ := own_someS0 o3
    have HO3 := Lib.hid (own_base o3 HB2.out.size)
    have HB3 := Lib.hid (HB2.out.trans (l3.mono HB2.out.size))
    have HA3 := Lib.hid (HA2.out.below l3 HA2.out.lt)
    have HT3 := Lib.hid (HT2.out.lq.below l3 HT2.out.lt)
    have hap : ∀ k, k < W2.heap.size → (Value.slice a3 l.q.length c3).ownBlock = none ∨ (Value.slice a3 l.q.length c3).ownBlock ≠ some k := fun k hk => by
      cases hv : (Value.slice a3 l.q.length c3).ownBlock with
      | none => exact .inl rfl
      | some j => exact .inr (fun e => by have e3 : j = k := Option.some.inj e; have := (o3.lt j hv).1; omega)
    have HAp := Lib.hid hap
    have HLt := Lib.hid (fun j (hv : (Value.slice a3 l.q.length c3).ownBlock = some j) => (o3.lt j hv).2)
    have HltA := Lib.hid HA2.out.lt
    have HltT := Lib.hid HT2.out.lt
    have hl0 := HT3.out.lt
    clear l3 o3 hap x0 x1 x2
    obtain ⟨x0, x1, x2⟩ := HT3.out.cells
    have fx := HT3.out.free 0
    go_upto_region 5 with fail
    obtain ⟨p1, q1⟩ := HT3.out.put0 (.slice (some ⟨W3.heap.size, 0, none⟩) 0 0)
    have hsz : (W3.setCell ⟨R, 0, none⟩ (.slice (some ⟨W3.heap.size, 0, none⟩) 0 0)).heap.size = W3.heap.size := by simp
    obtain ⟨W4, hW4⟩ : ∃ W4, W4 = (W3.setCell ⟨R, 0, none⟩ (.slice (some ⟨W3.heap.size, 0, none⟩) 0 0)).alloc (.cells #[] 9) := ⟨_, rfl⟩
    have hg4 : W3.grownBy W4 (some R) := by rw [hW4]; exact grown_trans q1 (World.grownBy_alloc _ _ _)
    have HT4 : Hid (Lq W4 R (.slice (some ⟨W3.heap.size, 0, none⟩) 0 0) l.f l.u) := Lib.hid (by rw [hW4]; exact p1.below ((Below.refl _ _).alloc (Nat.le_refl _) _) p1.lt)
    have HA4 := Lib.hid (HA3.out.grown hg4 (fun e => by have e2 : R4 = R := Option.some.inj e; have h1 := HR.out; have h2 := HR4.out; omega))
    have HO4 := Lib.hid (HO3.out.kept hg4 (HAp.out R HltT.out))
    have HB4 := Lib.hid (HB3.out.grown hg4 HB3.out.size (fun k hk => by have e2 : R = k := Option.some.inj hk; have := HR.out; omega))
    have HN4 : Hid (W4.ownsRow w.heap.size 9 1 (.slice (some ⟨W3.heap.size, 0, none⟩) 0 0) 0 []) := Lib.hid (by
      have h := heap_alloc_new (W3.setCell ⟨R, 0, none⟩ (.slice (some ⟨W3.heap.size, 0, none⟩) 0 0)) (.cells #[] 9)
      rw [hsz] at h
      rw [hW4]
      exact own_base (own_lit h (Nat.le_refl _)) HB3.out.size)
    have HltX : Hid (R4 < W3.heap.size) := Lib.hid HA3.out.lt
    rw [← hW4]
    obtain ⟨X, hX⟩ : ∃ X, X = W3.heap.size := ⟨_, rfl⟩
    rw [← hX] at HT4 HN4 HLt HltX ⊢
    clear hW4 hg4 hX p1 q1 hsz x0 x1 x2 fx HT3 HA3 HO3 HB3 hl0
    obtain ⟨x0, x1, x2⟩ := HT4.out.cells
    obtain ⟨y0, y1, y2⟩ := HA4.out.cells
    have f0 := HA4.out.free 0
    have f1 := HA4.out.free 1
    have f2 := HA4.out.free 2
    go_wp2_with fail
    obtain ⟨p1, q1⟩ := HA4.out.store (v' := .slice (some ⟨X, 0, none⟩) 0 0) (f' := l.f) (u' := l.u)
    refine bodyPost_ret (results_lk2 rfl _ _ R4 rfl rfl rfl p1) rfl ⟨_, _, by rw [HE1.out], HN4.out.kept q1 (.inr (fun e => by have e2 : X = R4 := Option.some.inj e; have := HltX.out; omega)), by rw [HE2.out]; exact HO4.out.kept q1 (HAp.out R4 HltA.out), (fun k hk hv => by have e2 : X = k := Option.some.inj hk; have := HLt.out k hv; omega), HB4.out.grown q1 HB4.out.size (fun k hk => by have e2 : R4 = k := Option.some.inj hk; have := HR4.out; omega)⟩
end Go.Proofs.Ytbhhmaialilabaa
