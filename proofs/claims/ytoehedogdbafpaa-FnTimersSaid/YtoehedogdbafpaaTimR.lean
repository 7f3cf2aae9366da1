/-
  Rows of Timers: elements, stores, lists that are drawn up.
-/
import Derived.Test.YtoehedogdbafpaaTim
import Derived.Test.YtoehedogdbafpaaAppZ
namespace Go.Proofs.Ytoehedogdbafpaa
open Go.RowKit Go.Lib Go.Joins
set_option linter.unusedVariables false

theorem infoT : (Try.prog.info? 42).map (fun i => (i.zero, i.size, i.bytes)) = some (some (.agg #[.int .i64 0, .int .i64 0, .int .i64 0]), 3, 24) := by kernel_rfl
theorem tmF_append (s u : List Tm) : tmF (s ++ u) = tmF s ++ tmF u := flat_append tmC s u
theorem tmF_snoc (s : List Tm) (t : Tm) : tmF (s ++ [t]) = tmF s ++ tmC t := by unfold tmF; rw [flat_append, flat_one]
theorem tmF_nil : tmF [] = [] := rfl
theorem tmF_single (t : Tm) : tmF [t] = tmC t := flat_one tmC t
theorem tmC_one (t : Tm) : ∀ u ∈ tmC t, u.oneCell' = true := by
  intro u hu
  simp only [tmC, List.mem_cons, List.not_mem_nil, or_false] at hu
  rcases hu with rfl | rfl | rfl <;> rfl
theorem tmF_one (s : List Tm) : ∀ u ∈ tmF s, u.oneCell' = true := by
  intro u hu
  unfold tmF flatZ at hu
  obtain ⟨t, _, ht⟩ := List.mem_flatMap.1 hu
  exact tmC_one t u ht
theorem tmF_at {s : List Tm} {k : Nat} (hk : k < s.length) : (tmF s)[k * 3]? = some (.int .i64 s[k].i) ∧ (tmF s)[k * 3 + 1]? = some (.int .i64 s[k].d) ∧ (tmF s)[k * 3 + 2]? = some (.int .i64 s[k].p) :=
  ⟨flat_get tmC_len s k 0 hk (by omega), flat_get tmC_len s k 1 hk (by omega), flat_get tmC_len s k 2 hk (by omega)⟩
theorem tmF_take (s : List Tm) (k : Nat) : (tmF s).take (k * 3) = tmF (s.take k) := flat_take tmC_len s k
theorem tmF_drop (s : List Tm) (k : Nat) : (tmF s).drop (k * 3) = tmF (s.drop k) := by
  have e : tmF s = tmF (s.take k) ++ tmF (s.drop k) := by rw [← tmF_append, List.take_append_drop]
  by_cases h : k ≤ s.length
  · rw [e, List.drop_append_of_le_length (by rw [tmF_len, List.length_take]; omega), List.drop_of_length_le (by rw [tmF_len, List.length_take]; omega), List.nil_append]
  · rw [List.drop_of_length_le (by rw [tmF_len]; omega), List.drop_of_length_le (by omega), tmF_nil]
theorem tmF_set : ∀ (s : List Tm) (k : Nat) (t : Tm), k < s.length → ((((tmF s).set (k * 3) (.int .i64 t.i)).set (k * 3 + 1) (.int .i64 t.d)).set (k * 3 + 2) (.int .i64 t.p)) = tmF (s.set k t)
  | [], k, t, h => by simp at h
  | a :: s, 0, t, _ => by
    simp [tmF, flat_cons, tmC]
  | a :: s, k + 1, t, h => by
    have ih := tmF_set s k t (by simpa using h)
    unfold tmF at ih ⊢
    rw [List.set_cons_succ, flat_cons, flat_cons, ← ih]
    rw [show (k + 1) * 3 = k * 3 + 1 + 1 + 1 by omega]
    simp only [tmC, List.cons_append, List.nil_append, List.set_cons_succ]
theorem Tb.free {w : World} {R : Nat} {t : Tm} (h : Tb w R t) (i : Nat) : w.frozen? ⟨R, i, none⟩ = false := by
  unfold Tb at h
  simp [World.frozen?, h]
theorem Tb.gr {w w' : World} {R k : Nat} {t : Tm} (h : Tb w R t) (hg : w.grownBy w' (some k)) (hne : k ≠ R) : Tb w' R t := (hg.block R h.lt (by intro e; exact hne (Option.some.inj e).symm)).trans h
theorem Tb.apart {w w' : World} {R : Nat} {row : Option Nat} {t : Tm} (h : Tb w R t) (hg : w.grownBy w' row) (hne : some R ≠ row) : Tb w' R t := (hg.block R h.lt hne).trans h
theorem row_litT {w : World} {g : Nat} {t : Tm} (h : Tb w g t) : Row w (.slice (some ⟨g, 0, none⟩) 1 1) 1 (tmC t) := by
  unfold Tb at h
  refine ⟨some ⟨g, 0, none⟩, 1, rfl, Nat.le_refl _, by decide, fun _ => ⟨g, 0, rfl, (Array.getElem?_eq_some_iff.1 h).1, fun i hi => ?_⟩⟩
  match i, hi with
  | 0, _ => simp [World.cell?, h, tmC]
  | 1, _ => simp [World.cell?, h, tmC]
  | 2, _ => simp [World.cell?, h, tmC]
/-- Stores into an element of an owned row. -/
theorem ownT_set {w : World} {base n k : Nat} {s : List Tm} {g cap : Nat} (h : w.ownsRow base 42 3 (.slice (some ⟨g, 0, none⟩) n cap) n (tmF s)) (t : Tm) (hk : k < s.length) :
    (((w.setCell ⟨g, k * 3, none⟩ (.int .i64 t.i)).setCell ⟨g, k * 3 + 1, none⟩ (.int .i64 t.d)).setCell ⟨g, k * 3 + 2, none⟩ (.int .i64 t.p)).ownsRow base 42 3 (.slice (some ⟨g, 0, none⟩) n cap) n (tmF (s.set k t)) ∧ w.grownBy (((w.setCell ⟨g, k * 3, none⟩ (.int .i64 t.i)).setCell ⟨g, k * 3 + 1, none⟩ (.int .i64 t.d)).setCell ⟨g, k * 3 + 2, none⟩ (.int .i64 t.p)) (some g) := by
  have s0 := ownz_set h (j := k * 3) (.int .i64 t.i)
  have s1 := ownz_set s0.1 (j := k * 3 + 1) (.int .i64 t.d)
  have s2 := ownz_set s1.1 (j := k * 3 + 2) (.int .i64 t.p)
  rw [tmF_set s k t hk] at s2
  exact ⟨s2.1, (grown_trans (grown_trans s0.2 s1.2) s2.2)⟩
theorem ownT_facts {w : World} {base n k : Nat} {s : List Tm} {g cap : Nat} {t : Tm} (h : w.ownsRow base 42 3 (.slice (some ⟨g, 0, none⟩) n cap) n (tmF s)) (hk : s[k]? = some t) :
    w.cell? ⟨g, k * 3, none⟩ = some (.int .i64 t.i) ∧ w.cell? ⟨g, k * 3 + 1, none⟩ = some (.int .i64 t.d) ∧ w.cell? ⟨g, k * 3 + 2, none⟩ = some (.int .i64 t.p) ∧ w.frozen? ⟨g, k * 3, none⟩ = false ∧ w.frozen? ⟨g, k * 3 + 1, none⟩ = false ∧ w.frozen? ⟨g, k * 3 + 2, none⟩ = false ∧ g < w.heap.size := by
  obtain ⟨hlt, he⟩ := List.getElem?_eq_some_iff.1 hk
  have hl := tmF_len s
  obtain ⟨e0, e1, e2⟩ := tmF_at hlt
  obtain ⟨c0, f0, _, hg0⟩ := ownz_facts h (j := k * 3) (by omega)
  obtain ⟨a0, b0⟩ := List.getElem?_eq_some_iff.1 e0
  rw [b0, he] at c0
  obtain ⟨c1, f1, _, hg1⟩ := ownz_facts h (j := k * 3 + 1) (by omega)
  obtain ⟨a1, b1⟩ := List.getElem?_eq_some_iff.1 e1
  rw [b1, he] at c1
  obtain ⟨c2, f2, _, hg2⟩ := ownz_facts h (j := k * 3 + 2) (by omega)
  obtain ⟨a2, b2⟩ := List.getElem?_eq_some_iff.1 e2
  rw [b2, he] at c2
  exact ⟨c0, c1, c2, f0, f1, f2, hg0⟩
/-- A list that is drawn up in memory of the call's own. -/
structure OutT (W0 wr : World) (v : Value) (zs : List Tm) : Prop where
  own : wr.ownsRow W0.heap.size 42 3 v zs.length (tmF zs)
  bel : Below W0.heap.size W0 wr
theorem OutT.alloc {W0 wr : World} {v : Value} {zs : List Tm} (h : OutT W0 wr v zs) (o : Obj) : OutT W0 (wr.alloc o) v zs :=
  ⟨ownz_below h.own ((Below.refl _ _).alloc (Nat.le_refl _) o) (Nat.le_refl _), b_a h.bel o⟩
theorem OutT.drewN {W0 wr : World} {v : Value} {zs : List Tm} (h : OutT W0 wr v zs) (n : Nat) : OutT W0 (wr.drewN n) v zs :=
  ⟨ownz_below h.own (bdrew wr n) (Nat.le_refl _), b_d h.bel n⟩
theorem OutT.below {W0 wr w1 : World} {v : Value} {zs : List Tm} (h : OutT W0 wr v zs) (l : Below wr.heap.size wr w1) : OutT W0 w1 v zs :=
  ⟨ownz_below h.own l (Nat.le_refl _), h.bel.trans (l.mono h.bel.size)⟩
theorem OutT.start (W0 wr : World) (h : Below W0.heap.size W0 wr) : OutT W0 (wr.alloc (.cells #[] 42)) (.slice (some ⟨wr.heap.size, 0, none⟩) 0 0) [] :=
  ⟨by simpa [tmF_nil] using litz wr W0.heap.size 42 3 h.size, b_a h _⟩
theorem OutT.app {W0 wr w1 : World} {v v' : Value} {zs zs5 : List Tm} {t : Tm} (h : OutT W0 wr v zs) (hz : zs5 = zs ++ [t]) (ho : w1.ownsRow W0.heap.size 42 3 v' (zs.length + 1) (tmF zs ++ tmC t)) (hg : wr.grownBy w1 v.ownBlock) :
    ∃ g c, v' = .slice (some ⟨g, 0, none⟩) zs5.length c ∧ OutT W0 w1 (.slice (some ⟨g, 0, none⟩) zs5.length c) zs5 := by
  subst hz
  obtain ⟨g, c, rfl⟩ := ownz_form ho (by omega)
  have e : (zs ++ [t]).length = zs.length + 1 := by simp
  refine ⟨g, c, by rw [e], ⟨?_, ?_⟩⟩
  · rw [e, tmF_snoc]
    exact ho
  · exact h.bel.grown hg h.bel.size (fun k hk => (h.own.lt k hk).1)
end Go.Proofs.Ytoehedogdbafpaa
