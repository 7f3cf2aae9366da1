/-
  Rows of Holds: elements, stores, lists that are drawn up.
-/
import Derived.Test.YtlendmiolhgecaaHdB
import Derived.Test.YtlendmiolhgecaaAppZ
namespace Go.Proofs.Ytlendmiolhgecaa
open Go.RowKit Go.Lib Go.Joins
set_option linter.unusedVariables false

theorem infoHd : (Try.prog.info? 82).map (fun i => (i.zero, i.size, i.bytes)) = some (some (.agg #[.int .i64 0, .int .i64 0]), 2, 16) := by kernel_rfl
theorem hdF_append (s u : List Hd) : hdF (s ++ u) = hdF s ++ hdF u := flat_append hdC s u
theorem hdF_snoc (s : List Hd) (t : Hd) : hdF (s ++ [t]) = hdF s ++ hdC t := by unfold hdF; rw [flat_append, flat_one]
theorem hdF_nil : hdF [] = [] := rfl
theorem hdF_single (t : Hd) : hdF [t] = hdC t := flat_one hdC t
theorem hdC_one (t : Hd) : ∀ u ∈ hdC t, u.oneCell' = true := by
  intro u hu
  simp only [hdC, List.mem_cons, List.not_mem_nil, or_false] at hu
  rcases hu with rfl | rfl <;> rfl
theorem hdF_one (s : List Hd) : ∀ u ∈ hdF s, u.oneCell' = true := by
  intro u hu
  unfold hdF flatZ at hu
  obtain ⟨t, _, ht⟩ := List.mem_flatMap.1 hu
  exact hdC_one t u ht
theorem hdF_at {s : List Hd} {k : Nat} (hk : k < s.length) : (hdF s)[k * 2]? = some (.int .i64 s[k].n) ∧ (hdF s)[k * 2 + 1]? = some (.int .i64 s[k].u) :=
  ⟨flat_get hdC_len s k 0 hk (by omega), flat_get hdC_len s k 1 hk (by omega)⟩
theorem hdF_take (s : List Hd) (k : Nat) : (hdF s).take (k * 2) = hdF (s.take k) := flat_take hdC_len s k
theorem hdF_drop (s : List Hd) (k : Nat) : (hdF s).drop (k * 2) = hdF (s.drop k) := by
  have e : hdF s = hdF (s.take k) ++ hdF (s.drop k) := by rw [← hdF_append, List.take_append_drop]
  by_cases h : k ≤ s.length
  · rw [e, List.drop_append_of_le_length (by rw [hdF_len, List.length_take]; omega), List.drop_of_length_le (by rw [hdF_len, List.length_take]; omega), List.nil_append]
  · rw [List.drop_of_length_le (by rw [hdF_len]; omega), List.drop_of_length_le (by omega), hdF_nil]
theorem hdF_set : ∀ (s : List Hd) (k : Nat) (t : Hd), k < s.length → (((hdF s).set (k * 2) (.int .i64 t.n)).set (k * 2 + 1) (.int .i64 t.u)) = hdF (s.set k t)
  | [], k, t, h => by simp at h
  | a :: s, 0, t, _ => by
    simp [hdF, flat_cons, hdC]
  | a :: s, k + 1, t, h => by
    have ih := hdF_set s k t (by simpa using h)
    unfold hdF at ih ⊢
    rw [List.set_cons_succ, flat_cons, flat_cons, ← ih]
    rw [show (k + 1) * 2 = k * 2 + 1 + 1 by omega]
    simp only [hdC, List.cons_append, List.nil_append, List.set_cons_succ]
theorem Hb.free {w : World} {R : Nat} {t : Hd} (h : Hb w R t) (i : Nat) : w.frozen? ⟨R, i, none⟩ = false := by
  unfold Hb at h
  simp [World.frozen?, h]
theorem Hb.gr {w w' : World} {R k : Nat} {t : Hd} (h : Hb w R t) (hg : w.grownBy w' (some k)) (hne : k ≠ R) : Hb w' R t := (hg.block R h.lt (by intro e; exact hne (Option.some.inj e).symm)).trans h
theorem Hb.apart {w w' : World} {R : Nat} {row : Option Nat} {t : Hd} (h : Hb w R t) (hg : w.grownBy w' row) (hne : some R ≠ row) : Hb w' R t := (hg.block R h.lt hne).trans h
theorem row_litHd {w : World} {g : Nat} {t : Hd} (h : Hb w g t) : Row w (.slice (some ⟨g, 0, none⟩) 1 1) 1 (hdC t) := by
  unfold Hb at h
  refine ⟨some ⟨g, 0, none⟩, 1, rfl, Nat.le_refl _, by decide, fun _ => ⟨g, 0, rfl, (Array.getElem?_eq_some_iff.1 h).1, fun i hi => ?_⟩⟩
  match i, hi with
  | 0, _ => simp [World.cell?, h, hdC]
  | 1, _ => simp [World.cell?, h, hdC]
/-- Stores into an element of an owned row. -/
theorem ownHd_set {w : World} {base n k : Nat} {s : List Hd} {g cap : Nat} (h : w.ownsRow base 82 2 (.slice (some ⟨g, 0, none⟩) n cap) n (hdF s)) (t : Hd) (hk : k < s.length) :
    ((w.setCell ⟨g, k * 2, none⟩ (.int .i64 t.n)).setCell ⟨g, k * 2 + 1, none⟩ (.int .i64 t.u)).ownsRow base 82 2 (.slice (some ⟨g, 0, none⟩) n cap) n (hdF (s.set k t)) ∧ w.grownBy ((w.setCell ⟨g, k * 2, none⟩ (.int .i64 t.n)).setCell ⟨g, k * 2 + 1, none⟩ (.int .i64 t.u)) (some g) := by
  have s0 := ownz_set h (j := k * 2) (.int .i64 t.n)
  have s1 := ownz_set s0.1 (j := k * 2 + 1) (.int .i64 t.u)
  rw [hdF_set s k t hk] at s1
  exact ⟨s1.1, (grown_trans s0.2 s1.2)⟩
theorem ownHd_facts {w : World} {base n k : Nat} {s : List Hd} {g cap : Nat} {t : Hd} (h : w.ownsRow base 82 2 (.slice (some ⟨g, 0, none⟩) n cap) n (hdF s)) (hk : s[k]? = some t) :
    w.cell? ⟨g, k * 2, none⟩ = some (.int .i64 t.n) ∧ w.cell? ⟨g, k * 2 + 1, none⟩ = some (.int .i64 t.u) ∧ w.frozen? ⟨g, k * 2, none⟩ = false ∧ w.frozen? ⟨g, k * 2 + 1, none⟩ = false ∧ g < w.heap.size := by
  obtain ⟨hlt, he⟩ := List.getElem?_eq_some_iff.1 hk
  have hl := hdF_len s
  obtain ⟨e0, e1⟩ := hdF_at hlt
  obtain ⟨c0, f0, _, hg0⟩ := ownz_facts h (j := k * 2) (by omega)
  obtain ⟨a0, b0⟩ := List.getElem?_eq_some_iff.1 e0
  rw [b0, he] at c0
  obtain ⟨c1, f1, _, hg1⟩ := ownz_facts h (j := k * 2 + 1) (by omega)
  obtain ⟨a1, b1⟩ := List.getElem?_eq_some_iff.1 e1
  rw [b1, he] at c1
  exact ⟨c0, c1, f0, f1, hg0⟩
/-- A list that is drawn up in memory of the call's own. -/
structure OutHd (W0 wr : World) (v : Value) (zs : List Hd) : Prop where
  own : wr.ownsRow W0.heap.size 82 2 v zs.length (hdF zs)
  bel : Below W0.heap.size W0 wr
theorem OutHd.alloc {W0 wr : World} {v : Value} {zs : List Hd} (h : OutHd W0 wr v zs) (o : Obj) : OutHd W0 (wr.alloc o) v zs :=
  ⟨ownz_below h.own ((Below.refl _ _).alloc (Nat.le_refl _) o) (Nat.le_refl _), b_a h.bel o⟩
theorem OutHd.drewN {W0 wr : World} {v : Value} {zs : List Hd} (h : OutHd W0 wr v zs) (n : Nat) : OutHd W0 (wr.drewN n) v zs :=
  ⟨ownz_below h.own (bdrew wr n) (Nat.le_refl _), b_d h.bel n⟩
theorem OutHd.below {W0 wr w1 : World} {v : Value} {zs : List Hd} (h : OutHd W0 wr v zs) (l : Below wr.heap.size wr w1) : OutHd W0 w1 v zs :=
  ⟨ownz_below h.own l (Nat.le_refl _), h.bel.trans (l.mono h.bel.size)⟩
theorem OutHd.start (W0 wr : World) (h : Below W0.heap.size W0 wr) : OutHd W0 (wr.alloc (.cells #[] 82)) (.slice (some ⟨wr.heap.size, 0, none⟩) 0 0) [] :=
  ⟨by simpa [hdF_nil] using litz wr W0.heap.size 82 2 h.size, b_a h _⟩
theorem OutHd.app {W0 wr w1 : World} {v v' : Value} {zs zs5 : List Hd} {t : Hd} (h : OutHd W0 wr v zs) (hz : zs5 = zs ++ [t]) (ho : w1.ownsRow W0.heap.size 82 2 v' (zs.length + 1) (hdF zs ++ hdC t)) (hg : wr.grownBy w1 v.ownBlock) :
    ∃ g c, v' = .slice (some ⟨g, 0, none⟩) zs5.length c ∧ OutHd W0 w1 (.slice (some ⟨g, 0, none⟩) zs5.length c) zs5 := by
  subst hz
  obtain ⟨g, c, rfl⟩ := ownz_form ho (by omega)
  have e : (zs ++ [t]).length = zs.length + 1 := by simp
  refine ⟨g, c, by rw [e], ⟨?_, ?_⟩⟩
  · rw [e, hdF_snoc]
    exact ho
  · exact h.bel.grown hg h.bel.size (fun k hk => (h.own.lt k hk).1)
end Go.Proofs.Ytlendmiolhgecaa
