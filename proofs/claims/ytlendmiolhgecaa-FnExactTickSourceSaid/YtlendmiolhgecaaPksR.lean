/-
  Rows of Packets: elements, stores.
-/
import Derived.Test.YtlendmiolhgecaaSndMath
import Derived.Test.YtlendmiolhgecaaAppZ
import Derived.Test.YtlendmiolhgecaaOwnZ
import Derived.Test.YtlendmiolhgecaaBox
namespace Go.Proofs.Ytlendmiolhgecaa
open Go.RowKit Go.Lib Go.Joins
set_option linter.unusedVariables false

def pqC (t : Pk) : List Value := [.int .i64 t.k, .int .i64 t.n, .int .i64 t.t, .int .i64 t.l, .string t.d]
theorem pqC_len (t : Pk) : (pqC t).length = 5 := rfl
/-- The cells of a list. -/
def pqF (s : List Pk) : List Value := flatZ pqC s
theorem pqF_len (s : List Pk) : (pqF s).length = s.length * 5 := flat_len pqC_len s
theorem pq_open {w : World} {v : Value} {s : List Pk} (hrow : Row w v s.length (pqF s)) :
    ∃ a cap, v = .slice a s.length cap ∧ s.length ≤ cap ∧ cap ≤ maxLen ∧ ∀ k (h : k < s.length), ∃ b off, a = some ⟨b, off, none⟩ ∧ b < w.heap.size ∧ w.cell? ⟨b, off + k * 5, none⟩ = some (.int .i64 s[k].k) ∧ w.cell? ⟨b, off + k * 5 + 1, none⟩ = some (.int .i64 s[k].n) ∧ w.cell? ⟨b, off + k * 5 + 2, none⟩ = some (.int .i64 s[k].t) ∧ w.cell? ⟨b, off + k * 5 + 3, none⟩ = some (.int .i64 s[k].l) ∧ w.cell? ⟨b, off + k * 5 + 4, none⟩ = some (.string s[k].d) := by
  obtain ⟨a, cap, rfl, h1, h2, h3⟩ := rowz_open pqC_len (by omega) hrow
  refine ⟨a, cap, rfl, h1, h2, fun k h => ?_⟩
  obtain ⟨b, off, rfl, hb, hc⟩ := h3 k h
  exact ⟨b, off, rfl, hb, by simpa using hc 0 _ rfl, by simpa [Nat.add_assoc] using hc 1 _ rfl, by simpa [Nat.add_assoc] using hc 2 _ rfl, by simpa [Nat.add_assoc] using hc 3 _ rfl, by simpa [Nat.add_assoc] using hc 4 _ rfl⟩
theorem row_pq {w : World} {a : Option Addr} {cap : Nat} {s : List Pk} {k : Nat} (hrow : Row w (.slice a s.length cap) s.length (pqF s)) (h : k < s.length) :
    ∃ b off, a = some ⟨b, off, none⟩ ∧ b < w.heap.size ∧ w.cell? ⟨b, off + k * 5, none⟩ = some (.int .i64 s[k].k) ∧ w.cell? ⟨b, off + k * 5 + 1, none⟩ = some (.int .i64 s[k].n) ∧ w.cell? ⟨b, off + k * 5 + 2, none⟩ = some (.int .i64 s[k].t) ∧ w.cell? ⟨b, off + k * 5 + 3, none⟩ = some (.int .i64 s[k].l) ∧ w.cell? ⟨b, off + k * 5 + 4, none⟩ = some (.string s[k].d) := by
  obtain ⟨a2, c2, e, _, _, h3⟩ := pq_open hrow
  injection e with e1 e2 e3
  subst e1
  exact h3 k h
theorem infoPq : (Try.prog.info? 64).map (fun i => (i.zero, i.size, i.bytes)) = some (some (.agg #[.int .i64 0, .int .i64 0, .int .i64 0, .int .i64 0, .string ⟨#[]⟩]), 5, 48) := by kernel_rfl
theorem pqF_append (s u : List Pk) : pqF (s ++ u) = pqF s ++ pqF u := flat_append pqC s u
theorem pqF_snoc (s : List Pk) (t : Pk) : pqF (s ++ [t]) = pqF s ++ pqC t := by unfold pqF; rw [flat_append, flat_one]
theorem pqF_nil : pqF [] = [] := rfl
theorem pqF_single (t : Pk) : pqF [t] = pqC t := flat_one pqC t
theorem pqC_one (t : Pk) : ∀ u ∈ pqC t, u.oneCell' = true := by
  intro u hu
  simp only [pqC, List.mem_cons, List.not_mem_nil, or_false] at hu
  rcases hu with rfl | rfl | rfl | rfl | rfl <;> rfl
theorem pqF_one (s : List Pk) : ∀ u ∈ pqF s, u.oneCell' = true := by
  intro u hu
  unfold pqF flatZ at hu
  obtain ⟨t, _, ht⟩ := List.mem_flatMap.1 hu
  exact pqC_one t u ht
theorem pqF_at {s : List Pk} {k : Nat} (hk : k < s.length) : (pqF s)[k * 5]? = some (.int .i64 s[k].k) ∧ (pqF s)[k * 5 + 1]? = some (.int .i64 s[k].n) ∧ (pqF s)[k * 5 + 2]? = some (.int .i64 s[k].t) ∧ (pqF s)[k * 5 + 3]? = some (.int .i64 s[k].l) ∧ (pqF s)[k * 5 + 4]? = some (.string s[k].d) :=
  ⟨flat_get pqC_len s k 0 hk (by omega), flat_get pqC_len s k 1 hk (by omega), flat_get pqC_len s k 2 hk (by omega), flat_get pqC_len s k 3 hk (by omega), flat_get pqC_len s k 4 hk (by omega)⟩
theorem pqF_take (s : List Pk) (k : Nat) : (pqF s).take (k * 5) = pqF (s.take k) := flat_take pqC_len s k
theorem pqF_drop (s : List Pk) (k : Nat) : (pqF s).drop (k * 5) = pqF (s.drop k) := by
  have e : pqF s = pqF (s.take k) ++ pqF (s.drop k) := by rw [← pqF_append, List.take_append_drop]
  by_cases h : k ≤ s.length
  · rw [e, List.drop_append_of_le_length (by rw [pqF_len, List.length_take]; omega), List.drop_of_length_le (by rw [pqF_len, List.length_take]; omega), List.nil_append]
  · rw [List.drop_of_length_le (by rw [pqF_len]; omega), List.drop_of_length_le (by omega), pqF_nil]
theorem pqF_set : ∀ (s : List Pk) (k : Nat) (t : Pk), k < s.length → ((((((pqF s).set (k * 5) (.int .i64 t.k)).set (k * 5 + 1) (.int .i64 t.n)).set (k * 5 + 2) (.int .i64 t.t)).set (k * 5 + 3) (.int .i64 t.l)).set (k * 5 + 4) (.string t.d)) = pqF (s.set k t)
  | [], k, t, h => by simp at h
  | a :: s, 0, t, _ => by
    simp [pqF, flat_cons, pqC]
  | a :: s, k + 1, t, h => by
    have ih := pqF_set s k t (by simpa using h)
    unfold pqF at ih ⊢
    rw [List.set_cons_succ, flat_cons, flat_cons, ← ih]
    rw [show (k + 1) * 5 = k * 5 + 1 + 1 + 1 + 1 + 1 by omega]
    simp only [pqC, List.cons_append, List.nil_append, List.set_cons_succ]
theorem row_litPq {w : World} {g : Nat} {t : Pk} {y : TypeId} (h : Bx w g #[.int .i64 t.k, .int .i64 t.n, .int .i64 t.t, .int .i64 t.l, .string t.d] y) : Row w (.slice (some ⟨g, 0, none⟩) 1 1) 1 (pqC t) := by
  refine ⟨some ⟨g, 0, none⟩, 1, rfl, Nat.le_refl _, by decide, fun _ => ⟨g, 0, rfl, h.lt, fun i hi => ?_⟩⟩
  match i, hi with
  | 0, _ => exact h.at 0 rfl
  | 1, _ => exact h.at 1 rfl
  | 2, _ => exact h.at 2 rfl
  | 3, _ => exact h.at 3 rfl
  | 4, _ => exact h.at 4 rfl
/-- Stores into an element of an owned row. -/
theorem ownPq_set {w : World} {base n k : Nat} {s : List Pk} {g cap : Nat} (h : w.ownsRow base 64 5 (.slice (some ⟨g, 0, none⟩) n cap) n (pqF s)) (t : Pk) (hk : k < s.length) :
    (((((w.setCell ⟨g, k * 5, none⟩ (.int .i64 t.k)).setCell ⟨g, k * 5 + 1, none⟩ (.int .i64 t.n)).setCell ⟨g, k * 5 + 2, none⟩ (.int .i64 t.t)).setCell ⟨g, k * 5 + 3, none⟩ (.int .i64 t.l)).setCell ⟨g, k * 5 + 4, none⟩ (.string t.d)).ownsRow base 64 5 (.slice (some ⟨g, 0, none⟩) n cap) n (pqF (s.set k t)) ∧ w.grownBy (((((w.setCell ⟨g, k * 5, none⟩ (.int .i64 t.k)).setCell ⟨g, k * 5 + 1, none⟩ (.int .i64 t.n)).setCell ⟨g, k * 5 + 2, none⟩ (.int .i64 t.t)).setCell ⟨g, k * 5 + 3, none⟩ (.int .i64 t.l)).setCell ⟨g, k * 5 + 4, none⟩ (.string t.d)) (some g) := by
  have s0 := ownz_set h (j := k * 5) (.int .i64 t.k)
  have s1 := ownz_set s0.1 (j := k * 5 + 1) (.int .i64 t.n)
  have s2 := ownz_set s1.1 (j := k * 5 + 2) (.int .i64 t.t)
  have s3 := ownz_set s2.1 (j := k * 5 + 3) (.int .i64 t.l)
  have s4 := ownz_set s3.1 (j := k * 5 + 4) (.string t.d)
  rw [pqF_set s k t hk] at s4
  exact ⟨s4.1, (grown_trans (grown_trans (grown_trans (grown_trans s0.2 s1.2) s2.2) s3.2) s4.2)⟩
theorem ownPq_facts {w : World} {base n k : Nat} {s : List Pk} {g cap : Nat} {t : Pk} (h : w.ownsRow base 64 5 (.slice (some ⟨g, 0, none⟩) n cap) n (pqF s)) (hk : s[k]? = some t) :
    w.cell? ⟨g, k * 5, none⟩ = some (.int .i64 t.k) ∧ w.cell? ⟨g, k * 5 + 1, none⟩ = some (.int .i64 t.n) ∧ w.cell? ⟨g, k * 5 + 2, none⟩ = some (.int .i64 t.t) ∧ w.cell? ⟨g, k * 5 + 3, none⟩ = some (.int .i64 t.l) ∧ w.cell? ⟨g, k * 5 + 4, none⟩ = some (.string t.d) ∧ w.frozen? ⟨g, k * 5, none⟩ = false ∧ w.frozen? ⟨g, k * 5 + 1, none⟩ = false ∧ w.frozen? ⟨g, k * 5 + 2, none⟩ = false ∧ w.frozen? ⟨g, k * 5 + 3, none⟩ = false ∧ w.frozen? ⟨g, k * 5 + 4, none⟩ = false ∧ g < w.heap.size := by
  obtain ⟨hlt, he⟩ := List.getElem?_eq_some_iff.1 hk
  have hl := pqF_len s
  obtain ⟨e0, e1, e2, e3, e4⟩ := pqF_at hlt
  obtain ⟨c0, f0, _, hg0⟩ := ownz_facts h (j := k * 5) (by omega)
  obtain ⟨a0, b0⟩ := List.getElem?_eq_some_iff.1 e0
  rw [b0, he] at c0
  obtain ⟨c1, f1, _, hg1⟩ := ownz_facts h (j := k * 5 + 1) (by omega)
  obtain ⟨a1, b1⟩ := List.getElem?_eq_some_iff.1 e1
  rw [b1, he] at c1
  obtain ⟨c2, f2, _, hg2⟩ := ownz_facts h (j := k * 5 + 2) (by omega)
  obtain ⟨a2, b2⟩ := List.getElem?_eq_some_iff.1 e2
  rw [b2, he] at c2
  obtain ⟨c3, f3, _, hg3⟩ := ownz_facts h (j := k * 5 + 3) (by omega)
  obtain ⟨a3, b3⟩ := List.getElem?_eq_some_iff.1 e3
  rw [b3, he] at c3
  obtain ⟨c4, f4, _, hg4⟩ := ownz_facts h (j := k * 5 + 4) (by omega)
  obtain ⟨a4, b4⟩ := List.getElem?_eq_some_iff.1 e4
  rw [b4, he] at c4
  exact ⟨c0, c1, c2, c3, c4, f0, f1, f2, f3, f4, hg0⟩
theorem isPq : IsBox 64 5 := fun w g cs hn h => run_loadVar_row w g 64 64 cs (0, 0) _ h Try.underlying64 (by rfl) (by rw [hn]; kernel_rfl)
end Go.Proofs.Ytlendmiolhgecaa
