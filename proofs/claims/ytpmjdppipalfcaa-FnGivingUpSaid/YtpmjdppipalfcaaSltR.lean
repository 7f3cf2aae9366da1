/-
  Rows of Slots: elements, stores.
-/
import Derived.Test.YtpmjdppipalfcaaRcvMath
import Derived.Test.YtpmjdppipalfcaaAppZ
import Derived.Test.YtpmjdppipalfcaaOwnZ
import Derived.Test.YtpmjdppipalfcaaBox
namespace Go.Proofs.Ytpmjdppipalfcaa
open Go.RowKit Go.Lib Go.Joins
set_option linter.unusedVariables false

def slC (t : Sl) : List Value := [.bool t.h, .string t.s]
theorem slC_len (t : Sl) : (slC t).length = 2 := rfl
/-- The cells of a list. -/
def slF (s : List Sl) : List Value := flatZ slC s
theorem slF_len (s : List Sl) : (slF s).length = s.length * 2 := flat_len slC_len s
theorem sl_open {w : World} {v : Value} {s : List Sl} (hrow : Row w v s.length (slF s)) :
    ∃ a cap, v = .slice a s.length cap ∧ s.length ≤ cap ∧ cap ≤ maxLen ∧ ∀ k (h : k < s.length), ∃ b off, a = some ⟨b, off, none⟩ ∧ b < w.heap.size ∧ w.cell? ⟨b, off + k * 2, none⟩ = some (.bool s[k].h) ∧ w.cell? ⟨b, off + k * 2 + 1, none⟩ = some (.string s[k].s) := by
  obtain ⟨a, cap, rfl, h1, h2, h3⟩ := rowz_open slC_len (by omega) hrow
  refine ⟨a, cap, rfl, h1, h2, fun k h => ?_⟩
  obtain ⟨b, off, rfl, hb, hc⟩ := h3 k h
  exact ⟨b, off, rfl, hb, by simpa using hc 0 _ rfl, by simpa [Nat.add_assoc] using hc 1 _ rfl⟩
theorem row_sl {w : World} {a : Option Addr} {cap : Nat} {s : List Sl} {k : Nat} (hrow : Row w (.slice a s.length cap) s.length (slF s)) (h : k < s.length) :
    ∃ b off, a = some ⟨b, off, none⟩ ∧ b < w.heap.size ∧ w.cell? ⟨b, off + k * 2, none⟩ = some (.bool s[k].h) ∧ w.cell? ⟨b, off + k * 2 + 1, none⟩ = some (.string s[k].s) := by
  obtain ⟨a2, c2, e, _, _, h3⟩ := sl_open hrow
  injection e with e1 e2 e3
  subst e1
  exact h3 k h
theorem infoSl : (Try.prog.info? 66).map (fun i => (i.zero, i.size, i.bytes)) = some (some (.agg #[.bool false, .string ⟨#[]⟩]), 2, 24) := by kernel_rfl
theorem slF_append (s u : List Sl) : slF (s ++ u) = slF s ++ slF u := flat_append slC s u
theorem slF_snoc (s : List Sl) (t : Sl) : slF (s ++ [t]) = slF s ++ slC t := by unfold slF; rw [flat_append, flat_one]
theorem slF_nil : slF [] = [] := rfl
theorem slF_single (t : Sl) : slF [t] = slC t := flat_one slC t
theorem slC_one (t : Sl) : ∀ u ∈ slC t, u.oneCell' = true := by
  intro u hu
  simp only [slC, List.mem_cons, List.not_mem_nil, or_false] at hu
  rcases hu with rfl | rfl <;> rfl
theorem slF_one (s : List Sl) : ∀ u ∈ slF s, u.oneCell' = true := by
  intro u hu
  unfold slF flatZ at hu
  obtain ⟨t, _, ht⟩ := List.mem_flatMap.1 hu
  exact slC_one t u ht
theorem slF_at {s : List Sl} {k : Nat} (hk : k < s.length) : (slF s)[k * 2]? = some (.bool s[k].h) ∧ (slF s)[k * 2 + 1]? = some (.string s[k].s) :=
  ⟨flat_get slC_len s k 0 hk (by omega), flat_get slC_len s k 1 hk (by omega)⟩
theorem slF_take (s : List Sl) (k : Nat) : (slF s).take (k * 2) = slF (s.take k) := flat_take slC_len s k
theorem slF_drop (s : List Sl) (k : Nat) : (slF s).drop (k * 2) = slF (s.drop k) := by
  have e : slF s = slF (s.take k) ++ slF (s.drop k) := by rw [← slF_append, List.take_append_drop]
  by_cases h : k ≤ s.length
  · rw [e, List.drop_append_of_le_length (by rw [slF_len, List.length_take]; omega), List.drop_of_length_le (by rw [slF_len, List.length_take]; omega), List.nil_append]
  · rw [List.drop_of_length_le (by rw [slF_len]; omega), List.drop_of_length_le (by omega), slF_nil]
theorem slF_set : ∀ (s : List Sl) (k : Nat) (t : Sl), k < s.length → (((slF s).set (k * 2) (.bool t.h)).set (k * 2 + 1) (.string t.s)) = slF (s.set k t)
  | [], k, t, h => by simp at h
  | a :: s, 0, t, _ => by
    simp [slF, flat_cons, slC]
  | a :: s, k + 1, t, h => by
    have ih := slF_set s k t (by simpa using h)
    unfold slF at ih ⊢
    rw [List.set_cons_succ, flat_cons, flat_cons, ← ih]
    rw [show (k + 1) * 2 = k * 2 + 1 + 1 by omega]
    simp only [slC, List.cons_append, List.nil_append, List.set_cons_succ]
theorem row_litSl {w : World} {g : Nat} {t : Sl} {y : TypeId} (h : Bx w g #[.bool t.h, .string t.s] y) : Row w (.slice (some ⟨g, 0, none⟩) 1 1) 1 (slC t) := by
  refine ⟨some ⟨g, 0, none⟩, 1, rfl, Nat.le_refl _, by decide, fun _ => ⟨g, 0, rfl, h.lt, fun i hi => ?_⟩⟩
  match i, hi with
  | 0, _ => exact h.at 0 rfl
  | 1, _ => exact h.at 1 rfl
/-- Stores into an element of an owned row. -/
theorem ownSl_set {w : World} {base n k : Nat} {s : List Sl} {g cap : Nat} (h : w.ownsRow base 66 2 (.slice (some ⟨g, 0, none⟩) n cap) n (slF s)) (t : Sl) (hk : k < s.length) :
    ((w.setCell ⟨g, k * 2, none⟩ (.bool t.h)).setCell ⟨g, k * 2 + 1, none⟩ (.string t.s)).ownsRow base 66 2 (.slice (some ⟨g, 0, none⟩) n cap) n (slF (s.set k t)) ∧ w.grownBy ((w.setCell ⟨g, k * 2, none⟩ (.bool t.h)).setCell ⟨g, k * 2 + 1, none⟩ (.string t.s)) (some g) := by
  have s0 := ownz_set h (j := k * 2) (.bool t.h)
  have s1 := ownz_set s0.1 (j := k * 2 + 1) (.string t.s)
  rw [slF_set s k t hk] at s1
  exact ⟨s1.1, (grown_trans s0.2 s1.2)⟩
theorem ownSl_facts {w : World} {base n k : Nat} {s : List Sl} {g cap : Nat} {t : Sl} (h : w.ownsRow base 66 2 (.slice (some ⟨g, 0, none⟩) n cap) n (slF s)) (hk : s[k]? = some t) :
    w.cell? ⟨g, k * 2, none⟩ = some (.bool t.h) ∧ w.cell? ⟨g, k * 2 + 1, none⟩ = some (.string t.s) ∧ w.frozen? ⟨g, k * 2, none⟩ = false ∧ w.frozen? ⟨g, k * 2 + 1, none⟩ = false ∧ g < w.heap.size := by
  obtain ⟨hlt, he⟩ := List.getElem?_eq_some_iff.1 hk
  have hl := slF_len s
  obtain ⟨e0, e1⟩ := slF_at hlt
  obtain ⟨c0, f0, _, hg0⟩ := ownz_facts h (j := k * 2) (by omega)
  obtain ⟨a0, b0⟩ := List.getElem?_eq_some_iff.1 e0
  rw [b0, he] at c0
  obtain ⟨c1, f1, _, hg1⟩ := ownz_facts h (j := k * 2 + 1) (by omega)
  obtain ⟨a1, b1⟩ := List.getElem?_eq_some_iff.1 e1
  rw [b1, he] at c1
  exact ⟨c0, c1, f0, f1, hg0⟩
theorem isSl : IsBox 66 2 := fun w g cs hn h => run_loadVar_row w g 66 66 cs (0, 0) _ h Try.underlying66 (by rfl) (by rw [hn]; kernel_rfl)
end Go.Proofs.Ytpmjdppipalfcaa
