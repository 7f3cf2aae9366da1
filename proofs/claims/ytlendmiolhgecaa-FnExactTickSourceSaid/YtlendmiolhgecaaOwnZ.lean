/-
  Rows of elements of several cells (structs): a row's elements written out as cells; what keeps a row of the call's own, stores, reads.
-/
import Derived.Test.YtlendmiolhgecaaOwn
namespace Go.Proofs.Ytlendmiolhgecaa
open Go.RowKit
set_option linter.unusedVariables false

/-- The cells of a list of elements. -/
def flatZ {α : Type} (f : α → List Value) (s : List α) : List Value := s.flatMap f
theorem flat_len {α : Type} {z : Nat} {f : α → List Value} (hf : ∀ a, (f a).length = z) : ∀ (s : List α), (flatZ f s).length = s.length * z
  | [] => by simp [flatZ]
  | a :: s => by
    have := flat_len hf s
    unfold flatZ at this ⊢
    rw [List.flatMap_cons, List.length_append, hf, this, List.length_cons, Nat.succ_mul]
    omega
theorem flat_get {α : Type} {z : Nat} {f : α → List Value} (hf : ∀ a, (f a).length = z) : ∀ (s : List α) (k j : Nat) (hk : k < s.length), j < z → (flatZ f s)[k * z + j]? = (f s[k])[j]?
  | [], k, j, hk, _ => by simp at hk
  | a :: s, 0, j, hk, hj => by
    unfold flatZ
    rw [List.flatMap_cons, List.getElem?_append_left (by rw [hf]; omega)]
    simp
  | a :: s, k + 1, j, hk, hj => by
    have ih := flat_get hf s k j (by simpa using hk) hj
    unfold flatZ at ih ⊢
    rw [List.flatMap_cons, List.getElem?_append_right (by rw [hf, Nat.succ_mul]; omega), hf, show (k + 1) * z + j - z = k * z + j by rw [Nat.succ_mul]; omega, ih]
    simp
theorem flat_append {α : Type} (f : α → List Value) (s u : List α) : flatZ f (s ++ u) = flatZ f s ++ flatZ f u := by unfold flatZ; rw [List.flatMap_append]
theorem flat_one {α : Type} (f : α → List Value) (a : α) : flatZ f [a] = f a := by simp [flatZ]
theorem flat_nil {α : Type} (f : α → List Value) : flatZ f ([] : List α) = [] := rfl
theorem flat_cons {α : Type} (f : α → List Value) (a : α) (s : List α) : flatZ f (a :: s) = f a ++ flatZ f s := by unfold flatZ; rw [List.flatMap_cons]
theorem flat_take {α : Type} {z : Nat} {f : α → List Value} (hf : ∀ a, (f a).length = z) : ∀ (s : List α) (k : Nat), (flatZ f s).take (k * z) = flatZ f (s.take k)
  | [], k => by simp [flatZ]
  | a :: s, 0 => by simp [flatZ]
  | a :: s, k + 1 => by
    rw [flat_cons, List.take_succ_cons, flat_cons, ← flat_take hf s k, List.take_append, hf, List.take_of_length_le (by rw [hf, Nat.succ_mul]; omega), Nat.succ_mul, Nat.add_sub_cancel]

section
variable {z : Nat}
theorem ownz_set {w : World} {base n j : Nat} {e : TypeId} {xs : List Value} {g cap : Nat} (h : w.ownsRow base e z (.slice (some ⟨g, 0, none⟩) n cap) n xs) (u : Value) :
    (w.setCell ⟨g, j, none⟩ u).ownsRow base e z (.slice (some ⟨g, 0, none⟩) n cap) n (xs.set j u) ∧ w.grownBy (w.setCell ⟨g, j, none⟩ u) (some g) := by
  obtain ⟨hl, h | ⟨g', cap', cur, hv, hb, hg, hn, hm, hs, ht⟩⟩ := h
  · cases h.1
  · cases hv
    have e1 := setCell_eq_setRow w g j cur e (0, 0) u hg
    refine ⟨⟨by rw [List.length_set]; exact hl, .inr ⟨g, cap, cur.setIfInBounds j u, rfl, hb, ?_, hn, hm, by simp [hs], ?_⟩⟩, ?_⟩
    · rw [e1]; exact setRow_heap w g cur _ e (0, 0) hg
    · rw [← ht]
      simp only [Array.toList_setIfInBounds]
      rw [List.take_set]
    · rw [e1]
      exact ⟨rfl, rfl, rfl, by simp, fun k _ hne => setRow_other w g k _ (fun e => hne (by rw [e]))⟩
theorem ownz_facts {w : World} {base n j : Nat} {e : TypeId} {xs : List Value} {g cap : Nat} (h : w.ownsRow base e z (.slice (some ⟨g, 0, none⟩) n cap) n xs) (hj : j < xs.length) :
    w.cell? ⟨g, j, none⟩ = some xs[j] ∧ w.frozen? ⟨g, j, none⟩ = false ∧ base ≤ g ∧ g < w.heap.size := by
  refine ⟨?_, ?_, (h.lt g rfl).1, (h.lt g rfl).2⟩
  · have := h.cells (g := g) rfl j _ (List.getElem?_eq_getElem hj)
    rw [addr_add, Nat.zero_add] at this
    exact this
  · obtain ⟨_, h | ⟨g', cap', cur, hv, _, hg, _⟩⟩ := h
    · cases h.1
    · cases hv
      simp [World.frozen?, hg]
theorem rowz_own {w : World} {base n : Nat} {e : TypeId} {v : Value} {xs : List Value} (h : w.ownsRow base e z v n xs) : Row w v n xs := by
  have h0 := h
  obtain ⟨hl, ⟨rfl, rfl⟩ | ⟨g, cap, cur, rfl, hb, hg, hn, hm, hs, ht⟩⟩ := h
  · exact ⟨none, 0, rfl, Nat.le_refl _, Nat.zero_le _, fun hx => absurd (List.eq_nil_of_length_eq_zero (by omega)) hx⟩
  · refine ⟨_, cap, rfl, hn, hm, fun _ => ⟨g, 0, rfl, (Array.getElem?_eq_some_iff.1 hg).1, fun i hi => ?_⟩⟩
    have := h0.cells (g := g) rfl i _ (List.getElem?_eq_getElem hi)
    rw [addr_add] at this
    exact this
theorem ownz_form {w : World} {base n : Nat} {e : TypeId} {v : Value} {xs : List Value} (h : w.ownsRow base e z v n xs) (hn : 0 < n) : ∃ g cap, v = .slice (some ⟨g, 0, none⟩) n cap := by
  obtain ⟨hl, ⟨rfl, h0⟩ | ⟨g, cap, cur, rfl, _⟩⟩ := h
  · omega
  · exact ⟨g, cap, rfl⟩
theorem ownz_slice {w : World} {base n : Nat} {e : TypeId} {v : Value} {xs : List Value} (h : w.ownsRow base e z v n xs) : ∃ a cap, v = .slice a n cap ∧ n ≤ cap ∧ cap ≤ maxLen := by
  obtain ⟨hl, ⟨rfl, rfl⟩ | ⟨g, cap, cur, rfl, hb, hg, hn, hm, hs, ht⟩⟩ := h
  · exact ⟨none, 0, rfl, Nat.le_refl _, Nat.zero_le _⟩
  · exact ⟨_, cap, rfl, hn, hm⟩
theorem ownz_below {w w' : World} {B b n : Nat} {e : TypeId} {v : Value} {xs : List Value} (h : w.ownsRow b e z v n xs) (hb : Below B w w') (hB : w.heap.size ≤ B) : w'.ownsRow b e z v n xs := by
  obtain ⟨hl, h | ⟨g, cap, cur, hv, h1, hg, rest⟩⟩ := h
  · exact ⟨hl, .inl h⟩
  · refine ⟨hl, .inr ⟨g, cap, cur, hv, h1, ?_, rest⟩⟩
    rw [hb.block g (Nat.lt_of_lt_of_le (Array.getElem?_eq_some_iff.1 hg).1 hB)]
    exact hg
theorem ownz_base {w : World} {b b' n : Nat} {e : TypeId} {v : Value} {xs : List Value} (h : w.ownsRow b e z v n xs) (hb : b' ≤ b) : w.ownsRow b' e z v n xs := by
  obtain ⟨hl, h | ⟨g, cap, cur, hv, h1, rest⟩⟩ := h
  · exact ⟨hl, .inl h⟩
  · exact ⟨hl, .inr ⟨g, cap, cur, hv, Nat.le_trans hb h1, rest⟩⟩
theorem ownz_apart {w w' : World} {b1 n1 : Nat} {e : TypeId} {v1 v2 : Value} {xs : List Value} (h1 : w.ownsRow b1 e z v1 n1 xs) (hg : w.grownBy w' v2.ownBlock) (hne : ∀ k, v1.ownBlock = some k → v2.ownBlock ≠ some k) : w'.ownsRow b1 e z v1 n1 xs := by
  refine h1.kept hg ?_
  cases hv : v1.ownBlock with
  | none => exact .inl rfl
  | some k => exact .inr fun e => hne k hv e.symm
theorem ownz_cur {w w' : World} {base n B : Nat} {e : TypeId} {v : Value} {xs : List Value} (h : w.ownsRow base e z v n xs) (hg : w.grownBy w' (some B)) (hB : B < base) : w'.ownsRow base e z v n xs := by
  refine h.kept hg ?_
  cases hv : v.ownBlock with
  | none => exact .inl rfl
  | some k =>
    refine .inr fun e => ?_
    have := (h.lt k hv).1
    have e2 : k = B := Option.some.inj e
    omega
theorem ownz_none {w w' : World} {base n : Nat} {e : TypeId} {v : Value} {xs : List Value} (h : w.ownsRow base e z v n xs) (hg : w.grownBy w' none) : w'.ownsRow base e z v n xs :=
  h.kept hg (by cases hv : v.ownBlock with | none => exact .inl rfl | some k => exact .inr (by simp))
theorem ownz_made (w : World) (xs : List Value) (t : TypeId) (n : Nat) (h : xs.length = n * z) (hm : n ≤ maxLen) : (w.alloc (.cells xs.toArray t)).ownsRow w.heap.size t z (.slice (some ⟨w.heap.size, 0, none⟩) n n) n xs := by
  refine ⟨h, .inr ⟨w.heap.size, n, xs.toArray, rfl, Nat.le_refl _, ?_, Nat.le_refl _, hm, by simp [h], ?_⟩⟩
  · show (w.heap.push _)[w.heap.size]? = _
    exact Array.getElem?_push_size
  · rw [← h]; simp
end
/-- A row of elements of z cells, opened: cell j of element k. -/
theorem rowz_open {w : World} {v : Value} {α : Type} {z : Nat} {f : α → List Value} {s : List α} (hf : ∀ a, (f a).length = z) (hz : 0 < z) (hrow : Row w v s.length (flatZ f s)) :
    ∃ a cap, v = .slice a s.length cap ∧ s.length ≤ cap ∧ cap ≤ maxLen ∧ ∀ k (h : k < s.length), ∃ b off, a = some ⟨b, off, none⟩ ∧ b < w.heap.size ∧ ∀ j u, (f s[k])[j]? = some u → w.cell? ⟨b, off + (k * z + j), none⟩ = some u := by
  obtain ⟨a, cap, rfl, h1, h2, h3⟩ := hrow
  refine ⟨a, cap, rfl, h1, h2, fun k h => ?_⟩
  have hl := flat_len hf s
  obtain ⟨b, off, rfl, hb, hc⟩ := h3 (by
    intro e
    rw [e, List.length_nil] at hl
    have : 0 < s.length * z := Nat.mul_pos (by omega) hz
    omega)
  refine ⟨b, off, rfl, hb, fun j u hu => ?_⟩
  have hj : j < z := by rw [← hf s[k]]; exact (List.getElem?_eq_some_iff.1 hu).1
  have hi := flat_get hf s k j h hj
  rw [hu] at hi
  obtain ⟨hlt, he⟩ := List.getElem?_eq_some_iff.1 hi
  rw [hc _ hlt, he]
end Go.Proofs.Ytlendmiolhgecaa
