/-
  Insertion sort over whatever comparison: where an element goes, the sorted list, the row while an element is on its way. No program.
-/
namespace Go.Proofs.Ytlendmiolhgecaa
set_option linter.unusedVariables false
set_option linter.unusedSimpArgs false

section
variable {α : Type}
/-- Where x goes among the first k: behind the last one that it is not less than. -/
def posG (lt : α → α → Bool) (x : α) (os : List α) : Nat → Nat
  | 0 => 0
  | k + 1 => match os[k]? with
    | some y => if lt x y = true then posG lt x os k else k + 1
    | none => k + 1
def insG (lt : α → α → Bool) (os : List α) (x : α) : List α := os.take (posG lt x os os.length) ++ (x :: os.drop (posG lt x os os.length))
def sortG (lt : α → α → Bool) (xs : List α) : List α := xs.foldl (insG lt) []

theorem posG_le (lt : α → α → Bool) (x : α) (os : List α) : ∀ k, posG lt x os k ≤ k
  | 0 => Nat.le_refl _
  | k + 1 => by
    unfold posG
    split
    · split
      · have := posG_le lt x os k; omega
      · omega
    · omega
theorem posG_step {lt : α → α → Bool} {x : α} {os : List α} {k : Nat} (h : k < os.length) : posG lt x os (k + 1) = if lt x os[k] = true then posG lt x os k else k + 1 := by
  rw [posG, List.getElem?_eq_getElem h]
theorem insG_len (lt : α → α → Bool) (os : List α) (x : α) : (insG lt os x).length = os.length + 1 := by
  have := posG_le lt x os os.length
  unfold insG
  simp; omega
theorem insG_perm (lt : α → α → Bool) (os : List α) (x : α) : (insG lt os x).Perm (x :: os) := by
  unfold insG
  refine List.perm_middle.trans ?_
  rw [List.take_append_drop]
theorem sortG_perm (lt : α → α → Bool) (xs : List α) : (sortG lt xs).Perm xs := by
  have key : ∀ (l os : List α), (l.foldl (insG lt) os).Perm (os ++ l) := by
    intro l
    induction l with
    | nil => intro os; simp
    | cons x l ih =>
      intro os
      rw [List.foldl_cons]
      refine (ih _).trans ?_
      refine ((insG_perm lt os x).append_right l).trans ?_
      exact List.perm_middle.symm
  have := key xs []
  simpa [sortG] using this
theorem sortG_len (lt : α → α → Bool) (xs : List α) : (sortG lt xs).length = xs.length := (sortG_perm lt xs).length_eq
theorem sortG_take {lt : α → α → Bool} {xs : List α} {k : Nat} (hk : k < xs.length) : sortG lt (xs.take (k + 1)) = insG lt (sortG lt (xs.take k)) xs[k] := by
  unfold sortG
  rw [List.take_succ_eq_append_getElem hk, List.foldl_append]; rfl
theorem sortG_one (lt : α → α → Bool) (xs : List α) : sortG lt (xs.take 1) ++ xs.drop 1 = xs := by
  cases xs with
  | nil => rfl
  | cons x xs => rfl
theorem posG_hi {lt : α → α → Bool} {x : α} {os : List α} : ∀ k, k ≤ os.length → ∀ j (hj : j < os.length), posG lt x os k ≤ j → j < k → lt x os[j] = true
  | 0, _, j, _, _, h => by omega
  | k + 1, hk, j, hj, h1, h2 => by
    rw [posG_step (by omega)] at h1
    split at h1
    · rename_i hlt
      by_cases e : j = k
      · subst e; exact hlt
      · exact posG_hi k (by omega) j hj h1 (by omega)
    · omega
theorem posG_lo {lt : α → α → Bool} {x : α} {os : List α} : ∀ k, k ≤ os.length → ∀ j (hj : j < os.length), j + 1 = posG lt x os k → lt x os[j] = false
  | 0, _, j, _, h => by simp [posG] at h
  | k + 1, hk, j, hj, h1 => by
    rw [posG_step (by omega)] at h1
    split at h1
    · exact posG_lo k (by omega) j hj h1
    · rename_i hlt
      obtain rfl : j = k := by omega
      simpa using hlt
/-- The row while the element x is on its way down. -/
def midG (os : List α) (j : Nat) (x : α) (rest : List α) : List α := os.take j ++ (x :: (os.drop j ++ rest))
theorem midG_x {os : List α} {j : Nat} {x : α} {rest : List α} (hj : j ≤ os.length) : (midG os j x rest)[j]? = some x := by
  unfold midG
  rw [List.getElem?_append_right (by simp; omega)]
  simp [Nat.min_eq_left hj]
theorem midG_y {os : List α} {j : Nat} {x : α} {rest : List α} (hj : j < os.length) : (midG os (j + 1) x rest)[j]? = some os[j] := by
  unfold midG
  rw [List.getElem?_append_left (by simp; omega), List.getElem?_take_of_lt (by omega), List.getElem?_eq_getElem hj]
theorem midG_len {os : List α} {j : Nat} {x : α} {rest : List α} (hj : j ≤ os.length) : (midG os j x rest).length = os.length + 1 + rest.length := by
  unfold midG
  simp; omega
theorem midG_swap {os : List α} {j : Nat} {x : α} {rest : List α} (hj : j < os.length) :
    ((midG os (j + 1) x rest).set (j + 1) os[j]).set j x = midG os j x rest := by
  unfold midG
  rw [List.take_succ_eq_append_getElem hj]
  rw [List.set_append_right _ _ (by simp; omega)]
  rw [List.append_assoc, List.set_append_right _ _ (by simp; omega)]
  have e1 : (os.take j ++ [os[j]]).length = j + 1 := by simp; omega
  have e2 : (os.take j).length = j := by simp; omega
  rw [e1, e2, Nat.sub_self, List.drop_eq_getElem_cons hj]
  simp only [List.set_cons_zero, List.cons_append, List.nil_append, Nat.sub_self]
theorem midG_start {lt : α → α → Bool} {xs : List α} {i : Nat} (hi : i < xs.length) : sortG lt (xs.take i) ++ xs.drop i = midG (sortG lt (xs.take i)) i xs[i] (xs.drop (i + 1)) := by
  have hl : (sortG lt (xs.take i)).length = i := by rw [sortG_len, List.length_take]; omega
  unfold midG
  generalize sortG lt (xs.take i) = os at hl
  have e1 : os.take i = os := List.take_of_length_le (by omega)
  have e2 : os.drop i = [] := List.drop_of_length_le (by omega)
  rw [e1, e2, List.drop_eq_getElem_cons hi, List.nil_append]
theorem midG_end {lt : α → α → Bool} {xs : List α} {i j : Nat} (hi : i < xs.length) (hj : j = posG lt xs[i] (sortG lt (xs.take i)) i) : midG (sortG lt (xs.take i)) j xs[i] (xs.drop (i + 1)) = sortG lt (xs.take (i + 1)) ++ xs.drop (i + 1) := by
  have hl : (sortG lt (xs.take i)).length = i := by rw [sortG_len, List.length_take]; omega
  rw [sortG_take hi]
  unfold midG insG
  rw [hl, ← hj]
  simp
end

end Go.Proofs.Ytlendmiolhgecaa
