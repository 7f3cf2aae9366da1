/-
  Sorting by insertion: mathematics; and a row of ints written out.
-/
import Derived.Test.YtejdphfcogfcmaaProg
import Derived.Test.YtejdphfcogfcmaaOwn
import Derived.Test.YtejdphfcogfcmaaFill
import Derived.WalkKit
namespace Go.Proofs.Ytejdphfcogfcmaa
open Go.RowKit Go.Lib
set_option linter.unusedVariables false

/-- Where x goes among the first k: behind the last one that it is not less than. -/
def posL (lt : Int → Int → Bool) (x : Int) (os : List Int) : Nat → Nat
  | 0 => 0
  | k + 1 => if lt x (os.getD k 0) = true then posL lt x os k else k + 1
def insL (lt : Int → Int → Bool) (os : List Int) (x : Int) : List Int := os.take (posL lt x os os.length) ++ (x :: os.drop (posL lt x os os.length))
def sortL (lt : Int → Int → Bool) (xs : List Int) : List Int := xs.foldl (insL lt) []

theorem posL_le (lt : Int → Int → Bool) (x : Int) (os : List Int) : ∀ k, posL lt x os k ≤ k
  | 0 => Nat.le_refl _
  | k + 1 => by
    unfold posL
    split
    · have := posL_le lt x os k; omega
    · omega
theorem insL_len (lt : Int → Int → Bool) (os : List Int) (x : Int) : (insL lt os x).length = os.length + 1 := by
  have := posL_le lt x os os.length
  unfold insL
  simp; omega
theorem sortL_len (lt : Int → Int → Bool) (xs : List Int) : (sortL lt xs).length = xs.length := by
  unfold sortL
  have : ∀ (l os : List Int), (l.foldl (insL lt) os).length = os.length + l.length := by
    intro l
    induction l with
    | nil => intro os; simp
    | cons x l ih => intro os; rw [List.foldl_cons, ih, insL_len]; simp; omega
  rw [this]; simp
theorem sortL_take {lt : Int → Int → Bool} {xs : List Int} {k : Nat} (hk : k < xs.length) : sortL lt (xs.take (k + 1)) = insL lt (sortL lt (xs.take k)) xs[k] := by
  unfold sortL
  rw [List.take_succ_eq_append_getElem hk, List.foldl_append]; rfl
theorem insL_mem {lt : Int → Int → Bool} {x y : Int} {os : List Int} (h : y ∈ insL lt os x) : y = x ∨ y ∈ os := by
  unfold insL at h
  rcases List.mem_append.1 h with h | h
  · exact .inr (List.mem_of_mem_take h)
  · rcases List.mem_cons.1 h with h | h
    · exact .inl h
    · exact .inr (List.mem_of_mem_drop h)
theorem sortL_mem {lt : Int → Int → Bool} : ∀ (xs : List Int) (y : Int), y ∈ sortL lt xs → y ∈ xs := by
  have : ∀ (l os : List Int) (y : Int), y ∈ l.foldl (insL lt) os → y ∈ l ∨ y ∈ os := by
    intro l
    induction l with
    | nil => intro os y h; exact .inr h
    | cons x l ih =>
      intro os y h
      rcases ih _ _ h with h | h
      · exact .inl (List.mem_cons_of_mem _ h)
      · rcases insL_mem h with rfl | h
        · exact .inl (List.mem_cons_self ..)
        · exact .inr h
  intro xs y h
  rcases this xs [] y h with h | h
  · exact h
  · cases h
theorem sortL_one (lt : Int → Int → Bool) (xs : List Int) : sortL lt (xs.take 1) ++ xs.drop 1 = xs := by
  cases xs with
  | nil => rfl
  | cons x xs => rfl

/-- The row while the element x is on its way down. -/
def midL (os : List Int) (j : Nat) (x : Int) (rest : List Int) : List Int := os.take j ++ (x :: (os.drop j ++ rest))
theorem mid_x {os : List Int} {j : Nat} {x : Int} {rest : List Int} (hj : j ≤ os.length) : (midL os j x rest)[j]? = some x := by
  unfold midL
  rw [List.getElem?_append_right (by simp; omega)]
  simp [Nat.min_eq_left hj]
theorem mid_y {os : List Int} {j : Nat} {x : Int} {rest : List Int} (hj : j < os.length) : (midL os (j + 1) x rest)[j]? = some os[j] := by
  unfold midL
  rw [List.getElem?_append_left (by simp; omega), List.getElem?_take_of_lt (by omega), List.getElem?_eq_getElem hj]
theorem mid_len {os : List Int} {j : Nat} {x : Int} {rest : List Int} (hj : j ≤ os.length) : (midL os j x rest).length = os.length + 1 + rest.length := by
  unfold midL
  simp; omega
theorem mid_swap {os : List Int} {j : Nat} {x : Int} {rest : List Int} (hj : j < os.length) :
    (((midL os (j + 1) x rest).map (Value.int .i64)).set (j + 1) (.int .i64 os[j])).set j (.int .i64 x) = (midL os j x rest).map (Value.int .i64) := by
  have e : ((midL os (j + 1) x rest).set (j + 1) os[j]).set j x = midL os j x rest := by
    unfold midL
    rw [List.take_succ_eq_append_getElem hj]
    rw [List.set_append_right _ _ (by simp; omega)]
    rw [List.append_assoc, List.set_append_right _ _ (by simp; omega)]
    have e1 : (os.take j ++ [os[j]]).length = j + 1 := by simp; omega
    have e2 : (os.take j).length = j := by simp; omega
    rw [e1, e2, Nat.sub_self, List.drop_eq_getElem_cons hj]
    simp only [List.set_cons_zero, List.cons_append, List.nil_append, Nat.sub_self]
  rw [← e, List.map_set, List.map_set]
theorem mid_start {lt : Int → Int → Bool} {xs : List Int} {i : Nat} (hi : i < xs.length) : sortL lt (xs.take i) ++ xs.drop i = midL (sortL lt (xs.take i)) i xs[i] (xs.drop (i + 1)) := by
  have hl : (sortL lt (xs.take i)).length = i := by rw [sortL_len, List.length_take]; omega
  unfold midL
  generalize sortL lt (xs.take i) = os at hl
  have e1 : os.take i = os := List.take_of_length_le (by omega)
  have e2 : os.drop i = [] := List.drop_of_length_le (by omega)
  rw [e1, e2, List.drop_eq_getElem_cons hi, List.nil_append]
theorem mid_end {lt : Int → Int → Bool} {xs : List Int} {i j : Nat} (hi : i < xs.length) (hj : j = posL lt xs[i] (sortL lt (xs.take i)) i) : midL (sortL lt (xs.take i)) j xs[i] (xs.drop (i + 1)) = sortL lt (xs.take (i + 1)) ++ xs.drop (i + 1) := by
  have hl : (sortL lt (xs.take i)).length = i := by rw [sortL_len, List.length_take]; omega
  rw [sortL_take hi]
  unfold midL insL
  rw [hl, ← hj]
  simp

theorem own_map {w : World} {B n : Nat} {e : TypeId} {v : Value} {xs ys : List Int} (h : w.ownsRow B e 1 v n (xs.map (Value.int .i64))) (he : xs = ys) : w.ownsRow B e 1 v n (ys.map (Value.int .i64)) := he ▸ h
theorem fact_of {xs : List Int} {i : Nat} {x : Int} {u : Value} (h : (xs.map (Value.int .i64))[i]? = some u) (hx : xs[i]? = some x) : u = .int .i64 x := by
  rw [List.getElem?_map, hx] at h
  exact (Option.some.inj h).symm

end Go.Proofs.Ytejdphfcogfcmaa
