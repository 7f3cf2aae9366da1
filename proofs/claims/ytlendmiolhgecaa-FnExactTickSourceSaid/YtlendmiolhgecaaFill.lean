/-
  Arrays that are filled one cell after the other, and their worlds.
-/
import Derived.Test.YtlendmiolhgecaaBase
import Derived.Laws.MakeOwn
import Derived.Laws.NewBlocks
namespace Go.Proofs.Ytlendmiolhgecaa
open Go.RowKit

/-- The first k values, and z behind them. -/
def fillV (xs : List Value) (z : Value) (k : Nat) : Array Value := (xs.take k ++ List.replicate (xs.length - k) z).toArray

theorem fillV_size (xs : List Value) (z : Value) (k : Nat) (h : k ≤ xs.length) : (fillV xs z k).size = xs.length := by
  simp [fillV]; omega
theorem fillV_all (xs : List Value) (z : Value) : fillV xs z xs.length = xs.toArray := by simp [fillV]
theorem fillV_zero (xs : List Value) (z : Value) : fillV xs z 0 = Array.replicate xs.length z := by
  simp [fillV]
theorem fillV_set (xs : List Value) (z : Value) (k : Nat) (h : k < xs.length) : (fillV xs z k).setIfInBounds k xs[k] = fillV xs z (k + 1) := by
  apply Array.ext_getElem?
  intro i
  rw [Array.getElem?_setIfInBounds]
  unfold fillV
  simp only [List.size_toArray, List.getElem?_toArray]
  by_cases e : k = i
  · subst e
    rw [if_pos rfl, if_pos (by simp; omega), List.getElem?_append_left (by simp; omega), List.getElem?_take_of_lt (by omega), List.getElem?_eq_getElem h]
  · rw [if_neg e]
    by_cases h1 : i < k
    · rw [List.getElem?_append_left (by simp; omega), List.getElem?_append_left (by simp; omega), List.getElem?_take_of_lt h1, List.getElem?_take_of_lt (by omega)]
    · rw [List.getElem?_append_right (by simp; omega), List.getElem?_append_right (by simp; omega)]
      simp only [List.length_take, List.getElem?_replicate]
      by_cases h2 : i < xs.length
      · rw [if_pos (by omega), if_pos (by omega)]
      · rw [if_neg (by omega), if_neg (by omega)]

theorem made_is {z : Value} (n : Nat) (xs : List Value) (h : n = xs.length) (hz : z.cells = #[z]) : madeCells z.cells (n * 1) = fillV xs z 0 := by
  subst h
  rw [fillV_zero, hz]
  apply Array.ext_getElem?
  intro i
  rw [Nat.mul_one]
  unfold madeCells
  simp only [Array.getElem?_map, Array.getElem?_replicate]
  by_cases hi : i < xs.length
  · rw [if_pos hi, Array.getElem?_range, if_pos hi]
    simp [Nat.mod_one]
  · rw [if_neg hi, Array.getElem?_range, if_neg hi]
    rfl

/-- A made row, read. -/
theorem row_made (w : World) (xs : List Value) (t : TypeId) (n : Nat) (h : n = xs.length) (hm : n ≤ maxLen) : Row (w.alloc (.cells xs.toArray t)) (.slice (some ⟨w.heap.size, 0, none⟩) n n) n xs := by
  subst h
  refine ⟨_, _, rfl, Nat.le_refl _, hm, fun _ => ⟨w.heap.size, 0, rfl, by simp, fun i hi => ?_⟩⟩
  rw [Nat.zero_add, World.cell?_alloc_new]
  simp

theorem row_open {w : World} {v : Value} {α : Type} {f : α → Value} {ss : List α} (hrow : Row w v ss.length (ss.map f)) :
    ∃ a cap, v = .slice a ss.length cap ∧ ss.length ≤ cap ∧ cap ≤ maxLen ∧ ∀ k (h : k < ss.length), ∃ b off, a = some ⟨b, off, none⟩ ∧ b < w.heap.size ∧ w.cell? ⟨b, off + k, none⟩ = some (f ss[k]) := by
  obtain ⟨a, cap, rfl, h1, h2, h3⟩ := hrow
  refine ⟨a, cap, rfl, h1, h2, fun k h => ?_⟩
  obtain ⟨b, off, rfl, hb, hc⟩ := h3 (by intro e; have := congrArg List.length e; simp at this; rw [this] at h; simp at h)
  refine ⟨b, off, rfl, hb, ?_⟩
  have := hc k (by rw [List.length_map]; exact h)
  rw [List.getElem_map] at this
  exact this
end Go.Proofs.Ytlendmiolhgecaa
