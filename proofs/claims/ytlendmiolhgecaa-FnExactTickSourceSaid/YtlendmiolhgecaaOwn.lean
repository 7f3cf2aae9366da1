/-
  Rows of the call's own: stores, reads, what keeps them.
-/
import Derived.Test.YtlendmiolhgecaaBase
import Derived.Laws.AppendOwn
import Derived.Laws.Tables
import Derived.Laws.NewBlocks
namespace Go.Proofs.Ytlendmiolhgecaa
open Go.RowKit

/-- A store into an owned row of single cells. -/
theorem own_set {w : World} {base n j : Nat} {e : TypeId} {xs : List Value} {g cap : Nat} (h : w.ownsRow base e 1 (.slice (some ⟨g, 0, none⟩) n cap) n xs) (u : Value) :
    (w.setCell ⟨g, j, none⟩ u).ownsRow base e 1 (.slice (some ⟨g, 0, none⟩) n cap) n (xs.set j u) ∧ w.grownBy (w.setCell ⟨g, j, none⟩ u) (some g) := by
  obtain ⟨hl, h | ⟨g', cap', cur, hv, hb, hg, hn, hm, hs, ht⟩⟩ := h
  · cases h.1
  · cases hv
    have e1 := setCell_eq_setRow w g j cur e (0, 0) u hg
    refine ⟨⟨by rw [List.length_set]; exact hl, .inr ⟨g, cap, cur.setIfInBounds j u, rfl, hb, ?_, hn, hm, by simp [hs], ?_⟩⟩, ?_⟩
    · rw [e1]; exact setRow_heap w g cur _ e (0, 0) hg
    · rw [← ht]
      simp only [Array.toList_setIfInBounds]
      rw [List.take_set]
    · rw [e1]
      exact ⟨rfl, rfl, rfl, by simp, fun k _ hne => setRow_other w g k _ (fun e => hne (by rw [e]))⟩

theorem own_facts {w : World} {base n j : Nat} {e : TypeId} {xs : List Value} {g cap : Nat} (h : w.ownsRow base e 1 (.slice (some ⟨g, 0, none⟩) n cap) n xs) (hj : j < n) :
    (∃ u, xs[j]? = some u ∧ w.cell? ⟨g, j, none⟩ = some u) ∧ w.frozen? ⟨g, j, none⟩ = false ∧ base ≤ g ∧ g < w.heap.size := by
  have hx : j < xs.length := by have := h.1; omega
  refine ⟨⟨xs[j], List.getElem?_eq_getElem hx, ?_⟩, ?_, (h.lt g rfl).1, (h.lt g rfl).2⟩
  · have := h.cells (g := g) rfl j _ (List.getElem?_eq_getElem hx)
    rw [addr_add, Nat.zero_add] at this
    exact this
  · obtain ⟨_, h | ⟨g', cap', cur, hv, _, hg, _⟩⟩ := h
    · cases h.1
    · cases hv
      simp [World.frozen?, hg]

theorem grown_trans {a b c : World} {row : Option Nat} (h1 : a.grownBy b row) (h2 : b.grownBy c row) : a.grownBy c row :=
  ⟨h2.os.trans h1.os, h2.tape.trans h1.tape, h2.output.trans h1.output, Nat.le_trans h1.size h2.size, fun k hk hn => (h2.block k (Nat.lt_of_lt_of_le hk h1.size) hn).trans (h1.block k hk hn)⟩

theorem grown_any {a b : World} {row : Option Nat} (h : a.grownBy b none) : a.grownBy b row :=
  ⟨h.os, h.tape, h.output, h.size, fun k hk _ => h.block k hk (by simp)⟩

theorem own_grown {w w' : World} {base n : Nat} {e : TypeId} {v : Value} {xs : List Value} (h : w.ownsRow base e 1 v n xs) (hg : w.grownBy w' none) : w'.ownsRow base e 1 v n xs :=
  h.kept hg (by cases hv : v.ownBlock with | none => exact .inl rfl | some k => exact .inr (by simp))

theorem grown_drew1 (w : World) : w.grownBy w.drew none := ⟨rfl, rfl, rfl, Nat.le_refl _, fun _ _ _ => rfl⟩

/-- An owned row, read. -/
theorem row_own {w : World} {base n : Nat} {e : TypeId} {v : Value} {xs : List Value} (h : w.ownsRow base e 1 v n xs) : Row w v n xs := by
  have h0 := h
  obtain ⟨hl, ⟨rfl, rfl⟩ | ⟨g, cap, cur, rfl, hb, hg, hn, hm, hs, ht⟩⟩ := h
  · exact ⟨none, 0, rfl, Nat.le_refl _, Nat.zero_le _, fun hx => absurd (List.eq_nil_of_length_eq_zero (by omega)) hx⟩
  · refine ⟨_, cap, rfl, hn, hm, fun _ => ⟨g, 0, rfl, (Array.getElem?_eq_some_iff.1 hg).1, fun i hi => ?_⟩⟩
    have := h0.cells (g := g) rfl i _ (List.getElem?_eq_getElem hi)
    rw [addr_add] at this
    exact this

/-- A row that is not empty begins at the head of a block of its own. -/
theorem own_form {w : World} {base n : Nat} {e : TypeId} {v : Value} {xs : List Value} (h : w.ownsRow base e 1 v n xs) (hn : 0 < n) : ∃ g cap, v = .slice (some ⟨g, 0, none⟩) n cap := by
  obtain ⟨hl, ⟨rfl, h0⟩ | ⟨g, cap, cur, rfl, _⟩⟩ := h
  · omega
  · exact ⟨g, cap, rfl⟩

theorem below_of_grown {B : Nat} {w w' : World} {row : Option Nat} (h : w.grownBy w' row) (hB : B ≤ w.heap.size) (hr : ∀ k, row = some k → B ≤ k) : Below B w w' := (Below.refl B w).grown h hB hr

theorem row_grown {w w' : World} {v : Value} {n g : Nat} {xs : List Value} (h : Row w v n xs) (hg : w.grownBy w' (some g)) (hne : ∀ b off, v = .slice (some ⟨b, off, none⟩) n (match v with | .slice _ _ c => c | _ => 0) → b ≠ g) : Row w' v n xs := by
  obtain ⟨a, cap, rfl, h1, h2, h3⟩ := h
  refine ⟨a, cap, rfl, h1, h2, fun hx => ?_⟩
  obtain ⟨b, off, rfl, hlt, hc⟩ := h3 hx
  refine ⟨b, off, rfl, Nat.lt_of_lt_of_le hlt hg.size, fun i hi => ?_⟩
  exact hg.cell (hc i hi) (by intro e; injection e with e; exact hne b off rfl e)

theorem own_other {w w' : World} {b1 b2 n1 n2 : Nat} {e : TypeId} {v1 v2 : Value} {xs ys : List Value} (h1 : w.ownsRow b1 e 1 v1 n1 xs) (h2 : w.ownsRow b2 e 1 v2 n2 ys) (hlt : ∀ k, v1.ownBlock = some k → k < b2) (hg : w.grownBy w' v2.ownBlock) : w'.ownsRow b1 e 1 v1 n1 xs := by
  refine h1.kept hg ?_
  cases hv : v1.ownBlock with
  | none => exact .inl rfl
  | some k =>
    refine .inr fun e => ?_
    have := (h2.lt k e.symm).1
    have := hlt k hv
    omega

theorem own_below {w w' : World} {B b n : Nat} {e : TypeId} {v : Value} {xs : List Value} (h : w.ownsRow b e 1 v n xs) (hb : Below B w w') (hB : w.heap.size ≤ B) : w'.ownsRow b e 1 v n xs := by
  obtain ⟨hl, h | ⟨g, cap, cur, hv, h1, hg, rest⟩⟩ := h
  · exact ⟨hl, .inl h⟩
  · refine ⟨hl, .inr ⟨g, cap, cur, hv, h1, ?_, rest⟩⟩
    rw [hb.block g (Nat.lt_of_lt_of_le (Array.getElem?_eq_some_iff.1 hg).1 hB)]
    exact hg

theorem own_base {w : World} {b b' n : Nat} {e : TypeId} {v : Value} {xs : List Value} (h : w.ownsRow b e 1 v n xs) (hb : b' ≤ b) : w.ownsRow b' e 1 v n xs := by
  obtain ⟨hl, h | ⟨g, cap, cur, hv, h1, rest⟩⟩ := h
  · exact ⟨hl, .inl h⟩
  · exact ⟨hl, .inr ⟨g, cap, cur, hv, Nat.le_trans hb h1, rest⟩⟩
theorem own_apart {w w' : World} {b1 n1 : Nat} {e : TypeId} {v1 v2 : Value} {xs : List Value} (h1 : w.ownsRow b1 e 1 v1 n1 xs) (hg : w.grownBy w' v2.ownBlock) (hne : ∀ k, v1.ownBlock = some k → v2.ownBlock ≠ some k) : w'.ownsRow b1 e 1 v1 n1 xs := by
  refine h1.kept hg ?_
  cases hv : v1.ownBlock with
  | none => exact .inl rfl
  | some k => exact .inr fun e => hne k hv e.symm

/-- A made row is the call's own. -/
theorem own_made (w : World) (xs : List Value) (t : TypeId) (n : Nat) (h : n = xs.length) (hm : n ≤ maxLen) : (w.alloc (.cells xs.toArray t)).ownsRow w.heap.size t 1 (.slice (some ⟨w.heap.size, 0, none⟩) n n) n xs := by
  subst h
  refine ⟨by omega, .inr ⟨w.heap.size, xs.length, xs.toArray, rfl, Nat.le_refl _, ?_, Nat.le_refl _, hm, by simp, by simp⟩⟩
  show (w.heap.push _)[w.heap.size]? = _
  exact Array.getElem?_push_size
end Go.Proofs.Ytlendmiolhgecaa
