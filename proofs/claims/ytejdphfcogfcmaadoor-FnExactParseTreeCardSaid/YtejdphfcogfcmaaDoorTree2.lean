/-
  Trees: the specification's functions that draw lists up: children, leaves, paths.
-/
import Derived.Test.YtejdphfcogfcmaaDoorTree
import Derived.Test.YtejdphfcogfcmaaDoorAppRow
import Derived.Laws.DeepStrings4
import Derived.Maps.AppendAt
namespace Go.Proofs.YtejdphfcogfcmaaDoor
open Go.RowKit Go.Lib Go.Joins
set_option linter.unusedVariables false

/-- A list of numbers that is drawn up in a block of the call's own. -/
structure OutI (W0 wr : World) (g c : Nat) (zs : List Int) : Prop where
  own : wr.ownsRow W0.heap.size 3 1 (.slice (some ⟨g, 0, none⟩) zs.length c) zs.length (zs.map (Value.int .i64))
  bel : Below W0.heap.size W0 wr
theorem OutI.start (W : World) : OutI W (W.alloc (.cells #[] 3)) W.heap.size 0 [] :=
  ⟨own_base (World.ownsRow_made W #[] 0 (Nat.le_refl _) (Nat.zero_le _) rfl) (Nat.le_refl _), (Below.refl _ _).alloc (Nat.le_refl _) _⟩
theorem OutI.start' {W0 W : World} (hb : Below W0.heap.size W0 W) : OutI W0 (W.alloc (.cells #[] 3)) W.heap.size 0 [] :=
  ⟨own_base (World.ownsRow_made W #[] 0 (Nat.le_refl _) (Nat.zero_le _) rfl) hb.size, hb.alloc hb.size _⟩
theorem OutI.below {W0 wr w1 : World} {g c : Nat} {zs : List Int} (h : OutI W0 wr g c zs) (l : Below wr.heap.size wr w1) : OutI W0 w1 g c zs := ⟨own_below h.own l (Nat.le_refl _), h.bel.trans (l.mono h.bel.size)⟩
theorem OutI.base {W0 W1 wr : World} {g c : Nat} {zs : List Int} (h : OutI W1 wr g c zs) (hb : Below W0.heap.size W0 W1) : OutI W0 wr g c zs := ⟨own_base h.own hb.size, hb.trans (h.bel.mono hb.size)⟩
theorem OutI.row {W0 wr : World} {g c : Nat} {zs : List Int} (h : OutI W0 wr g c zs) : Row wr (.slice (some ⟨g, 0, none⟩) zs.length c) zs.length (zs.map (Value.int .i64)) := row_own h.own
theorem OutI.app {W0 wr w1 : World} {g c : Nat} {zs zs5 : List Int} {x : Int} {v' : Value} {o : Obj} (h : OutI W0 wr g c zs) (hz : zs5 = zs ++ [x])
    (ho : w1.ownsRow W0.heap.size 3 1 v' (zs.length + 1) (zs.map (Value.int .i64) ++ [.int .i64 x])) (hg : (wr.alloc o).grownBy w1 (some g)) :
    ∃ g' c', v' = .slice (some ⟨g', 0, none⟩) zs5.length c' ∧ OutI W0 w1 g' c' zs5 := by
  subst hz
  obtain ⟨g', c', rfl⟩ := own_form ho (by omega)
  have e : (zs ++ [x]).length = zs.length + 1 := by simp
  have hgk : W0.heap.size ≤ g := (h.own.lt g rfl).1
  refine ⟨g', c', by rw [e], ⟨by rw [e, List.map_append, List.map_singleton]; exact ho, ?_⟩⟩
  exact (h.bel.alloc h.bel.size o).grown hg (by have := h.bel.size; simp; omega) (fun k hk => by have e2 : g = k := Option.some.inj hk; omega)
theorem chB_zero (p : List Int) (x : Int) : chB p x 0 = false := rfl
end Go.Proofs.YtejdphfcogfcmaaDoor
