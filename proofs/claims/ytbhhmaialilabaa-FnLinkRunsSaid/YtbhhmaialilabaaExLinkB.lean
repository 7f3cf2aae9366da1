/-
  Small facts that the exact laws of links lean on.
-/
import Derived.Test.YtbhhmaialilabaaLinkS
import Derived.Test.YtbhhmaialilabaaSlS
import Derived.Test.YtbhhmaialilabaaQw
namespace Go.Proofs.Ytbhhmaialilabaa
open Go.RowKit Go.Lib Go.Joins
set_option linter.unusedVariables false

/-- The block of a link, of the laws' own type or the program's. -/
def Bk (w : World) (R : Nat) (v : Value) (f : ByteArray) (u : Int) (t : TypeId) : Prop := w.heap[R]? = some (.cells #[v, .string f, .int .i64 u] t (0, 0))
theorem Bk.cells {w : World} {R : Nat} {v : Value} {f : ByteArray} {u : Int} {t : TypeId} (h : Bk w R v f u t) : w.cell? ⟨R, 0, none⟩ = some v ∧ w.cell? ⟨R, 1, none⟩ = some (.string f) ∧ w.cell? ⟨R, 2, none⟩ = some (.int .i64 u) := by
  unfold Bk at h
  refine ⟨?_, ?_, ?_⟩ <;> simp [World.cell?, h]
theorem Bk.lt {w : World} {R : Nat} {v : Value} {f : ByteArray} {u : Int} {t : TypeId} (h : Bk w R v f u t) : R < w.heap.size := (Array.getElem?_eq_some_iff.1 h).1
theorem Bk.below {w w' : World} {R B : Nat} {v : Value} {f : ByteArray} {u : Int} {t : TypeId} (h : Bk w R v f u t) (hb : Below B w w') (hB : R < B) : Bk w' R v f u t := (hb.block R hB).trans h
theorem Bk.new (w : World) (v : Value) (f : ByteArray) (u : Int) (t : TypeId) : Bk (w.alloc (.cells #[v, .string f, .int .i64 u] t)) w.heap.size v f u t := heap_alloc_new w _
theorem Bk.grown {w w' : World} {R : Nat} {v : Value} {f : ByteArray} {u : Int} {t : TypeId} {o : Option Nat} (h : Bk w R v f u t) (hg : w.grownBy w' o) (hne : some R ≠ o) : Bk w' R v f u t :=
  (hg.block R h.lt (fun e => hne e)).trans h
theorem keep_links {W0 W : World} {X R : Nat} {v v' : Value} {f f' : ByteArray} {u u' : Int} {t t' : TypeId} (hx : Bk W0 X v f u t) (hr : Bk W0 R v' f' u' t') (h : Below W0.heap.size W0 W) :
    W.cell? ⟨X, 0, none⟩ = some v ∧ W.cell? ⟨X, 1, none⟩ = some (.string f) ∧ W.cell? ⟨X, 2, none⟩ = some (.int .i64 u) ∧ W.cell? ⟨R, 0, none⟩ = some v' ∧ W.cell? ⟨R, 1, none⟩ = some (.string f') ∧ W.cell? ⟨R, 2, none⟩ = some (.int .i64 u') ∧ Below W0.heap.size W0 W := by
  obtain ⟨a, b, c⟩ := (hx.below h hx.lt).cells
  obtain ⟨d, e, g⟩ := (hr.below h hr.lt).cells
  exact ⟨a, b, c, d, e, g, h⟩
theorem below_none {w w' : World} (h : w.grownBy w' none) : Below w.heap.size w w' := (Below.refl _ _).grown h (Nat.le_refl _) (fun k hk => by cases hk)
theorem fitA_some (g n : Nat) : FitA (.slice (some ⟨g, 0, none⟩) n n) n := .inr ⟨_, _, _, rfl⟩
theorem sendL_len (l : Lk) (s : ByteArray) (h : l.q.length ≤ 1048576) : (sendL l s).q.length ≤ 2000000 := by
  unfold sendL
  split
  · have := (putQ_len (b := fateB l) (q := l.q) (s := s)).1
    show (putQ (fateB l) l.q s).length ≤ 2000000
    omega
  · show 0 ≤ 2000000; omega
theorem takeL_len (l : Lk) (h : l.q.length ≤ 1048576) : (takeL l).q.length ≤ 2000000 := by
  unfold takeL
  split
  · show l.q.tail.length ≤ 2000000
    rw [List.length_tail]; omega
  · show 0 ≤ 2000000; omega
theorem dropL_len (l : Lk) (i : Int) (h : l.q.length ≤ 1048576) : (dropL l i).q.length ≤ 2000000 := by
  unfold dropL
  split
  · show (l.q.take i.toNat ++ l.q.drop (i.toNat + 1)).length ≤ 2000000
    rw [List.length_append, List.length_take, List.length_drop]; omega
  · show 0 ≤ 2000000; omega
theorem newL_len (f : ByteArray) : (newL f).q.length ≤ 2000000 := by
  unfold newL
  split <;> (show 0 ≤ 2000000; omega)
theorem drainL_len (l : Lk) : (drainL l).q.length ≤ 2000000 := by
  unfold drainL
  split <;> (show 0 ≤ 2000000; omega)
theorem drainT_len (l : Lk) (h : l.q.length ≤ 1048576) : (drainT l).length ≤ 2000000 := by
  unfold drainT
  split
  · omega
  · show 0 ≤ 2000000; omega
theorem cntV_len (l : Lk) : (cntV l).length ≤ 2000000 := by
  unfold cntV cntR
  split <;> simp
theorem allL_len (l : Lk) (t : List ByteArray) : (allL l t).q.length ≤ 2000000 := by
  unfold allL
  split
  · rename_i h
    unfold allOk at h
    rw [Bool.and_eq_true, decide_eq_true_eq] at h
    have := (lkOk_parts (run_valid h.1 _ t rfl)).2.2.1
    omega
  · show 0 ≤ 2000000; omega
end Go.Proofs.Ytbhhmaialilabaa
