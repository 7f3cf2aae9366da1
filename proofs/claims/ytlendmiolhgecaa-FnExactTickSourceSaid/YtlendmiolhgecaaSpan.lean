/-
  'SerialSpan' of both packages.
-/
import Derived.Test.YtlendmiolhgecaaSer3
import Derived.Test.YtlendmiolhgecaaInts
import Derived.Laws.DeepStrings4
import Derived.IntWalk
import Derived.Deep.LoopGhost
import Derived.Maps.AppendAt
namespace Go.Proofs.Ytlendmiolhgecaa
open Go.RowKit Go.Lib
set_option linter.unusedVariables false

theorem infoInt2 : (Try.prog.info? 3).map (fun i => (i.zero, i.size, i.bytes)) = some (some (.int .i64 0), 1, 8) := by kernel_rfl

/-- The n serials that begin with a. -/
def spanL (a : Int) (n : Nat) : List Int := (List.range n).map fun (i : Nat) => aftI a (i : Int)
theorem spanL_len (a : Int) (n : Nat) : (spanL a n).length = n := by simp [spanL]
theorem spanL_succ (a : Int) (n : Nat) : spanL a (n + 1) = spanL a n ++ [aftI a (n : Int)] := by simp [spanL, List.range_succ]
def ssOk (a b : Int) : Bool := gapOk a b && decide (gapI a b ≤ 20)
def ssL (a b : Int) : List Int := if ssOk a b = true then spanL a (gapI a b).toNat else []
theorem ssL_no {a b : Int} (h : ssOk a b = false) : ssL a b = [] := by unfold ssL; rw [h]; rfl
theorem ssL_yes {a b : Int} {n : Nat} (h : ssOk a b = true) (hn : gapI a b = n) : ssL a b = spanL a n := by unfold ssL; rw [if_pos h, hn]; rfl
theorem ssOk_of {a b : Int} (h : gapOk a b = true) (hn : gapI a b ≤ 20) : ssOk a b = true := by unfold ssOk; rw [h, decide_eq_true hn]; rfl
theorem ssOk_far {a b : Int} (hn : ¬ gapI a b ≤ 20) : ssOk a b = false := by unfold ssOk; rw [decide_eq_false hn, Bool.and_false]
theorem ssOk_bad {a b : Int} (h : gapOk a b = false) : ssOk a b = false := by unfold ssOk; rw [h]; rfl
theorem ssL_len (a b : Int) : (ssL a b).length ≤ 20 := by
  unfold ssL
  split
  · rename_i h
    unfold ssOk at h
    rw [Bool.and_eq_true] at h
    have := of_decide_eq_true h.2
    rw [spanL_len]; omega
  · simp
theorem spanV_own {a : Int} {k B : Nat} {w : World} {v : Value}
    (h : w.ownsRow B 3 1 v ((spanL a k).length + 1) ((spanL a k).map (Value.int .i64) ++ [.int .i64 (aftI a k)])) : w.ownsRow B 3 1 v (spanL a (k + 1)).length ((spanL a (k + 1)).map (Value.int .i64)) := by
  rw [spanL_succ, List.length_append, List.length_singleton, List.map_append, List.map_singleton]
  exact h
theorem below_own_i {B : Nat} {w wr w1 : World} {o : Obj} {e : TypeId} {z n : Nat} {v : Value} {xs : List Value} (hb : Below B w wr) (hB : B ≤ wr.heap.size) (ho : wr.ownsRow B e z v n xs) (hg : (wr.alloc o).grownBy w1 v.ownBlock) : Below B w w1 :=
  (hb.alloc hB o).grown hg (by simp; omega) (fun k hk => (ho.lt k hk).1)
theorem aft_at {a b : Int} {n k : Nat} (h0 : 0 ≤ a) (h1 : a ≤ 65535) (h2 : 0 ≤ b) (h3 : b ≤ 65535) (hn : gapI a b = n) (hk : k ≤ n) : (aftI a k = b) = (k = n) := by
  unfold gapI at hn
  unfold aftI
  apply propext
  omega
theorem aft_zero {a : Int} (h0 : 0 ≤ a) (h1 : a ≤ 65535) : aftI a 0 = a := by unfold aftI; omega
theorem aft_one (a : Int) (k : Nat) (h0 : 0 ≤ a) : aftI (aftI a k) 1 = aftI a ((k + 1 : Nat) : Int) := by unfold aftI; omega

end Go.Proofs.Ytlendmiolhgecaa
