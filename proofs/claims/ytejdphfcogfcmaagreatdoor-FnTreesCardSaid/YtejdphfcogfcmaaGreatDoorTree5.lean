/-
  Trees: the specification's NodesBelow, FaceTo, MeetingNode.
-/
import Derived.Test.YtejdphfcogfcmaaGreatDoorTree4
import Derived.Test.YtejdphfcogfcmaaGreatDoorTreeMath2
import Derived.Deep.RegionHeld3
namespace Go.Proofs.YtejdphfcogfcmaaGreatDoor
open Go.RowKit Go.Lib Go.Joins
set_option linter.unusedVariables false

theorem ndOk_nat {p : List Int} (h : trOk p = true) {k : Nat} (hk : k < p.length) : ndOk p (k : Int) = true := by
  unfold ndOk
  rw [h, decide_eq_true (show (0 : Int) ≤ (k : Int) by omega), decide_eq_true (show (k : Int) ≤ (p.length : Int) - 1 by omega)]
  rfl
theorem next_drop {n : Int} {l : List Int} {i : Nat} (h : i + 1 < l.length) : nextOf n (l.drop i) = if l[i] = n then some l[i + 1] else nextOf n (l.drop (i + 1)) := by
  rw [List.drop_eq_getElem_cons (show i < l.length by omega), List.drop_eq_getElem_cons h]
  rfl
theorem next_short {n : Int} {l : List Int} {i : Nat} (h : ¬ i + 1 < l.length) : nextOf n (l.drop i) = none := by
  have hl : (l.drop i).length ≤ 1 := by rw [List.length_drop]; omega
  match l.drop i, hl with
  | [], _ => rfl
  | [_], _ => rfl
  | _ :: _ :: _, h => simp at h
theorem meet_drop {p : List Int} {b : Int} {L : List Int} {k : Nat} (hk : k < L.length) (last : Int) : (L.drop k).foldl (fun last x => if x ∈ pth p b then x else last) last = (L.drop (k + 1)).foldl (fun last x => if x ∈ pth p b then x else last) (if L[k] ∈ pth p b then L[k] else last) := by
  rw [List.drop_eq_getElem_cons hk, List.foldl_cons]
theorem below_call6 {W0 W w5 : World} (h : Below W0.heap.size W0 W) (l5 : Below W.heap.size W w5) : Below W0.heap.size W0 w5 := h.trans (l5.mono h.size)
theorem keep2m {W w' : World} {a1 a2 : Addr} {v1 v2 : Value} {B : Nat} (h1 : W.cell? a1 = some v1) (h2 : W.cell? a2 = some v2) (b1 : a1.block < B) (b2 : a2.block < B) (hb : Below B W w') :
    w'.cell? a1 = some v1 ∧ w'.cell? a2 = some v2 ∧ Below B W w' := ⟨(hb.cell b1).trans h1, (hb.cell b2).trans h2, hb⟩
def meetOk (p : List Int) (x y : Int) : Bool := ndOk p x && ndOk p y
def meetW (p : List Int) (x y : Int) : Int := if meetOk p x y = true then meetV p x y else 0
end Go.Proofs.YtejdphfcogfcmaaGreatDoor
