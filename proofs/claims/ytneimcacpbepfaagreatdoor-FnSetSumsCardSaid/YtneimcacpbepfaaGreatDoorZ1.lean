/-
  What the laws of chapter 5 draw.
-/
import Derived.Test.YtneimcacpbepfaaGreatDoorDrawRng
namespace Go.Proofs.YtneimcacpbepfaaGreatDoor
open Go.RowKit Go.Lib Go.Joins
set_option linter.unusedVariables false

theorem row_pre5 {w : World} {a : Option Addr} {n j cap : Nat} {xs : List Value} (h : Row w (.slice a n cap) n xs) (hx : xs.length = n) (hj : j ≤ n) : Row w (.slice a j cap) j (xs.take j) := by
  obtain ⟨a', cap', e, h1, h2, h3⟩ := h
  injection e with e1 _ e2
  subst e1; subst e2
  refine ⟨a, cap, rfl, by omega, h2, fun hne => ?_⟩
  obtain ⟨b, off, rfl, hlt, hc⟩ := h3 (fun e => hne (by rw [e]; simp))
  refine ⟨b, off, rfl, hlt, fun i hi => ?_⟩
  have hi' : i < xs.length := by rw [List.length_take] at hi; omega
  rw [hc i hi', List.getElem_take]
def edgeL (p q : Int) : List Int := [p, q, p - 1, q + 1]
theorem edgeL_len (p q : Int) : (edgeL p q).length = 4 := rfl
theorem edgeL_bd {p q : Int} (h : bdR (p, q)) : ∀ y ∈ edgeL p q, -2 ≤ y ∧ y ≤ 70001 := by
  obtain ⟨h1, h2, h3, h4⟩ := h
  simp only at h1 h2 h3 h4
  intro y hy
  simp only [edgeL, List.mem_cons, List.not_mem_nil, or_false] at hy
  omega
def numL5 : List Int := [0, 1, 6, 20, 65534, 65535, -1, 65536]
theorem numL5_bd (j : Nat) : ∀ y ∈ numL5.take j, -2 ≤ y ∧ y ≤ 65536 := by
  intro y hy
  have hy := List.mem_of_mem_take hy
  simp only [numL5, List.mem_cons, List.not_mem_nil, or_false] at hy
  omega
theorem numL5_len {j : Nat} (h : j ≤ 8) : (numL5.take j).length = j := by
  rw [List.length_take]
  show min j 8 = j
  omega
theorem row_num5 (w w2 : World) (t : TypeId) (g j : Nat) (hj : j ≤ 8) (hg0 : g = w.heap.size) {B : Nat} (hB : B < w.heap.size) (hg2 : (w.alloc (.cells (numL5.map (Value.int .i64)).toArray t)).grownBy w2 (some B)) :
    ∀ w', w2.grownBy w' (some B) → Row w' (.slice (some ⟨g, 0, none⟩) j 8) (numL5.take j).length ((numL5.take j).map (Value.int .i64)) := fun w' hg => by
  subst hg0
  have h := row_pre5 (j := j) (row_fresh (xs := numL5.map (Value.int .i64)) (n := 8) rfl (by decide) hB (g_trans hg2 hg)) rfl hj
  rw [numL5_len hj, List.map_take]
  exact h
end Go.Proofs.YtneimcacpbepfaaGreatDoor

namespace Go.Proofs.YtneimcacpbepfaaGreatDoor
open Go.RowKit Go.Lib Go.Joins
set_option linter.unusedVariables false

theorem gbelow5 {w w' : World} {B0 B : Nat} (h : w.grownBy w' (some B)) (hB : B0 ≤ w.heap.size) (hr : B0 ≤ B) : Below B0 w w' := (Below.refl B0 w).grown h hB (fun k e => by cases e; exact hr)
/-- A set that has been drawn, as the law gets it. -/
def Set5 (w w' : World) (g c : Nat) (zs : List Rg) : Prop := zs.length ≤ 11 ∧ w'.ownsRow w.heap.size 47 2 (.slice (some ⟨g, 0, none⟩) zs.length c) zs.length (rgF zs)
theorem drr_out {w w1 : World} {m g c : Nat} {z : List Int} {zs : List Rg} {o : Obj} (h : DrR (w.alloc o) w1 w.heap.size z m g c zs) (hl : zs.length ≤ 11) : Set5 w w1 g c zs ∧ Below w.heap.size w w1 :=
  ⟨⟨hl, ownz_base h.own (by simp)⟩, ((Below.refl _ _).alloc (Nat.le_refl _) _).trans (gbelow5 h.gr (by simp) (Nat.le_refl _))⟩
theorem DrR.rows {w0 w : World} {B m g c : Nat} {z : List Int} {zs : List Rg} (h : DrR w0 w B z m g c zs) : ∀ w', w.grownBy w' (some B) → Row w' (.slice (some ⟨g, 0, none⟩) zs.length c) zs.length (rgF zs) := fun w' hg => rowz_own (ownz_cur h.own hg h.lt)
def farL5 : List Int := [0, 1, 5, 30]
theorem farL5_bd : ∀ x ∈ farL5, 0 ≤ x ∧ x ≤ 30 := by
  intro x hx
  simp only [farL5, List.mem_cons, List.not_mem_nil, or_false] at hx
  omega
end Go.Proofs.YtneimcacpbepfaaGreatDoor
