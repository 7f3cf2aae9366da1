/-
  Sets as ranges: the specification's functions that return sets.
-/
import Derived.Test.YtneimcacpbepfabDoorRng4
namespace Go.Proofs.YtneimcacpbepfabDoor
open Go.RowKit Go.Lib Go.Joins
set_option linter.unusedVariables false

theorem ret_vb5 {a b : Value} {c d : Bool} (h : a = b) (h' : c = d) : Ending.returned (.tuple #[a, .bool c]) = .returned (.tuple #[b, .bool d]) := by rw [h, h']
/-- A set, if it is one: else none. -/
def chkL (s : List Rg) : List Rg := if rgOk s = true then s else []
theorem chkL_yes {s : List Rg} (h : rgOk s = true) : chkL s = s := if_pos h
theorem chkL_no {s : List Rg} (h : rgOk s = false) : chkL s = [] := by unfold chkL; rw [h]; rfl
theorem lit_none (w : World) (B : Nat) (hB : B ≤ w.heap.size) : (w.alloc (.cells #[] 34)).ownsRow B 34 2 (.slice (some ⟨w.heap.size, 0, none⟩) 0 0) ([] : List Rg).length (rgF []) :=
  ownz_base (World.ownsRow_made w #[] 0 (Nat.le_refl _) (Nat.zero_le _) rfl : (w.alloc (.cells #[] 34)).ownsRow w.heap.size 34 2 (.slice (some ⟨w.heap.size, 0, none⟩) 0 0) 0 []) hB
def askOk (s : List Rg) (f t : Int) : Bool := rgOk s && (serB f && (serB t && decide (f ≤ t)))
theorem askOk_parts {s : List Rg} {f t : Int} (h : askOk s f t = true) : rgCh s ∧ s.length ≤ 10 ∧ 0 ≤ f ∧ f ≤ t ∧ t ≤ 65535 := by
  unfold askOk at h
  simp only [Bool.and_eq_true, decide_eq_true_eq] at h
  obtain ⟨h1, h2, h3, h4⟩ := h
  obtain ⟨c, l⟩ := rgOk_parts h1
  have := of_decide_eq_true h2
  have := of_decide_eq_true h3
  exact ⟨c, l, by omega, h4, by omega⟩
def addROk (s : List Rg) (f t : Int) : Bool := askOk s f t && rgOk (addG s (f, t))
def addL (s : List Rg) (f t : Int) : List Rg := if addROk s f t = true then addG s (f, t) else []
def remOk (s : List Rg) (f t : Int) : Bool := askOk s f t && rgOk (remG s (f, t))
def remL (s : List Rg) (f t : Int) : List Rg := if remOk s f t = true then remG s (f, t) else []
theorem rgF_one (s : List Rg) : ∀ u ∈ rgF s, u.oneCell' = true := by
  intro u hu
  unfold rgF flatZ at hu
  obtain ⟨r, _, hr⟩ := List.mem_flatMap.1 hu
  simp only [rgC, List.mem_cons, List.not_mem_nil, or_false] at hr
  rcases hr with rfl | rfl <;> rfl
theorem foldl_take {α β : Type} (f : β → α → β) (z : β) {l : List α} {k : Nat} (hk : k < l.length) : (l.take (k + 1)).foldl f z = f ((l.take k).foldl f z) l[k] := by
  rw [List.take_succ_eq_append_getElem hk, List.foldl_append]
  rfl
end Go.Proofs.YtneimcacpbepfabDoor
