/-
  Trees: what the laws ask of paths, faces and leaves. No program.
-/
import Derived.Test.YtejdphfcogfcmaaGreatDoorTreeMath
namespace Go.Proofs.YtejdphfcogfcmaaGreatDoor
set_option linter.unusedVariables false

theorem nextOf_append {n y z : Int} : ∀ {l : List Int}, nextOf n l = some y → nextOf n (l ++ [z]) = some y
  | [], h => by cases h
  | [_], h => by cases h
  | x :: q :: l, h => by
    show (if x = n then some q else nextOf n (q :: (l ++ [z]))) = some y
    change (if x = n then some q else nextOf n (q :: l)) = some y at h
    by_cases e : x = n
    · rw [if_pos e] at h ⊢; exact h
    · rw [if_neg e] at h ⊢
      have := nextOf_append (z := z) h
      exact this
theorem nextOf_last {n z : Int} : ∀ {l : List Int}, n ∉ l → nextOf n (l ++ [n] ++ [z]) = some z
  | [], _ => by show (if n = n then some z else _) = _; rw [if_pos rfl]
  | [x], h => by
    have hx : x ≠ n := fun e => h (by rw [e]; exact List.mem_cons_self ..)
    show (if x = n then some n else nextOf n [n, z]) = _
    rw [if_neg hx]
    show (if n = n then some z else _) = _
    rw [if_pos rfl]
  | x :: q :: l, h => by
    have hx : x ≠ n := fun e => h (by rw [e]; exact List.mem_cons_self ..)
    have ih := nextOf_last (n := n) (z := z) (l := q :: l) (fun h2 => h (List.mem_cons_of_mem _ h2))
    show (if x = n then some q else nextOf n (q :: (l ++ [n] ++ [z]))) = _
    rw [if_neg hx]
    exact ih
theorem par_nat {p : List Int} (h : trOk p = true) {n : Nat} (h1 : 1 ≤ n) (hn : n < p.length) : ∃ m : Nat, par6 p n = (m : Int) ∧ m < n := by
  obtain ⟨_, _, _, hu⟩ := trOk_parts h
  obtain ⟨a, b⟩ := hu n h1 hn
  exact ⟨(par6 p n).toNat, by omega, by omega⟩
theorem pth_root {p : List Int} (h : trOk p = true) : pth p 0 = [0] := by
  have h2 := (trOk_parts h).1
  have := pth_step h (n := 0) (by omega)
  simpa using this
theorem pth_up {p : List Int} (h : trOk p = true) {n m : Nat} (h1 : 1 ≤ n) (hn : n < p.length) (hm : par6 p n = (m : Int)) : pth p (n : Int) = pth p (m : Int) ++ [(n : Int)] := by
  rw [pth_step h hn, if_neg (by omega), hm]
/-- A path ends with its node. -/
theorem pth_end {p : List Int} (h : trOk p = true) {n : Nat} (hn : n < p.length) : ∃ l, pth p (n : Int) = l ++ [(n : Int)] ∧ (n : Int) ∉ l := by
  by_cases e : n = 0
  · subst e
    exact ⟨[], by rw [show ((0 : Nat) : Int) = 0 from rfl, pth_root h]; rfl, by simp⟩
  · obtain ⟨m, hm, hmn⟩ := par_nat h (by omega) hn
    refine ⟨pth p (m : Int), pth_up h (by omega) hn hm, fun hx => ?_⟩
    have := pth_mem h m (by omega) _ hx
    omega
/-- The face from a node to one below it is a child of the node. -/
theorem face_facts {p : List Int} (h : trOk p = true) : ∀ (x n : Nat), x < p.length → (n : Int) ∈ pth p (x : Int) → x ≠ n → ∃ y : Nat, nextOf (n : Int) (pth p (x : Int)) = some (y : Int) ∧ par6 p y = (n : Int) ∧ 1 ≤ y ∧ y < p.length := by
  intro x
  induction x using Nat.strongRecOn with
  | ind x ih =>
    intro n hx hm hne
    by_cases e : x = 0
    · subst e
      rw [show ((0 : Nat) : Int) = 0 from rfl, pth_root h] at hm
      simp at hm
      omega
    · obtain ⟨m, hpar, hmx⟩ := par_nat h (by omega) hx
      rw [pth_up h (by omega) hx hpar] at hm ⊢
      by_cases emn : m = n
      · subst emn
        obtain ⟨l, hl, hnl⟩ := pth_end h (n := m) (by omega)
        rw [hl]
        exact ⟨x, nextOf_last hnl, hpar, by omega, hx⟩
      · have hm2 : (n : Int) ∈ pth p (m : Int) := by
          rcases List.mem_append.1 hm with hm | hm
          · exact hm
          · simp at hm; omega
        obtain ⟨y, hy, h1, h2, h3⟩ := ih m hmx n (by omega) hm2 emn
        exact ⟨y, nextOf_append hy, h1, h2, h3⟩
/-- No node stands behind one that is not on the list. -/
theorem nextOf_none {n : Int} : ∀ {l : List Int}, n ∉ l → nextOf n l = none
  | [], _ => rfl
  | [_], _ => rfl
  | x :: q :: l, h => by
    have hx : x ≠ n := fun e => h (by rw [e]; exact List.mem_cons_self ..)
    show (if x = n then some q else nextOf n (q :: l)) = none
    rw [if_neg hx]
    exact nextOf_none (fun h2 => h (List.mem_cons_of_mem _ h2))
/-- A tree with a leaf more. -/
theorem leaf_tree {p : List Int} {n : Int} (h : leafOk p n = true) : trOk (p ++ [n]) = true ∧ par6 (p ++ [n]) p.length = n ∧ ∀ i, i < p.length → par6 (p ++ [n]) i = par6 p i := by
  unfold leafOk at h
  rw [Bool.and_eq_true, decide_eq_true_eq] at h
  obtain ⟨hn, h8⟩ := h
  obtain ⟨ht, n0, n1⟩ := ndOk_parts hn
  obtain ⟨h2, h8', h0, hu⟩ := trOk_parts ht
  have e1 : par6 (p ++ [n]) p.length = n := by unfold par6; rw [List.getD_eq_getElem?_getD, List.getElem?_append_right (Nat.le_refl _)]; simp
  have e2 : ∀ i, i < p.length → par6 (p ++ [n]) i = par6 p i := fun i hi => by unfold par6; rw [List.getD_eq_getElem?_getD, List.getD_eq_getElem?_getD, List.getElem?_append_left hi]
  refine ⟨trOk_yes (by rw [List.length_append]; omega) (by rw [List.length_append]; simp only [List.length_cons, List.length_nil]; omega) (by rw [e2 0 (by omega)]; exact h0) (fun i h1 hi => ?_), e1, e2⟩
  rw [List.length_append] at hi
  simp only [List.length_cons, List.length_nil] at hi
  by_cases ei : i = p.length
  · subst ei
    rw [e1]
    omega
  · rw [e2 i (by omega)]
    exact hu i h1 (by omega)
theorem chl_mem {p : List Int} {n x : Int} : x ∈ chl p n ↔ ∃ i : Nat, x = (i : Int) ∧ i < p.length ∧ 1 ≤ i ∧ par6 p i = n := by
  unfold chl
  rw [pick6_mem]
  constructor
  · rintro ⟨i, e, h1, h2⟩
    unfold chB at h2
    rw [Bool.and_eq_true, decide_eq_true_eq, decide_eq_true_eq] at h2
    exact ⟨i, e, h1, h2.1, h2.2⟩
  · rintro ⟨i, e, h1, h2, h3⟩
    refine ⟨i, e, h1, ?_⟩
    unfold chB
    rw [decide_eq_true h2, decide_eq_true h3]; rfl
theorem lvs_mem {p : List Int} {x : Int} : x ∈ lvs p ↔ ∃ i : Nat, x = (i : Int) ∧ i < p.length ∧ 1 ≤ i ∧ chl p (i : Int) = [] := by
  unfold lvs
  rw [pick6_mem]
  constructor
  · rintro ⟨i, e, h1, h2⟩
    unfold lfB at h2
    rw [Bool.and_eq_true, decide_eq_true_eq, decide_eq_true_eq] at h2
    exact ⟨i, e, h1, h2.1, h2.2⟩
  · rintro ⟨i, e, h1, h2, h3⟩
    refine ⟨i, e, h1, ?_⟩
    unfold lfB
    rw [decide_eq_true h2, decide_eq_true h3]; rfl
/-- The last node of a tree is a leaf. -/
theorem last_leaf {p : List Int} (h : trOk p = true) : ((p.length - 1 : Nat) : Int) ∈ lvs p := by
  obtain ⟨h2, _, _, hu⟩ := trOk_parts h
  rw [lvs_mem]
  refine ⟨p.length - 1, rfl, by omega, by omega, ?_⟩
  apply List.eq_nil_iff_forall_not_mem.2
  intro x hx
  obtain ⟨i, _, hi, h1, hp⟩ := chl_mem.1 hx
  have := hu i h1 hi
  omega
/-- What the law asks of a leaf that is added. -/
theorem leaf_law {p : List Int} {n : Int} (h : leafOk p n = true) : ndOk (p ++ [n]) n = true ∧ trOk (p ++ [n]) = true ∧ (p.length : Int) ∈ chl (p ++ [n]) n ∧ (p.length : Int) ∈ lvs (p ++ [n]) ∧ n ∉ lvs (p ++ [n]) := by
  obtain ⟨ht, e1, e2⟩ := leaf_tree h
  have hl : (p ++ [n]).length = p.length + 1 := by simp
  unfold leafOk at h
  rw [Bool.and_eq_true, decide_eq_true_eq] at h
  obtain ⟨hnd, h8⟩ := h
  obtain ⟨ht0, n0, n1⟩ := ndOk_parts hnd
  have h2 := (trOk_parts ht0).1
  have hch : (p.length : Int) ∈ chl (p ++ [n]) n := chl_mem.2 ⟨p.length, rfl, by omega, by omega, e1⟩
  refine ⟨?_, ht, hch, ?_, ?_⟩
  · unfold ndOk
    rw [ht, decide_eq_true n0, decide_eq_true (show n ≤ ((p ++ [n]).length : Int) - 1 by omega)]; rfl
  · have := last_leaf ht
    rw [hl] at this
    simpa using this
  · intro hx
    obtain ⟨i, e, _, _, hc⟩ := lvs_mem.1 hx
    rw [← e] at hc
    rw [hc] at hch
    cases hch
end Go.Proofs.YtejdphfcogfcmaaGreatDoor
