/-
  Trees of nodes, as lists of parents: mathematics. No program.
-/
namespace Go.Proofs.YtejdphfcogfcmaaGreatDoor
set_option linter.unusedVariables false

/-- The node above a node. -/
def par6 (p : List Int) (i : Nat) : Int := p.getD i 0
def upB (p : List Int) (i : Nat) : Bool := decide (i = 0) || (decide (0 ≤ par6 p i) && decide (par6 p i ≤ (i : Int) - 1))
/-- Whether a list of parents is a tree's. -/
def trOk (p : List Int) : Bool := (decide (2 ≤ p.length) && decide (p.length ≤ 8)) && (decide (par6 p 0 = -1) && (List.range p.length).all (upB p))
theorem trOk_parts {p : List Int} (h : trOk p = true) : 2 ≤ p.length ∧ p.length ≤ 8 ∧ par6 p 0 = -1 ∧ ∀ i, 1 ≤ i → i < p.length → 0 ≤ par6 p i ∧ par6 p i ≤ (i : Int) - 1 := by
  unfold trOk at h
  simp only [Bool.and_eq_true, decide_eq_true_eq, List.all_eq_true, List.mem_range] at h
  refine ⟨h.1.1, h.1.2, h.2.1, fun i h1 hi => ?_⟩
  have := h.2.2 i hi
  unfold upB at this
  simp only [Bool.or_eq_true, Bool.and_eq_true, decide_eq_true_eq] at this
  omega
theorem trOk_yes {p : List Int} (h1 : 2 ≤ p.length) (h2 : p.length ≤ 8) (h3 : par6 p 0 = -1) (h4 : ∀ i, 1 ≤ i → i < p.length → 0 ≤ par6 p i ∧ par6 p i ≤ (i : Int) - 1) : trOk p = true := by
  unfold trOk
  simp only [Bool.and_eq_true, decide_eq_true_eq, List.all_eq_true, List.mem_range]
  refine ⟨⟨h1, h2⟩, h3, fun i hi => ?_⟩
  unfold upB
  simp only [Bool.or_eq_true, Bool.and_eq_true, decide_eq_true_eq]
  by_cases h0 : i = 0
  · exact .inl h0
  · exact .inr (h4 i (by omega) hi)
theorem trOk_len {p : List Int} (h : ¬ (2 ≤ p.length ∧ p.length ≤ 8)) : trOk p = false := by
  cases e : trOk p with
  | false => rfl
  | true => exact absurd ⟨(trOk_parts e).1, (trOk_parts e).2.1⟩ h
theorem trOk_root {p : List Int} (h : par6 p 0 ≠ -1) : trOk p = false := by
  cases e : trOk p with
  | false => rfl
  | true => exact absurd (trOk_parts e).2.2.1 h
theorem trOk_bad {p : List Int} {i : Nat} (h1 : 1 ≤ i) (hi : i < p.length) (h : ¬ (0 ≤ par6 p i ∧ par6 p i ≤ (i : Int) - 1)) : trOk p = false := by
  cases e : trOk p with
  | false => rfl
  | true => exact absurd ((trOk_parts e).2.2.2 i h1 hi) h
theorem par6_at {p : List Int} {i : Nat} (hi : i < p.length) : par6 p i = p[i] := by unfold par6; rw [List.getD_eq_getElem?_getD, List.getElem?_eq_getElem hi]; rfl
/-- Whether a tree is valid and has a node. -/
def ndOk (p : List Int) (n : Int) : Bool := trOk p && (decide (0 ≤ n) && decide (n ≤ (p.length : Int) - 1))
theorem ndOk_parts {p : List Int} {n : Int} (h : ndOk p n = true) : trOk p = true ∧ 0 ≤ n ∧ n < p.length := by
  unfold ndOk at h
  simp only [Bool.and_eq_true, decide_eq_true_eq] at h
  exact ⟨h.1, h.2.1, by omega⟩
/-- The nodes below k that pass a test, in order. -/
def pick6 (q : Nat → Bool) (k : Nat) : List Int := ((List.range k).filter q).map fun (i : Nat) => (i : Int)
theorem pick6_zero (q : Nat → Bool) : pick6 q 0 = [] := rfl
theorem pick6_yes {q : Nat → Bool} {k : Nat} (h : q k = true) : pick6 q (k + 1) = pick6 q k ++ [(k : Int)] := by
  unfold pick6
  rw [List.range_succ, List.filter_append, List.map_append]
  simp [h]
theorem pick6_no {q : Nat → Bool} {k : Nat} (h : q k = false) : pick6 q (k + 1) = pick6 q k := by
  unfold pick6
  rw [List.range_succ, List.filter_append, List.map_append]
  simp [h]
theorem pick6_len (q : Nat → Bool) (k : Nat) : (pick6 q k).length ≤ k := by
  unfold pick6
  rw [List.length_map]
  have := List.length_filter_le q (List.range k)
  rw [List.length_range] at this
  exact this
theorem pick6_mem {q : Nat → Bool} {k : Nat} {x : Int} : x ∈ pick6 q k ↔ ∃ i : Nat, x = (i : Int) ∧ i < k ∧ q i = true := by
  unfold pick6
  rw [List.mem_map]
  constructor
  · rintro ⟨i, hi, rfl⟩
    rw [List.mem_filter, List.mem_range] at hi
    exact ⟨i, rfl, hi.1, hi.2⟩
  · rintro ⟨i, rfl, h1, h2⟩
    exact ⟨i, by rw [List.mem_filter, List.mem_range]; exact ⟨h1, h2⟩, rfl⟩
/-- Two tests that agree below k pick the same nodes. -/
theorem pick6_congr {q r : Nat → Bool} {k : Nat} (h : ∀ i, i < k → q i = r i) : pick6 q k = pick6 r k := by
  unfold pick6
  rw [List.filter_congr (fun i hi => h i (List.mem_range.1 hi))]
/-- The nodes directly below a node. -/
def chB (p : List Int) (n : Int) (i : Nat) : Bool := decide (1 ≤ i) && decide (par6 p i = n)
def chl (p : List Int) (n : Int) : List Int := pick6 (chB p n) p.length
/-- The leaves. -/
def lfB (p : List Int) (i : Nat) : Bool := decide (1 ≤ i) && decide (chl p (i : Int) = [])
def lvs (p : List Int) : List Int := pick6 (lfB p) p.length
/-- The nodes from the source to a node. -/
def pthF (p : List Int) : Nat → Int → List Int
  | 0, _ => []
  | f + 1, n => if 0 ≤ n then pthF p f (par6 p n.toNat) ++ [n] else []
def pth (p : List Int) (n : Int) : List Int := pthF p (p.length + 1) n
theorem pthF_neg (p : List Int) (f : Nat) {n : Int} (h : n < 0) : pthF p f n = [] := by
  cases f with
  | zero => rfl
  | succ f => show (if 0 ≤ n then _ else _) = _; rw [if_neg (by omega)]
/-- Enough steps give the whole path. -/
theorem pthF_more {p : List Int} (h : trOk p = true) : ∀ (n : Nat), n < p.length → ∀ (f g : Nat), n < f → n < g → pthF p f (n : Int) = pthF p g (n : Int) := by
  obtain ⟨h2, h8, h0, hu⟩ := trOk_parts h
  intro n
  induction n using Nat.strongRecOn with
  | ind n ih =>
    intro hn f g hf hg
    obtain ⟨f, rfl⟩ : ∃ f', f = f' + 1 := ⟨f - 1, by omega⟩
    obtain ⟨g, rfl⟩ : ∃ g', g = g' + 1 := ⟨g - 1, by omega⟩
    show (if 0 ≤ (n : Int) then pthF p f (par6 p (n : Int).toNat) ++ [(n : Int)] else []) = (if 0 ≤ (n : Int) then pthF p g (par6 p (n : Int).toNat) ++ [(n : Int)] else [])
    rw [if_pos (by omega), if_pos (by omega)]
    rw [Int.toNat_natCast]
    by_cases e : n = 0
    · subst e
      rw [h0, pthF_neg p f (by omega), pthF_neg p g (by omega)]
    · obtain ⟨a, b⟩ := hu n (by omega) hn
      obtain ⟨m, hm⟩ : ∃ m : Nat, par6 p n = (m : Int) := ⟨(par6 p n).toNat, by omega⟩
      rw [hm] at b ⊢
      rw [ih m (by omega) (by omega) f g (by omega) (by omega)]
/-- A path's last step. -/
theorem pth_step {p : List Int} (h : trOk p = true) {n : Nat} (hn : n < p.length) : pth p (n : Int) = (if n = 0 then [] else pth p (par6 p n)) ++ [(n : Int)] := by
  obtain ⟨h2, h8, h0, hu⟩ := trOk_parts h
  show (if 0 ≤ (n : Int) then pthF p p.length (par6 p (n : Int).toNat) ++ [(n : Int)] else []) = _
  rw [if_pos (by omega), Int.toNat_natCast]
  by_cases e : n = 0
  · subst e
    rw [h0, pthF_neg p _ (by omega), if_pos rfl]
  · rw [if_neg e]
    obtain ⟨a, b⟩ := hu n (by omega) hn
    obtain ⟨m, hm⟩ : ∃ m : Nat, par6 p n = (m : Int) := ⟨(par6 p n).toNat, by omega⟩
    rw [hm] at b ⊢
    unfold pth
    rw [pthF_more h m (by omega) p.length (p.length + 1) (by omega) (by omega)]
/-- Nodes of a path: each in the tree, none above the last one. -/
theorem pth_mem {p : List Int} (h : trOk p = true) : ∀ (n : Nat), n < p.length → ∀ x ∈ pth p (n : Int), 0 ≤ x ∧ x ≤ (n : Int) := by
  obtain ⟨h2, h8, h0, hu⟩ := trOk_parts h
  intro n
  induction n using Nat.strongRecOn with
  | ind n ih =>
    intro hn x hx
    rw [pth_step h hn] at hx
    by_cases e : n = 0
    · subst e
      rw [if_pos rfl] at hx
      simp at hx
      omega
    · rw [if_neg e] at hx
      obtain ⟨a, b⟩ := hu n (by omega) hn
      obtain ⟨m, hm⟩ : ∃ m : Nat, par6 p n = (m : Int) := ⟨(par6 p n).toNat, by omega⟩
      rw [hm] at b hx
      rcases List.mem_append.1 hx with hx | hx
      · have := ih m (by omega) (by omega) x hx
        omega
      · simp at hx
        omega
theorem pth_len {p : List Int} (h : trOk p = true) : ∀ (n : Nat), n < p.length → 1 ≤ (pth p (n : Int)).length ∧ (pth p (n : Int)).length ≤ n + 1 := by
  obtain ⟨h2, h8, h0, hu⟩ := trOk_parts h
  intro n
  induction n using Nat.strongRecOn with
  | ind n ih =>
    intro hn
    rw [pth_step h hn, List.length_append]
    by_cases e : n = 0
    · subst e
      rw [if_pos rfl]
      simp
    · rw [if_neg e]
      obtain ⟨a, b⟩ := hu n (by omega) hn
      obtain ⟨m, hm⟩ : ∃ m : Nat, par6 p n = (m : Int) := ⟨(par6 p n).toNat, by omega⟩
      rw [hm] at b ⊢
      have := ih m (by omega) (by omega)
      simp only [List.length_cons, List.length_nil]
      omega
/-- Nodes below a node. -/
def nbB (p : List Int) (n : Int) (i : Nat) : Bool := decide (n ∈ pth p (i : Int))
def nbl (p : List Int) (n : Int) : List Int := pick6 (nbB p n) p.length
/-- The last node on both paths. -/
def meetV (p : List Int) (a b : Int) : Int := (pth p a).foldl (fun last x => if x ∈ pth p b then x else last) 0
/-- The node behind a node of a list, or none. -/
def nextOf (n : Int) : List Int → Option Int
  | [] => none
  | [_] => none
  | x :: y :: l => if x = n then some y else nextOf n (y :: l)
def faceOk (p : List Int) (n t : Int) : Bool := (ndOk p n && (ndOk p t && decide (n ≠ t))) && (nextOf n (pth p t)).isSome
def faceV (p : List Int) (n t : Int) : Int := if faceOk p n t = true then (nextOf n (pth p t)).getD 0 else 0
/-- Trees with a leaf more. -/
def leafOk (p : List Int) (n : Int) : Bool := ndOk p n && decide (p.length ≠ 8)
end Go.Proofs.YtejdphfcogfcmaaGreatDoor
