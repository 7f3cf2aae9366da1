/-
  Trees' texts; a text has one tree. No program.
-/
import Derived.Test.YtejdphfcogfcmaaGreatDoorMath2
import Derived.Test.YtejdphfcogfcmaaGreatDoorMath4
import Derived.Test.YtejdphfcogfcmaaGreatDoorRngText
import Derived.Test.YtejdphfcogfcmaaGreatDoorTreeMath
namespace Go.Proofs.YtejdphfcogfcmaaGreatDoor
open Go.RowKit Go.Lib
set_option linter.unusedVariables false

theorem itoa_clean6 {n : Int} (h : 0 ≤ n) : (32 : UInt8) ∉ Lib.itoa n := by
  intro hm
  have := itoa_digs5 h 32 hm
  revert this
  decide
/-- Numbers with spaces between them. -/
def jn6 : List Int → List UInt8
  | [] => []
  | [x] => Lib.itoa x
  | x :: y :: l => Lib.itoa x ++ 32 :: jn6 (y :: l)
theorem jn6_snoc : ∀ (l : List Int) (x : Int), jn6 (l ++ [x]) = jn6 l ++ (if l = [] then [] else [32]) ++ Lib.itoa x
  | [], x => by simp [jn6]
  | [r], x => by simp [jn6]
  | r :: q :: s, x => by
    have := jn6_snoc (q :: s) x
    show Lib.itoa r ++ 32 :: jn6 (q :: s ++ [x]) = _
    rw [this]
    simp [jn6]
theorem jn6_parts : ∀ (s : List Int), s ≠ [] → (∀ r ∈ s, 0 ≤ r) → M.parts 32 (jn6 s) = s.map Lib.itoa
  | [], h, _ => absurd rfl h
  | [r], _, h => by
    have h0 := h r (by simp)
    show M.parts 32 (Lib.itoa r) = _
    rw [M.parts_one 32 _ (itoa_clean6 h0)]
    rfl
  | r :: q :: s, _, h => by
    have h0 := h r (by simp)
    show M.parts 32 (Lib.itoa r ++ 32 :: jn6 (q :: s)) = _
    rw [parts_cut 32 _ _ (itoa_clean6 h0), jn6_parts (q :: s) (by simp) (fun r hr => h r (List.mem_cons_of_mem _ hr))]
    rfl
theorem jn6_len : ∀ (s : List Int), (∀ r ∈ s, 0 ≤ r ∧ r ≤ 65535) → (jn6 s).length ≤ 6 * s.length
  | [], _ => by simp [jn6]
  | [r], h => by
    have := itoa_len5 (h r (by simp)).1 (h r (by simp)).2
    show (Lib.itoa r).length ≤ 6
    omega
  | r :: q :: s, h => by
    have := itoa_len5 (h r (by simp)).1 (h r (by simp)).2
    have ih := jn6_len (q :: s) (fun r hr => h r (List.mem_cons_of_mem _ hr))
    show (Lib.itoa r ++ 32 :: jn6 (q :: s)).length ≤ _
    rw [List.length_append, List.length_cons]
    simp only [List.length_cons] at ih ⊢
    omega
theorem itoa_map_inj : ∀ (s u : List Int), s.map Lib.itoa = u.map Lib.itoa → s = u
  | [], [], _ => rfl
  | [], _ :: _, h => by simp at h
  | _ :: _, [], h => by simp at h
  | r :: s, q :: u, h => by
    simp only [List.map_cons, List.cons.injEq] at h
    rw [M.itoa_inj h.1, itoa_map_inj s u h.2]
/-- The text of a tree. -/
def treeB (p : List Int) : ByteArray := ⟨(jn6 p.tail).toArray⟩
theorem treeB_list (p : List Int) : (treeB p).data.toList = jn6 p.tail := by simp [treeB]
theorem tree_form {p : List Int} (h : trOk p = true) : ∃ q, p = -1 :: q ∧ q ≠ [] ∧ q.length ≤ 7 ∧ ∀ x ∈ q, 0 ≤ x ∧ x ≤ 6 := by
  obtain ⟨h2, h8, h0, hu⟩ := trOk_parts h
  cases p with
  | nil => simp at h2
  | cons a q =>
    have ha : a = -1 := by simpa [par6] using h0
    refine ⟨q, by rw [ha], fun e => by rw [e] at h2; simp at h2, by simpa using h8, fun x hx => ?_⟩
    obtain ⟨i, hi, rfl⟩ := List.getElem_of_mem hx
    have := hu (i + 1) (by omega) (by simpa using hi)
    rw [par6_at (by simpa using hi)] at this
    simp only [List.getElem_cons_succ] at this
    simp only [List.length_cons] at h8
    omega
theorem treeB_size {p : List Int} (h : trOk p = true) : (treeB p).size ≤ 42 := by
  obtain ⟨q, rfl, _, hl, hq⟩ := tree_form h
  have := jn6_len q (fun x hx => by have := hq x hx; omega)
  have e : (treeB (-1 :: q)).size = (jn6 q).length := by unfold treeB; show (List.toArray _).size = _; simp
  omega
/-- Small numbers have one digit. -/
theorem itoa_one {x : Int} (h0 : 0 ≤ x) (h1 : x ≤ 9) : (Lib.itoa x).length = 1 := by
  obtain ⟨u, rfl⟩ : ∃ u : Nat, x = u := ⟨x.toNat, by omega⟩
  rw [M.itoa_nat, Lib.decDigits_length, Lib.nDigits_small (by omega)]
theorem jn6_len2 : ∀ (s : List Int), (∀ r ∈ s, 0 ≤ r ∧ r ≤ 9) → (jn6 s).length ≤ 2 * s.length
  | [], _ => by simp [jn6]
  | [r], h => by
    have := itoa_one (h r (by simp)).1 (h r (by simp)).2
    show (Lib.itoa r).length ≤ 2
    omega
  | r :: q :: s, h => by
    have := itoa_one (h r (by simp)).1 (h r (by simp)).2
    have ih := jn6_len2 (q :: s) (fun r hr => h r (List.mem_cons_of_mem _ hr))
    show (Lib.itoa r ++ 32 :: jn6 (q :: s)).length ≤ _
    rw [List.length_append, List.length_cons]
    simp only [List.length_cons] at ih ⊢
    omega
theorem treeB_size14 {p : List Int} (h : trOk p = true) : (treeB p).size ≤ 14 := by
  obtain ⟨q, rfl, _, hl, hq⟩ := tree_form h
  have := jn6_len2 q (fun x hx => by have := hq x hx; omega)
  have e : (treeB (-1 :: q)).size = (jn6 q).length := by unfold treeB; show (List.toArray _).size = _; simp
  omega
theorem treeB_inj {p u : List Int} (hp : trOk p = true) (hu : trOk u = true) (h : treeB p = treeB u) : p = u := by
  obtain ⟨q, rfl, hq, _, vq⟩ := tree_form hp
  obtain ⟨r, rfl, hr, _, vr⟩ := tree_form hu
  have e1 := treeB_list (-1 :: q)
  have e0 := treeB_list (-1 :: r)
  rw [h] at e1
  have e : jn6 q = jn6 r := e1.symm.trans e0
  have e2 := jn6_parts q hq (fun x hx => (vq x hx).1)
  rw [e, jn6_parts r hr (fun x hx => (vr x hx).1)] at e2
  rw [itoa_map_inj q r e2.symm]
/-- The tree whose text this is. -/
def IsTree (s : ByteArray) (p : List Int) : Prop := trOk p = true ∧ treeB p = s
open Classical in
noncomputable def ptB (s : ByteArray) : Bool := decide (∃ p, IsTree s p)
open Classical in
noncomputable def ptL (s : ByteArray) : List Int := if h : ∃ p, IsTree s p then Classical.choose h else []
open Classical in
theorem pt_yes {s : ByteArray} {p : List Int} (h : IsTree s p) : ptB s = true ∧ ptL s = p := by
  have hx : ∃ p, IsTree s p := ⟨p, h⟩
  refine ⟨by unfold ptB; exact decide_eq_true hx, ?_⟩
  unfold ptL
  rw [dif_pos hx]
  obtain ⟨h1, h2⟩ := Classical.choose_spec hx
  exact treeB_inj h1 h.1 (h2.trans h.2.symm)
open Classical in
theorem pt_no {s : ByteArray} (h : ∀ p, ¬ IsTree s p) : ptB s = false ∧ ptL s = [] := by
  have hx : ¬ ∃ p, IsTree s p := fun ⟨p, hp⟩ => h p hp
  exact ⟨by unfold ptB; exact decide_eq_false hx, by unfold ptL; rw [dif_neg hx]⟩
theorem pt_text {p : List Int} (h : trOk p = true) : ptB (treeB p) = true ∧ ptL (treeB p) = p := pt_yes ⟨h, rfl⟩
open Classical in
theorem pt_is {s : ByteArray} (h : ptB s = true) : IsTree s (ptL s) := by
  have hx : ∃ p, IsTree s p := by unfold ptB at h; exact of_decide_eq_true h
  unfold ptL
  rw [dif_pos hx]
  exact Classical.choose_spec hx
/-- What must hold of the words of a tree's text. -/
theorem tree_words {s : ByteArray} {p : List Int} (h : IsTree s p) : M.parts 32 s.data.toList = p.tail.map Lib.itoa ∧ p = -1 :: p.tail := by
  obtain ⟨q, rfl, hq, _, vq⟩ := tree_form h.1
  refine ⟨?_, rfl⟩
  rw [← h.2, treeB_list]
  exact jn6_parts q hq (fun x hx => (vq x hx).1)
/-- What TreeText returns. -/
def ttV (p : List Int) : ByteArray := if trOk p = true then treeB p else ⟨#[]⟩
theorem ttV_yes {p : List Int} (h : trOk p = true) : ttV p = treeB p := if_pos h
theorem ttV_no {p : List Int} (h : trOk p = false) : ttV p = ⟨#[]⟩ := by unfold ttV; rw [h]; rfl
end Go.Proofs.YtejdphfcogfcmaaGreatDoor
