/-
  The window of a receiver: its text; the words of a text. No program.
-/
import Derived.Test.YtpmjdppipalfcaaDoorRcvMath
import Derived.Test.YtpmjdppipalfcaaDoorPartsC
namespace Go.Proofs.YtpmjdppipalfcaaDoor
open Go.RowKit Go.Lib
set_option linter.unusedVariables false

/-- The word of a slot. -/
def wdL (s : Sl) : List UInt8 := if s.h = true then (if s.s.size = 0 then [46] else s.s.data.toList) else [63]
/-- The text of a window. -/
def txL (x : Int) (q : List Sl) : List UInt8 := (Lib.itoa x ++ [58]) ++ q.flatMap (fun s => 32 :: wdL s)
def txB (x : Int) (q : List Sl) : ByteArray := ⟨(txL x q).toArray⟩
def stV (w : Rw) : ByteArray := if rwOk w = true then txB w.x w.q else ⟨#[]⟩
theorem tx_data (x : Int) (q : List Sl) : (txB x q).data.toList = txL x q := by simp [txB]
theorem txL_snoc (x : Int) (q : List Sl) (s : Sl) : txL x (q ++ [s]) = txL x q ++ 32 :: wdL s := by
  unfold txL
  rw [List.flatMap_append, List.flatMap_singleton]
  simp only [List.append_assoc]
theorem txB_snoc (x : Int) (q : List Sl) (s : Sl) : txB x (q ++ [s]) = txB x q ++ ⟨(32 :: wdL s).toArray⟩ := by
  unfold txB
  rw [txL_snoc]
  apply ByteArray.ext
  simp
theorem txB_nil (x : Int) : txB x [] = (⟨(Lib.itoa x).toArray⟩ : ByteArray) ++ ⟨#[58]⟩ := by
  apply ByteArray.ext
  simp [txB, txL]
theorem wd_len {s : Sl} (h : s.s.size ≤ 8) : (wdL s).length ≤ 8 := by
  unfold wdL
  split
  · split
    · decide
    · have : s.s.data.toList.length = s.s.size := by simp
      omega
  · decide
theorem flat_le : ∀ (q : List Sl), (∀ s ∈ q, s.s.size ≤ 8) → (q.flatMap (fun s => 32 :: wdL s)).length ≤ 9 * q.length
  | [], _ => by simp
  | a :: q, h => by
    have ih := flat_le q (fun s hs => h s (List.mem_cons_of_mem _ hs))
    have := wd_len (h a List.mem_cons_self)
    rw [List.flatMap_cons, List.length_append, List.length_cons, List.length_cons]
    omega
theorem tx_size {x : Int} {q : List Sl} (h0 : 0 ≤ x) (h1 : x ≤ 65535) (hq : ∀ s ∈ q, s.s.size ≤ 8) : (txB x q).size ≤ 6 + 9 * q.length := by
  have e : (txB x q).size = (txL x q).length := by show (txL x q).toArray.size = _; simp
  rw [e]
  unfold txL
  have := itoa_len5 h0 h1
  have := flat_le q hq
  rw [List.length_append, List.length_append]
  simp only [List.length_cons, List.length_nil]
  omega
theorem wd_clean {s : Sl} (h : slOk s = true) : (32 : UInt8) ∉ wdL s := by
  unfold slOk itB at h
  simp only [Bool.and_eq_true] at h
  obtain ⟨⟨h1, h2⟩, h3⟩ := h
  unfold wdL
  split
  · split
    · decide
    · intro hm
      unfold ltrB at h1
      have := List.all_eq_true.1 h1 32 hm
      revert this
      decide
  · decide
theorem head_clean {x : Int} (h : 0 ≤ x) : (32 : UInt8) ∉ Lib.itoa x ++ [58] := by
  intro hm
  rcases List.mem_append.1 hm with hm | hm
  · have := itoa_digs5 h 32 hm
    revert this
    decide
  · revert hm; decide
theorem parts_flat : ∀ (q : List Sl) (a : List UInt8), (32 : UInt8) ∉ a → (∀ s ∈ q, (32 : UInt8) ∉ wdL s) → M.parts 32 (a ++ q.flatMap (fun s => 32 :: wdL s)) = a :: q.map wdL
  | [], a, ha, _ => by rw [List.flatMap_nil, List.append_nil, M.parts_one 32 _ ha]; rfl
  | s :: q, a, ha, h => by
    rw [List.flatMap_cons, List.cons_append, parts_cut 32 a _ ha, parts_flat q (wdL s) (h s List.mem_cons_self) (fun t ht => h t (List.mem_cons_of_mem _ ht))]
    rfl
/-- The words of a window's text. -/
theorem tx_parts {x : Int} {q : List Sl} (hx : 0 ≤ x) (hq : ∀ s ∈ q, slOk s = true) : M.parts 32 (txL x q) = (Lib.itoa x ++ [58]) :: q.map wdL :=
  parts_flat q _ (head_clean hx) (fun s hs => wd_clean (hq s hs))
/-- The slot of a word. -/
def slotL (p : List UInt8) : Sl := if p = [63] then sl0 else if p = [46] then ⟨true, ⟨#[]⟩⟩ else ⟨true, ⟨p.toArray⟩⟩
theorem slot_wd {s : Sl} (h : slOk s = true) : slotL (wdL s) = s := by
  obtain ⟨hv, it⟩ := s
  unfold slOk itB at h
  simp only [Bool.and_eq_true, Bool.or_eq_true, decide_eq_true_eq] at h
  obtain ⟨⟨h1, h2⟩, h3⟩ := h
  cases hv with
  | false =>
    have hz : it.size = 0 := by simpa using h3
    have he : it = ⟨#[]⟩ := by
      apply ByteArray.ext
      exact Array.eq_empty_of_size_eq_zero hz
    subst he
    rfl
  | true =>
    show slotL (if it.size = 0 then [46] else it.data.toList) = _
    by_cases hz : it.size = 0
    · rw [if_pos hz]
      have he : it = ⟨#[]⟩ := by
        apply ByteArray.ext
        exact Array.eq_empty_of_size_eq_zero hz
      subst he
      rfl
    · rw [if_neg hz]
      have hlet : ∀ c ∈ it.data.toList, letB c = true := fun c hc => by unfold ltrB at h1; exact List.all_eq_true.1 h1 c hc
      unfold slotL
      rw [if_neg (fun e => by have := hlet 63 (by rw [e]; simp); revert this; decide), if_neg (fun e => by have := hlet 46 (by rw [e]; simp); revert this; decide)]
theorem map_slot {q : List Sl} (h : ∀ s ∈ q, slOk s = true) : (q.map wdL).map slotL = q := by
  rw [List.map_map]
  conv => rhs; rw [← List.map_id q]
  exact List.map_congr_left (fun s hs => slot_wd (h s hs))
/-- A text without its last colon. -/
def trimL (l : List UInt8) : List UInt8 := if l.getLast? = some 58 then l.dropLast else l
theorem trim_hit (a : List UInt8) : trimL (a ++ [58]) = a := by unfold trimL; rw [List.getLast?_append]; simp
theorem rw_text {w : Rw} (h : rwOk w = true) : (txB w.x w.q).size ≤ 78 ∧ M.parts 32 (txB w.x w.q).data.toList = (Lib.itoa w.x ++ [58]) :: w.q.map wdL ∧ (w.q.map wdL).map slotL = w.q := by
  obtain ⟨r1, r2, r3, r4, r5⟩ := rwOk_iff.1 h
  refine ⟨?_, ?_, map_slot r3⟩
  · have := tx_size r1.1 r1.2 (q := w.q) (fun s hs => by have := r3 s hs; unfold slOk itB at this; simp only [Bool.and_eq_true, decide_eq_true_eq] at this; exact this.1.2)
    omega
  · rw [tx_data]; exact tx_parts r1.1 r3
end Go.Proofs.YtpmjdppipalfcaaDoor
