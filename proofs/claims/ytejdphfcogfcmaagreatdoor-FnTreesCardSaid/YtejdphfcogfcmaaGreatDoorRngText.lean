/-
  Sets of numbers as ranges: their texts; a text has one set. No program.
-/
import Derived.Test.YtejdphfcogfcmaaGreatDoorMath2
import Derived.Test.YtejdphfcogfcmaaGreatDoorMath4
import Derived.Test.YtejdphfcogfcmaaGreatDoorRngMath
namespace Go.Proofs.YtejdphfcogfcmaaGreatDoor
open Go.RowKit Go.Lib
set_option linter.unusedVariables false

theorem foldl_shift5 (c : UInt8) (x : List UInt8) : ∀ (l : List UInt8) (st : List (List UInt8) × List UInt8), l.foldl (M.spStep c) (x :: st.1, st.2) = (x :: (l.foldl (M.spStep c) st).1, (l.foldl (M.spStep c) st).2)
  | [], st => rfl
  | y :: l, st => by
    simp only [List.foldl_cons]
    have e : M.spStep c (x :: st.1, st.2) y = (x :: (M.spStep c st y).1, (M.spStep c st y).2) := by
      unfold M.spStep
      split <;> rfl
    rw [e]
    exact foldl_shift5 c x l (M.spStep c st y)
theorem foldl_miss5 (c : UInt8) : ∀ (a : List UInt8) (st : List (List UInt8) × List UInt8), c ∉ a → a.foldl (M.spStep c) st = (st.1, st.2 ++ a)
  | [], st, _ => by simp
  | y :: a, st, h => by
    have hy : y ≠ c := fun e => h (by rw [e]; exact List.mem_cons_self ..)
    simp only [List.foldl_cons]
    have e : M.spStep c st y = (st.1, st.2 ++ [y]) := by unfold M.spStep; rw [if_neg hy]
    rw [e, foldl_miss5 c a _ (fun h2 => h (List.mem_cons_of_mem _ h2))]
    simp
theorem parts_cut (c : UInt8) (a b : List UInt8) (h : c ∉ a) : M.parts c (a ++ c :: b) = a :: M.parts c b := by
  unfold M.parts M.sp
  rw [List.foldl_append, foldl_miss5 c a _ h, List.foldl_cons]
  have e : M.spStep c (([], [] ++ a) : List (List UInt8) × List UInt8) c = ([a], []) := by unfold M.spStep; rw [if_pos rfl]; rfl
  show (List.foldl (M.spStep c) (M.spStep c ([], [] ++ a) c) b).1 ++ _ = _
  rw [e]
  have := foldl_shift5 c a b ([], [])
  rw [this]
  rfl
theorem itoa_digs5 {n : Int} (h : 0 ≤ n) : M.allDig (Lib.itoa n) := by
  obtain ⟨u, rfl⟩ : ∃ u : Nat, n = u := ⟨n.toNat, by omega⟩
  rw [M.itoa_nat]
  exact (M.dec_props u).1
theorem itoa_ne5 {n : Int} (h : 0 ≤ n) : Lib.itoa n ≠ [] := by
  obtain ⟨u, rfl⟩ : ∃ u : Nat, n = u := ⟨n.toNat, by omega⟩
  rw [M.itoa_nat]
  exact (M.dec_props u).2.2
theorem itoa_clean5 {n : Int} (h : 0 ≤ n) (c : UInt8) (hc : c = 44 ∨ c = 45) : c ∉ Lib.itoa n := by
  intro hm
  have := itoa_digs5 h c hm
  rcases hc with rfl | rfl <;> revert this <;> decide
theorem itoa_len5 {n : Int} (h : 0 ≤ n) (h1 : n ≤ 65535) : (Lib.itoa n).length ≤ 5 := by
  obtain ⟨u, rfl⟩ : ∃ u : Nat, n = u := ⟨n.toNat, by omega⟩
  rw [M.itoa_nat, Lib.decDigits_length]
  exact M.nDigits_pow 4 u (by omega)

/-- The text of a range. -/
def rgT (r : Rg) : List UInt8 := if r.1 < r.2 then Lib.itoa r.1 ++ 45 :: Lib.itoa r.2 else Lib.itoa r.1
def joinG : List Rg → List UInt8
  | [] => []
  | [r] => rgT r
  | r :: q :: s => rgT r ++ 44 :: joinG (q :: s)
def textL (s : List Rg) : List UInt8 := if s = [] then [110, 111, 110, 101] else joinG s
def textB (s : List Rg) : ByteArray := ⟨(textL s).toArray⟩
theorem joinG_snoc : ∀ (l : List Rg) (x : Rg), joinG (l ++ [x]) = joinG l ++ (if l = [] then [] else [44]) ++ rgT x
  | [], x => by simp [joinG]
  | [r], x => by simp [joinG]
  | r :: q :: s, x => by
    have := joinG_snoc (q :: s) x
    show rgT r ++ 44 :: joinG (q :: s ++ [x]) = _
    rw [this]
    simp [joinG]
theorem rgT_len {r : Rg} (h0 : 0 ≤ r.1) (h1 : r.1 ≤ r.2) (h2 : r.2 ≤ 65535) : (rgT r).length ≤ 11 := by
  have a := itoa_len5 h0 (by omega)
  have b := itoa_len5 (show 0 ≤ r.2 by omega) h2
  unfold rgT
  split
  · simp; omega
  · omega
theorem joinG_len : ∀ (s : List Rg), (∀ r ∈ s, 0 ≤ r.1 ∧ r.1 ≤ r.2 ∧ r.2 ≤ 65535) → (joinG s).length + 1 ≤ 12 * s.length + 1
  | [], _ => by simp [joinG]
  | [r], h => by
    have := rgT_len (h r (by simp)).1 (h r (by simp)).2.1 (h r (by simp)).2.2
    simp [joinG]; omega
  | r :: q :: s, h => by
    have := rgT_len (h r (by simp)).1 (h r (by simp)).2.1 (h r (by simp)).2.2
    have ih := joinG_len (q :: s) (fun r hr => h r (List.mem_cons_of_mem _ hr))
    simp only [joinG, List.length_append, List.length_cons] at ih ⊢
    omega
theorem joinG_len2 : ∀ (s : List Rg), s ≠ [] → (∀ r ∈ s, 0 ≤ r.1 ∧ r.1 ≤ r.2 ∧ r.2 ≤ 65535) → (joinG s).length + 1 ≤ 12 * s.length
  | [], h, _ => absurd rfl h
  | [r], _, h => by
    have := rgT_len (h r (by simp)).1 (h r (by simp)).2.1 (h r (by simp)).2.2
    simp [joinG]; omega
  | r :: q :: s, _, h => by
    have := rgT_len (h r (by simp)).1 (h r (by simp)).2.1 (h r (by simp)).2.2
    have ih := joinG_len2 (q :: s) (by simp) (fun r hr => h r (List.mem_cons_of_mem _ hr))
    simp only [joinG, List.length_append, List.length_cons] at ih ⊢
    omega
theorem rgOk_parts {s : List Rg} (h : rgOk s = true) : rgCh s ∧ s.length ≤ 10 := by
  unfold rgOk at h
  rw [Bool.and_eq_true, decide_eq_true_eq, decide_eq_true_eq] at h
  exact h
theorem rgOk_yes {s : List Rg} (h : rgCh s) (hl : s.length ≤ 10) : rgOk s = true := by
  unfold rgOk
  rw [decide_eq_true h, decide_eq_true hl]
  rfl
theorem textB_size {s : List Rg} (h : rgOk s = true) : (textB s).size ≤ 120 := by
  obtain ⟨hc, hl⟩ := rgOk_parts h
  have e : (textB s).size = (textL s).length := by simp [textB, ByteArray.size]
  rw [e]
  unfold textL
  split
  · simp
  · rename_i hn
    have := joinG_len2 s hn hc.2
    omega
theorem rgT_clean {r : Rg} (h0 : 0 ≤ r.1) (h1 : r.1 ≤ r.2) : (44 : UInt8) ∉ rgT r := by
  have a := itoa_clean5 h0 44 (.inl rfl)
  have b := itoa_clean5 (show 0 ≤ r.2 by omega) 44 (.inl rfl)
  unfold rgT
  split
  · intro h
    rcases List.mem_append.1 h with h | h
    · exact a h
    · rcases List.mem_cons.1 h with h | h
      · exact absurd h (by decide)
      · exact b h
  · exact a
/-- The words between the commas of a set's text. -/
theorem joinG_parts : ∀ (s : List Rg), s ≠ [] → (∀ r ∈ s, 0 ≤ r.1 ∧ r.1 ≤ r.2) → M.parts 44 (joinG s) = s.map rgT
  | [], h, _ => absurd rfl h
  | [r], _, h => by
    obtain ⟨h0, h1⟩ := h r (by simp)
    show M.parts 44 (rgT r) = _
    rw [M.parts_one 44 _ (rgT_clean h0 h1)]
    rfl
  | r :: q :: s, _, h => by
    obtain ⟨h0, h1⟩ := h r (by simp)
    show M.parts 44 (rgT r ++ 44 :: joinG (q :: s)) = _
    rw [parts_cut 44 _ _ (rgT_clean h0 h1), joinG_parts (q :: s) (by simp) (fun r hr => h r (List.mem_cons_of_mem _ hr))]
    rfl
theorem rgT_parts {r : Rg} (h0 : 0 ≤ r.1) (h1 : r.1 ≤ r.2) : M.parts 45 (rgT r) = if r.1 < r.2 then [Lib.itoa r.1, Lib.itoa r.2] else [Lib.itoa r.1] := by
  have a := itoa_clean5 h0 45 (.inr rfl)
  have b := itoa_clean5 (show 0 ≤ r.2 by omega) 45 (.inr rfl)
  unfold rgT
  split
  · rw [parts_cut 45 _ _ a, M.parts_one 45 _ b]
  · rw [M.parts_one 45 _ a]
/-- The first and the last word of a range's text. -/
theorem rgT_ends {r : Rg} (h0 : 0 ≤ r.1) (h1 : r.1 ≤ r.2) : (M.parts 45 (rgT r)).getD 0 [] = Lib.itoa r.1 ∧ (M.parts 45 (rgT r)).getD ((M.parts 45 (rgT r)).length - 1) [] = Lib.itoa r.2 ∧ 1 ≤ (M.parts 45 (rgT r)).length ∧ (M.parts 45 (rgT r)).length ≤ 2 := by
  rw [rgT_parts h0 h1]
  split
  · exact ⟨rfl, rfl, by simp, by simp⟩
  · have : r.1 = r.2 := by omega
    exact ⟨rfl, by rw [← this]; rfl, by simp, by simp⟩
theorem rgT_inj {r q : Rg} (hr : 0 ≤ r.1 ∧ r.1 ≤ r.2) (hq : 0 ≤ q.1 ∧ q.1 ≤ q.2) (h : rgT r = rgT q) : r = q := by
  obtain ⟨a, b, _⟩ := rgT_ends hr.1 hr.2
  obtain ⟨c, d, _⟩ := rgT_ends hq.1 hq.2
  rw [h] at a b
  exact Prod.ext (M.itoa_inj (a.symm.trans c)) (M.itoa_inj (b.symm.trans d))
theorem rgT_map_inj : ∀ (s u : List Rg), (∀ r ∈ s, 0 ≤ r.1 ∧ r.1 ≤ r.2) → (∀ r ∈ u, 0 ≤ r.1 ∧ r.1 ≤ r.2) → s.map rgT = u.map rgT → s = u
  | [], [], _, _, _ => rfl
  | [], _ :: _, _, _, h => by simp at h
  | _ :: _, [], _, _, h => by simp at h
  | r :: s, q :: u, hs, hu, h => by
    simp only [List.map_cons, List.cons.injEq] at h
    rw [rgT_inj (hs r (by simp)) (hu q (by simp)) h.1, rgT_map_inj s u (fun r hr => hs r (List.mem_cons_of_mem _ hr)) (fun r hr => hu r (List.mem_cons_of_mem _ hr)) h.2]
theorem joinG_head {r : Rg} {s : List Rg} (h0 : 0 ≤ r.1) : ∃ (c : UInt8) (l : List UInt8), joinG (r :: s) = c :: l ∧ 48 ≤ c.toNat ∧ c.toNat ≤ 57 := by
  have e : ∃ l, joinG (r :: s) = Lib.itoa r.1 ++ l := by
    have : ∃ l, rgT r = Lib.itoa r.1 ++ l := by
      unfold rgT
      split
      · exact ⟨_, rfl⟩
      · exact ⟨[], by simp⟩
    obtain ⟨l, hl⟩ := this
    cases s with
    | nil => exact ⟨l, hl⟩
    | cons q s => exact ⟨l ++ 44 :: joinG (q :: s), by show rgT r ++ _ = _; rw [hl]; simp⟩
  obtain ⟨l, hl⟩ := e
  have hd := itoa_digs5 h0
  cases hi : Lib.itoa r.1 with
  | nil => exact absurd hi (itoa_ne5 h0)
  | cons c t => exact ⟨c, t ++ l, by rw [hl, hi]; rfl, hd c (by rw [hi]; exact List.mem_cons_self ..)⟩
theorem joinG_none {s : List Rg} (hs : s ≠ []) (h : ∀ r ∈ s, 0 ≤ r.1) : joinG s ≠ [110, 111, 110, 101] := by
  cases s with
  | nil => exact absurd rfl hs
  | cons r s =>
    obtain ⟨c, l, e, h1, h2⟩ := joinG_head (s := s) (h r (List.mem_cons_self ..))
    rw [e]
    intro he
    injection he with he _
    subst he
    revert h2
    decide
theorem textL_inj {s u : List Rg} (hs : rgCh s) (hu : rgCh u) (h : textL s = textL u) : s = u := by
  have vs : ∀ r ∈ s, 0 ≤ r.1 ∧ r.1 ≤ r.2 := fun r hr => ⟨(hs.2 r hr).1, (hs.2 r hr).2.1⟩
  have vu : ∀ r ∈ u, 0 ≤ r.1 ∧ r.1 ≤ r.2 := fun r hr => ⟨(hu.2 r hr).1, (hu.2 r hr).2.1⟩
  unfold textL at h
  by_cases e1 : s = [] <;> by_cases e2 : u = []
  · rw [e1, e2]
  · rw [if_pos e1, if_neg e2] at h
    exact absurd h.symm (joinG_none e2 (fun r hr => (vu r hr).1))
  · rw [if_neg e1, if_pos e2] at h
    exact absurd h (joinG_none e1 (fun r hr => (vs r hr).1))
  · rw [if_neg e1, if_neg e2] at h
    refine rgT_map_inj s u vs vu ?_
    rw [← joinG_parts s e1 vs, ← joinG_parts u e2 vu, h]
/-- The set whose text this is. -/
def IsSet (s : ByteArray) (l : List Rg) : Prop := rgOk l = true ∧ textB l = s
open Classical in
noncomputable def psB (s : ByteArray) : Bool := decide (∃ l, IsSet s l)
open Classical in
noncomputable def psL (s : ByteArray) : List Rg := if h : ∃ l, IsSet s l then Classical.choose h else []
theorem textB_list (l : List Rg) : (textB l).data.toList = textL l := by simp [textB]
open Classical in
theorem ps_yes {s : ByteArray} {l : List Rg} (h : IsSet s l) : psB s = true ∧ psL s = l := by
  have hx : ∃ l, IsSet s l := ⟨l, h⟩
  refine ⟨by unfold psB; exact decide_eq_true hx, ?_⟩
  unfold psL
  rw [dif_pos hx]
  obtain ⟨h1, h2⟩ := Classical.choose_spec hx
  refine textL_inj (rgOk_parts h1).1 (rgOk_parts h.1).1 ?_
  rw [← textB_list, ← textB_list, h2, h.2]
open Classical in
theorem ps_no {s : ByteArray} (h : ∀ l, ¬ IsSet s l) : psB s = false ∧ psL s = [] := by
  have hx : ¬ ∃ l, IsSet s l := fun ⟨l, hl⟩ => h l hl
  exact ⟨by unfold psB; exact decide_eq_false hx, by unfold psL; rw [dif_neg hx]⟩
theorem ps_text {l : List Rg} (h : rgOk l = true) : psB (textB l) = true ∧ psL (textB l) = l := ps_yes ⟨h, rfl⟩
open Classical in
theorem ps_is {s : ByteArray} (h : psB s = true) : IsSet s (psL s) := by
  have hx : ∃ l, IsSet s l := by unfold psB at h; exact of_decide_eq_true h
  unfold psL
  rw [dif_pos hx]
  exact Classical.choose_spec hx
theorem psL_ok (s : ByteArray) : rgOk (psL s) = true := by
  cases h : psB s with
  | true => exact (ps_is h).1
  | false =>
    have : psL s = [] := (ps_no (fun l hl => by rw [(ps_yes hl).1] at h; cases h)).2
    rw [this]
    rfl
/-- What must hold of the words of a set's text, if it is not that of the empty set. -/
theorem set_words {s : ByteArray} {l : List Rg} (h : IsSet s l) (hl : l ≠ []) : s.data.toList = joinG l ∧ M.parts 44 s.data.toList = l.map rgT := by
  have v : ∀ r ∈ l, 0 ≤ r.1 ∧ r.1 ≤ r.2 := fun r hr => ⟨((rgOk_parts h.1).1.2 r hr).1, ((rgOk_parts h.1).1.2 r hr).2.1⟩
  have e : s.data.toList = joinG l := by rw [← h.2, textB_list]; unfold textL; rw [if_neg hl]
  exact ⟨e, by rw [e]; exact joinG_parts l hl v⟩
end Go.Proofs.YtejdphfcogfcmaaGreatDoor
