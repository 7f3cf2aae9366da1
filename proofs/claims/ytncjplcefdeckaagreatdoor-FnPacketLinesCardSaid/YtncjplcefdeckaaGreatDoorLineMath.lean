/-
  Lines of packets: the words, and that a line has one packet. No program.
-/
import Derived.Test.YtncjplcefdeckaaGreatDoorPktMath
import Derived.Test.YtncjplcefdeckaaGreatDoorMath2
import Derived.Test.YtncjplcefdeckaaGreatDoorMath4
namespace Go.Proofs.YtncjplcefdeckaaGreatDoor
open Go.RowKit Go.Lib
set_option linter.unusedVariables false

def wordK (k : Int) : List UInt8 :=
  if k = 1 then [100, 97, 116, 97] else if k = 2 then [114, 101, 112, 97, 105, 114] else if k = 3 then [114, 101, 113, 117, 101, 115, 116] else if k = 4 then [99, 111, 110, 102, 105, 114, 109] else if k = 5 then [115, 116, 97, 116, 117, 115] else []
def tailD (d : ByteArray) : List UInt8 := if d.size = 0 then [] else 32 :: d.data.toList
def lineL (k n t l : Int) (d : ByteArray) : List UInt8 := wordK k ++ 32 :: (Lib.itoa n ++ 32 :: ([111, 102] ++ 32 :: (Lib.itoa t ++ 45 :: (Lib.itoa l ++ tailD d))))
def lineB (k n t l : Int) (d : ByteArray) : ByteArray := ⟨(lineL k n t l d).toArray⟩

theorem foldl_shift (c : UInt8) (x : List UInt8) : ∀ (l : List UInt8) (st : List (List UInt8) × List UInt8), l.foldl (M.spStep c) (x :: st.1, st.2) = (x :: (l.foldl (M.spStep c) st).1, (l.foldl (M.spStep c) st).2)
  | [], st => rfl
  | y :: l, st => by
    simp only [List.foldl_cons]
    have e : M.spStep c (x :: st.1, st.2) y = (x :: (M.spStep c st y).1, (M.spStep c st y).2) := by
      unfold M.spStep
      split <;> rfl
    rw [e]
    exact foldl_shift c x l (M.spStep c st y)
theorem foldl_miss (c : UInt8) : ∀ (a : List UInt8) (st : List (List UInt8) × List UInt8), c ∉ a → a.foldl (M.spStep c) st = (st.1, st.2 ++ a)
  | [], st, _ => by simp
  | y :: a, st, h => by
    have hy : y ≠ c := fun e => h (by rw [e]; exact List.mem_cons_self ..)
    simp only [List.foldl_cons]
    have e : M.spStep c st y = (st.1, st.2 ++ [y]) := by unfold M.spStep; rw [if_neg hy]
    rw [e, foldl_miss c a _ (fun h2 => h (List.mem_cons_of_mem _ h2))]
    simp
theorem parts_cons (c : UInt8) (a b : List UInt8) (h : c ∉ a) : M.parts c (a ++ c :: b) = a :: M.parts c b := by
  unfold M.parts M.sp
  rw [List.foldl_append, foldl_miss c a _ h, List.foldl_cons]
  have e : M.spStep c (([], [] ++ a) : List (List UInt8) × List UInt8) c = ([a], []) := by unfold M.spStep; rw [if_pos rfl]; rfl
  show (List.foldl (M.spStep c) (M.spStep c ([], [] ++ a) c) b).1 ++ _ = _
  rw [e]
  have := foldl_shift c a b ([], [])
  rw [this]
  rfl

theorem wordK_clean (k : Int) (c : UInt8) (hc : c = 32 ∨ c = 45) : c ∉ wordK k := by
  unfold wordK
  rcases hc with rfl | rfl <;> (split <;> (try split) <;> (try split) <;> (try split) <;> (try split) <;> decide)
theorem itoa_digs {n : Int} (h : 0 ≤ n) : M.allDig (Lib.itoa n) := by
  obtain ⟨u, rfl⟩ : ∃ u : Nat, n = u := ⟨n.toNat, by omega⟩
  rw [M.itoa_nat]
  exact (M.dec_props u).1
theorem itoa_clean {n : Int} (h : 0 ≤ n) (c : UInt8) (hc : c = 32 ∨ c = 45) : c ∉ Lib.itoa n := by
  intro hm
  have := itoa_digs h c hm
  rcases hc with rfl | rfl <;> revert this <;> decide
theorem wordK_inj {k k' : Int} (h1 : 1 ≤ k) (h2 : k ≤ 5) (h1' : 1 ≤ k') (h2' : k' ≤ 5) (h : wordK k = wordK k') : k = k' := by
  rcases (by omega : k = 1 ∨ k = 2 ∨ k = 3 ∨ k = 4 ∨ k = 5) with rfl | rfl | rfl | rfl | rfl <;>
  rcases (by omega : k' = 1 ∨ k' = 2 ∨ k' = 3 ∨ k' = 4 ∨ k' = 5) with rfl | rfl | rfl | rfl | rfl <;> first | rfl | (revert h; decide)
theorem ltr_clean {d : ByteArray} (h : ltrB d = true) (c : UInt8) (hc : c = 32 ∨ c = 45) : c ∉ d.data.toList := by
  intro hm
  unfold ltrB at h
  rw [List.all_eq_true] at h
  have := h c hm
  rcases hc with rfl | rfl <;> revert this <;> decide
theorem tailD_some {d : ByteArray} (h : d.size ≠ 0) : tailD d = 32 :: d.data.toList := if_neg h
theorem tailD_none {d : ByteArray} (h : d.size = 0) : tailD d = [] := if_pos h
theorem size_zero {d : ByteArray} (h : d.size = 0) : d = ⟨#[]⟩ := by
  apply ByteArray.ext
  exact Array.eq_empty_of_size_eq_zero h

/-- The words of a line. -/
theorem line_parts {k n t l : Int} {d : ByteArray} (hn : 0 ≤ n) (ht : 0 ≤ t) (hl : 0 ≤ l) (hd : ltrB d = true) :
    M.parts 32 (lineL k n t l d) = [wordK k, Lib.itoa n, [111, 102], Lib.itoa t ++ 45 :: Lib.itoa l] ++ (if d.size = 0 then [] else [d.data.toList]) := by
  unfold lineL
  rw [parts_cons 32 _ _ (wordK_clean k 32 (.inl rfl)), parts_cons 32 _ _ (itoa_clean hn 32 (.inl rfl)), parts_cons 32 _ _ (by decide)]
  have hc : (32 : UInt8) ∉ Lib.itoa t ++ 45 :: Lib.itoa l := by
    intro hm
    rcases List.mem_append.1 hm with hm | hm
    · exact itoa_clean ht 32 (.inl rfl) hm
    · rcases List.mem_cons.1 hm with hm | hm
      · revert hm; decide
      · exact itoa_clean hl 32 (.inl rfl) hm
  by_cases h0 : d.size = 0
  · rw [if_pos h0, tailD_none h0]
    simp only [List.append_nil]
    rw [M.parts_one 32 _ hc]
  · rw [if_neg h0, tailD_some h0]
    have e : Lib.itoa t ++ 45 :: (Lib.itoa l ++ 32 :: d.data.toList) = (Lib.itoa t ++ 45 :: Lib.itoa l) ++ 32 :: d.data.toList := by simp
    rw [e, parts_cons 32 _ _ hc, M.parts_one 32 _ (ltr_clean hd 32 (.inl rfl))]; rfl
theorem ends_parts {t l : Int} (ht : 0 ≤ t) (hl : 0 ≤ l) : M.parts 45 (Lib.itoa t ++ 45 :: Lib.itoa l) = [Lib.itoa t, Lib.itoa l] := by
  rw [parts_cons 45 _ _ (itoa_clean ht 45 (.inr rfl)), M.parts_one 45 _ (itoa_clean hl 45 (.inr rfl))]
/-- A line has one packet. -/
theorem line_inj {k n t l k' n' t' l' : Int} {d d' : ByteArray} (hp : pktOk k n t l d = true) (hq : pktOk k' n' t' l' d' = true) (h : lineL k n t l d = lineL k' n' t' l' d') : k = k' ∧ n = n' ∧ t = t' ∧ l = l' ∧ d = d' := by
  obtain ⟨hk, hn, ht, hl, _, hd, hs, _⟩ := pktOk_bd hp
  obtain ⟨hk', hn', ht', hl', _, hd', hs', _⟩ := pktOk_bd hq
  have e := congrArg (M.parts 32) h
  rw [line_parts hn.1 ht.1 hl.1 hd, line_parts hn'.1 ht'.1 hl'.1 hd'] at e
  simp only [List.cons_append, List.nil_append, List.cons.injEq, true_and] at e
  obtain ⟨e1, e2, e3, e4⟩ := e
  have e5 := congrArg (M.parts 45) e3
  rw [ends_parts ht.1 hl.1, ends_parts ht'.1 hl'.1] at e5
  simp only [List.cons.injEq, and_true] at e5
  refine ⟨wordK_inj hk.1 hk.2 hk'.1 hk'.2 e1, M.itoa_inj e2, M.itoa_inj e5.1, M.itoa_inj e5.2, ?_⟩
  by_cases h0 : d.size = 0
  · by_cases h0' : d'.size = 0
    · rw [size_zero h0, size_zero h0']
    · rw [if_pos h0, if_neg h0'] at e4; cases e4
  · by_cases h0' : d'.size = 0
    · rw [if_neg h0, if_pos h0'] at e4; cases e4
    · rw [if_neg h0, if_neg h0'] at e4
      simp only [List.cons.injEq, and_true] at e4
      apply ByteArray.ext
      exact Array.toList_inj.1 e4

/-- The packet of a line, if there is one. -/
def IsLine (s : ByteArray) (p : Int × Int × Int × Int × ByteArray) : Prop := pktOk p.1 p.2.1 p.2.2.1 p.2.2.2.1 p.2.2.2.2 = true ∧ lineB p.1 p.2.1 p.2.2.1 p.2.2.2.1 p.2.2.2.2 = s
open Classical in
noncomputable def parB (s : ByteArray) : Bool := decide (∃ p, IsLine s p)
open Classical in
noncomputable def parP (s : ByteArray) : Int × Int × Int × Int × ByteArray := if h : ∃ p, IsLine s p then Classical.choose h else (0, 0, 0, 0, ⟨#[]⟩)
theorem lineB_inj {a b : List UInt8} (h : (⟨a.toArray⟩ : ByteArray) = ⟨b.toArray⟩) : a = b := by
  have := congrArg (fun x : ByteArray => x.data.toList) h
  simpa using this
open Classical in
theorem par_yes {s : ByteArray} {k n t l : Int} {d : ByteArray} (h : IsLine s (k, n, t, l, d)) : parB s = true ∧ parP s = (k, n, t, l, d) := by
  have he : ∃ p, IsLine s p := ⟨_, h⟩
  refine ⟨by unfold parB; exact decide_eq_true he, ?_⟩
  unfold parP
  rw [dif_pos he]
  have hc := Classical.choose_spec he
  generalize Classical.choose he = q at hc
  obtain ⟨k', n', t', l', d'⟩ := q
  obtain ⟨e1, e2, e3, e4, e5⟩ := line_inj hc.1 h.1 (lineB_inj (hc.2.trans h.2.symm))
  simp only at e1 e2 e3 e4 e5
  rw [e1, e2, e3, e4, e5]
open Classical in
theorem par_no {s : ByteArray} (h : ∀ p, ¬ IsLine s p) : parB s = false ∧ parP s = (0, 0, 0, 0, ⟨#[]⟩) := by
  have he : ¬ ∃ p, IsLine s p := fun ⟨p, hp⟩ => h p hp
  exact ⟨by unfold parB; exact decide_eq_false he, by unfold parP; rw [dif_neg he]⟩
theorem par_line {k n t l : Int} {d : ByteArray} (hp : pktOk k n t l d = true) : parB (lineB k n t l d) = true ∧ parP (lineB k n t l d) = (k, n, t, l, d) := par_yes ⟨hp, rfl⟩
open Classical in
theorem par_is {s : ByteArray} (h : parB s = true) : IsLine s (parP s) := by
  unfold parB at h
  have he : ∃ p, IsLine s p := of_decide_eq_true h
  unfold parP
  rw [dif_pos he]
  exact Classical.choose_spec he
end Go.Proofs.YtncjplcefdeckaaGreatDoor
