/-
  Lines of packets, cut as the library cuts. No program.
-/
import Derived.Test.YtncjplcefdeckaaGreatDoorPktParse
import Derived.Lib.Split
namespace Go.Proofs.YtncjplcefdeckaaGreatDoor
open Go.RowKit Go.Lib
set_option linter.unusedVariables false

theorem index_hit (c : UInt8) : ∀ (a b : List UInt8), c ∉ a → Lib.index (a ++ c :: b) [c] = (a.length : Int)
  | [], b, _ => by simp [Lib.index]
  | y :: a, b, h => by
    have hy : (c == y) = false := by
      rw [beq_eq_false_iff_ne]
      intro e
      exact h (by rw [e]; exact List.mem_cons_self ..)
    have ih := index_hit c a b (fun h2 => h (List.mem_cons_of_mem _ h2))
    show (if ([c] : List UInt8).isPrefixOf (y :: (a ++ c :: b)) then (0 : Int) else if Lib.index (a ++ c :: b) [c] == -1 then -1 else Lib.index (a ++ c :: b) [c] + 1) = _
    rw [ih]
    have hp : ([c] : List UInt8).isPrefixOf (y :: (a ++ c :: b)) = false := by simp [List.isPrefixOf, hy]
    have hn : (((a.length : Nat) : Int) == -1) = false := by rw [beq_eq_false_iff_ne]; omega
    rw [hp, hn]
    simp
theorem index_miss (c : UInt8) : ∀ (a : List UInt8), c ∉ a → Lib.index a [c] = -1
  | [], _ => by simp [Lib.index]
  | y :: a, h => by
    have hy : (c == y) = false := by
      rw [beq_eq_false_iff_ne]
      intro e
      exact h (by rw [e]; exact List.mem_cons_self ..)
    have ih := index_miss c a (fun h2 => h (List.mem_cons_of_mem _ h2))
    show (if ([c] : List UInt8).isPrefixOf (y :: a) then (0 : Int) else if Lib.index a [c] == -1 then -1 else Lib.index a [c] + 1) = _
    rw [ih]
    have hp : ([c] : List UInt8).isPrefixOf (y :: a) = false := by simp [List.isPrefixOf, hy]
    rw [hp]
    rfl
theorem splitK_hit (c : UInt8) (k : Nat) (a b : List UInt8) (h : c ∉ a) : Lib.splitK [c] 0 (k + 1) (a ++ c :: b) = a :: Lib.splitK [c] 0 k b := by
  have hi := index_hit c a b h
  have hn : (((a.length : Nat) : Int) == -1) = false := by rw [beq_eq_false_iff_ne]; omega
  rw [Lib.splitK, hi, hn]
  simp
theorem splitK_miss (c : UInt8) (k : Nat) (a : List UInt8) (h : c ∉ a) : Lib.splitK [c] 0 k a = [a] := by
  cases k with
  | zero => rfl
  | succ k =>
    rw [Lib.splitK, index_miss c a h]
    rfl
theorem cut_hit (c : UInt8) (a b : List UInt8) (h : c ∉ a) : Lib.cut (a ++ c :: b) [c] = (a, b, true) := by
  have hi := index_hit c a b h
  unfold Lib.cut
  rw [hi, if_pos (by omega)]
  simp
theorem ends_clean {t l : Int} (ht : 0 ≤ t) (hl : 0 ≤ l) : (32 : UInt8) ∉ Lib.itoa t ++ 45 :: Lib.itoa l := by
  intro hm
  rcases List.mem_append.1 hm with hm | hm
  · exact itoa_clean ht 32 (.inl rfl) hm
  · rcases List.mem_cons.1 hm with hm | hm
    · revert hm; decide
    · exact itoa_clean hl 32 (.inl rfl) hm
/-- The pieces of a line. -/
theorem line_splitK {k n t l : Int} {d : ByteArray} (hn : 0 ≤ n) (ht : 0 ≤ t) (hl : 0 ≤ l) :
    Lib.splitK [32] 0 4 (lineL k n t l d) = [wordK k, Lib.itoa n, [111, 102], Lib.itoa t ++ 45 :: Lib.itoa l] ++ (if d.size = 0 then [] else [d.data.toList]) := by
  unfold lineL
  rw [splitK_hit 32 3 _ _ (wordK_clean k 32 (.inl rfl)), splitK_hit 32 2 _ _ (itoa_clean hn 32 (.inl rfl)), splitK_hit 32 1 _ _ (by decide)]
  by_cases h : d.size = 0
  · rw [if_pos h, tailD_none h, List.append_nil, splitK_miss 32 1 _ (ends_clean ht hl)]
    rfl
  · rw [if_neg h, tailD_some h, show Lib.itoa t ++ 45 :: (Lib.itoa l ++ 32 :: d.data.toList) = (Lib.itoa t ++ 45 :: Lib.itoa l) ++ 32 :: d.data.toList by simp, splitK_hit 32 0 _ _ (ends_clean ht hl)]
    rfl
theorem line_ge {k n t l : Int} {d : ByteArray} : 4 ≤ (lineL k n t l d).length := by
  unfold lineL
  simp only [List.length_append, List.length_cons, List.length_nil]
  omega
def preB (s : ByteArray) : ByteArray := ⟨(Lib.cut s.data.toList [45]).1.toArray⟩
def posB (s : ByteArray) : ByteArray := ⟨(Lib.cut s.data.toList [45]).2.1.toArray⟩
/-- What the pieces P of a text spell, if it is a line. -/
theorem line_flds {s : ByteArray} {P : List ByteArray} {k n t l : Int} {d : ByteArray} (hP : P.map (·.data.toList) = Lib.splitK [32] 0 (min 5 (s.size + 1) - 1) s.data.toList) (h : IsLine s (k, n, t, l, d)) :
    4 ≤ P.length ∧ kindW (P.getD 0 ⟨#[]⟩) = k ∧ rdN (P.getD 1 ⟨#[]⟩) = n ∧ rdN (preB (P.getD 3 ⟨#[]⟩)) = t ∧ rdN (posB (P.getD 3 ⟨#[]⟩)) = l ∧ (if P.length = 5 then P.getD 4 ⟨#[]⟩ else ⟨#[]⟩) = d := by
  obtain ⟨hp, hs⟩ := h
  simp only at hp hs
  obtain ⟨hk, hn, ht, hl, _, hd, hz, _⟩ := pktOk_bd hp
  have hsd : s.data.toList = lineL k n t l d := by rw [← hs]; simp [lineB]
  have hsz : 4 ≤ s.size := by
    have e : s.size = (lineL k n t l d).length := by rw [← hsd]; rfl
    rw [e]; exact line_ge
  rw [show min 5 (s.size + 1) - 1 = 4 by omega, hsd, line_splitK hn.1 ht.1 hl.1] at hP
  have hlen := congrArg List.length hP
  rw [List.length_map, List.length_append] at hlen
  have hat : ∀ i, (P.getD i ⟨#[]⟩).data.toList = ([wordK k, Lib.itoa n, [111, 102], Lib.itoa t ++ 45 :: Lib.itoa l] ++ (if d.size = 0 then [] else [d.data.toList])).getD i [] := by
    intro i
    rw [← hP, List.getD_eq_getElem?_getD, List.getD_eq_getElem?_getD, List.getElem?_map]
    cases P[i]? <;> rfl
  have e0 : P.getD 0 ⟨#[]⟩ = wordB k := by apply ByteArray.ext; apply Array.toList_inj.1; rw [hat 0]; simp [wordB]
  have e1 := hat 1
  have e3 := hat 3
  simp at e1
  have e3' : (P.getD 3 ⟨#[]⟩).data.toList = Lib.itoa t ++ 45 :: Lib.itoa l := by rw [e3]; simp
  have rn := rd_yes (s := P.getD 1 ⟨#[]⟩) (m := n) ⟨by omega, by omega⟩ (by rw [hat 1]; simp)
  have hcut : Lib.cut (P.getD 3 ⟨#[]⟩).data.toList [45] = (Lib.itoa t, Lib.itoa l, true) := by rw [e3']; exact cut_hit 45 _ _ (itoa_clean ht.1 45 (.inr rfl))
  have rt := rd_yes (s := preB (P.getD 3 ⟨#[]⟩)) (m := t) ⟨by omega, by omega⟩ (by unfold preB; rw [hcut])
  have rl := rd_yes (s := posB (P.getD 3 ⟨#[]⟩)) (m := l) ⟨by omega, by omega⟩ (by unfold posB; rw [hcut])
  refine ⟨by simp at hlen; omega, ?_, rn.2, rt.2, rl.2, ?_⟩
  · rw [e0]; exact kindW_word hk.1 hk.2
  · by_cases h0 : d.size = 0
    · rw [if_pos h0] at hlen
      rw [if_neg (by simp at hlen; omega)]
      exact (size_zero h0).symm
    · rw [if_neg h0] at hlen
      rw [if_pos (by simp at hlen; omega)]
      apply ByteArray.ext
      apply Array.toList_inj.1
      rw [hat 4, if_neg h0]
      rfl
end Go.Proofs.YtncjplcefdeckaaGreatDoor
