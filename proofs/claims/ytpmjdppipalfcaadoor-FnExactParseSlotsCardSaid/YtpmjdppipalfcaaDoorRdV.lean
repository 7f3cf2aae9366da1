/-
  Numbers in texts: what the specification reads and writes; parts of a text as rows. (Chapters 4 and 5 share it.)
-/
import Derived.Test.YtpmjdppipalfcaaDoorRdN
import Derived.Test.YtpmjdppipalfcaaDoorSplit
import Derived.Test.YtpmjdppipalfcaaDoorRead
import Derived.Test.YtpmjdppipalfcaaDoorOwn
import Derived.Lib.Split
import Derived.Below
import Derived.Lib.Hide
namespace Go.Proofs.YtpmjdppipalfcaaDoor
open Go.RowKit Go.Lib
set_option linter.unusedVariables false

open Classical in
/-- Whether a text is a number's, and which. -/
noncomputable def rdB (s : ByteArray) : Bool := decide (∃ m : Int, M.inR m ∧ Lib.itoa m = s.data.toList)
open Classical in
noncomputable def rdN (s : ByteArray) : Int := if h : ∃ m : Int, M.inR m ∧ Lib.itoa m = s.data.toList then Classical.choose h else 0
open Classical in
theorem rd_yes {s : ByteArray} {m : Int} (h1 : M.inR m) (h2 : Lib.itoa m = s.data.toList) : rdB s = true ∧ rdN s = m := by
  have he : ∃ m : Int, M.inR m ∧ Lib.itoa m = s.data.toList := ⟨m, h1, h2⟩
  refine ⟨by unfold rdB; exact decide_eq_true he, ?_⟩
  unfold rdN
  rw [dif_pos he]
  exact M.itoa_inj ((Classical.choose_spec he).2.trans h2.symm)
open Classical in
theorem rd_no {s : ByteArray} (h : ∀ m : Int, M.inR m → Lib.itoa m ≠ s.data.toList) : rdB s = false ∧ rdN s = 0 := by
  have he : ¬ ∃ m : Int, M.inR m ∧ Lib.itoa m = s.data.toList := fun ⟨m, h1, h2⟩ => h m h1 h2
  exact ⟨by unfold rdB; exact decide_eq_false he, by unfold rdN; rw [dif_neg he]⟩
theorem PR_val {s : ByteArray} {e : Ending} (h : PR s e) : e = .returned (.tuple #[.int .i64 (rdN s), .bool (rdB s)]) := by
  rcases h with ⟨n, h1, h2, rfl⟩ | ⟨h1, rfl⟩
  · rw [(rd_yes h1 h2).1, (rd_yes h1 h2).2]
  · rw [(rd_no h1).1, (rd_no h1).2]
theorem l1ReadV_any (s : ByteArray) (hs : s.size ≤ maxLen) (w : World) :
    Calls Tryd.prog 61 #[.string s] w fun e w' => e = .returned (.tuple #[.int .i64 (rdN s), .bool (rdB s)]) ∧ ∃ k, w' = w.drewN k :=
  (l1Read_any s hs w).mono fun e w' ⟨h1, h2⟩ => ⟨PR_val h1, h2⟩
theorem strs_cell {w : World} {B n g c : Nat} {ls : List (List UInt8)} (h : w.ownsRow B 9 1 (.slice (some ⟨g, 0, none⟩) n c) n (ls.map strV)) {i : Nat} (hi : i < n) : w.cell? ⟨g, i, none⟩ = some (.string (txt (ls.getD i []))) := by
  obtain ⟨⟨u, hu, hc⟩, _⟩ := own_facts h hi
  rw [hc]
  have hl : i < ls.length := by have := h.1; rw [List.length_map] at this; omega
  rw [List.getElem?_map, List.getElem?_eq_getElem hl] at hu
  rw [List.getD_eq_getElem?_getD, List.getElem?_eq_getElem hl]
  exact congrArg some (Option.some.inj hu).symm
theorem flatL_len : ∀ (ps : List (List UInt8)), ∀ p ∈ ps, p.length ≤ ps.flatten.length
  | [], p, h => by cases h
  | q :: ps, p, h => by
    rw [List.flatten_cons, List.length_append]
    rcases List.mem_cons.1 h with rfl | h
    · omega
    · have := flatL_len ps p h; omega
theorem parts_size (c : UInt8) (l : List UInt8) (i : Nat) : ((M.parts c l).getD i []).length ≤ l.length := by
  rw [List.getD_eq_getElem?_getD]
  cases e : (M.parts c l)[i]? with
  | none => simp
  | some p =>
    have hm := List.mem_of_getElem? e
    have ht := M.sp_text c l
    show p.length ≤ l.length
    unfold M.parts at hm
    rcases List.mem_append.1 hm with hm | hm
    · have h1 := flatL_len ((M.sp c l).1.map (· ++ [c])) (p ++ [c]) (List.mem_map.2 ⟨p, hm, rfl⟩)
      have h2 := congrArg List.length ht
      rw [List.length_append] at h2
      rw [List.length_append] at h1
      omega
    · simp at hm
      subst hm
      have h2 := congrArg List.length ht
      rw [List.length_append] at h2
      omega
theorem row_some4 {w : World} {a : Option Addr} {n cap : Nat} {xs : List Value} (h : Row w (.slice a n cap) n xs) : n ≤ cap ∧ cap ≤ maxLen := by
  obtain ⟨_, c2, e2, h1, h2, _⟩ := h
  injection e2 with _ _ e3
  subst e3
  exact ⟨h1, h2⟩

theorem index_hit (c : UInt8) : ∀ (a b : List UInt8), c ∉ a → Lib.index (a ++ c :: b) [c] = (a.length : Int)
  | [], b, _ => by simp [Lib.index]
  | y :: a, b, h => by
    have hy : (c == y) = false := by
      rw [beq_eq_false_iff_ne]
      intro e
      exact h (by rw [e]; exact List.mem_cons_self ..)
    have ih := index_hit c a b (fun h2 => h (List.mem_cons_of_mem _ h2))
    show (if ([c] : List UInt8).isPrefixOf (y :: (a ++ c :: b)) then (0 : Int) else if Lib.index (a ++ c :: b) [c] == -1 then -1 else Lib.index (a ++ c :: b) [c] + 1) = _
    rw [ih]
    have hp : ([c] : List UInt8).isPrefixOf (y :: (a ++ c :: b)) = false := by simp [List.isPrefixOf, hy]
    have hn : (((a.length : Nat) : Int) == -1) = false := by rw [beq_eq_false_iff_ne]; omega
    rw [hp, hn]
    simp
theorem index_miss (c : UInt8) : ∀ (a : List UInt8), c ∉ a → Lib.index a [c] = -1
  | [], _ => by simp [Lib.index]
  | y :: a, h => by
    have hy : (c == y) = false := by
      rw [beq_eq_false_iff_ne]
      intro e
      exact h (by rw [e]; exact List.mem_cons_self ..)
    have ih := index_miss c a (fun h2 => h (List.mem_cons_of_mem _ h2))
    show (if ([c] : List UInt8).isPrefixOf (y :: a) then (0 : Int) else if Lib.index a [c] == -1 then -1 else Lib.index a [c] + 1) = _
    rw [ih]
    have hp : ([c] : List UInt8).isPrefixOf (y :: a) = false := by simp [List.isPrefixOf, hy]
    rw [hp]
    rfl
theorem cut_hit (c : UInt8) (a b : List UInt8) (h : c ∉ a) : Lib.cut (a ++ c :: b) [c] = (a, b, true) := by
  have hi := index_hit c a b h
  unfold Lib.cut
  rw [hi, if_pos (by omega)]
  simp
theorem cut_miss (c : UInt8) (a : List UInt8) (h : c ∉ a) : Lib.cut a [c] = (a, [], false) := by
  unfold Lib.cut
  rw [index_miss c a h]
  rfl
def preB (s : ByteArray) : ByteArray := ⟨(Lib.cut s.data.toList [45]).1.toArray⟩
def posB (s : ByteArray) : ByteArray := ⟨(Lib.cut s.data.toList [45]).2.1.toArray⟩
theorem preB_size (s : ByteArray) : (preB s).size ≤ s.size := by
  show (Lib.cut s.data.toList [45]).1.toArray.size ≤ s.data.toList.length
  unfold Lib.cut
  split
  · simp <;> omega
  · simp
theorem posB_size (s : ByteArray) : (posB s).size ≤ s.size := by
  show (Lib.cut s.data.toList [45]).2.1.toArray.size ≤ s.data.toList.length
  unfold Lib.cut
  split
  · simp <;> omega
  · simp
end Go.Proofs.YtpmjdppipalfcaaDoor
