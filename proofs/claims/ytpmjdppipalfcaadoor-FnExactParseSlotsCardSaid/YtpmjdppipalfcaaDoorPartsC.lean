/-
  Words of a text that is cut at a sign; numerals' digits. No program.
-/
import Derived.Test.YtpmjdppipalfcaaDoorMath2
import Derived.Test.YtpmjdppipalfcaaDoorMath4
namespace Go.Proofs.YtpmjdppipalfcaaDoor
open Go.RowKit Go.Lib
set_option linter.unusedVariables false

theorem foldl_shift5 (c : UInt8) (x : List UInt8) : ∀ (l : List UInt8) (st : List (List UInt8) × List UInt8), l.foldl (M.spStep c) (x :: st.1, st.2) = (x :: (l.foldl (M.spStep c) st).1, (l.foldl (M.spStep c) st).2)
  | [], st => rfl
  | y :: l, st => by
    simp only [List.foldl_cons]
    have e : M.spStep c (x :: st.1, st.2) y = (x :: (M.spStep c st y).1, (M.spStep c st y).2) := by
      unfold M.spStep
      split <;> rfl
    rw [e]
    exact foldl_shift5 c x l (M.spStep c st y)
theorem foldl_miss5 (c : UInt8) : ∀ (a : List UInt8) (st : List (List UInt8) × List UInt8), c ∉ a → a.foldl (M.spStep c) st = (st.1, st.2 ++ a)
  | [], st, _ => by simp
  | y :: a, st, h => by
    have hy : y ≠ c := fun e => h (by rw [e]; exact List.mem_cons_self ..)
    simp only [List.foldl_cons]
    have e : M.spStep c st y = (st.1, st.2 ++ [y]) := by unfold M.spStep; rw [if_neg hy]
    rw [e, foldl_miss5 c a _ (fun h2 => h (List.mem_cons_of_mem _ h2))]
    simp
theorem parts_cut (c : UInt8) (a b : List UInt8) (h : c ∉ a) : M.parts c (a ++ c :: b) = a :: M.parts c b := by
  unfold M.parts M.sp
  rw [List.foldl_append, foldl_miss5 c a _ h, List.foldl_cons]
  have e : M.spStep c (([], [] ++ a) : List (List UInt8) × List UInt8) c = ([a], []) := by unfold M.spStep; rw [if_pos rfl]; rfl
  show (List.foldl (M.spStep c) (M.spStep c ([], [] ++ a) c) b).1 ++ _ = _
  rw [e]
  have := foldl_shift5 c a b ([], [])
  rw [this]
  rfl
theorem itoa_digs5 {n : Int} (h : 0 ≤ n) : M.allDig (Lib.itoa n) := by
  obtain ⟨u, rfl⟩ : ∃ u : Nat, n = u := ⟨n.toNat, by omega⟩
  rw [M.itoa_nat]
  exact (M.dec_props u).1
theorem itoa_ne5 {n : Int} (h : 0 ≤ n) : Lib.itoa n ≠ [] := by
  obtain ⟨u, rfl⟩ : ∃ u : Nat, n = u := ⟨n.toNat, by omega⟩
  rw [M.itoa_nat]
  exact (M.dec_props u).2.2
theorem itoa_clean5 {n : Int} (h : 0 ≤ n) (c : UInt8) (hc : c = 44 ∨ c = 45) : c ∉ Lib.itoa n := by
  intro hm
  have := itoa_digs5 h c hm
  rcases hc with rfl | rfl <;> revert this <;> decide
theorem itoa_len5 {n : Int} (h : 0 ≤ n) (h1 : n ≤ 65535) : (Lib.itoa n).length ≤ 5 := by
  obtain ⟨u, rfl⟩ : ∃ u : Nat, n = u := ⟨n.toNat, by omega⟩
  rw [M.itoa_nat, Lib.decDigits_length]
  exact M.nDigits_pow 4 u (by omega)
end Go.Proofs.YtpmjdppipalfcaaDoor
