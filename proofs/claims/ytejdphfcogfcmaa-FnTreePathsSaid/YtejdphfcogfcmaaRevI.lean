/-
  slices.Reverse at ints.
-/
import Derived.Test.YtejdphfcogfcmaaProg
import Derived.Test.YtejdphfcogfcmaaOwn
import Derived.Test.YtejdphfcogfcmaaFill
import Derived.Deep.QuietTactic
import Derived.Deep.LoopGhost
import Derived.BigQuiet
import Derived.BigRegion
import Derived.IntWalk
import Derived.WalkKit
import Derived.Shelf.Abstract
namespace Go.Proofs.Ytejdphfcogfcmaa
open Go.RowKit Go.Lib
set_option linter.unusedVariables false

/-- A list of which i elements are swapped at either end. -/
def revF (xs : List Int) (i k : Nat) : Int := if k < i ∨ xs.length - 1 - k < i then xs.getD (xs.length - 1 - k) 0 else xs.getD k 0
def revL (xs : List Int) (i : Nat) : List Int := (List.range xs.length).map (revF xs i)
theorem revL_len (xs : List Int) (i : Nat) : (revL xs i).length = xs.length := by simp [revL]
theorem revL_at {xs : List Int} {i k : Nat} (hk : k < xs.length) : (revL xs i)[k]? = some (revF xs i k) := by
  unfold revL
  rw [List.getElem?_map, List.getElem?_range hk]; rfl
theorem revL_zero (xs : List Int) : revL xs 0 = xs := by
  refine List.ext_getElem? (fun k => ?_)
  by_cases hk : k < xs.length
  · rw [revL_at hk]
    unfold revF
    rw [if_neg (by omega), List.getD_eq_getElem?_getD, List.getElem?_eq_getElem hk]; rfl
  · rw [List.getElem?_eq_none (by rw [revL_len]; omega), List.getElem?_eq_none (by omega)]
theorem revL_low {xs : List Int} {i : Nat} (h : 2 * i < xs.length - 1) : revF xs i i = xs.getD i 0 := by unfold revF; rw [if_neg (by omega)]
theorem revL_high {xs : List Int} {i j : Nat} (hj : j = xs.length - 1 - i) (h : 2 * i < xs.length - 1) : revF xs i j = xs.getD j 0 := by unfold revF; rw [if_neg (by omega)]
theorem revL_step {xs : List Int} {i j : Nat} (hj : j = xs.length - 1 - i) (h : 2 * i < xs.length - 1) :
    (((revL xs i).map (Value.int .i64)).set i (.int .i64 (xs.getD j 0))).set j (.int .i64 (xs.getD i 0)) = (revL xs (i + 1)).map (Value.int .i64) := by
  have e : ((revL xs i).set i (xs.getD j 0)).set j (xs.getD i 0) = revL xs (i + 1) := by
    refine List.ext_getElem? (fun k => ?_)
    by_cases hk : k < xs.length
    · rw [revL_at hk, List.getElem?_set, List.getElem?_set, List.length_set, revL_len, revL_at hk]
      unfold revF
      by_cases e1 : j = k
      · subst e1
        rw [if_pos rfl, if_pos hk, if_pos (by omega), show xs.length - 1 - j = i by omega]
      · rw [if_neg e1]
        by_cases e2 : i = k
        · subst e2
          rw [if_pos rfl, if_pos hk, if_pos (by omega), show xs.length - 1 - i = j by omega]
        · rw [if_neg e2]
          congr 1
          by_cases h3 : k < i ∨ xs.length - 1 - k < i
          · rw [if_pos h3, if_pos (by omega)]
          · rw [if_neg h3, if_neg (by omega)]
    · rw [List.getElem?_eq_none (by rw [List.length_set, List.length_set, revL_len]; omega), List.getElem?_eq_none (by rw [revL_len]; omega)]
  rw [← e, List.map_set, List.map_set]
theorem revL_end {xs : List Int} {i : Nat} (h : xs.length ≤ 2 * i + 1) : revL xs i = xs.reverse := by
  refine List.ext_getElem? (fun k => ?_)
  by_cases hk : k < xs.length
  · rw [revL_at hk, List.getElem?_reverse hk, List.getElem?_eq_getElem (by omega)]
    congr 1
    unfold revF
    have hg : ∀ q (hq : q < xs.length), xs.getD q 0 = xs[q] := fun q hq => by rw [List.getD_eq_getElem?_getD, List.getElem?_eq_getElem hq]; rfl
    by_cases h1 : k < i ∨ xs.length - 1 - k < i
    · rw [if_pos h1, hg _ (by omega)]
    · rw [if_neg h1, hg k hk]
      have : k = xs.length - 1 - k := by omega
      exact getElem_congr_idx this
  · rw [List.getElem?_eq_none (by rw [revL_len]; omega), List.getElem?_eq_none (by rw [List.length_reverse]; omega)]
theorem own_map6 {w : World} {B n : Nat} {e : TypeId} {v : Value} {xs ys : List Int} (h : w.ownsRow B e 1 v n (xs.map (Value.int .i64))) (he : xs = ys) : w.ownsRow B e 1 v n (ys.map (Value.int .i64)) := he ▸ h
theorem fact_of6 {xs : List Int} {i : Nat} {x : Int} {u : Value} (h : (xs.map (Value.int .i64))[i]? = some u) (hx : xs[i]? = some x) : u = .int .i64 x := by
  rw [List.getElem?_map, hx] at h
  exact (Option.some.inj h).symm
set_option maxRecDepth 100000 in
set_option maxHeartbeats 2000000 in
theorem reverse_any (g cap n base : Nat) (xs : List Int) (w : World) (hn : n = xs.length) (hn2 : n ≤ 1000)
    (hown : w.ownsRow base 3 1 (.slice (some ⟨g, 0, none⟩) n cap) n (xs.map (Value.int .i64))) :
    Calls Try.prog 46 #[.slice (some ⟨g, 0, none⟩) n cap] w fun e w' => e = .returned (.tuple #[]) ∧
      w'.ownsRow base 3 1 (.slice (some ⟨g, 0, none⟩) n cap) n (xs.reverse.map (Value.int .i64)) ∧ w.grownBy w' (some g) := by
  have HN := Lib.hid hn
  have HOw := Lib.hid (own_map6 hown (revL_zero xs).symm)
  clear hn hown
  go_enter Try.func46, Try.ntmps46
  go_wp2_with fail
  go_loopw [2, 3] (fun vi vj wr => ∃ i : Nat, i ≤ n ∧ vi = .int .i64 i ∧ vj = .int .i64 ((n : Int) - 1 - i) ∧ Hid (wr.ownsRow base 3 1 (.slice (some ⟨g, 0, none⟩) n cap) n ((revL xs i).map (Value.int .i64))) ∧ Hid (w.grownBy wr (some g))) (fun vi _ _ => n - (intOf vi).toNat)
  case atStart => exact ⟨0, Nat.zero_le _, rfl, by simp, HOw, Lib.hid ⟨rfl, rfl, rfl, Nat.le_refl _, fun _ _ _ => rfl⟩⟩
  case round =>
    clear HOw
    obtain ⟨i, hin, rfl, rfl, HO, HG⟩ := hrel
    by_cases hlt : (i : Int) < (n : Int) - 1 - i
    · obtain ⟨j, hj⟩ : ∃ j : Nat, (j : Int) = (n : Int) - 1 - i := ⟨n - 1 - i, by omega⟩
      rw [← hj] at hlt ⊢
      have hjn : j < n := by omega
      have hji : j = xs.length - 1 - i := by rw [← HN.out]; omega
      have h2 : 2 * i < xs.length - 1 := by rw [← HN.out]; omega
      obtain ⟨⟨u1, e1, c1⟩, f1, _, _⟩ := own_facts HO.out (show j < n by omega)
      obtain rfl := fact_of6 e1 (revL_at (by rw [← HN.out]; exact hjn))
      obtain ⟨⟨u2, e2, c2⟩, f2, _, _⟩ := own_facts HO.out (show i < n by omega)
      obtain rfl := fact_of6 e2 (revL_at (by rw [← HN.out]; omega))
      rw [revL_high hji h2] at c1
      rw [revL_low h2] at c2
      have HSW := Lib.hid (revL_step hji h2)
      generalize xs.getD j 0 = y at c1 HSW
      generalize xs.getD i 0 = x at c2 HSW
      have s1 := own_set HO.out (j := i) (.int .i64 y)
      obtain ⟨⟨u3, _, c3⟩, _, _, _⟩ := own_facts s1.1 (show j < n by omega)
      have s2 := own_set s1.1 (j := j) (.int .i64 x)
      rw [HSW.out] at s2
      have HS2 := Lib.hid s2
      have HS1 := Lib.hid s1.2
      have HJ := Lib.hid hj
      have hjn' : (j : Int) < (n : Int) := by omega
      have hin' : (i : Int) < (n : Int) := by omega
      clear s1 s2 e1 e2 hj hji h2 HSW
      go_wp2_with fail
      go_big_region
      clear c3 c1 c2 f1 f2
      go_wp2_with fail
      go_roundw
      case rel => exact ⟨i + 1, by omega, by go_num, by have := HJ.out; first | (congr 1; omega) | (simp; omega), Lib.hid (own_below HS2.out.1 (bdrew _ 1) (Nat.le_refl _)), Lib.hid (grown_trans (grown_trans (grown_trans HG.out HS1.out) HS2.out.2) ⟨rfl, rfl, rfl, Nat.le_refl _, fun _ _ _ => rfl⟩)⟩
      case measure => (simp [intOf]; omega)
    · have HE : Hid (revL xs i = xs.reverse) := Lib.hid (revL_end (by rw [← HN.out]; omega))
      go_wp2_with fail
      go_end0
      exact ⟨rfl, (by have h := own_map6 HO.out HE.out; rw [List.map_reverse] at h; exact h), HG.out⟩
end Go.Proofs.Ytejdphfcogfcmaa
