/-
  'slices.IndexFunc' and 'slices.ContainsFunc' at strings, over a function that answers in every world.
-/
import Derived.Test.YtbhhmaialilabaaProg
import Derived.Test.YtbhhmaialilabaaBase
import Derived.Test.YtbhhmaialilabaaFill
import Derived.WalkKit
import Derived.Lib.Hide
import Derived.Shelf.Abstract
namespace Go.Proofs.Ytbhhmaialilabaa
open Go.RowKit Go.Lib
set_option linter.unusedVariables false

/-- The place of the first element with p, or -1. -/
def idxS (p : ByteArray → Bool) (xs : List ByteArray) : Int := if xs.any p = true then ((xs.findIdx p : Nat) : Int) else -1
theorem idxS_no {p : ByteArray → Bool} {xs : List ByteArray} (h : xs.any p = false) : idxS p xs = -1 := by unfold idxS; rw [h]; rfl
theorem idxS_at {p : ByteArray → Bool} {xs : List ByteArray} {k : Nat} (hk : k < xs.length) (h : (xs.take k).any p = false) (hp : p xs[k] = true) : idxS p xs = (k : Int) := by
  have h1 : xs.any p = true := by rw [List.any_eq_true]; exact ⟨_, List.getElem_mem hk, hp⟩
  unfold idxS
  rw [if_pos h1]
  congr 1
  rw [List.findIdx_eq hk]
  refine ⟨hp, fun j hj => ?_⟩
  rw [List.any_eq_false] at h
  have := h xs[j] (by rw [List.mem_take_iff_getElem]; exact ⟨j, by omega, rfl⟩)
  simpa using this
theorem idxS_nonneg (p : ByteArray → Bool) (xs : List ByteArray) : decide (0 ≤ idxS p xs) = xs.any p := by
  cases h : xs.any p with
  | false => rw [idxS_no h]; rfl
  | true => unfold idxS; rw [if_pos h]; exact decide_eq_true (by omega)
theorem idxS_bd (p : ByteArray → Bool) (xs : List ByteArray) : -1 ≤ idxS p xs ∧ idxS p xs ≤ xs.length := by
  unfold idxS
  have := List.findIdx_le_length (p := p) (xs := xs)
  split <;> omega

set_option maxHeartbeats 400000 in
theorem indexFuncS_any (p : ByteArray → Bool) (v : Value) (xs : List ByteArray) (fg : Nat) (cb : Array Value) (w : World) (hrow : Row w v xs.length (xs.map Value.string))
    (eg : ∀ args w, (callFunc fg args).run Try.prog w = .ok (.enter fg args) w)
    (hp : ∀ x : ByteArray, Calls Try.prog fg (#[.string x] ++ cb) w fun e w' => e = .returned (.bool (p x)) ∧ w = w') :
    Calls Try.prog 80 #[v, .func (.func fg) #[] cb] w fun e w' => e = .returned (.int .i64 (idxS p xs)) ∧ w = w' := by
  obtain ⟨a, cap, rfl, hc1, hc2, hcell⟩ := row_open hrow
  unfold maxLen at hc2
  have HC := Lib.hid hcell
  have HP := Lib.hid hp
  clear hcell hrow hp
  obtain ⟨n, hN⟩ : ∃ n, n = xs.length := ⟨_, rfl⟩
  rw [← hN] at hc1 ⊢
  have HN := Lib.hid hN
  clear hN
  go_enter Try.func80, Try.ntmps80
  go_wp2_with fail
  go_loop [8] (fun i => ∃ k : Nat, k ≤ n ∧ i = .int .i64 k ∧ Hid ((xs.take k).any p = false)) (fun i => n - (intOf i).toNat)
  case atStart => exact ⟨0, Nat.zero_le _, rfl, Lib.hid (by simp)⟩
  case round =>
    obtain ⟨k, hk, rfl, HA⟩ := hrel
    by_cases hkn : k < n
    · have hks : k < xs.length := by rw [← HN.out]; exact hkn
      obtain ⟨b, off, rfl, hb, hc⟩ := HC.out k hks
      have HI := Lib.hid (idxS_at hks HA.out)
      have HS : Hid (p xs[k] = false → (xs.take (k + 1)).any p = false) := Lib.hid (fun h => by
        rw [List.take_succ_eq_append_getElem hks, List.any_append, HA.out]; simp [h])
      obtain ⟨u, hu⟩ : ∃ u, u = xs[k] := ⟨_, rfl⟩
      rw [← hu] at hc HI HS
      clear hu
      have HPu := Lib.hid (HP.out u)
      cases hs : p u with
      | true =>
        rw [hs] at HPu HI
        clear hs
        go_wp2_with (go_at_fn fg; refine HPu.out.mono ?_; rintro e w' ⟨rfl, rfl⟩)
        go_ret
        exact ⟨ret_int (HI.out (by first | exact trivial | rfl)).symm, rfl⟩
      | false =>
        rw [hs] at HPu HS
        clear hs
        go_wp2_with (go_at_fn fg; refine HPu.out.mono ?_; rintro e w' ⟨rfl, rfl⟩)
        go_round
        case rel => exact ⟨k + 1, by omega, by go_num, Lib.hid (HS.out (by first | exact trivial | rfl))⟩
        case measure => simp [intOf]; omega
    · obtain rfl : k = n := by omega
      go_wp2_with fail
      go_ret
      refine ⟨ret_int (idxS_no ?_).symm, rfl⟩
      rw [← HA.out, HN.out, List.take_of_length_le (Nat.le_refl _)]
theorem containsFuncS_any (p : ByteArray → Bool) (v : Value) (xs : List ByteArray) (fg : Nat) (cb : Array Value) (w : World) (hrow : Row w v xs.length (xs.map Value.string))
    (eg : ∀ args w, (callFunc fg args).run Try.prog w = .ok (.enter fg args) w)
    (hp : ∀ x : ByteArray, Calls Try.prog fg (#[.string x] ++ cb) w fun e w' => e = .returned (.bool (p x)) ∧ w = w') :
    Calls Try.prog 65 #[v, .func (.func fg) #[] cb] w fun e w' => e = .returned (.bool (xs.any p)) ∧ w = w' := by
  have HI := Lib.hid (indexFuncS_any p v xs fg cb w hrow eg hp)
  obtain ⟨a, cap, rfl, _, _, _⟩ := row_open hrow
  have HB := Lib.hid (idxS_nonneg p xs)
  clear hrow hp eg
  generalize idxS p xs = r at HI HB
  go_enter Try.func65, Try.ntmps65
  go_wp2_with (go_at_call 80; refine HI.out.mono ?_; rintro e w' ⟨rfl, rfl⟩)
  go_ret
  exact ⟨ret_bool HB.out, rfl⟩
end Go.Proofs.Ytbhhmaialilabaa
