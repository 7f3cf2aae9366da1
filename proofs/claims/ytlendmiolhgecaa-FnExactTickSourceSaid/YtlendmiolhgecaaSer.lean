/-
  Serials: the functions of numbers alone, of both packages.
-/
import Derived.Test.YtlendmiolhgecaaProg
import Derived.Test.YtlendmiolhgecaaBase
import Derived.Test.YtlendmiolhgecaaFill
import Derived.WalkKit
import Derived.Lib.Hide
namespace Go.Proofs.Ytlendmiolhgecaa
open Go.RowKit Go.Lib

/-- Whether a number is a serial. -/
def serB (x : Int) : Bool := decide (0 ≤ x ∧ x ≤ 65535)
theorem serB_yes {x : Int} (h0 : 0 ≤ x) (h1 : x ≤ 65535) : serB x = true := decide_eq_true ⟨h0, h1⟩
theorem serB_no {x : Int} (h : ¬ (0 ≤ x ∧ x ≤ 65535)) : serB x = false := decide_eq_false h
theorem serB_bd {x : Int} (h : serB x = true) : 0 ≤ x ∧ x ≤ 65535 := of_decide_eq_true h
/-- Whether a number lies between two others. -/
def inB (x lo hi : Int) : Bool := decide (lo ≤ x ∧ x ≤ hi)
theorem inB_yes {x lo hi : Int} (h0 : lo ≤ x) (h1 : x ≤ hi) : inB x lo hi = true := decide_eq_true ⟨h0, h1⟩
theorem inB_no {x lo hi : Int} (h : ¬ (lo ≤ x ∧ x ≤ hi)) : inB x lo hi = false := decide_eq_false h
theorem inB_bd {x lo hi : Int} (h : inB x lo hi = true) : lo ≤ x ∧ x ≤ hi := of_decide_eq_true h
theorem serB_in (x : Int) : inB x 0 65535 = serB x := rfl
/-- The serial n steps behind x. -/
def aftI (x n : Int) : Int := (x + n + 65536) % 65536
/-- The gap from a to b. -/
def gapI (a b : Int) : Int := (b - a + 65536) % 65536
theorem aftI_bd (x n : Int) : 0 ≤ aftI x n ∧ aftI x n ≤ 65535 := by unfold aftI; omega
theorem gapI_bd (a b : Int) : 0 ≤ gapI a b ∧ gapI a b ≤ 65535 := by unfold gapI; omega

theorem l1In_any (x lo hi : Int) (w : World) :
    Calls Try.prog 97 #[.int .i64 x, .int .i64 lo, .int .i64 hi] w fun e w' => e = .returned (.bool (inB x lo hi)) ∧ w = w' := by
  by_cases h0 : lo ≤ x
  · by_cases h1 : x ≤ hi
    · go_enter Try.func97, Try.ntmps97
      go_wp2
      go_ret
      exact ⟨ret_bool (inB_yes h0 h1).symm, rfl⟩
    · go_enter Try.func97, Try.ntmps97
      go_wp2
      go_ret
      exact ⟨ret_bool (inB_no (by omega)).symm, rfl⟩
  · go_enter Try.func97, Try.ntmps97
    go_wp2
    go_ret
    exact ⟨ret_bool (inB_no (by omega)).symm, rfl⟩
theorem l2Good_any (x : Int) (w : World) :
    Calls Try.prog 66 #[.int .i64 x] w fun e w' => e = .returned (.bool (serB x)) ∧ w = w' := by
  go_enter Try.func66, Try.ntmps66
  go_wp2_with (go_at_call 97; refine (l1In_any _ _ _ _).mono ?_; rintro e w' ⟨rfl, rfl⟩)
  go_ret
  exact ⟨rfl, rfl⟩
theorem implIsSerial_any (x : Int) (w : World) :
    Calls Try.prog 56 #[.int .i64 x] w fun e w' => e = .returned (.bool (serB x)) ∧ w = w' := by
  by_cases h0 : 0 ≤ x
  · by_cases h1 : x < 65536
    · go_enter Try.func56, Try.ntmps56
      go_wp2
      go_ret
      exact ⟨ret_bool (serB_yes h0 (by omega)).symm, rfl⟩
    · go_enter Try.func56, Try.ntmps56
      go_wp2
      go_ret
      exact ⟨ret_bool (serB_no (by omega)).symm, rfl⟩
  · go_enter Try.func56, Try.ntmps56
    go_wp2
    go_ret
    exact ⟨ret_bool (serB_no (by omega)).symm, rfl⟩
theorem l2After_any (x n : Int) (w : World) (h0 : 0 ≤ x) (h1 : x ≤ 65535) (h2 : -65536 ≤ n) (h3 : n ≤ 65536) :
    Calls Try.prog 89 #[.int .i64 x, .int .i64 n] w fun e w' => e = .returned (.int .i64 (aftI x n)) ∧ w = w' := by
  go_enter Try.func89, Try.ntmps89
  go_wp2
  go_ret
  exact ⟨ret_int (by unfold aftI; omega), rfl⟩
theorem l2Gap_any (a b : Int) (w : World) (h0 : 0 ≤ a) (h1 : a ≤ 65535) (h2 : 0 ≤ b) (h3 : b ≤ 65535) :
    Calls Try.prog 94 #[.int .i64 a, .int .i64 b] w fun e w' => e = .returned (.int .i64 (gapI a b)) ∧ w = w' := by
  go_enter Try.func94, Try.ntmps94
  go_wp2
  go_ret
  exact ⟨ret_int (by unfold gapI; omega), rfl⟩
theorem implStep_any (x n : Int) (w : World) (h0 : 0 ≤ x) (h1 : x ≤ 65535) (h2 : -65536 ≤ n) (h3 : n ≤ 65536) :
    Calls Try.prog 103 #[.int .i64 x, .int .i64 n] w fun e w' => e = .returned (.int .i64 (aftI x n)) ∧ w = w' := by
  go_enter Try.func103, Try.ntmps103
  go_wp2
  go_ret
  exact ⟨ret_int rfl, rfl⟩
theorem implGapB_any (a b : Int) (w : World) (h0 : 0 ≤ a) (h1 : a ≤ 65535) (h2 : 0 ≤ b) (h3 : b ≤ 65535) :
    Calls Try.prog 55 #[.int .i64 a, .int .i64 b] w fun e w' => e = .returned (.int .i64 (gapI a b)) ∧ w = w' := by
  go_enter Try.func55, Try.ntmps55
  go_wp2_with (go_at_call 103; refine (implStep_any _ _ _ (by omega) (by omega) (by omega) (by omega)).mono ?_; rintro e w' ⟨rfl, rfl⟩)
  go_ret
  exact ⟨ret_int (by unfold aftI gapI; omega), rfl⟩
set_option maxHeartbeats 400000 in
theorem areSerials_any (v : Value) (xs : List Int) (w : World) (hrow : Row w v xs.length (xs.map (Value.int .i64))) :
    Calls Try.prog 124 #[v] w fun e w' => e = .returned (.bool (xs.all serB)) ∧ w = w' := by
  obtain ⟨a, cap, rfl, hc1, hc2, hcell⟩ := row_open hrow
  unfold maxLen at hc2
  have HC := Lib.hid hcell
  clear hcell hrow
  obtain ⟨n, hN⟩ : ∃ n, n = xs.length := ⟨_, rfl⟩
  rw [← hN] at hc1 ⊢
  have HN := Lib.hid hN
  clear hN
  go_enter Try.func124, Try.ntmps124
  go_wp2_with fail
  go_loop [7] (fun i => ∃ k : Nat, k ≤ n ∧ i = .int .i64 k ∧ Hid ((xs.take k).all serB = true)) (fun i => n - (intOf i).toNat)
  case atStart => exact ⟨0, Nat.zero_le _, rfl, Lib.hid (by simp)⟩
  case round =>
    obtain ⟨k, hk, rfl, HA⟩ := hrel
    by_cases hkn : k < n
    · have hks : k < xs.length := by rw [← HN.out]; exact hkn
      obtain ⟨b, off, rfl, hb, hc⟩ := HC.out k hks
      obtain ⟨u, hu⟩ : ∃ u, u = xs[k] := ⟨_, rfl⟩
      rw [← hu] at hc
      have HU := Lib.hid hu
      clear hu
      have HS : Hid ((xs.take (k + 1)).all serB = serB u) := Lib.hid (by
        rw [List.take_succ_eq_append_getElem hks, List.all_append, HA.out, ← HU.out]; simp)
      cases hs : serB u with
      | true =>
        go_wp2_with (go_at_call 56; refine (implIsSerial_any _ _).mono ?_; rintro e w' ⟨rfl, rfl⟩)
        go_round
        case rel => exact ⟨k + 1, by omega, by go_num, Lib.hid (by rw [HS.out, hs])⟩
        case measure => simp [intOf]; omega
      | false =>
        go_wp2_with (go_at_call 56; refine (implIsSerial_any _ _).mono ?_; rintro e w' ⟨rfl, rfl⟩)
        go_ret
        refine ⟨ret_bool ?_, rfl⟩
        rw [← List.take_append_drop (k + 1) xs, List.all_append, HS.out, hs]
        rfl
    · obtain rfl : k = n := by omega
      go_wp2_with fail
      go_ret
      refine ⟨ret_bool ?_, rfl⟩
      rw [← HA.out, HN.out, List.take_of_length_le (Nat.le_refl _)]
end Go.Proofs.Ytlendmiolhgecaa
