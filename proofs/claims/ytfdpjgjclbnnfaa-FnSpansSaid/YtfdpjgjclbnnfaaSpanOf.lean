/-
  'SpanOf' of both packages.
-/
import Derived.Test.YtfdpjgjclbnnfaaSer3
import Derived.Test.YtfdpjgjclbnnfaaInts
import Derived.Deep.QuietTactic
import Derived.BigQuiet
import Derived.WalkLawsBesides
namespace Go.Proofs.Ytfdpjgjclbnnfaa
open Go.RowKit Go.Lib
set_option linter.unusedVariables false

/-- The count of the shortest span that begins with a and has all serials. -/
def cntI (a : Int) (xs : List Int) : Int := xs.foldl (fun c x => max c (gapI a x + 1)) 0
def mostI (a : Int) (xs : List Int) : Int := xs.foldl (fun m x => max m (gapI a x)) 0
def bestStep (xs : List Int) (st : Int × Int) (a : Int) : Int × Int := if cntI a xs < st.2 ∨ (cntI a xs = st.2 ∧ a < st.1) then (a, cntI a xs) else st
/-- The best of the first ones. -/
def bestI (xs : List Int) (k : Nat) : Int × Int := (xs.take k).foldl (bestStep xs) (0, 65537)
/-- Whether a list of serials is one of at most 20. -/
def listOk (xs : List Int) : Bool := decide (xs.length ≤ 20) && xs.all serB
def soOk (xs : List Int) : Bool := !xs.isEmpty && listOk xs
def soV (xs : List Int) : Int × Int := if soOk xs = true then bestI xs xs.length else (0, 0)

theorem cnt_foldl : ∀ (xs : List Int) (a m : Int), xs.foldl (fun c x => max c (gapI a x + 1)) (m + 1) = xs.foldl (fun m x => max m (gapI a x)) m + 1
  | [], _, _ => rfl
  | x :: xs, a, m => by
    simp only [List.foldl_cons]
    rw [show max (m + 1) (gapI a x + 1) = max m (gapI a x) + 1 by omega]
    exact cnt_foldl xs a _
theorem cnt_most (a : Int) (xs : List Int) (h : xs ≠ []) : cntI a xs = mostI a xs + 1 := by
  cases xs with
  | nil => exact absurd rfl h
  | cons x xs =>
    unfold cntI mostI
    simp only [List.foldl_cons]
    have := gapI_bd a x
    rw [show max 0 (gapI a x + 1) = max 0 (gapI a x) + 1 by omega]
    exact cnt_foldl xs a _
theorem cnt_snoc (a : Int) (xs : List Int) (x : Int) : cntI a (xs ++ [x]) = max (cntI a xs) (gapI a x + 1) := by simp [cntI]
theorem most_snoc (a : Int) (xs : List Int) (x : Int) : mostI a (xs ++ [x]) = max (mostI a xs) (gapI a x) := by simp [mostI]
theorem most_bd (a : Int) (xs : List Int) : 0 ≤ mostI a xs ∧ mostI a xs ≤ 65535 := by
  unfold mostI
  have : ∀ (l : List Int) (m : Int), 0 ≤ m → m ≤ 65535 → 0 ≤ l.foldl (fun m x => max m (gapI a x)) m ∧ l.foldl (fun m x => max m (gapI a x)) m ≤ 65535 := by
    intro l
    induction l with
    | nil => intro m h0 h1; exact ⟨h0, h1⟩
    | cons x l ih =>
      intro m h0 h1
      have := gapI_bd a x
      simp only [List.foldl_cons]
      exact ih _ (by omega) (by omega)
  exact this xs 0 (by omega) (by omega)
theorem cnt_bd (a : Int) (xs : List Int) : 0 ≤ cntI a xs ∧ cntI a xs ≤ 65536 := by
  cases xs with
  | nil => simp [cntI]
  | cons x xs => rw [cnt_most a _ (by simp)]; have := most_bd a (x :: xs); omega
theorem cnt_take {a : Int} {xs : List Int} {k : Nat} {u : Int} (hk : k < xs.length) (hu : u = xs[k]) : cntI a (xs.take (k + 1)) = max (cntI a (xs.take k)) (gapI a u + 1) := by
  rw [List.take_succ_eq_append_getElem hk, cnt_snoc, hu]
theorem most_take {a : Int} {xs : List Int} {k : Nat} {u : Int} (hk : k < xs.length) (hu : u = xs[k]) : mostI a (xs.take (k + 1)) = max (mostI a (xs.take k)) (gapI a u) := by
  rw [List.take_succ_eq_append_getElem hk, most_snoc, hu]
theorem best_take {xs : List Int} {k : Nat} {u : Int} (hk : k < xs.length) (hu : u = xs[k]) : bestI xs (k + 1) = bestStep xs (bestI xs k) u := by
  unfold bestI
  rw [List.take_succ_eq_append_getElem hk, List.foldl_append, hu]; rfl
theorem ser_at {xs : List Int} (h : xs.all serB = true) {k : Nat} (hk : k < xs.length) : 0 ≤ xs[k] ∧ xs[k] ≤ 65535 := by
  rw [List.all_eq_true] at h
  exact serB_bd (h _ (List.getElem_mem hk))

set_option maxHeartbeats 400000 in
theorem countFrom_any (a : Int) (v : Value) (xs : List Int) (w : World) (hrow : Row w v xs.length (xs.map (Value.int .i64))) (h0 : 0 ≤ a) (h1 : a ≤ 65535) (hall : xs.all serB = true) :
    Calls Try.prog 62 #[.int .i64 a, v] w fun e w' => e = .returned (.int .i64 (cntI a xs)) ∧ w = w' := by
  obtain ⟨p, cap, rfl, hc1, hc2, hcell⟩ := row_open hrow
  unfold maxLen at hc2
  have HC := Lib.hid hcell
  have HA := Lib.hid hall
  clear hcell hrow hall
  obtain ⟨n, hN⟩ : ∃ n, n = xs.length := ⟨_, rfl⟩
  rw [← hN] at hc1 ⊢
  have HN := Lib.hid hN
  clear hN
  go_enter Try.func62, Try.ntmps62
  go_wp2_with fail
  go_loop [5, 10] (fun c i => ∃ k : Nat, k ≤ n ∧ i = .int .i64 k ∧ c = .int .i64 (cntI a (xs.take k))) (fun _ i => n - (intOf i).toNat)
  case atStart => exact ⟨0, Nat.zero_le _, rfl, rfl⟩
  case round =>
    obtain ⟨k, hk, rfl, rfl⟩ := hrel
    by_cases hkn : k < n
    · have hks : k < xs.length := by rw [← HN.out]; exact hkn
      obtain ⟨b, off, rfl, hb, hc⟩ := HC.out k hks
      obtain ⟨x0, x1⟩ := ser_at HA.out hks
      obtain ⟨u, hu⟩ : ∃ u, u = xs[k] := ⟨_, rfl⟩
      rw [← hu] at hc x0 x1
      have HT := Lib.hid (cnt_take (a := a) hks hu)
      clear hu
      obtain ⟨c0, c1⟩ := cnt_bd a (xs.take k)
      generalize cntI a (xs.take k) = c at HT c0 c1 ⊢
      have HG := Lib.hid (fun w => implGapB_any a u w h0 h1 x0 x1)
      obtain ⟨g0, g1⟩ := gapI_bd a u
      generalize gapI a u = g at HT HG g0 g1
      by_cases hm : c ≤ g + 1
      · go_wp2_with (go_at_call 52; refine (HG.out _).mono ?_; rintro e w' ⟨rfl, rfl⟩)
        go_round
        case rel => exact ⟨k + 1, by omega, by go_num, vint (by rw [HT.out]; omega)⟩
        case measure => simp [intOf]; omega
      · go_wp2_with (go_at_call 52; refine (HG.out _).mono ?_; rintro e w' ⟨rfl, rfl⟩)
        go_round
        case rel => exact ⟨k + 1, by omega, by go_num, vint (by rw [HT.out]; omega)⟩
        case measure => simp [intOf]; omega
    · obtain rfl : k = n := by omega
      go_wp2_with fail
      go_ret
      exact ⟨ret_int (by rw [HN.out, List.take_of_length_le (Nat.le_refl _)]), rfl⟩
end Go.Proofs.Ytfdpjgjclbnnfaa
