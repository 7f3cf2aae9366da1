/-
  slices.Sort at twelve ints or fewer.
-/
import Derived.Test.YtejdphfcogfcmaaProg
import Derived.Test.YtejdphfcogfcmaaOwn
import Derived.Test.YtejdphfcogfcmaaFill
import Derived.Test.YtejdphfcogfcmaaInsMath
import Derived.Deep.QuietTactic
import Derived.Deep.LoopGhost
import Derived.BigQuiet
import Derived.BigRegion
import Derived.IntWalk
import Derived.WalkKit
import Derived.Shelf.Abstract
namespace Go.Proofs.Ytejdphfcogfcmaa
open Go.RowKit Go.Lib
set_option linter.unusedVariables false

def ltI (x y : Int) : Bool := decide (x < y)
theorem isNaN_any (x : Int) (w : World) : Calls Try.prog 94 #[.int .i64 x] w fun e w' => e = .returned (.bool false) ∧ w = w' := by
  have h : (x != x) = false := by simp
  go_enter Try.func94, Try.ntmps94
  go_wp2_with fail
  go_ret
  exact ⟨rfl, rfl⟩
theorem less_q (x y : Int) (w : World) : Calls Try.prog 84 #[.int .i64 x, .int .i64 y] w fun e w' => e = .returned (.bool (decide (x < y))) ∧ ∃ q, w' = w.drewN q := by
  have HN := Lib.hid (fun (x : Int) (W : World) => isNaN_any x W)
  go_enter Try.func84, Try.ntmps84
  go_wp2_with fail
  refine (HN.out x _).mono ?_
  rintro e _ ⟨rfl, rfl⟩
  go_wp2_with fail
  go_ret
  exact ⟨rfl, 0, rfl⟩
set_option maxRecDepth 100000 in
set_option maxHeartbeats 2000000 in
theorem insOrd_any (g cap n base : Nat) (xs : List Int) (w : World)
    (hn : n = xs.length) (hn2 : n ≤ 1048576)
    (hown : w.ownsRow base 3 1 (.slice (some ⟨g, 0, none⟩) n cap) n (xs.map (Value.int .i64))) :
    Calls Try.prog 78 #[.slice (some ⟨g, 0, none⟩) n cap, .int .i64 0, .int .i64 n] w fun e w' => e = .returned (.tuple #[]) ∧
      w'.ownsRow base 3 1 (.slice (some ⟨g, 0, none⟩) n cap) n ((sortL ltI xs).map (Value.int .i64)) ∧ w.grownBy w' (some g) := by
  have HN := Lib.hid hn
  have HOw := Lib.hid hown
  clear hn hown
  go_enter Try.func78, Try.ntmps78
  go_wp2_with fail
  go_loopw [6] (fun vi wr => ∃ i : Nat, 1 ≤ i ∧ i ≤ n + 1 ∧ (n = 0 ∨ i ≤ n) ∧ vi = .int .i64 i ∧ wr.ownsRow base 3 1 (.slice (some ⟨g, 0, none⟩) n cap) n ((sortL ltI (xs.take i) ++ xs.drop i).map (Value.int .i64)) ∧ w.grownBy wr (some g)) (fun vi _ => n + 1 - (intOf vi).toNat)
  case atStart => exact ⟨1, Nat.le_refl _, by omega, by omega, rfl, own_map HOw.out (sortL_one ltI xs).symm, ⟨rfl, rfl, rfl, Nat.le_refl _, fun _ _ _ => rfl⟩⟩
  case round =>
    obtain ⟨i, hi1, hi2, hi3, rfl, hown, hgr⟩ := hrel
    obtain ⟨wo, rfl⟩ : ∃ wo : World, wo = wr := ⟨_, rfl⟩
    by_cases hin : i < n
    · have his : i < xs.length := by rw [← HN.out]; exact hin
      have hown2 := own_map hown (mid_start his)
      have HE := Lib.hid (fun j => @mid_end ltI xs i j his)
      obtain ⟨x, hx⟩ : ∃ x, x = xs[i] := ⟨_, rfl⟩
      have hol : (sortL ltI (xs.take i)).length = i := by rw [sortL_len, List.length_take]; omega
      rw [← hx] at hown2 HE
      obtain ⟨os, hos⟩ : ∃ os, os = sortL ltI (xs.take i) := ⟨_, rfl⟩
      rw [← hos] at hown2 HE hol
      obtain ⟨rest, hrest⟩ : ∃ rest, rest = xs.drop (i + 1) := ⟨_, rfl⟩
      rw [← hrest] at hown2 HE
      have HRest := Lib.hid hrest
      have HOL := Lib.hid hol
      have HO2 := Lib.hid hown2
      have HGR := Lib.hid hgr
      clear hx hos hrest hown hown2 hol hgr hi3
      go_wp2_with fail
      go_loopw [7] (fun vj wr => ∃ j : Nat, j ≤ i ∧ vj = .int .i64 j ∧ Hid (posL ltI x os j = posL ltI x os i) ∧ Hid (wr.ownsRow base 3 1 (.slice (some ⟨g, 0, none⟩) n cap) n ((midL os j x rest).map (Value.int .i64))) ∧ Hid (w.grownBy wr (some g))) (fun vj _ => (intOf vj).toNat)
      case atStart => exact ⟨i, Nat.le_refl _, rfl, Lib.hid rfl, HO2, HGR⟩
      case round =>
        clear HO2 HGR
        obtain ⟨j, hj, rfl, HP, HO, HG⟩ := hrel
        by_cases hj0 : 0 < j
        · obtain ⟨jp, rfl⟩ : ∃ jp, j = jp + 1 := ⟨j - 1, by omega⟩
          have hjp : jp < os.length := by rw [HOL.out]; omega
          have hj0' : (0 : Int) < (jp : Int) + 1 := by omega
          have hjn : (jp : Int) + 1 < (n : Int) := by omega
          have hjn' : (jp : Int) < (n : Int) := by omega
          obtain ⟨⟨u1, e1, c1⟩, f1, _, _⟩ := own_facts HO.out (show jp + 1 < n by omega)
          obtain rfl := fact_of e1 (mid_x (by rw [HOL.out]; omega))
          obtain ⟨⟨u2, e2, c2⟩, f2, _, _⟩ := own_facts HO.out (show jp < n by omega)
          obtain rfl := fact_of e2 (mid_y hjp)
          have HSW := Lib.hid (@mid_swap os jp x rest hjp)
          obtain ⟨y, hy⟩ : ∃ y, y = os[jp] := ⟨_, rfl⟩
          have HPS : Hid (posL ltI x os (jp + 1) = if decide (x < y) = true then posL ltI x os jp else jp + 1) := Lib.hid (by
            rw [posL, List.getD_eq_getElem?_getD, List.getElem?_eq_getElem hjp, Option.getD_some, ← hy]; rfl)
          rw [← hy] at c2 HSW
          have HCM := Lib.hid (fun q => less_q x y (wr.drewN q))
          clear e1 e2 hy hjp
          by_cases hc : x < y
          · have hcd : decide (x < y) = true := decide_eq_true hc
            go_wp2_with fail
            go_quiet (first | (go_at_call 84; refine Calls.quiet_of (HCM.out _)))
            go_wp2_with fail
            obtain ⟨w2, hw2⟩ : ∃ w2, w2 = wr.drewN nq := ⟨_, rfl⟩
            rw [← hw2]
            have d1 : w2.cell? ⟨g, jp + 1, none⟩ = some (.int .i64 x) := by rw [hw2]; exact c1
            have d2 : w2.cell? ⟨g, jp, none⟩ = some (.int .i64 y) := by rw [hw2]; exact c2
            have q1 : w2.frozen? ⟨g, jp + 1, none⟩ = false := by rw [hw2]; exact f1
            have q2 : w2.frozen? ⟨g, jp, none⟩ = false := by rw [hw2]; exact f2
            have HO3 : Hid (w2.ownsRow base 3 1 (.slice (some ⟨g, 0, none⟩) n cap) n ((midL os (jp + 1) x rest).map (Value.int .i64))) := Lib.hid (by rw [hw2]; exact own_below HO.out (bdrew _ _) (Nat.le_refl _))
            have HG3 : Hid (w.grownBy w2 (some g)) := Lib.hid (by rw [hw2]; exact grown_trans HG.out ⟨rfl, rfl, rfl, Nat.le_refl _, fun _ _ _ => rfl⟩)
            have s1 := own_set HO3.out (j := jp + 1) (.int .i64 y)
            obtain ⟨⟨u3, _, c3⟩, _, _, _⟩ := own_facts s1.1 (show jp < n by omega)
            have s2 := own_set s1.1 (j := jp) (.int .i64 x)
            rw [HSW.out] at s2
            have HS2 := Lib.hid s2
            have HS1 := Lib.hid s1.2
            clear s1 s2 c1 c2 f1 f2 hw2
            go_big_region
            clear c3 d1 d2 q1 q2
            go_wp2_with fail
            go_roundw
            case rel => exact ⟨jp, by omega, by go_num, Lib.hid (by rw [← HP.out, HPS.out, if_pos hcd]), Lib.hid (own_below HS2.out.1 (bdrew _ 1) (Nat.le_refl _)), Lib.hid (grown_trans (grown_trans (grown_trans HG3.out HS1.out) HS2.out.2) ⟨rfl, rfl, rfl, Nat.le_refl _, fun _ _ _ => rfl⟩)⟩
            case measure => (first | (simp [intOf]; done) | (simp [intOf]; omega))
          · have hcd : decide (x < y) = false := decide_eq_false hc
            go_wp2_with fail
            go_quiet (first | (go_at_call 84; refine Calls.quiet_of (HCM.out _)))
            go_wp2_with fail
            have HF := Lib.hid (HE.out (jp + 1) (by rw [← HP.out, HPS.out, if_neg (by rw [hcd]; simp)]))
            go_roundw
            case rel => exact ⟨i + 1, by omega, by omega, by omega, by go_num, own_map (own_below HO.out (bdrew _ _) (Nat.le_refl _)) (HF.out.trans (by rw [HRest.out])), grown_trans HG.out ⟨rfl, rfl, rfl, Nat.le_refl _, fun _ _ _ => rfl⟩⟩
            case measure => (first | (simp [intOf]; done) | (simp [intOf]; omega))
        · obtain rfl : j = 0 := by omega
          go_wp2_with fail
          go_quiet (fail)
          go_wp2_with fail
          have HF := Lib.hid (HE.out 0 (by rw [← HP.out]; rfl))
          go_roundw
          case rel => exact ⟨i + 1, by omega, by omega, by omega, by go_num, own_map (own_below HO.out (bdrew _ _) (Nat.le_refl _)) (HF.out.trans (by rw [HRest.out])), grown_trans HG.out ⟨rfl, rfl, rfl, Nat.le_refl _, fun _ _ _ => rfl⟩⟩
          case measure => (first | (simp [intOf]; done) | (simp [intOf]; omega))
    · have hfull : xs.take i = xs := by rw [List.take_of_length_le (by rw [← HN.out]; omega)]
      have hdrop : xs.drop i = [] := List.drop_of_length_le (by rw [← HN.out]; omega)
      rw [hfull, hdrop, List.append_nil] at hown
      go_wp2_with fail
      go_end0
      exact ⟨rfl, hown, hgr⟩

set_option maxRecDepth 100000 in
set_option maxHeartbeats 2000000 in
theorem len64_any (x : Nat) (hx : x ≤ 8) (w : World) : Calls Try.prog 88 #[.int .u64 x] w fun e w' => (∃ r, e = .returned (.int .i64 r)) ∧ w = w' := by
  obtain rfl | rfl | rfl | rfl | rfl | rfl | rfl | rfl | rfl : x = 0 ∨ x = 1 ∨ x = 2 ∨ x = 3 ∨ x = 4 ∨ x = 5 ∨ x = 6 ∨ x = 7 ∨ x = 8 := by omega
  all_goals
    go_enter Try.func88, Try.ntmps88
    go_wp2_with fail
    go_ret
    exact ⟨⟨_, rfl⟩, rfl⟩
theorem bitsLen_any (x : Nat) (hx : x ≤ 8) (w : World) : Calls Try.prog 76 #[.int .u64 x] w fun e w' => (∃ r, e = .returned (.int .i64 r)) ∧ w = w' := by
  have H := Lib.hid (len64_any x hx w)
  go_enter Try.func76, Try.ntmps76
  go_wp2_with fail
  refine H.out.mono ?_
  rintro e _ ⟨⟨r, rfl⟩, rfl⟩
  go_wp2_with fail
  go_ret
  exact ⟨⟨_, rfl⟩, rfl⟩
set_option maxRecDepth 100000 in
set_option maxHeartbeats 2000000 in
theorem pdq_any (g cap n base : Nat) (xs : List Int) (r : Int) (w : World) (hn : n = xs.length) (hn2 : n ≤ 12)
    (hown : w.ownsRow base 3 1 (.slice (some ⟨g, 0, none⟩) n cap) n (xs.map (Value.int .i64))) :
    Calls Try.prog 75 #[.slice (some ⟨g, 0, none⟩) n cap, .int .i64 0, .int .i64 n, .int .i64 r] w fun e w' => e = .returned (.tuple #[]) ∧
      w'.ownsRow base 3 1 (.slice (some ⟨g, 0, none⟩) n cap) n ((sortL ltI xs).map (Value.int .i64)) ∧ w.grownBy w' (some g) := by
  have HI := Lib.hid (insOrd_any g cap n base xs w hn (by omega) hown)
  clear hown hn
  have h12 : (n : Int) ≤ 12 := by omega
  go_enter Try.func75, Try.ntmps75
  go_wp2_with fail
  refine wp_loop_rounds 1 ?_
  rw [rounds_succ]
  go_wp2_with fail
  refine HI.out.mono ?_
  rintro e w1 ⟨rfl, ho, hg⟩
  have HO := Lib.hid ho
  have HG := Lib.hid hg
  clear ho hg
  go_wp2_with fail
  refine bodyPost_ret (results_none rfl _ _ _) rfl ?_
  exact ⟨rfl, HO.out, HG.out⟩
set_option maxRecDepth 100000 in
set_option maxHeartbeats 1000000 in
theorem sort_any (g cap n base : Nat) (xs : List Int) (w : World) (hn : n = xs.length) (hn2 : n ≤ 8)
    (hown : w.ownsRow base 3 1 (.slice (some ⟨g, 0, none⟩) n cap) n (xs.map (Value.int .i64))) :
    Calls Try.prog 68 #[.slice (some ⟨g, 0, none⟩) n cap] w fun e w' => e = .returned (.tuple #[]) ∧
      w'.ownsRow base 3 1 (.slice (some ⟨g, 0, none⟩) n cap) n ((sortL ltI xs).map (Value.int .i64)) ∧ w.grownBy w' (some g) := by
  have HP := Lib.hid (fun r => pdq_any g cap n base xs r w hn (by omega) hown)
  have HL := Lib.hid (bitsLen_any n hn2 w)
  clear hown hn
  go_enter Try.func68, Try.ntmps68
  go_wp2_with fail
  refine HL.out.mono ?_
  rintro e _ ⟨⟨r, rfl⟩, rfl⟩
  go_wp2_with fail
  refine (HP.out r).mono ?_
  rintro e w1 ⟨rfl, ho, hg⟩
  have HO := Lib.hid ho
  have HG := Lib.hid hg
  clear ho hg
  go_wp2_with fail
  go_end0
  exact ⟨rfl, HO.out, HG.out⟩
/-! ### Sorted lists -/
theorem insL_perm (lt : Int → Int → Bool) (os : List Int) (x : Int) : (insL lt os x).Perm (x :: os) := by
  unfold insL
  have h := List.perm_middle (a := x) (l₁ := os.take (posL lt x os os.length)) (l₂ := os.drop (posL lt x os os.length))
  rw [List.take_append_drop] at h
  exact h
theorem sortL_perm (lt : Int → Int → Bool) (xs : List Int) : (sortL lt xs).Perm xs := by
  have : ∀ (l os : List Int), (l.foldl (insL lt) os).Perm (l ++ os) := by
    intro l
    induction l with
    | nil => intro os; exact List.Perm.refl _
    | cons x l ih =>
      intro os
      rw [List.foldl_cons]
      refine (ih _).trans ?_
      refine ((insL_perm lt os x).append_left l).trans ?_
      exact List.perm_middle
  have h := this xs []
  rw [List.append_nil] at h
  exact h
theorem posL_low {x : Int} {os : List Int} : ∀ (k : Nat), k ≤ os.length → ∀ i (hi : i < os.length), posL ltI x os k ≤ i → i < k → x < os[i]
  | 0, _, _, _, _, h => by omega
  | k + 1, hk, i, hi, h1, h2 => by
    unfold posL at h1
    split at h1
    · rename_i hlt
      by_cases e : i = k
      · subst e
        unfold ltI at hlt
        rw [List.getD_eq_getElem?_getD, List.getElem?_eq_getElem hi] at hlt
        exact of_decide_eq_true hlt
      · exact posL_low k (by omega) i hi h1 (by omega)
    · omega
theorem posL_high {x : Int} {os : List Int} : ∀ (k : Nat), k ≤ os.length → ∀ (hp : 0 < posL ltI x os k) (hi : posL ltI x os k - 1 < os.length), os[posL ltI x os k - 1] ≤ x
  | 0, _, hp, _ => by unfold posL at hp; omega
  | k + 1, hk, hp, hi => by
    by_cases hlt : ltI x (os.getD k 0) = true
    · have e : posL ltI x os (k + 1) = posL ltI x os k := by show (if _ then _ else _) = _; rw [if_pos hlt]
      have h1 : 0 < posL ltI x os k := by rw [← e]; exact hp
      have h2 : posL ltI x os k - 1 < os.length := by have := posL_le ltI x os k; omega
      have := posL_high k (by omega) h1 h2
      simp only [e]
      exact this
    · have e : posL ltI x os (k + 1) = k + 1 := by show (if _ then _ else _) = _; rw [if_neg hlt]
      have hk' : k < os.length := by omega
      unfold ltI at hlt
      rw [List.getD_eq_getElem?_getD, List.getElem?_eq_getElem hk'] at hlt
      simp only [e, Nat.add_sub_cancel]
      simp at hlt
      exact hlt
theorem insL_sorted {os : List Int} (h : os.Pairwise (· ≤ ·)) (x : Int) : (insL ltI os x).Pairwise (· ≤ ·) := by
  have hle := posL_le ltI x os os.length
  have hlow := posL_low (x := x) (os := os) os.length (Nat.le_refl _)
  have hhigh := posL_high (x := x) (os := os) os.length (Nat.le_refl _)
  unfold insL
  obtain ⟨k, hk⟩ : ∃ k, k = posL ltI x os os.length := ⟨_, rfl⟩
  rw [← hk] at hle hlow ⊢
  simp only [← hk] at hhigh
  have hsp := List.pairwise_iff_getElem.1 h
  rw [List.pairwise_append, List.pairwise_cons]
  refine ⟨h.sublist (List.take_sublist _ _), ⟨fun y hy => ?_, h.sublist (List.drop_sublist _ _)⟩, fun y hy z hz => ?_⟩
  · obtain ⟨i, hi, rfl⟩ := List.getElem_of_mem hy
    rw [List.length_drop] at hi
    rw [List.getElem_drop]
    have := hlow (k + i) (by omega) (by omega) (by omega)
    omega
  · obtain ⟨i, hi, rfl⟩ := List.getElem_of_mem hy
    rw [List.length_take] at hi
    rw [List.getElem_take]
    have hi2 : i < os.length := by omega
    have hyx : os[i] ≤ x := by
      have h1 := hhigh (by omega) (by omega)
      by_cases e : i = k - 1
      · subst e; exact h1
      · exact Int.le_trans (hsp i (k - 1) hi2 (by omega) (by omega)) h1
    rcases List.mem_cons.1 hz with rfl | hz
    · exact hyx
    · obtain ⟨j, hj, rfl⟩ := List.getElem_of_mem hz
      rw [List.length_drop] at hj
      rw [List.getElem_drop]
      exact hsp i (k + j) hi2 (by omega) (by omega)
theorem sortL_sorted (xs : List Int) : (sortL ltI xs).Pairwise (· ≤ ·) := by
  have : ∀ (l os : List Int), os.Pairwise (· ≤ ·) → (l.foldl (insL ltI) os).Pairwise (· ≤ ·) := by
    intro l
    induction l with
    | nil => intro os h; exact h
    | cons x l ih => intro os h; rw [List.foldl_cons]; exact ih _ (insL_sorted h x)
  exact this xs [] List.Pairwise.nil
end Go.Proofs.Ytejdphfcogfcmaa
