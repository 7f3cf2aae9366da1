/-
  slices.insertionSortCmpFunc and slices.SortStableFunc at 20 ints or fewer, over whatever comparison.
-/
import Derived.Test.YtfdpjgjclbnnfaaProg
import Derived.Test.YtfdpjgjclbnnfaaOwn
import Derived.Test.YtfdpjgjclbnnfaaFill
import Derived.Deep.QuietTactic
import Derived.Deep.LoopGhost
import Derived.BigQuiet
import Derived.BigRegion
import Derived.IntWalk
import Derived.WalkKit
import Derived.Shelf.Abstract
namespace Go.Proofs.Ytfdpjgjclbnnfaa
open Go.RowKit Go.Lib
set_option linter.unusedVariables false

/-- Where x goes among the first k: behind the last one that it is not less than. -/
def posL (lt : Int → Int → Bool) (x : Int) (os : List Int) : Nat → Nat
  | 0 => 0
  | k + 1 => if lt x (os.getD k 0) = true then posL lt x os k else k + 1
def insL (lt : Int → Int → Bool) (os : List Int) (x : Int) : List Int := os.take (posL lt x os os.length) ++ (x :: os.drop (posL lt x os os.length))
def sortL (lt : Int → Int → Bool) (xs : List Int) : List Int := xs.foldl (insL lt) []

theorem posL_le (lt : Int → Int → Bool) (x : Int) (os : List Int) : ∀ k, posL lt x os k ≤ k
  | 0 => Nat.le_refl _
  | k + 1 => by
    unfold posL
    split
    · have := posL_le lt x os k; omega
    · omega
theorem insL_len (lt : Int → Int → Bool) (os : List Int) (x : Int) : (insL lt os x).length = os.length + 1 := by
  have := posL_le lt x os os.length
  unfold insL
  simp; omega
theorem sortL_len (lt : Int → Int → Bool) (xs : List Int) : (sortL lt xs).length = xs.length := by
  unfold sortL
  have : ∀ (l os : List Int), (l.foldl (insL lt) os).length = os.length + l.length := by
    intro l
    induction l with
    | nil => intro os; simp
    | cons x l ih => intro os; rw [List.foldl_cons, ih, insL_len]; simp; omega
  rw [this]; simp
theorem sortL_take {lt : Int → Int → Bool} {xs : List Int} {k : Nat} (hk : k < xs.length) : sortL lt (xs.take (k + 1)) = insL lt (sortL lt (xs.take k)) xs[k] := by
  unfold sortL
  rw [List.take_succ_eq_append_getElem hk, List.foldl_append]; rfl
theorem insL_mem {lt : Int → Int → Bool} {x y : Int} {os : List Int} (h : y ∈ insL lt os x) : y = x ∨ y ∈ os := by
  unfold insL at h
  rcases List.mem_append.1 h with h | h
  · exact .inr (List.mem_of_mem_take h)
  · rcases List.mem_cons.1 h with h | h
    · exact .inl h
    · exact .inr (List.mem_of_mem_drop h)
theorem sortL_mem {lt : Int → Int → Bool} : ∀ (xs : List Int) (y : Int), y ∈ sortL lt xs → y ∈ xs := by
  have : ∀ (l os : List Int) (y : Int), y ∈ l.foldl (insL lt) os → y ∈ l ∨ y ∈ os := by
    intro l
    induction l with
    | nil => intro os y h; exact .inr h
    | cons x l ih =>
      intro os y h
      rcases ih _ _ h with h | h
      · exact .inl (List.mem_cons_of_mem _ h)
      · rcases insL_mem h with rfl | h
        · exact .inl (List.mem_cons_self ..)
        · exact .inr h
  intro xs y h
  rcases this xs [] y h with h | h
  · exact h
  · cases h
theorem sortL_one (lt : Int → Int → Bool) (xs : List Int) : sortL lt (xs.take 1) ++ xs.drop 1 = xs := by
  cases xs with
  | nil => rfl
  | cons x xs => rfl

/-- The row while the element x is on its way down. -/
def midL (os : List Int) (j : Nat) (x : Int) (rest : List Int) : List Int := os.take j ++ (x :: (os.drop j ++ rest))
theorem mid_x {os : List Int} {j : Nat} {x : Int} {rest : List Int} (hj : j ≤ os.length) : (midL os j x rest)[j]? = some x := by
  unfold midL
  rw [List.getElem?_append_right (by simp; omega)]
  simp [Nat.min_eq_left hj]
theorem mid_y {os : List Int} {j : Nat} {x : Int} {rest : List Int} (hj : j < os.length) : (midL os (j + 1) x rest)[j]? = some os[j] := by
  unfold midL
  rw [List.getElem?_append_left (by simp; omega), List.getElem?_take_of_lt (by omega), List.getElem?_eq_getElem hj]
theorem mid_len {os : List Int} {j : Nat} {x : Int} {rest : List Int} (hj : j ≤ os.length) : (midL os j x rest).length = os.length + 1 + rest.length := by
  unfold midL
  simp; omega
theorem mid_swap {os : List Int} {j : Nat} {x : Int} {rest : List Int} (hj : j < os.length) :
    (((midL os (j + 1) x rest).map (Value.int .i64)).set (j + 1) (.int .i64 os[j])).set j (.int .i64 x) = (midL os j x rest).map (Value.int .i64) := by
  have e : ((midL os (j + 1) x rest).set (j + 1) os[j]).set j x = midL os j x rest := by
    unfold midL
    rw [List.take_succ_eq_append_getElem hj]
    rw [List.set_append_right _ _ (by simp; omega)]
    rw [List.append_assoc, List.set_append_right _ _ (by simp; omega)]
    have e1 : (os.take j ++ [os[j]]).length = j + 1 := by simp; omega
    have e2 : (os.take j).length = j := by simp; omega
    rw [e1, e2, Nat.sub_self, List.drop_eq_getElem_cons hj]
    simp only [List.set_cons_zero, List.cons_append, List.nil_append, Nat.sub_self]
  rw [← e, List.map_set, List.map_set]
theorem mid_start {lt : Int → Int → Bool} {xs : List Int} {i : Nat} (hi : i < xs.length) : sortL lt (xs.take i) ++ xs.drop i = midL (sortL lt (xs.take i)) i xs[i] (xs.drop (i + 1)) := by
  have hl : (sortL lt (xs.take i)).length = i := by rw [sortL_len, List.length_take]; omega
  unfold midL
  generalize sortL lt (xs.take i) = os at hl
  have e1 : os.take i = os := List.take_of_length_le (by omega)
  have e2 : os.drop i = [] := List.drop_of_length_le (by omega)
  rw [e1, e2, List.drop_eq_getElem_cons hi, List.nil_append]
theorem mid_end {lt : Int → Int → Bool} {xs : List Int} {i j : Nat} (hi : i < xs.length) (hj : j = posL lt xs[i] (sortL lt (xs.take i)) i) : midL (sortL lt (xs.take i)) j xs[i] (xs.drop (i + 1)) = sortL lt (xs.take (i + 1)) ++ xs.drop (i + 1) := by
  have hl : (sortL lt (xs.take i)).length = i := by rw [sortL_len, List.length_take]; omega
  rw [sortL_take hi]
  unfold midL insL
  rw [hl, ← hj]
  simp

theorem own_map {w : World} {B n : Nat} {e : TypeId} {v : Value} {xs ys : List Int} (h : w.ownsRow B e 1 v n (xs.map (Value.int .i64))) (he : xs = ys) : w.ownsRow B e 1 v n (ys.map (Value.int .i64)) := he ▸ h
theorem fact_of {xs : List Int} {i : Nat} {x : Int} {u : Value} (h : (xs.map (Value.int .i64))[i]? = some u) (hx : xs[i]? = some x) : u = .int .i64 x := by
  rw [List.getElem?_map, hx] at h
  exact (Option.some.inj h).symm

set_option maxHeartbeats 2000000 in
theorem insSort_any (lt : Int → Int → Bool) (cf : Int → Int → Int) (hlt : ∀ x y, lt x y = decide (cf x y < 0)) (D : Int → Prop) (g cap n base : Nat) (xs : List Int) (fg : Nat) (cb : Array Value) (w : World)
    (eg : ∀ args w, (callFunc fg args).run Try.prog w = .ok (.enter fg args) w)
    (hcmp : ∀ W : World, w.grownBy W (some g) → ∀ x y : Int, D x → D y → Calls Try.prog fg (#[.int .i64 x, .int .i64 y] ++ cb) W fun e w' => e = .returned (.int .i64 (cf x y)) ∧ ∃ q, w' = W.drewN q)
    (hD : ∀ x ∈ xs, D x) (hn : n = xs.length) (hn2 : n ≤ 1048576)
    (hown : w.ownsRow base 3 1 (.slice (some ⟨g, 0, none⟩) n cap) n (xs.map (Value.int .i64))) :
    Calls Try.prog 72 #[.slice (some ⟨g, 0, none⟩) n cap, .int .i64 0, .int .i64 n, .func (.func fg) #[] cb] w fun e w' => e = .returned (.tuple #[]) ∧
      w'.ownsRow base 3 1 (.slice (some ⟨g, 0, none⟩) n cap) n ((sortL lt xs).map (Value.int .i64)) ∧ w.grownBy w' (some g) := by
  have HN := Lib.hid hn
  have HD := Lib.hid hD
  have HC := Lib.hid hcmp
  have HOw := Lib.hid hown
  have HLT := Lib.hid hlt
  clear hn hD hcmp hown hlt
  go_enter Try.func72, Try.ntmps72
  go_wp2_with fail
  go_loopw [8] (fun vi wr => ∃ i : Nat, 1 ≤ i ∧ i ≤ n + 1 ∧ (n = 0 ∨ i ≤ n) ∧ vi = .int .i64 i ∧ wr.ownsRow base 3 1 (.slice (some ⟨g, 0, none⟩) n cap) n ((sortL lt (xs.take i) ++ xs.drop i).map (Value.int .i64)) ∧ w.grownBy wr (some g)) (fun vi _ => n + 1 - (intOf vi).toNat)
  case atStart => exact ⟨1, Nat.le_refl _, by omega, by omega, rfl, own_map HOw.out (sortL_one lt xs).symm, ⟨rfl, rfl, rfl, Nat.le_refl _, fun _ _ _ => rfl⟩⟩
  case round =>
    obtain ⟨i, hi1, hi2, hi3, rfl, hown, hgr⟩ := hrel
    obtain ⟨wo, rfl⟩ : ∃ wo : World, wo = wr := ⟨_, rfl⟩
    by_cases hin : i < n
    · have his : i < xs.length := by rw [← HN.out]; exact hin
      have hown2 := own_map hown (mid_start his)
      have HE := Lib.hid (fun j => @mid_end lt xs i j his)
      have hdx := HD.out _ (List.getElem_mem his)
      obtain ⟨x, hx⟩ : ∃ x, x = xs[i] := ⟨_, rfl⟩
      have hol : (sortL lt (xs.take i)).length = i := by rw [sortL_len, List.length_take]; omega
      have hod : ∀ y ∈ sortL lt (xs.take i), D y := fun y hy => HD.out y (List.mem_of_mem_take (sortL_mem _ y hy))
      rw [← hx] at hown2 HE hdx
      obtain ⟨os, hos⟩ : ∃ os, os = sortL lt (xs.take i) := ⟨_, rfl⟩
      rw [← hos] at hown2 HE hol hod
      obtain ⟨rest, hrest⟩ : ∃ rest, rest = xs.drop (i + 1) := ⟨_, rfl⟩
      rw [← hrest] at hown2 HE
      have HX := Lib.hid hdx
      have HRest := Lib.hid hrest
      have HOD := Lib.hid hod
      have HOL := Lib.hid hol
      have HO2 := Lib.hid hown2
      have HGR := Lib.hid hgr
      clear hx hos hrest hown hown2 hdx hod hol hgr hi3
      go_wp2_with fail
      go_loopw [9] (fun vj wr => ∃ j : Nat, j ≤ i ∧ vj = .int .i64 j ∧ Hid (posL lt x os j = posL lt x os i) ∧ Hid (wr.ownsRow base 3 1 (.slice (some ⟨g, 0, none⟩) n cap) n ((midL os j x rest).map (Value.int .i64))) ∧ Hid (w.grownBy wr (some g))) (fun vj _ => (intOf vj).toNat)
      case atStart => exact ⟨i, Nat.le_refl _, rfl, Lib.hid rfl, HO2, HGR⟩
      case round =>
        clear HO2 HGR
        obtain ⟨j, hj, rfl, HP, HO, HG⟩ := hrel
        by_cases hj0 : 0 < j
        · obtain ⟨jp, rfl⟩ : ∃ jp, j = jp + 1 := ⟨j - 1, by omega⟩
          have hjp : jp < os.length := by rw [HOL.out]; omega
          have hj0' : (0 : Int) < (jp : Int) + 1 := by omega
          have hjn : (jp : Int) + 1 < (n : Int) := by omega
          have hjn' : (jp : Int) < (n : Int) := by omega
          obtain ⟨⟨u1, e1, c1⟩, f1, _, _⟩ := own_facts HO.out (show jp + 1 < n by omega)
          obtain rfl := fact_of e1 (mid_x (by rw [HOL.out]; omega))
          obtain ⟨⟨u2, e2, c2⟩, f2, _, _⟩ := own_facts HO.out (show jp < n by omega)
          obtain rfl := fact_of e2 (mid_y hjp)
          have HDY := Lib.hid (HOD.out _ (List.getElem_mem hjp))
          have HSW := Lib.hid (@mid_swap os jp x rest hjp)
          obtain ⟨y, hy⟩ : ∃ y, y = os[jp] := ⟨_, rfl⟩
          have HPS : Hid (posL lt x os (jp + 1) = if lt x y = true then posL lt x os jp else jp + 1) := Lib.hid (by
            rw [posL, List.getD_eq_getElem?_getD, List.getElem?_eq_getElem hjp, Option.getD_some, ← hy])
          rw [← hy] at c2 HDY HSW
          have HCM := Lib.hid (fun q => HC.out (wr.drewN q) (grown_trans HG.out ⟨rfl, rfl, rfl, Nat.le_refl _, fun _ _ _ => rfl⟩) x y HX.out HDY.out)
          rw [HLT.out x y] at HPS
          clear e1 e2 hy hjp
          generalize cf x y = c at HPS HCM
          by_cases hc : c < 0
          · have hcd : decide (c < 0) = true := decide_eq_true hc
            go_wp2_with fail
            go_quiet (first | (go_at_fn fg; refine Calls.quiet_of (HCM.out _)))
            go_wp2_with fail
            obtain ⟨w2, hw2⟩ : ∃ w2, w2 = wr.drewN nq := ⟨_, rfl⟩
            rw [← hw2]
            have d1 : w2.cell? ⟨g, jp + 1, none⟩ = some (.int .i64 x) := by rw [hw2]; exact c1
            have d2 : w2.cell? ⟨g, jp, none⟩ = some (.int .i64 y) := by rw [hw2]; exact c2
            have q1 : w2.frozen? ⟨g, jp + 1, none⟩ = false := by rw [hw2]; exact f1
            have q2 : w2.frozen? ⟨g, jp, none⟩ = false := by rw [hw2]; exact f2
            have HO3 : Hid (w2.ownsRow base 3 1 (.slice (some ⟨g, 0, none⟩) n cap) n ((midL os (jp + 1) x rest).map (Value.int .i64))) := Lib.hid (by rw [hw2]; exact own_below HO.out (bdrew _ _) (Nat.le_refl _))
            have HG3 : Hid (w.grownBy w2 (some g)) := Lib.hid (by rw [hw2]; exact grown_trans HG.out ⟨rfl, rfl, rfl, Nat.le_refl _, fun _ _ _ => rfl⟩)
            have s1 := own_set HO3.out (j := jp + 1) (.int .i64 y)
            obtain ⟨⟨u3, _, c3⟩, _, _, _⟩ := own_facts s1.1 (show jp < n by omega)
            have s2 := own_set s1.1 (j := jp) (.int .i64 x)
            rw [HSW.out] at s2
            have HS2 := Lib.hid s2
            have HS1 := Lib.hid s1.2
            clear s1 s2 c1 c2 f1 f2 hw2
            go_big_region
            clear c3 d1 d2 q1 q2
            go_wp2_with fail
            go_roundw
            case rel => exact ⟨jp, by omega, by go_num, Lib.hid (by rw [← HP.out, HPS.out, if_pos hcd]), Lib.hid (own_below HS2.out.1 (bdrew _ 1) (Nat.le_refl _)), Lib.hid (grown_trans (grown_trans (grown_trans HG3.out HS1.out) HS2.out.2) ⟨rfl, rfl, rfl, Nat.le_refl _, fun _ _ _ => rfl⟩)⟩
            case measure => (first | (simp [intOf]; done) | (simp [intOf]; omega))
          · have hcd : decide (c < 0) = false := decide_eq_false hc
            go_wp2_with fail
            go_quiet (first | (go_at_fn fg; refine Calls.quiet_of (HCM.out _)))
            go_wp2_with fail
            have HF := Lib.hid (HE.out (jp + 1) (by rw [← HP.out, HPS.out, if_neg (by rw [hcd]; simp)]))
            go_roundw
            case rel => exact ⟨i + 1, by omega, by omega, by omega, by go_num, own_map (own_below HO.out (bdrew _ _) (Nat.le_refl _)) (HF.out.trans (by rw [HRest.out])), grown_trans HG.out ⟨rfl, rfl, rfl, Nat.le_refl _, fun _ _ _ => rfl⟩⟩
            case measure => (first | (simp [intOf]; done) | (simp [intOf]; omega))
        · obtain rfl : j = 0 := by omega
          go_wp2_with fail
          go_quiet (fail)
          go_wp2_with fail
          have HF := Lib.hid (HE.out 0 (by rw [← HP.out]; rfl))
          go_roundw
          case rel => exact ⟨i + 1, by omega, by omega, by omega, by go_num, own_map (own_below HO.out (bdrew _ _) (Nat.le_refl _)) (HF.out.trans (by rw [HRest.out])), grown_trans HG.out ⟨rfl, rfl, rfl, Nat.le_refl _, fun _ _ _ => rfl⟩⟩
          case measure => (first | (simp [intOf]; done) | (simp [intOf]; omega))
    · have hfull : xs.take i = xs := by rw [List.take_of_length_le (by rw [← HN.out]; omega)]
      have hdrop : xs.drop i = [] := List.drop_of_length_le (by rw [← HN.out]; omega)
      rw [hfull, hdrop, List.append_nil] at hown
      go_wp2_with fail
      go_end0
      exact ⟨rfl, hown, hgr⟩

/-- .. of no elements: nothing is done. -/
theorem insSort_none (v : Value) (a b : Nat) (h : b ≤ a) (ha : a ≤ 1000) (f : Value) (w : World) :
    Calls Try.prog 72 #[v, .int .i64 a, .int .i64 b, f] w fun e w' => e = .returned (.tuple #[]) ∧ w = w' := by
  have h' : ¬ ((a : Int) + 1 < (b : Int)) := by omega
  go_enter Try.func72, Try.ntmps72
  go_wp2_with fail
  refine wp_loop_rounds 1 ?_
  rw [rounds_succ]
  go_wp2_with fail
  go_end0
  exact ⟨rfl, rfl⟩

set_option maxHeartbeats 1000000 in
theorem stable_any (lt : Int → Int → Bool) (cf : Int → Int → Int) (hlt : ∀ x y, lt x y = decide (cf x y < 0)) (D : Int → Prop) (g cap n base : Nat) (xs : List Int) (fg : Nat) (cb : Array Value) (w : World)
    (eg : ∀ args w, (callFunc fg args).run Try.prog w = .ok (.enter fg args) w)
    (hcmp : ∀ W : World, w.grownBy W (some g) → ∀ x y : Int, D x → D y → Calls Try.prog fg (#[.int .i64 x, .int .i64 y] ++ cb) W fun e w' => e = .returned (.int .i64 (cf x y)) ∧ ∃ q, w' = W.drewN q)
    (hD : ∀ x ∈ xs, D x) (hn : n = xs.length) (hn2 : n ≤ 20)
    (hown : w.ownsRow base 3 1 (.slice (some ⟨g, 0, none⟩) n cap) n (xs.map (Value.int .i64))) :
    Calls Try.prog 70 #[.slice (some ⟨g, 0, none⟩) n cap, .int .i64 n, .func (.func fg) #[] cb] w fun e w' => e = .returned (.tuple #[]) ∧
      w'.ownsRow base 3 1 (.slice (some ⟨g, 0, none⟩) n cap) n ((sortL lt xs).map (Value.int .i64)) ∧ w.grownBy w' (some g) := by
  have HI := Lib.hid (insSort_any lt cf hlt D g cap n base xs fg cb w eg hcmp hD hn (by omega) hown)
  clear hcmp hD hown hlt eg hn
  by_cases h20 : n < 20
  · go_enter Try.func70, Try.ntmps70
    go_wp2_with fail
    refine wp_loop_rounds 1 ?_
    rw [rounds_succ]
    go_wp2_with fail
    refine HI.out.mono ?_
    rintro e w1 ⟨rfl, ho, hg⟩
    have HO := Lib.hid ho
    have HG := Lib.hid hg
    clear ho hg
    go_wp2_with fail
    refine wp_loop_rounds 1 ?_
    rw [rounds_succ]
    go_wp2_with fail
    go_end0
    exact ⟨rfl, HO.out, HG.out⟩
  · obtain rfl : n = 20 := by omega
    have HN := Lib.hid (fun W => insSort_none (.slice (some ⟨g, 0, none⟩) 20 cap) 20 20 (Nat.le_refl _) (by omega) (.func (.func fg) #[] cb) W)
    go_enter Try.func70, Try.ntmps70
    go_wp2_with fail
    refine wp_loop_rounds 2 ?_
    rw [rounds_succ]
    go_wp2_with fail
    refine HI.out.mono ?_
    rintro e w1 ⟨rfl, ho, hg⟩
    have HO := Lib.hid ho
    have HG := Lib.hid hg
    clear ho hg
    go_wp2_with fail
    rw [rounds_succ]
    go_wp2_with fail
    refine (HN.out _).mono ?_
    rintro e w2 ⟨rfl, rfl⟩
    go_wp2_with fail
    refine wp_loop_rounds 1 ?_
    rw [rounds_succ]
    go_wp2_with fail
    go_end0
    exact ⟨rfl, HO.out, HG.out⟩
end Go.Proofs.Ytfdpjgjclbnnfaa
