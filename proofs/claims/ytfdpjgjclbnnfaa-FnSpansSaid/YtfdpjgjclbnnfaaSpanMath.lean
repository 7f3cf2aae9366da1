/-
  Plain facts of spans: serials of a span are in it, sorted lists, the shortest span.
-/
import Derived.Test.YtfdpjgjclbnnfaaSpan
import Derived.Test.YtfdpjgjclbnnfaaSpanOf2
import Derived.Test.YtfdpjgjclbnnfaaSortS
namespace Go.Proofs.Ytfdpjgjclbnnfaa
open Go.RowKit
set_option linter.unusedVariables false

theorem span_in {a b : Int} {i : Nat} (h : i < (ssL a b).length) : spanOk (ssL a b)[i] a (ssL a b).length = true ∧ spanV (ssL a b)[i] a (ssL a b).length = true := by
  have hok : ssOk a b = true := by
    cases ho : ssOk a b with
    | true => rfl
    | false => rw [ssL_no ho] at h; simp at h
  have hg : gapOk a b = true := by unfold ssOk at hok; rw [Bool.and_eq_true] at hok; exact hok.1
  obtain ⟨h1, h2, h3, h4⟩ := gapOk_bd hg
  have hl := ssL_len a b
  have ex : (ssL a b)[i] = aftI a i := by
    have e : ssL a b = spanL a (gapI a b).toNat := if_pos hok
    have e2 : (ssL a b)[i]? = some (aftI a i) := by
      rw [e]
      rw [e, spanL_len] at h
      unfold spanL
      rw [List.getElem?_map, List.getElem?_range h]; rfl
    rw [List.getElem?_eq_getElem h] at e2
    exact Option.some.inj e2
  rw [ex]
  obtain ⟨y0, y1⟩ := aftI_bd a i
  have ok : spanOk (aftI a i) a (ssL a b).length = true := by
    unfold spanOk
    rw [serB_yes y0 y1, serB_yes h1 h2, inB_yes (by omega) (by omega)]; rfl
  refine ⟨ok, ?_⟩
  unfold spanV
  rw [ok, Bool.true_and]
  apply decide_eq_true
  unfold gapI aftI
  omega

theorem insI_get (a : Int) (os : List Int) (x : Int) (i : Nat) : (insI a os x).getD i 0 = if i < posA a x os os.length then os.getD i 0 else if i = posA a x os os.length then x else os.getD (i - 1) 0 := by
  have hp := posA_le a x os os.length
  unfold insI
  generalize posA a x os os.length = p at hp
  simp only [List.getD_eq_getElem?_getD]
  by_cases h1 : i < p
  · rw [if_pos h1, List.getElem?_append_left (by simp; omega), List.getElem?_take_of_lt h1]
  · rw [if_neg h1, List.getElem?_append_right (by simp; omega)]
    have e : (os.take p).length = p := by simp; omega
    rw [e]
    by_cases h2 : i = p
    · rw [if_pos h2, h2, Nat.sub_self]; rfl
    · rw [if_neg h2, show i - p = (i - 1 - p) + 1 by omega, List.getElem?_cons_succ, List.getElem?_drop, show p + (i - 1 - p) = i - 1 by omega]
theorem posA_prop (a x : Int) (os : List Int) : ∀ k, (posA a x os k = 0 ∨ gapI a (os.getD (posA a x os k - 1) 0) ≤ gapI a x) ∧ (posA a x os k < k → gapI a x < gapI a (os.getD (posA a x os k) 0))
  | 0 => ⟨.inl rfl, fun h => absurd h (Nat.not_lt_zero _)⟩
  | k + 1 => by
    have ih := posA_prop a x os k
    unfold posA
    by_cases h : gapI a x < gapI a (os.getD k 0)
    · rw [if_pos h]
      refine ⟨ih.1, fun _ => ?_⟩
      by_cases h2 : posA a x os k < k
      · exact ih.2 h2
      · have := posA_le a x os k
        have e : posA a x os k = k := by omega
        rw [e]; exact h
    · rw [if_neg h]
      exact ⟨.inr (by rw [Nat.add_sub_cancel]; omega), fun h => absurd h (Nat.lt_irrefl _)⟩
def Asc (a : Int) (os : List Int) : Prop := ∀ i, i + 1 < os.length → gapI a (os.getD i 0) ≤ gapI a (os.getD (i + 1) 0)
theorem ins_asc {a x : Int} {os : List Int} (h : Asc a os) : Asc a (insI a os x) := by
  intro i hi
  rw [insI_len] at hi
  have hp := posA_le a x os os.length
  obtain ⟨p1, p2⟩ := posA_prop a x os os.length
  rw [insI_get, insI_get]
  generalize posA a x os os.length = p at hp p1 p2
  by_cases c1 : i + 1 < p
  · rw [if_pos (by omega), if_pos c1]; exact h i (by omega)
  · by_cases c2 : i + 1 = p
    · rw [if_pos (by omega), if_neg c1, if_pos c2]
      rcases p1 with p1 | p1
      · omega
      · rw [show p - 1 = i by omega] at p1; exact p1
    · by_cases c3 : i = p
      · rw [if_neg (by omega), if_pos c3, if_neg c1, if_neg c2, Nat.add_sub_cancel]
        have := p2 (by omega)
        rw [c3]; omega
      · rw [if_neg (by omega), if_neg c3, if_neg c1, if_neg c2, Nat.add_sub_cancel]
        have := h (i - 1) (by omega)
        rw [show i - 1 + 1 = i by omega] at this
        exact this
theorem sort_asc (a : Int) (xs : List Int) : Asc a (sortI a xs) := by
  unfold sortI
  have : ∀ (l os : List Int), Asc a os → Asc a (l.foldl (insI a) os) := by
    intro l
    induction l with
    | nil => intro os h; exact h
    | cons x l ih => intro os h; exact ih _ (ins_asc h)
  exact this xs [] (fun i hi => absurd hi (by simp))
theorem sort_mem {a : Int} : ∀ (xs : List Int) (y : Int), y ∈ sortI a xs → y ∈ xs := by
  have : ∀ (l os : List Int) (y : Int), y ∈ l.foldl (insI a) os → y ∈ l ∨ y ∈ os := by
    intro l
    induction l with
    | nil => intro os y h; exact .inr h
    | cons x l ih =>
      intro os y h
      rcases ih _ _ h with h | h
      · exact .inl (List.mem_cons_of_mem _ h)
      · rcases ins_mem h with rfl | h
        · exact .inl (List.mem_cons_self ..)
        · exact .inr h
  intro xs y h
  rcases this xs [] y h with h | h
  · exact h
  · cases h
theorem srt_in {xs : List Int} {a : Int} (hok : srtOk xs a = true) {i : Nat} (hi : i + 1 < (srtL xs a).length) :
    gapOk a ((srtL xs a)[i]'(by omega)) = true ∧ gapOk a (srtL xs a)[i + 1] = true ∧ gapV a ((srtL xs a)[i]'(by omega)) ≤ gapV a (srtL xs a)[i + 1] ∧ (srtL xs a)[i + 1] ∈ xs := by
  have e : srtL xs a = sortI a xs := if_pos hok
  have ha : serB a = true := by unfold srtOk at hok; rw [Bool.and_eq_true] at hok; exact hok.2
  have hall : xs.all serB = true := by unfold srtOk listOk at hok; rw [Bool.and_eq_true, Bool.and_eq_true] at hok; exact hok.1.2
  have hs := sort_all (a := a) xs hall
  have hA := sort_asc a xs i (by rw [← e]; exact hi)
  have key : ∀ j (hj : j < (srtL xs a).length), gapOk a (srtL xs a)[j] = true ∧ (srtL xs a)[j] = (sortI a xs).getD j 0 ∧ (srtL xs a)[j] ∈ xs := by
    intro j hj
    have hj' : j < (sortI a xs).length := by rw [← e]; exact hj
    have eg : (srtL xs a)[j] = (sortI a xs)[j] := by simp [e]
    rw [eg]
    refine ⟨?_, by rw [List.getD_eq_getElem?_getD, List.getElem?_eq_getElem hj']; rfl, sort_mem xs _ (List.getElem_mem hj')⟩
    rw [List.all_eq_true] at hs
    unfold gapOk
    rw [ha, hs _ (List.getElem_mem hj')]; rfl
  obtain ⟨k1, k2, _⟩ := key i (by omega)
  obtain ⟨k4, k5, k6⟩ := key (i + 1) hi
  refine ⟨k1, k4, ?_, k6⟩
  have g1 : gapV a ((srtL xs a)[i]'(by omega)) = gapI a ((srtL xs a)[i]'(by omega)) := if_pos k1
  have g2 : gapV a (srtL xs a)[i + 1] = gapI a (srtL xs a)[i + 1] := if_pos k4
  rw [g1, g2, k2, k5]
  exact hA

theorem cnt_ge {a x : Int} : ∀ (xs : List Int) (m : Int), (m ≤ xs.foldl (fun c x => max c (gapI a x + 1)) m) ∧ (x ∈ xs → gapI a x + 1 ≤ xs.foldl (fun c x => max c (gapI a x + 1)) m)
  | [], m => ⟨Int.le_refl _, fun h => by cases h⟩
  | y :: xs, m => by
    have ih := cnt_ge (a := a) (x := x) xs (max m (gapI a y + 1))
    simp only [List.foldl_cons]
    refine ⟨by omega, fun h => ?_⟩
    rcases List.mem_cons.1 h with rfl | h
    · omega
    · exact ih.2 h
theorem best_in (xs : List Int) : ∀ k, k ≤ xs.length → (k = 0 ∧ bestI xs k = (0, 65537)) ∨ ((bestI xs k).1 ∈ xs ∧ (bestI xs k).2 = cntI (bestI xs k).1 xs)
  | 0, _ => .inl ⟨rfl, rfl⟩
  | k + 1, hk => by
    have hk' : k < xs.length := by omega
    have ih := best_in xs k (by omega)
    have e := best_take hk' rfl
    right
    rw [e]
    obtain ⟨c0, c1⟩ := cnt_bd xs[k] xs
    by_cases hc : cntI xs[k] xs < (bestI xs k).2 ∨ (cntI xs[k] xs = (bestI xs k).2 ∧ xs[k] < (bestI xs k).1)
    · have : bestStep xs (bestI xs k) xs[k] = (xs[k], cntI xs[k] xs) := if_pos hc
      rw [this]
      exact ⟨List.getElem_mem hk', rfl⟩
    · have : bestStep xs (bestI xs k) xs[k] = bestI xs k := if_neg hc
      rw [this]
      rcases ih with ⟨_, h2⟩ | h
      · exfalso; apply hc; left; rw [h2]; show _ < (65537 : Int); omega
      · exact h
theorem so_in {xs : List Int} (hok : soOk xs = true) : (soV xs).1 ∈ xs ∧ ∀ x ∈ xs, spanOk x (soV xs).1 (soV xs).2 = true ∧ spanV x (soV xs).1 (soV xs).2 = true := by
  have hne : xs ≠ [] := by intro e; rw [e] at hok; cases hok
  have hall : xs.all serB = true := by unfold soOk listOk at hok; simp only [Bool.and_eq_true] at hok; exact hok.2.2
  rw [soV_yes hok]
  rcases best_in xs xs.length (Nat.le_refl _) with ⟨h0, _⟩ | ⟨h1, h2⟩
  · exact absurd (List.eq_nil_of_length_eq_zero h0) hne
  · refine ⟨h1, fun x hx => ?_⟩
    rw [List.all_eq_true] at hall
    have s1 := hall _ h1
    have s2 := hall _ hx
    obtain ⟨c0, c1⟩ := cnt_bd (bestI xs xs.length).1 xs
    have hge : gapI (bestI xs xs.length).1 x + 1 ≤ cntI (bestI xs xs.length).1 xs := (cnt_ge xs 0).2 hx
    have ok : spanOk x (bestI xs xs.length).1 (bestI xs xs.length).2 = true := by
      unfold spanOk
      rw [s1, s2, h2, inB_yes c0 c1]; rfl
    refine ⟨ok, ?_⟩
    unfold spanV
    rw [ok, Bool.true_and]
    apply decide_eq_true
    rw [h2]
    omega
end Go.Proofs.Ytfdpjgjclbnnfaa
