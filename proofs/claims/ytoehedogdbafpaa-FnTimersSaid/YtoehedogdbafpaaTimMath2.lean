/-
  Timers: where a timer goes in a list in order, sorting by the ticks at which timers are due. No program.
-/
import Derived.Test.YtoehedogdbafpaaTimMath
import Derived.Test.YtoehedogdbafpaaSortG
namespace Go.Proofs.Ytoehedogdbafpaa
set_option linter.unusedVariables false

/-- How many timers of a list in order have a smaller number. -/
def plc (xs : List Tm) (a : Int) : Nat := (xs.takeWhile (fun x => decide (x.i < a))).length
theorem tw_app (a : Int) (A B : List Tm) (hA : ∀ x ∈ A, x.i < a) (hB : ∀ x ∈ B, ¬ x.i < a) : (A ++ B).takeWhile (fun x => decide (x.i < a)) = A ∧ (A ++ B).dropWhile (fun x => decide (x.i < a)) = B := by
  induction A with
  | nil =>
    cases B with
    | nil => exact ⟨rfl, rfl⟩
    | cons b B =>
      have hb := hB b (List.mem_cons_self ..)
      rw [List.nil_append, List.takeWhile_cons, List.dropWhile_cons, decide_eq_false hb]; exact ⟨rfl, rfl⟩
  | cons x A ih =>
    have hx := hA x (List.mem_cons_self ..)
    obtain ⟨i1, i2⟩ := ih (fun y hy => hA y (List.mem_cons_of_mem _ hy))
    rw [List.cons_append, List.takeWhile_cons, List.dropWhile_cons, decide_eq_true hx]
    exact ⟨by simp [i1], by simp [i2]⟩
theorem plc_le (xs : List Tm) (a : Int) : plc xs a ≤ xs.length := by
  have e := congrArg List.length (List.takeWhile_append_dropWhile (p := fun x : Tm => decide (x.i < a)) (l := xs))
  rw [List.length_append] at e
  unfold plc; omega
theorem plc_at {xs : List Tm} {a : Int} {p : Nat} (hp : p ≤ xs.length) (h1 : ∀ j (h : j < xs.length), j < p → xs[j].i < a) (h2 : ∀ j (h : j < xs.length), p ≤ j → ¬ xs[j].i < a) : plc xs a = p := by
  have e := (tw_app a (xs.take p) (xs.drop p) (fun x hx => by
    obtain ⟨j, hj, rfl⟩ := List.getElem_of_mem hx
    rw [List.length_take] at hj
    rw [List.getElem_take]
    exact h1 j (by omega) (by omega)) (fun x hx => by
    obtain ⟨j, hj, rfl⟩ := List.getElem_of_mem hx
    rw [List.length_drop] at hj
    rw [List.getElem_drop]
    exact h2 (p + j) (by omega) (by omega))).1
  rw [List.take_append_drop] at e
  unfold plc
  rw [e, List.length_take]; omega
theorem plc_facts {xs : List Tm} (h : Asc xs) (a : Int) : (∀ x ∈ xs.take (plc xs a), x.i < a) ∧ ∀ x ∈ xs.drop (plc xs a), ¬ x.i < a := by
  have key : ∀ ys : List Tm, Asc ys → (ys.take (plc ys a) = ys.takeWhile (fun x => decide (x.i < a)) ∧ ys.drop (plc ys a) = ys.dropWhile (fun x => decide (x.i < a))) ∧ (∀ x ∈ ys.takeWhile (fun x => decide (x.i < a)), x.i < a) ∧ ∀ x ∈ ys.dropWhile (fun x => decide (x.i < a)), ¬ x.i < a := by
    intro ys
    induction ys with
    | nil => intro _; exact ⟨⟨rfl, rfl⟩, fun x hx => (List.not_mem_nil hx).elim, fun x hx => (List.not_mem_nil hx).elim⟩
    | cons y ys ih =>
      intro hy
      obtain ⟨h1, h2⟩ := List.pairwise_cons.1 hy
      by_cases hlt : y.i < a
      · obtain ⟨⟨e1, e2⟩, e3, e4⟩ := ih h2
        unfold plc at e1 e2 ⊢
        rw [List.takeWhile_cons, List.dropWhile_cons, decide_eq_true hlt]
        simp only [if_true, List.length_cons, List.take_succ_cons, List.drop_succ_cons]
        exact ⟨⟨by rw [e1], e2⟩, fun x hx => (List.mem_cons.1 hx).elim (fun e => e ▸ hlt) (fun hx => e3 x hx), e4⟩
      · unfold plc
        rw [List.takeWhile_cons, List.dropWhile_cons, decide_eq_false hlt]
        simp only [Bool.false_eq_true, if_false, List.length_nil, List.take_zero, List.drop_zero, true_and]
        refine ⟨fun x hx => (List.not_mem_nil hx).elim, fun x hx => ?_⟩
        rcases List.mem_cons.1 hx with rfl | hx
        · exact hlt
        · have := h1 x hx; omega
  obtain ⟨⟨e1, e2⟩, e3, e4⟩ := key xs h
  exact ⟨by rw [e1]; exact e3, by rw [e2]; exact e4⟩
/-- Whether the timer at that place has the number. -/
def fnd (xs : List Tm) (a : Int) : Bool := match xs[plc xs a]? with | some t => decide (t.i = a) | none => false
theorem fnd_yes {xs : List Tm} {a : Int} (h : fnd xs a = true) : ∃ hp : plc xs a < xs.length, xs[plc xs a].i = a := by
  unfold fnd at h
  split at h
  · rename_i t ht
    obtain ⟨hp, e⟩ := List.getElem?_eq_some_iff.1 ht
    exact ⟨hp, by rw [e]; exact of_decide_eq_true h⟩
  · cases h
theorem fnd_no {xs : List Tm} {a : Int} (h : fnd xs a = false) (hp : plc xs a < xs.length) : xs[plc xs a].i ≠ a := by
  unfold fnd at h
  rw [List.getElem?_eq_getElem hp] at h
  exact of_decide_eq_false h
theorem split_at {xs : List Tm} {p : Nat} (hp : p < xs.length) : xs = xs.take p ++ xs[p] :: xs.drop (p + 1) := by
  rw [← List.drop_eq_getElem_cons hp, List.take_append_drop]
theorem fnd_fndN {xs : List Tm} (h : Asc xs) (a : Int) : fndN xs a = if fnd xs a = true then (plc xs a : Int) else -1 := by
  obtain ⟨f1, f2⟩ := plc_facts h a
  cases hf : fnd xs a with
  | true =>
    obtain ⟨hp, e⟩ := fnd_yes hf
    rw [if_pos rfl]
    refine fnd_hit _ xs hp e (fun j hj => ?_)
    have := f1 (xs[j]'(by omega)) (by rw [List.mem_take_iff_getElem]; exact ⟨j, by omega, rfl⟩)
    omega
  | false =>
    rw [if_neg (by simp)]
    refine fnd_none (fun t ht => ?_)
    obtain ⟨j, hj, rfl⟩ := List.getElem_of_mem ht
    by_cases hjp : j < plc xs a
    · have := f1 xs[j] (by rw [List.mem_take_iff_getElem]; exact ⟨j, by omega, rfl⟩)
      omega
    · have hp : plc xs a < xs.length := by omega
      have h1 := fnd_no hf hp
      have h2 := f2 xs[plc xs a] (by rw [List.mem_drop_iff_getElem]; exact ⟨0, by omega, by simp⟩)
      by_cases e : j = plc xs a
      · subst e; exact h1
      · have := List.pairwise_iff_getElem.1 h (plc xs a) j hp hj (by omega)
        omega
theorem wo_at {xs : List Tm} (h : Asc xs) {a : Int} (hf : fnd xs a = true) : wo xs a = xs.take (plc xs a) ++ xs.drop (plc xs a + 1) := by
  obtain ⟨hp, e⟩ := fnd_yes hf
  obtain ⟨f1, f2⟩ := plc_facts h a
  have hs := split_at hp
  have ha : ∀ x ∈ xs.drop (plc xs a + 1), x.i ≠ a := fun x hx => by
    obtain ⟨j, hj, rfl⟩ := List.getElem_of_mem hx
    rw [List.length_drop] at hj
    rw [List.getElem_drop]
    have := List.pairwise_iff_getElem.1 h (plc xs a) (plc xs a + 1 + j) hp (by omega) (by omega)
    omega
  have e1 : wo (xs.take (plc xs a)) a = xs.take (plc xs a) := wo_none (fun t ht => by have := f1 t ht; omega)
  have e2 : wo (xs.drop (plc xs a + 1)) a = xs.drop (plc xs a + 1) := wo_none ha
  conv => lhs; rw [hs]
  unfold wo at e1 e2 ⊢
  rw [List.filter_append, e1, List.filter_cons_of_neg (by simp [e]), e2]
theorem put_at {xs : List Tm} (h : Asc xs) (t : Tm) : putT xs t = xs.take (plc xs t.i) ++ [t] ++ xs.drop (if fnd xs t.i = true then plc xs t.i + 1 else plc xs t.i) := by
  obtain ⟨f1, f2⟩ := plc_facts h t.i
  cases hf : fnd xs t.i with
  | true =>
    rw [if_pos rfl]
    obtain ⟨hp, e⟩ := fnd_yes hf
    unfold putT
    rw [wo_at h hf]
    obtain ⟨e1, e2⟩ := tw_app t.i (xs.take (plc xs t.i)) (xs.drop (plc xs t.i + 1)) f1 (fun x hx => f2 x (by
      rw [List.drop_eq_getElem_cons hp]; exact List.mem_cons_of_mem _ hx))
    rw [e1, e2]; simp
  | false =>
    rw [if_neg (by simp)]
    have hn : ∀ x ∈ xs, x.i ≠ t.i := fun x hx => by
      have h0 := fnd_fndN h t.i
      rw [hf, if_neg (by simp)] at h0
      intro e
      have := (fnd_mem h hx).1
      rw [e] at this
      omega
    unfold putT
    rw [wo_none hn]
    obtain ⟨e1, e2⟩ := tw_app t.i (xs.take (plc xs t.i)) (xs.drop (plc xs t.i)) f1 f2
    rw [List.take_append_drop] at e1 e2
    rw [e1, e2]; simp
/-! ### Sorting -/
def ltD (x y : Tm) : Bool := decide (x.d < y.d)
def lex (x y : Tm) : Prop := x.d < y.d ∨ (x.d = y.d ∧ x.i < y.i)
theorem insD_sorted {os : List Tm} {x : Tm} (h : os.Pairwise lex) (hi : ∀ y ∈ os, y.i < x.i) : (insG ltD os x).Pairwise lex := by
  unfold insG
  obtain ⟨p, hp⟩ : ∃ p, p = posG ltD x os os.length := ⟨_, rfl⟩
  rw [← hp]
  have hhi : ∀ j (hj : j < os.length), p ≤ j → x.d < os[j].d := fun j hj h1 => of_decide_eq_true (posG_hi (lt := ltD) os.length (Nat.le_refl _) j hj (hp ▸ h1) hj)
  have hlo : ∀ j (hj : j < os.length), j + 1 = p → os[j].d ≤ x.d := fun j hj h1 => by
    have := of_decide_eq_false (posG_lo (lt := ltD) os.length (Nat.le_refl _) j hj (h1.trans hp))
    omega
  have hpw := List.pairwise_iff_getElem.1 h
  have hlo2 : ∀ j (hj : j < os.length), j < p → os[j].d ≤ x.d := fun j hj h1 => by
    have hple : p ≤ os.length := hp ▸ posG_le ltD x os os.length
    by_cases e : j + 1 = p
    · exact hlo j hj e
    · have h3 := hpw j (p - 1) hj (by omega) (by omega)
      have := hlo (p - 1) (by omega) (by omega)
      unfold lex at h3
      omega
  rw [List.pairwise_append]
  refine ⟨h.sublist (List.take_sublist ..), List.pairwise_cons.2 ⟨fun b hb => ?_, h.sublist (List.drop_sublist ..)⟩, fun a ha b hb => ?_⟩
  · obtain ⟨i, hi2, rfl⟩ := List.getElem_of_mem hb
    rw [List.length_drop] at hi2
    rw [List.getElem_drop]
    exact .inl (hhi (p + i) (by omega) (by omega))
  · obtain ⟨i, hi2, rfl⟩ := List.getElem_of_mem ha
    rw [List.length_take] at hi2
    rw [List.getElem_take]
    rcases List.mem_cons.1 hb with rfl | hb
    · have h1 := hlo2 i (by omega) (by omega)
      have h2 := hi os[i] (List.getElem_mem _)
      unfold lex; omega
    · obtain ⟨j, hj, rfl⟩ := List.getElem_of_mem hb
      rw [List.length_drop] at hj
      rw [List.getElem_drop]
      exact hpw i (p + j) (by omega) (by omega) (by omega)
theorem sortD_sorted {xs : List Tm} (h : Asc xs) : (sortG ltD xs).Pairwise lex := by
  have key : ∀ (l os : List Tm), Asc l → os.Pairwise lex → (∀ x ∈ l, ∀ y ∈ os, y.i < x.i) → (l.foldl (insG ltD) os).Pairwise lex := by
    intro l
    induction l with
    | nil => intro os _ h _; exact h
    | cons x l ih =>
      intro os hl ho hx
      obtain ⟨h1, h2⟩ := List.pairwise_cons.1 hl
      rw [List.foldl_cons]
      refine ih _ h2 (insD_sorted ho (fun y hy => hx x (List.mem_cons_self ..) y hy)) (fun z hz y hy => ?_)
      rcases List.mem_cons.1 ((insG_perm ltD os x).mem_iff.1 hy) with rfl | hy
      · exact h1 z hz
      · exact hx z (List.mem_cons_of_mem _ hz) y hy
  exact key xs [] h List.Pairwise.nil (fun x _ y hy => by cases hy)
theorem lex_unique : ∀ (xs ys : List Tm), xs.Perm ys → xs.Pairwise lex → ys.Pairwise lex → xs = ys
  | [], ys, h, _, _ => by have := h.length_eq; exact (List.length_eq_zero_iff.1 (by simpa using this.symm)).symm
  | x :: xs, [], h, _, _ => by have := h.length_eq; simp at this
  | x :: xs, y :: ys, h, h1, h2 => by
    obtain ⟨a1, a2⟩ := List.pairwise_cons.1 h1
    obtain ⟨b1, b2⟩ := List.pairwise_cons.1 h2
    have hxy : x = y := by
      have hx := h.mem_iff.1 (List.mem_cons_self .. : x ∈ x :: xs)
      have hy := h.mem_iff.2 (List.mem_cons_self .. : y ∈ y :: ys)
      rcases List.mem_cons.1 hx with e | hx
      · exact e
      · rcases List.mem_cons.1 hy with e | hy
        · exact e.symm
        · have h3 := a1 y hy
          have h4 := b1 x hx
          unfold lex at h3 h4
          omega
    subst hxy
    rw [lex_unique xs ys (List.Perm.cons_inv h) a2 b2]
theorem fst_lex {xs : List Tm} (h : Asc xs) {t : Tm} (ht : t ∈ xs) (hn : t.i ≠ (fstT xs).i) : lex (fstT xs) t := by
  obtain ⟨k, hk, rfl⟩ := mem_getD ht
  obtain ⟨g1, g2⟩ := fstN_law xs xs.length (by omega)
  obtain ⟨m1, m2⟩ := g2 k hk
  by_cases hlt : k < fstN xs xs.length
  · exact .inl (m2 hlt)
  · have hne : k ≠ fstN xs xs.length := fun e => hn (by unfold fstT fstI; rw [e])
    have := List.pairwise_iff_getElem.1 h (fstN xs xs.length) k g1 hk (by omega)
    have e1 : fstT xs = xs[fstN xs xs.length] := by unfold fstT fstI; rw [List.getD_eq_getElem?_getD, List.getElem?_eq_getElem g1]; rfl
    have e2 : xs.getD k tm0 = xs[k] := by rw [List.getD_eq_getElem?_getD, List.getElem?_eq_getElem hk]; rfl
    have e3 : (fstT xs).d ≤ (xs.getD k tm0).d := m1
    rw [e2] at e3 ⊢
    unfold lex
    rw [e1] at e3 ⊢
    omega
theorem wo_perm {xs : List Tm} (h : Asc xs) {t : Tm} (ht : t ∈ xs) : (t :: wo xs t.i).Perm xs := by
  induction xs with
  | nil => cases ht
  | cons x xs ih =>
    obtain ⟨h1, h2⟩ := List.pairwise_cons.1 h
    rcases List.mem_cons.1 ht with rfl | ht
    · have e : wo (t :: xs) t.i = wo xs t.i := by unfold wo; simp
      rw [e, wo_none (fun y hy => by have := h1 y hy; omega)]
    · have hlt := h1 t ht
      have e : wo (x :: xs) t.i = x :: wo xs t.i := by unfold wo; rw [List.filter_cons_of_pos (by simp; omega)]
      rw [e]
      exact (List.Perm.swap x t _).trans ((ih h2 ht).cons x)
theorem sortD_cons {xs : List Tm} (h : Asc xs) (hne : xs ≠ []) : sortG ltD xs = fstT xs :: sortG ltD (wo xs (fstT xs).i) := by
  have hm := fst_mem hne
  refine lex_unique _ _ ?_ (sortD_sorted h) (List.pairwise_cons.2 ⟨fun t ht => ?_, sortD_sorted (wo_asc h _)⟩)
  · exact (sortG_perm ltD xs).trans ((wo_perm h hm).symm.trans ((sortG_perm ltD _).symm.cons _))
  · obtain ⟨t1, t2⟩ := mem_wo.1 ((sortG_perm ltD _).mem_iff.1 ht)
    exact fst_lex h t1 t2
theorem due_sorted (now : Int) : ∀ (n : Nat) (xs : List Tm), xs.length ≤ n → Asc xs → dueL xs now = ((sortG ltD xs).filter (fun t => decide (t.d ≤ now))).map (·.i)
  | 0, xs, hn, _ => by
    have e : xs = [] := List.length_eq_zero_iff.1 (by omega)
    subst e; rfl
  | n + 1, xs, hn, h => by
    cases hd : isDue xs now with
    | true =>
      obtain ⟨hne, hle⟩ := isDue_iff.1 hd
      have hlt := wo_lt (fst_mem hne)
      rw [due_yes hd, sortD_cons h hne, List.filter_cons_of_pos (by simpa using hle), List.map_cons, due_sorted now n _ (by omega) (wo_asc h _)]
    | false =>
      rw [due_no hd]
      have e : (sortG ltD xs).filter (fun t => decide (t.d ≤ now)) = [] := by
        rw [List.filter_eq_nil_iff]
        intro t ht hle
        have hm := (sortG_perm ltD xs).mem_iff.1 ht
        have : isDue xs now = true := isDue_ex.2 ⟨t, hm, of_decide_eq_true hle⟩
        rw [hd] at this; cases this
      rw [e]; rfl
theorem fire_at {xs : List Tm} (h : tsOk xs = true) {t : Tm} (ht : t ∈ xs) : stopOk xs t.i = true ∧ fireV xs t.i = fireT xs t := by
  obtain ⟨g1, g2⟩ := fnd_mem (tsOk_iff.1 h).2.1 ht
  have hs : stopOk xs t.i = true := stopOk_iff.2 ⟨h, g1⟩
  refine ⟨hs, ?_⟩
  unfold fireV
  rw [if_pos hs, g2]
/-- What is still to fire, and what has. -/
def RunI (xs : List Tm) (now : Int) (ys : List Tm) (fs : List Int) : Prop := tsOk ys = true ∧ ∃ m, m + fs.length = 50 ∧ runR xs now = (runN m ys now).map (fun r => (r.1, fs ++ r.2))
theorem runI_start {xs : List Tm} {now : Int} (h : dueOk xs now = true) : RunI xs now xs [] := by
  have hv : tsOk xs = true := by unfold dueOk at h; exact (Bool.and_eq_true_iff.1 h).1
  refine ⟨hv, 50, rfl, ?_⟩
  unfold runR
  rw [if_pos h]
  cases runN 50 xs now <;> simp
theorem runI_len {xs ys : List Tm} {now : Int} {fs : List Int} (h : RunI xs now ys fs) : fs.length ≤ 50 := by obtain ⟨_, m, hm, _⟩ := h; omega
theorem runI_end {xs ys : List Tm} {now : Int} {fs : List Int} (h : RunI xs now ys fs) (hd : isDue ys now = false) : runOk xs now = true ∧ runV xs now = ys ∧ runF xs now = fs := by
  obtain ⟨_, m, _, e⟩ := h
  rw [run_no hd] at e
  unfold runOk runV runF
  rw [e]; simp
theorem runI_fail {xs ys : List Tm} {now : Int} {fs : List Int} (h : RunI xs now ys fs) (hd : isDue ys now = true) (hl : fs.length = 50) : runOk xs now = false ∧ runV xs now = [] ∧ runF xs now = [] := by
  obtain ⟨_, m, hm, e⟩ := h
  have h0 : m = 0 := by omega
  subst h0
  rw [run_end hd] at e
  unfold runOk runV runF
  rw [e]; simp
theorem runI_step {xs ys : List Tm} {now : Int} {fs : List Int} (h : RunI xs now ys fs) (hd : isDue ys now = true) (hl : ¬ fs.length = 50) : RunI xs now (fireT ys (fstT ys)) (fs ++ [(fstT ys).i]) := by
  obtain ⟨hv, m, hm, e⟩ := h
  obtain ⟨k, rfl⟩ : ∃ k, m = k + 1 := ⟨m - 1, by omega⟩
  refine ⟨fire_ok hv (fst_mem (isDue_iff.1 hd).1), k, by simp; omega, ?_⟩
  rw [e, run_yes hd]
  cases runN k (fireT ys (fstT ys)) now <;> simp
theorem run_none {xs : List Tm} {now : Int} (h : dueOk xs now = false) : runOk xs now = false ∧ runV xs now = [] ∧ runF xs now = [] := by
  have e : runR xs now = none := by unfold runR; rw [h]; rfl
  unfold runOk runV runF
  rw [e]; simp
/-- A measure of what is still to fire. -/
theorem runI_lt {fs : List Int} (h : fs.length ≤ 50) (hn : ¬ fs.length = 50) : 50 - (fs.length + 1) < 50 - fs.length := by omega
end Go.Proofs.Ytoehedogdbafpaa
