/-
  Timers: mathematics. No program.
-/
namespace Go.Proofs.Ytoehedogdbafpaa
set_option linter.unusedVariables false

/-- A timer: its number, the tick at which it is due, its period. -/
structure Tm where
  i : Int
  d : Int
  p : Int
def tm0 : Tm := ⟨0, 0, 0⟩
def tk (x : Int) : Bool := decide (0 ≤ x ∧ x ≤ 10000)
theorem tk_iff {x : Int} : tk x = true ↔ 0 ≤ x ∧ x ≤ 10000 := by unfold tk; rw [decide_eq_true_eq]
theorem tk_no {x : Int} (h : ¬ (0 ≤ x ∧ x ≤ 10000)) : tk x = false := by
  cases e : tk x with
  | false => rfl
  | true => exact absurd (tk_iff.1 e) h
def tmOk (t : Tm) : Bool := decide (1 ≤ t.i ∧ t.i ≤ 99) && (tk t.d && tk t.p)
theorem tmOk_iff {t : Tm} : tmOk t = true ↔ (1 ≤ t.i ∧ t.i ≤ 99) ∧ (0 ≤ t.d ∧ t.d ≤ 10000) ∧ (0 ≤ t.p ∧ t.p ≤ 10000) := by
  unfold tmOk
  rw [Bool.and_eq_true, Bool.and_eq_true, tk_iff, tk_iff, decide_eq_true_eq]
theorem tmOk_no {t : Tm} (h : ¬ ((1 ≤ t.i ∧ t.i ≤ 99) ∧ (0 ≤ t.d ∧ t.d ≤ 10000) ∧ (0 ≤ t.p ∧ t.p ≤ 10000))) : tmOk t = false := by
  cases e : tmOk t with
  | false => rfl
  | true => exact absurd (tmOk_iff.1 e) h
def Asc (xs : List Tm) : Prop := xs.Pairwise (fun a b => a.i < b.i)
instance (xs : List Tm) : Decidable (Asc xs) := by unfold Asc; infer_instance
/-- Whether a list is valid. -/
def tsOk (xs : List Tm) : Bool := xs.all tmOk && (decide (Asc xs) && decide (xs.length ≤ 10))
theorem tsOk_iff {xs : List Tm} : tsOk xs = true ↔ (∀ t ∈ xs, tmOk t = true) ∧ Asc xs ∧ xs.length ≤ 10 := by
  unfold tsOk
  rw [Bool.and_eq_true, Bool.and_eq_true, decide_eq_true_eq, decide_eq_true_eq, List.all_eq_true]
theorem tsOk_no {xs : List Tm} (h : ¬ ((∀ t ∈ xs, tmOk t = true) ∧ Asc xs ∧ xs.length ≤ 10)) : tsOk xs = false := by
  cases e : tsOk xs with
  | false => rfl
  | true => exact absurd (tsOk_iff.1 e) h
/-- Neighbours that ascend make a list that ascends. -/
theorem asc_adj : ∀ (n : Nat) (xs : List Tm), xs.length = n → (∀ k (h : k + 1 < xs.length), xs[k].i < xs[k + 1].i) → Asc xs
  | 0, xs, hn, _ => by
    obtain rfl : xs = [] := List.length_eq_zero_iff.1 hn
    exact List.Pairwise.nil
  | 1, xs, hn, _ => by
    obtain ⟨x, rfl⟩ := List.length_eq_one_iff.1 hn
    exact List.pairwise_singleton _ _
  | n + 2, xs, hn, h => by
    match xs, hn with
    | x :: y :: rest, hn =>
      have ih := asc_adj (n + 1) (y :: rest) (by simpa using hn) (fun k hk => by have := h (k + 1) (by simpa using hk); simpa using this)
      have hxy : x.i < y.i := by simpa using h 0 (by simp)
      refine List.Pairwise.cons ?_ ih
      intro z hz
      rcases List.mem_cons.1 hz with rfl | hz
      · exact hxy
      · have := (List.pairwise_cons.1 ih).1 z hz
        omega
theorem adj_asc {xs : List Tm} (h : Asc xs) {k : Nat} (hk : k + 1 < xs.length) : xs[k].i < xs[k + 1].i := List.pairwise_iff_getElem.1 h k (k + 1) (by omega) hk (by omega)
/-- A list without the timer with a number. -/
def wo (xs : List Tm) (a : Int) : List Tm := xs.filter (fun t => decide (t.i ≠ a))
theorem wo_snoc (xs : List Tm) (t : Tm) (a : Int) : wo (xs ++ [t]) a = if t.i = a then wo xs a else wo xs a ++ [t] := by
  unfold wo
  rw [List.filter_append]
  by_cases h : t.i = a
  · rw [if_pos h]; simp [h]
  · rw [if_neg h]; simp [h]
theorem mem_wo {xs : List Tm} {a : Int} {t : Tm} : t ∈ wo xs a ↔ t ∈ xs ∧ t.i ≠ a := by unfold wo; simp
theorem wo_len (xs : List Tm) (a : Int) : (wo xs a).length ≤ xs.length := List.length_filter_le _ _
theorem wo_asc {xs : List Tm} (h : Asc xs) (a : Int) : Asc (wo xs a) := List.Pairwise.sublist List.filter_sublist h
theorem wo_ok {xs : List Tm} (h : tsOk xs = true) (a : Int) : tsOk (wo xs a) = true := by
  obtain ⟨h1, h2, h3⟩ := tsOk_iff.1 h
  have := wo_len xs a
  exact tsOk_iff.2 ⟨fun t ht => h1 t (mem_wo.1 ht).1, wo_asc h2 a, by omega⟩
theorem wo_none {xs : List Tm} {a : Int} (h : ∀ t ∈ xs, t.i ≠ a) : wo xs a = xs := by
  unfold wo
  exact List.filter_eq_self.2 (fun t ht => decide_eq_true (h t ht))
theorem wo_one {xs : List Tm} (h : Asc xs) {t : Tm} (ht : t ∈ xs) : (wo xs t.i).length + 1 = xs.length := by
  induction xs with
  | nil => cases ht
  | cons x xs ih =>
    obtain ⟨h1, h2⟩ := List.pairwise_cons.1 h
    rcases List.mem_cons.1 ht with rfl | ht
    · have e : wo (t :: xs) t.i = wo xs t.i := by unfold wo; simp
      rw [e, wo_none (fun y hy => by have := h1 y hy; omega)]; rfl
    · have hlt := h1 t ht
      have e : wo (x :: xs) t.i = x :: wo xs t.i := by
        unfold wo
        rw [List.filter_cons_of_pos (by simp; omega)]
      rw [e]
      have := ih h2 ht
      simp only [List.length_cons]
      omega
/-- A timer is put into a list. -/
def putT (xs : List Tm) (t : Tm) : List Tm := (wo xs t.i).takeWhile (fun x => decide (x.i < t.i)) ++ t :: (wo xs t.i).dropWhile (fun x => decide (x.i < t.i))
theorem mem_putT {xs : List Tm} {t x : Tm} : x ∈ putT xs t ↔ x = t ∨ (x ∈ xs ∧ x.i ≠ t.i) := by
  unfold putT
  rw [List.mem_append, List.mem_cons, ← mem_wo]
  have e : x ∈ wo xs t.i ↔ x ∈ (wo xs t.i).takeWhile (fun y => decide (y.i < t.i)) ∨ x ∈ (wo xs t.i).dropWhile (fun y => decide (y.i < t.i)) := by
    rw [← List.mem_append, List.takeWhile_append_dropWhile]
  rw [e]
  constructor
  · rintro (h | h | h)
    · exact .inr (.inl h)
    · exact .inl h
    · exact .inr (.inr h)
  · rintro (h | h | h)
    · exact .inr (.inl h)
    · exact .inl h
    · exact .inr (.inr h)
theorem put_len (xs : List Tm) (t : Tm) : (putT xs t).length = (wo xs t.i).length + 1 := by
  have e := congrArg List.length (List.takeWhile_append_dropWhile (p := fun x : Tm => decide (x.i < t.i)) (l := wo xs t.i))
  rw [List.length_append] at e
  unfold putT
  rw [List.length_append, List.length_cons]
  omega
theorem drop_ge (a : Int) : ∀ (xs : List Tm), Asc xs → (∀ t ∈ xs, t.i ≠ a) → ∀ t ∈ xs.dropWhile (fun x => decide (x.i < a)), a < t.i
  | [], _, _, t, ht => by cases ht
  | x :: xs, h, hn, t, ht => by
    obtain ⟨h1, h2⟩ := List.pairwise_cons.1 h
    by_cases hx : x.i < a
    · rw [List.dropWhile_cons, if_pos (decide_eq_true hx)] at ht
      exact drop_ge a xs h2 (fun y hy => hn y (List.mem_cons_of_mem _ hy)) t ht
    · rw [List.dropWhile_cons, if_neg (by simpa using hx)] at ht
      have hxn := hn x (List.mem_cons_self ..)
      rcases List.mem_cons.1 ht with rfl | ht
      · omega
      · have := h1 t ht; omega
theorem take_lt (a : Int) (xs : List Tm) : ∀ t ∈ xs.takeWhile (fun x => decide (x.i < a)), t.i < a := by
  induction xs with
  | nil => intro t ht; cases ht
  | cons x xs ih =>
    intro t ht
    by_cases hx : x.i < a
    · rw [List.takeWhile_cons, decide_eq_true hx] at ht
      rcases List.mem_cons.1 ht with rfl | ht
      · exact hx
      · exact ih t ht
    · rw [List.takeWhile_cons, decide_eq_false hx] at ht
      cases ht
theorem put_asc {xs : List Tm} (h : Asc xs) (t : Tm) : Asc (putT xs t) := by
  have hw := wo_asc h t.i
  have hn : ∀ x ∈ wo xs t.i, x.i ≠ t.i := fun x hx => (mem_wo.1 hx).2
  unfold putT Asc
  have h1 := take_lt t.i (wo xs t.i)
  have h2 := drop_ge t.i (wo xs t.i) hw hn
  refine List.pairwise_append.2 ⟨List.Pairwise.sublist (List.takeWhile_sublist _) hw, List.pairwise_cons.2 ⟨fun y hy => h2 y hy, List.Pairwise.sublist (List.dropWhile_sublist _) hw⟩, ?_⟩
  intro x hx y hy
  have hx1 := h1 x hx
  rcases List.mem_cons.1 hy with rfl | hy
  · exact hx1
  · have := h2 y hy; omega
theorem put_ok {xs : List Tm} (h : tsOk xs = true) {t u : Tm} (ht : tmOk t = true) (hu : u ∈ xs) (hi : u.i = t.i) : tsOk (putT xs t) = true := by
  obtain ⟨h1, h2, h3⟩ := tsOk_iff.1 h
  refine tsOk_iff.2 ⟨?_, put_asc h2 t, ?_⟩
  · intro x hx
    rcases mem_putT.1 hx with rfl | hx
    · exact ht
    · exact h1 x hx.1
  · have := wo_one h2 hu
    rw [put_len, ← hi]
    omega
/-- The index of a timer, or -1. -/
def fndN : List Tm → Int → Int
  | [], _ => -1
  | t :: ts, a => if t.i = a then 0 else if fndN ts a < 0 then -1 else fndN ts a + 1
theorem fnd_none {a : Int} : ∀ {xs : List Tm}, (∀ t ∈ xs, t.i ≠ a) → fndN xs a = -1
  | [], _ => rfl
  | t :: ts, h => by
    unfold fndN
    rw [if_neg (h t (List.mem_cons_self ..)), fnd_none (fun x hx => h x (List.mem_cons_of_mem _ hx))]
    rfl
theorem fnd_hit {a : Int} : ∀ (k : Nat) (xs : List Tm) (hk : k < xs.length), xs[k].i = a → (∀ j (hj : j < k), (xs[j]'(by omega)).i ≠ a) → fndN xs a = k
  | _, [], hk, _, _ => absurd hk (Nat.not_lt_zero _)
  | 0, t :: ts, _, h, _ => by
    unfold fndN
    exact if_pos h
  | k + 1, t :: ts, hk, h, hj => by
    have h0 : t.i ≠ a := hj 0 (by omega)
    have ih := fnd_hit k ts (by simpa using hk) (by simpa using h) (fun j hj2 => by have := hj (j + 1) (by omega); simpa using this)
    unfold fndN
    rw [if_neg h0, ih, if_neg (by omega)]
    omega
theorem fnd_bd (a : Int) : ∀ (xs : List Tm), -1 ≤ fndN xs a ∧ fndN xs a < xs.length
  | [] => by unfold fndN; simp
  | t :: ts => by
    have := fnd_bd a ts
    unfold fndN
    simp only [List.length_cons]
    split
    · omega
    · split <;> omega
theorem fnd_get {a : Int} : ∀ (xs : List Tm), 0 ≤ fndN xs a → (xs.getD (fndN xs a).toNat tm0) ∈ xs ∧ (xs.getD (fndN xs a).toNat tm0).i = a
  | [], h => by unfold fndN at h; omega
  | t :: ts, h => by
    unfold fndN at h ⊢
    by_cases h0 : t.i = a
    · rw [if_pos h0] at h ⊢
      exact ⟨by simp, h0⟩
    · rw [if_neg h0] at h ⊢
      by_cases h1 : fndN ts a < 0
      · rw [if_pos h1] at h; omega
      · rw [if_neg h1] at h ⊢
        have ih := fnd_get (a := a) ts (by omega)
        rw [show (fndN ts a + 1).toNat = (fndN ts a).toNat + 1 by omega, List.getD_cons_succ]
        exact ⟨List.mem_cons_of_mem _ ih.1, ih.2⟩
theorem asc_eq {xs : List Tm} (h : Asc xs) {x y : Tm} (hx : x ∈ xs) (hy : y ∈ xs) (e : x.i = y.i) : x = y := by
  induction xs with
  | nil => cases hx
  | cons z zs ih =>
    obtain ⟨h1, h2⟩ := List.pairwise_cons.1 h
    rcases List.mem_cons.1 hx with rfl | hx
    · rcases List.mem_cons.1 hy with rfl | hy
      · rfl
      · have := h1 y hy; omega
    · rcases List.mem_cons.1 hy with e2 | hy
      · have := h1 x hx; rw [e2] at e; omega
      · exact ih h2 hx hy
theorem fnd_mem {xs : List Tm} (h : Asc xs) {t : Tm} (ht : t ∈ xs) : 0 ≤ fndN xs t.i ∧ xs.getD (fndN xs t.i).toNat tm0 = t := by
  have h0 : 0 ≤ fndN xs t.i := by
    by_cases hc : 0 ≤ fndN xs t.i
    · exact hc
    · exfalso
      have key : ∀ (ys : List Tm), t ∈ ys → 0 ≤ fndN ys t.i := by
        intro ys
        induction ys with
        | nil => intro hy; cases hy
        | cons y ys ih =>
          intro hy
          unfold fndN
          by_cases e : y.i = t.i
          · rw [if_pos e]; omega
          · rw [if_neg e]
            rcases List.mem_cons.1 hy with rfl | hy
            · exact absurd rfl e
            · have := ih hy
              rw [if_neg (by omega)]; omega
      exact hc (key xs ht)
  obtain ⟨g1, g2⟩ := fnd_get xs h0
  exact ⟨h0, asc_eq h g1 ht g2⟩
/-- The index of the timer that fires first, among the first n. -/
def fstN (xs : List Tm) (n : Nat) : Nat := (List.range n).foldl (fun b k => if (xs.getD k tm0).d < (xs.getD b tm0).d then k else b) 0
theorem fstN_zero (xs : List Tm) : fstN xs 0 = 0 := rfl
theorem fstN_one (xs : List Tm) : fstN xs 1 = 0 := by
  unfold fstN
  simp
theorem fstN_succ (xs : List Tm) (n : Nat) : fstN xs (n + 1) = if (xs.getD n tm0).d < (xs.getD (fstN xs n) tm0).d then n else fstN xs n := by
  unfold fstN
  rw [List.range_succ, List.foldl_append]
  rfl
def fstI (xs : List Tm) : Nat := fstN xs xs.length
def fstT (xs : List Tm) : Tm := xs.getD (fstI xs) tm0
theorem fstN_law (xs : List Tm) : ∀ (n : Nat), 0 < n → fstN xs n < n ∧ ∀ j, j < n → (xs.getD (fstN xs n) tm0).d ≤ (xs.getD j tm0).d ∧ (j < fstN xs n → (xs.getD (fstN xs n) tm0).d < (xs.getD j tm0).d)
  | 0, h => absurd h (Nat.lt_irrefl _)
  | 1, _ => by
    rw [fstN_one]
    refine ⟨by omega, fun j hj => ?_⟩
    have hj0 : j = 0 := by omega
    subst hj0
    exact ⟨Int.le_refl _, fun h => absurd h (Nat.lt_irrefl _)⟩
  | n + 2, _ => by
    obtain ⟨h1, h2⟩ := fstN_law xs (n + 1) (by omega)
    rw [fstN_succ]
    by_cases hc : (xs.getD (n + 1) tm0).d < (xs.getD (fstN xs (n + 1)) tm0).d
    · rw [if_pos hc]
      refine ⟨by omega, fun j hj => ?_⟩
      by_cases hj2 : j = n + 1
      · rw [hj2]; exact ⟨Int.le_refl _, fun h => absurd h (Nat.lt_irrefl _)⟩
      · have := (h2 j (by omega)).1
        exact ⟨by omega, fun _ => by omega⟩
    · rw [if_neg hc]
      refine ⟨by omega, fun j hj => ?_⟩
      by_cases hj2 : j = n + 1
      · rw [hj2]; exact ⟨by omega, fun h => by omega⟩
      · exact h2 j (by omega)
theorem getD_mem {xs : List Tm} {k : Nat} (h : k < xs.length) : xs.getD k tm0 ∈ xs := by
  rw [List.getD_eq_getElem?_getD, List.getElem?_eq_getElem h]
  exact List.getElem_mem h
theorem mem_getD {xs : List Tm} {t : Tm} (h : t ∈ xs) : ∃ k, k < xs.length ∧ xs.getD k tm0 = t := by
  obtain ⟨k, hk, e⟩ := List.getElem_of_mem h
  exact ⟨k, hk, by rw [List.getD_eq_getElem?_getD, List.getElem?_eq_getElem hk]; exact e⟩
theorem fst_lt {xs : List Tm} (h : xs ≠ []) : fstI xs < xs.length := (fstN_law xs xs.length (List.length_pos_iff.2 h)).1
theorem fst_mem {xs : List Tm} (h : xs ≠ []) : fstT xs ∈ xs := getD_mem (fst_lt h)
theorem fst_min {xs : List Tm} {t : Tm} (ht : t ∈ xs) : (fstT xs).d ≤ t.d := by
  obtain ⟨k, hk, rfl⟩ := mem_getD ht
  exact ((fstN_law xs xs.length (by omega)).2 k hk).1
/-- Whether a timer is due. -/
def isDue (xs : List Tm) (now : Int) : Bool := !xs.isEmpty && decide ((fstT xs).d ≤ now)
theorem isDue_iff {xs : List Tm} {now : Int} : isDue xs now = true ↔ xs ≠ [] ∧ (fstT xs).d ≤ now := by
  unfold isDue
  rw [Bool.and_eq_true, decide_eq_true_eq]
  cases xs <;> simp
theorem isDue_ex {xs : List Tm} {now : Int} : isDue xs now = true ↔ ∃ t ∈ xs, t.d ≤ now := by
  rw [isDue_iff]
  constructor
  · rintro ⟨h1, h2⟩; exact ⟨_, fst_mem h1, h2⟩
  · rintro ⟨t, ht, h⟩
    have := fst_min ht
    exact ⟨(fun e => by rw [e] at ht; cases ht), by omega⟩
/-- The numbers of the timers that are due, in their order. -/
def dueN : Nat → List Tm → Int → List Int
  | 0, _, _ => []
  | n + 1, xs, now => if isDue xs now = true then (fstT xs).i :: dueN n (wo xs (fstT xs).i) now else []
def dueL (xs : List Tm) (now : Int) : List Int := dueN xs.length xs now
theorem due_no {xs : List Tm} {now : Int} (h : isDue xs now = false) : dueL xs now = [] := by
  unfold dueL
  cases e : xs.length with
  | zero => rfl
  | succ n => unfold dueN; rw [h]; rfl
theorem wo_lt {xs : List Tm} {t : Tm} (ht : t ∈ xs) : (wo xs t.i).length < xs.length := by
  induction xs with
  | nil => cases ht
  | cons x xs ih =>
    have hle := wo_len xs t.i
    have hc : (wo (x :: xs) t.i) = if x.i = t.i then wo xs t.i else x :: wo xs t.i := by
      unfold wo
      by_cases e : x.i = t.i
      · rw [if_pos e, List.filter_cons_of_neg (by simp [e])]
      · rw [if_neg e, List.filter_cons_of_pos (by simp [e])]
    rw [hc]
    by_cases e : x.i = t.i
    · rw [if_pos e, List.length_cons]; omega
    · rw [if_neg e]
      rcases List.mem_cons.1 ht with rfl | ht
      · exact absurd rfl e
      · have := ih ht
        simp only [List.length_cons]
        omega
theorem dueN_len (now : Int) : ∀ (n : Nat) (xs : List Tm), xs.length ≤ n → dueN n xs now = dueL xs now := by
  intro n
  induction n with
  | zero =>
    intro xs h
    unfold dueL
    rw [show xs.length = 0 by omega]
  | succ n ih =>
    intro xs h
    cases hd : isDue xs now with
    | false =>
      rw [due_no hd]
      unfold dueN
      rw [hd]; rfl
    | true =>
      have hm := fst_mem (isDue_iff.1 hd).1
      have hl := wo_lt hm
      unfold dueL
      cases e : xs.length with
      | zero => omega
      | succ m =>
        have key : ∀ k ys, ys.length ≤ k → k ≤ n → dueN k ys now = dueL ys now := by
          intro k
          induction k with
          | zero =>
            intro ys hy _
            unfold dueL
            rw [show ys.length = 0 by omega]
          | succ k ihk =>
            intro ys hy hkn
            by_cases hk : k + 1 = n
            · rw [hk]; exact ih ys (by omega)
            · have h1 := ih ys (by omega)
              have : ∀ a b (zs : List Tm), zs.length ≤ a → a ≤ b → dueN a zs now = dueN b zs now := by
                intro a
                induction a with
                | zero =>
                  intro b zs hz _
                  obtain rfl : zs = [] := List.length_eq_zero_iff.1 (by omega)
                  cases b with
                  | zero => rfl
                  | succ b => rfl
                | succ a iha =>
                  intro b zs hz hab
                  cases b with
                  | zero => omega
                  | succ b =>
                    unfold dueN
                    cases hdz : isDue zs now with
                    | false => rfl
                    | true =>
                      have hmz := wo_lt (fst_mem (isDue_iff.1 hdz).1)
                      rw [if_pos rfl, if_pos rfl, iha b _ (by omega) (by omega)]
              rw [this (k + 1) n ys hy (by omega)]
              exact h1
        show dueN (n + 1) xs now = dueN (m + 1) xs now
        unfold dueN
        rw [hd, if_pos rfl, if_pos rfl, ih _ (by omega), key m _ (by omega) (by omega)]
theorem due_yes {xs : List Tm} {now : Int} (h : isDue xs now = true) : dueL xs now = (fstT xs).i :: dueL (wo xs (fstT xs).i) now := by
  have hm := fst_mem (isDue_iff.1 h).1
  have hl := wo_lt hm
  unfold dueL
  cases e : xs.length with
  | zero => omega
  | succ n =>
    show dueN (n + 1) xs now = _
    rw [show dueN (n + 1) xs now = (if isDue xs now = true then (fstT xs).i :: dueN n (wo xs (fstT xs).i) now else []) from rfl, if_pos h, dueN_len now n _ (by omega)]
    rfl
theorem mem_due {now : Int} : ∀ (n : Nat) (xs : List Tm), xs.length ≤ n → ∀ a, a ∈ dueL xs now → ∃ t ∈ xs, t.i = a ∧ t.d ≤ now := by
  intro n
  induction n with
  | zero =>
    intro xs h a ha
    obtain rfl : xs = [] := List.length_eq_zero_iff.1 (by omega)
    cases ha
  | succ n ih =>
    intro xs h a ha
    cases hd : isDue xs now with
    | false => rw [due_no hd] at ha; cases ha
    | true =>
      have hm := fst_mem (isDue_iff.1 hd).1
      have hl := wo_lt hm
      rw [due_yes hd] at ha
      rcases List.mem_cons.1 ha with rfl | ha
      · exact ⟨_, hm, rfl, (isDue_iff.1 hd).2⟩
      · obtain ⟨t, ht, h1, h2⟩ := ih _ (by omega) a ha
        exact ⟨t, (mem_wo.1 ht).1, h1, h2⟩
theorem due_len {now : Int} : ∀ (n : Nat) (xs : List Tm), xs.length ≤ n → Asc xs → (dueL xs now).length = (xs.filter (fun t => decide (t.d ≤ now))).length := by
  intro n
  induction n with
  | zero =>
    intro xs h _
    obtain rfl : xs = [] := List.length_eq_zero_iff.1 (by omega)
    rfl
  | succ n ih =>
    intro xs h ha
    cases hd : isDue xs now with
    | false =>
      rw [due_no hd, List.filter_eq_nil_iff.2 (fun t ht => by
        intro e
        have : isDue xs now = true := isDue_ex.2 ⟨t, ht, of_decide_eq_true e⟩
        rw [hd] at this; cases this)]
      rfl
    | true =>
      have hm := fst_mem (isDue_iff.1 hd).1
      have hl := wo_lt hm
      rw [due_yes hd, List.length_cons, ih _ (by omega) (wo_asc ha _)]
      have hdue := (isDue_iff.1 hd).2
      generalize fstT xs = t at hm hdue
      clear hd hl h
      induction xs with
      | nil => cases hm
      | cons x xs ihx =>
        obtain ⟨h1, h2⟩ := List.pairwise_cons.1 ha
        rcases List.mem_cons.1 hm with rfl | hm
        · have e : wo (t :: xs) t.i = xs := by
            unfold wo
            rw [List.filter_cons_of_neg (by simp)]
            exact wo_none (fun y hy => by have := h1 y hy; omega)
          rw [e, List.filter_cons_of_pos (by simpa using hdue)]
          rfl
        · have hlt := h1 t hm
          have e : wo (x :: xs) t.i = x :: wo xs t.i := by
            unfold wo
            rw [List.filter_cons_of_pos (by simp; omega)]
          have ihv := ihx h2 hm
          rw [e]
          by_cases hx : x.d ≤ now
          · rw [List.filter_cons_of_pos (by simpa using hx), List.filter_cons_of_pos (by simpa using hx), List.length_cons, List.length_cons, ihv]
          · rw [List.filter_cons_of_neg (by simpa using hx), List.filter_cons_of_neg (by simpa using hx), ihv]
/-- Letting the timer at an index fire. -/
def fireT (xs : List Tm) (t : Tm) : List Tm := if t.p = 0 ∨ 10000 < t.d + t.p then wo xs t.i else putT xs ⟨t.i, t.d + t.p, t.p⟩
theorem fire_ok {xs : List Tm} (h : tsOk xs = true) {t : Tm} (ht : t ∈ xs) : tsOk (fireT xs t) = true := by
  have htv := tmOk_iff.1 ((tsOk_iff.1 h).1 t ht)
  unfold fireT
  by_cases hc : t.p = 0 ∨ 10000 < t.d + t.p
  · rw [if_pos hc]; exact wo_ok h _
  · rw [if_neg hc]
    exact put_ok (t := ⟨t.i, t.d + t.p, t.p⟩) h (tmOk_iff.2 ⟨htv.1, ⟨by show 0 ≤ t.d + t.p; omega, by show t.d + t.p ≤ 10000; omega⟩, htv.2.2⟩) ht rfl
theorem fire_keep {xs : List Tm} {t u : Tm} (hu : u ∈ xs) (hn : u.i ≠ t.i) : u ∈ fireT xs t := by
  unfold fireT
  by_cases hc : t.p = 0 ∨ 10000 < t.d + t.p
  · rw [if_pos hc]; exact mem_wo.2 ⟨hu, hn⟩
  · rw [if_neg hc]; exact mem_putT.2 (.inr ⟨hu, hn⟩)
/-- Letting timers fire, n of them at most: the list and the numbers. -/
def runN : Nat → List Tm → Int → Option (List Tm × List Int)
  | 0, xs, now => if isDue xs now = true then none else some (xs, [])
  | n + 1, xs, now => if isDue xs now = true then (runN n (fireT xs (fstT xs)) now).map (fun r => (r.1, (fstT xs).i :: r.2)) else some (xs, [])
theorem run_no {n : Nat} {xs : List Tm} {now : Int} (h : isDue xs now = false) : runN n xs now = some (xs, []) := by
  cases n <;> (unfold runN; rw [h]; rfl)
theorem run_yes {n : Nat} {xs : List Tm} {now : Int} (h : isDue xs now = true) : runN (n + 1) xs now = (runN n (fireT xs (fstT xs)) now).map (fun r => (r.1, (fstT xs).i :: r.2)) := by
  show (if isDue xs now = true then _ else _) = _
  rw [if_pos h]
theorem run_end {xs : List Tm} {now : Int} (h : isDue xs now = true) : runN 0 xs now = none := by
  show (if isDue xs now = true then _ else _) = _
  rw [if_pos h]
theorem run_law {now : Int} : ∀ (n : Nat) (xs ys : List Tm) (fs : List Int), tsOk xs = true → runN n xs now = some (ys, fs) →
    tsOk ys = true ∧ isDue ys now = false ∧ fs.length ≤ n ∧ (∀ t ∈ xs, t.d ≤ now → t.i ∈ fs) ∧ (xs.filter (fun t => decide (t.d ≤ now))).length ≤ fs.length := by
  intro n
  induction n with
  | zero =>
    intro xs ys fs hv h
    cases hd : isDue xs now with
    | true => rw [run_end hd] at h; cases h
    | false =>
      rw [run_no hd] at h
      injection h with h
      injection h with h1 h2
      subst h1
      subst h2
      have hno : ∀ t ∈ xs, ¬ t.d ≤ now := fun t ht e => by
        have : isDue xs now = true := isDue_ex.2 ⟨t, ht, e⟩
        rw [hd] at this; cases this
      exact ⟨hv, hd, Nat.le_refl _, fun t ht e => absurd e (hno t ht), by rw [List.filter_eq_nil_iff.2 (fun t ht e => hno t ht (of_decide_eq_true e))]; exact Nat.le_refl _⟩
  | succ n ih =>
    intro xs ys fs hv h
    cases hd : isDue xs now with
    | false =>
      rw [run_no hd] at h
      injection h with h
      injection h with h1 h2
      subst h1
      subst h2
      have hno : ∀ t ∈ xs, ¬ t.d ≤ now := fun t ht e => by
        have : isDue xs now = true := isDue_ex.2 ⟨t, ht, e⟩
        rw [hd] at this; cases this
      exact ⟨hv, hd, Nat.zero_le _, fun t ht e => absurd e (hno t ht), by rw [List.filter_eq_nil_iff.2 (fun t ht e => hno t ht (of_decide_eq_true e))]; exact Nat.le_refl _⟩
    | true =>
      have hm := fst_mem (isDue_iff.1 hd).1
      rw [run_yes hd] at h
      cases hr : runN n (fireT xs (fstT xs)) now with
      | none => rw [hr] at h; cases h
      | some r =>
        obtain ⟨zs, gs⟩ := r
        rw [hr] at h
        injection h with h
        injection h with h1 h2
        subst h1
        subst h2
        obtain ⟨i1, i2, i3, i4, i5⟩ := ih _ _ _ (fire_ok hv hm) hr
        refine ⟨i1, i2, by simpa using i3, ?_, ?_⟩
        · intro t ht e
          by_cases hc : t.i = (fstT xs).i
          · rw [hc]; exact List.mem_cons_self ..
          · exact List.mem_cons_of_mem _ (i4 t (fire_keep ht hc) e)
        · rw [List.length_cons]
          have hcnt : (xs.filter (fun t => decide (t.d ≤ now))).length ≤ ((fireT xs (fstT xs)).filter (fun t => decide (t.d ≤ now))).length + 1 := by
            have hsub : (wo xs (fstT xs).i).filter (fun t => decide (t.d ≤ now)) = wo (xs.filter (fun t => decide (t.d ≤ now))) (fstT xs).i := by
              unfold wo
              rw [List.filter_filter, List.filter_filter]
              congr 1
              funext t
              rw [Bool.and_comm]
            have hw : (xs.filter (fun t => decide (t.d ≤ now))).length ≤ ((wo xs (fstT xs).i).filter (fun t => decide (t.d ≤ now))).length + 1 := by
              rw [hsub]
              have hmem : fstT xs ∈ xs.filter (fun t => decide (t.d ≤ now)) := List.mem_filter.2 ⟨hm, decide_eq_true (isDue_iff.1 hd).2⟩
              have := wo_one (List.Pairwise.sublist List.filter_sublist (tsOk_iff.1 hv).2.1 : Asc (xs.filter (fun t => decide (t.d ≤ now)))) hmem
              omega
            refine Nat.le_trans hw (Nat.succ_le_succ ?_)
            unfold fireT
            by_cases hc : (fstT xs).p = 0 ∨ 10000 < (fstT xs).d + (fstT xs).p
            · rw [if_pos hc]; exact Nat.le_refl _
            · rw [if_neg hc]
              refine List.Sublist.length_le (List.Sublist.filter _ ?_)
              unfold putT
              have e := List.takeWhile_append_dropWhile (p := fun x : Tm => decide (x.i < (fstT xs).i)) (l := wo xs (fstT xs).i)
              conv => lhs; rw [← e]
              exact List.Sublist.append (List.Sublist.refl _) (List.sublist_cons_self _ _)
          show _ ≤ gs.length + 1
          omega
/-! ### What the functions give -/
def setOk (xs : List Tm) (t : Tm) : Bool := tsOk xs && tsOk (putT xs t)
def setV (xs : List Tm) (t : Tm) : List Tm := if setOk xs t = true then putT xs t else []
def stopOk (xs : List Tm) (a : Int) : Bool := tsOk xs && decide (0 ≤ fndN xs a)
def stopV (xs : List Tm) (a : Int) : List Tm := if stopOk xs a = true then wo xs a else []
def dueOk (xs : List Tm) (now : Int) : Bool := tsOk xs && tk now
def dueV (xs : List Tm) (now : Int) : List Int := if dueOk xs now = true then dueL xs now else []
def nextOk (xs : List Tm) : Bool := tsOk xs && !xs.isEmpty
def nextT (xs : List Tm) : Tm := if nextOk xs = true then fstT xs else tm0
def fireV (xs : List Tm) (a : Int) : List Tm := if stopOk xs a = true then fireT xs (xs.getD (fndN xs a).toNat tm0) else []
def runR (xs : List Tm) (now : Int) : Option (List Tm × List Int) := if dueOk xs now = true then runN 50 xs now else none
def runOk (xs : List Tm) (now : Int) : Bool := (runR xs now).isSome
def runV (xs : List Tm) (now : Int) : List Tm := ((runR xs now).getD ([], [])).1
def runF (xs : List Tm) (now : Int) : List Int := ((runR xs now).getD ([], [])).2
def tickOk (xs : List Tm) (a now : Int) : Bool := stopOk xs a && tk now
def tickV (xs : List Tm) (a now : Int) : Int := if tickOk xs a now = true then max 0 ((xs.getD (fndN xs a).toNat tm0).d - now) else 0
def backT (t : Tm) (m : Int) : Tm := ⟨t.i, t.d + min (2 * t.p) m, min (2 * t.p) m⟩
def backOk (t : Tm) (m : Int) : Bool := (tmOk t && decide (t.p ≠ 0)) && ((decide (1 ≤ m) && decide (m ≤ 10000)) && (decide (t.p ≤ m) && tmOk (backT t m)))
def backV (t : Tm) (m : Int) : Tm := if backOk t m = true then backT t m else tm0
theorem stopOk_iff {xs : List Tm} {a : Int} : stopOk xs a = true ↔ tsOk xs = true ∧ 0 ≤ fndN xs a := by unfold stopOk; rw [Bool.and_eq_true, decide_eq_true_eq]
/-- What the law asks of many timers that fire. -/
theorem runs_law {xs : List Tm} {now : Int} (h : runOk xs now = true) : dueOk (runV xs now) now = true ∧ dueV (runV xs now) now = [] ∧ tsOk (runV xs now) = true ∧ dueOk xs now = true ∧
    (dueV xs now).length ≤ (runF xs now).length ∧ ((dueV xs now).length = 0 ↔ (runF xs now).length = 0) ∧ (∀ a ∈ dueV xs now, a ∈ runF xs now) ∧ (∀ a as, dueV xs now = a :: as → ∃ bs, runF xs now = a :: bs) ∧ (runF xs now).length ≤ 50 := by
  have hok : dueOk xs now = true := by
    unfold runOk runR at h
    cases e : dueOk xs now with
    | true => rfl
    | false => rw [e] at h; cases h
  have hv : tsOk xs = true ∧ tk now = true := by unfold dueOk at hok; exact Bool.and_eq_true_iff.1 hok
  have hr : runR xs now = runN 50 xs now := if_pos hok
  cases e : runN 50 xs now with
  | none => unfold runOk at h; rw [hr, e] at h; cases h
  | some r =>
    obtain ⟨ys, fs⟩ := r
    have e1 : runV xs now = ys := by unfold runV; rw [hr, e]; rfl
    have e2 : runF xs now = fs := by unfold runF; rw [hr, e]; rfl
    have e3 : dueV xs now = dueL xs now := if_pos hok
    obtain ⟨i1, i2, i3, i4, i5⟩ := run_law 50 xs ys fs hv.1 e
    have hda : dueOk ys now = true := by unfold dueOk; rw [i1, hv.2]; rfl
    have hlen := due_len xs.length xs (Nat.le_refl _) (tsOk_iff.1 hv.1).2.1 (now := now)
    rw [e1, e2, e3]
    refine ⟨hda, ?_, i1, hok, by omega, ?_, ?_, ?_, i3⟩
    · unfold dueV
      rw [if_pos hda]; exact due_no i2
    · constructor
      · intro h0
        cases hd : isDue xs now with
        | true => rw [due_yes hd] at h0; cases h0
        | false =>
          rw [run_no hd] at e
          injection e with e
          injection e with _ e
          rw [← e]; rfl
      · intro h0; omega
    · intro a ha
      obtain ⟨t, ht, rfl, hd⟩ := mem_due xs.length xs (Nat.le_refl _) a ha
      exact i4 t ht hd
    · intro a as ha
      cases hd : isDue xs now with
      | false => rw [due_no hd] at ha; cases ha
      | true =>
        rw [due_yes hd] at ha
        injection ha with ha _
        rw [run_yes hd] at e
        cases hr2 : runN 49 (fireT xs (fstT xs)) now with
        | none => rw [hr2] at e; cases e
        | some r =>
          rw [hr2] at e
          injection e with e
          injection e with _ e
          exact ⟨r.2, by rw [← e, ha]⟩
theorem fnd_wo (xs : List Tm) (a : Int) : fndN (wo xs a) a = -1 := fnd_none (fun t ht => (mem_wo.1 ht).2)
theorem stop_law {xs : List Tm} {a : Int} (h : stopOk xs a = true) : stopV xs a = wo xs a ∧ stopOk (stopV xs a) a = false ∧ (stopV xs a).length + 1 = xs.length := by
  obtain ⟨h1, h2⟩ := stopOk_iff.1 h
  have e : stopV xs a = wo xs a := if_pos h
  obtain ⟨g1, g2⟩ := fnd_get xs h2
  refine ⟨e, ?_, ?_⟩
  · rw [e]
    unfold stopOk
    rw [fnd_wo]
    simp
  · rw [e]
    have := wo_one (tsOk_iff.1 h1).2.1 g1
    rw [g2] at this
    exact this
theorem tick_zero {xs : List Tm} {t : Tm} (hv : tsOk xs = true) (ht : t ∈ xs) : tickOk xs t.i 0 = true ∧ tickV xs t.i 0 = t.d := by
  obtain ⟨g1, g2⟩ := fnd_mem (tsOk_iff.1 hv).2.1 ht
  have hk : tickOk xs t.i 0 = true := by
    unfold tickOk
    rw [stopOk_iff.2 ⟨hv, g1⟩]; rfl
  refine ⟨hk, ?_⟩
  unfold tickV
  rw [if_pos hk, g2]
  have := (tmOk_iff.1 ((tsOk_iff.1 hv).1 t ht)).2.1
  omega
theorem set_law {xs : List Tm} {t : Tm} (h : setOk xs t = true) : setV xs t = putT xs t ∧ tsOk (setV xs t) = true ∧ tickOk (setV xs t) t.i 0 = true ∧ tickV (setV xs t) t.i 0 = t.d := by
  have e : setV xs t = putT xs t := if_pos h
  have hv : tsOk (putT xs t) = true := by unfold setOk at h; exact (Bool.and_eq_true_iff.1 h).2
  rw [e]
  exact ⟨rfl, hv, tick_zero hv (mem_putT.2 (.inl rfl))⟩
theorem fire_law {xs : List Tm} {a : Int} (h : stopOk xs a = true) : tickOk xs a 0 = true ∧ tsOk (fireV xs a) = true ∧ (tickOk (fireV xs a) a 0 = true → tickV xs a 0 < tickV (fireV xs a) a 0) := by
  obtain ⟨h1, h2⟩ := stopOk_iff.1 h
  obtain ⟨g1, g2⟩ := fnd_get xs h2
  have e : fireV xs a = fireT xs (xs.getD (fndN xs a).toNat tm0) := if_pos h
  generalize xs.getD (fndN xs a).toNat tm0 = t at g1 g2 e
  subst g2
  obtain ⟨k1, k2⟩ := tick_zero h1 g1
  rw [e, k2]
  refine ⟨k1, fire_ok h1 g1, ?_⟩
  have htv := tmOk_iff.1 ((tsOk_iff.1 h1).1 t g1)
  have hf := fire_ok h1 g1
  unfold fireT at hf ⊢
  by_cases hc : t.p = 0 ∨ 10000 < t.d + t.p
  · rw [if_pos hc]
    intro hx
    exfalso
    unfold tickOk stopOk at hx
    rw [fnd_wo] at hx
    simp at hx
  · rw [if_neg hc] at hf ⊢
    intro _
    have := (tick_zero hf (mem_putT.2 (.inl rfl))).2
    have e2 : tickV (putT xs ⟨t.i, t.d + t.p, t.p⟩) t.i 0 = t.d + t.p := this
    rw [e2]
    omega
theorem back_law {t : Tm} {m : Int} (h : backOk t m = true) : t.p ≤ (backV t m).p ∧ (backV t m).p ≤ m ∧ (backV t m).d = t.d + (backV t m).p := by
  have e : backV t m = backT t m := if_pos h
  unfold backOk at h
  simp only [Bool.and_eq_true, decide_eq_true_eq] at h
  obtain ⟨⟨h1, h2⟩, ⟨h3, h4⟩, h5, h6⟩ := h
  have := (tmOk_iff.1 h1).2.2
  rw [e]
  refine ⟨?_, ?_, rfl⟩
  · show t.p ≤ min (2 * t.p) m
    omega
  · show min (2 * t.p) m ≤ m
    omega
end Go.Proofs.Ytoehedogdbafpaa
