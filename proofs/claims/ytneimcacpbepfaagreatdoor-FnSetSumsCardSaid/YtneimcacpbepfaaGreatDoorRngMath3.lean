/-
  Sets of numbers as ranges, the program's way: ranges put in order and merged, the common ones, the missing ones. No program.
-/
import Derived.Test.YtneimcacpbepfaaGreatDoorRngMath2
namespace Go.Proofs.YtneimcacpbepfaaGreatDoor
set_option linter.unusedVariables false
set_option linter.unusedSimpArgs false

section
variable {α : Type}
/-- Where x goes among the first k: behind the last one that it is not less than. -/
def posG (lt : α → α → Bool) (x : α) (os : List α) : Nat → Nat
  | 0 => 0
  | k + 1 => match os[k]? with
    | some y => if lt x y = true then posG lt x os k else k + 1
    | none => k + 1
def insG (lt : α → α → Bool) (os : List α) (x : α) : List α := os.take (posG lt x os os.length) ++ (x :: os.drop (posG lt x os os.length))
def sortG (lt : α → α → Bool) (xs : List α) : List α := xs.foldl (insG lt) []

theorem posG_le (lt : α → α → Bool) (x : α) (os : List α) : ∀ k, posG lt x os k ≤ k
  | 0 => Nat.le_refl _
  | k + 1 => by
    unfold posG
    split
    · split
      · have := posG_le lt x os k; omega
      · omega
    · omega
theorem posG_step {lt : α → α → Bool} {x : α} {os : List α} {k : Nat} (h : k < os.length) : posG lt x os (k + 1) = if lt x os[k] = true then posG lt x os k else k + 1 := by
  rw [posG, List.getElem?_eq_getElem h]
theorem insG_len (lt : α → α → Bool) (os : List α) (x : α) : (insG lt os x).length = os.length + 1 := by
  have := posG_le lt x os os.length
  unfold insG
  simp; omega
theorem insG_perm (lt : α → α → Bool) (os : List α) (x : α) : (insG lt os x).Perm (x :: os) := by
  unfold insG
  refine List.perm_middle.trans ?_
  rw [List.take_append_drop]
theorem sortG_perm (lt : α → α → Bool) (xs : List α) : (sortG lt xs).Perm xs := by
  have key : ∀ (l os : List α), (l.foldl (insG lt) os).Perm (os ++ l) := by
    intro l
    induction l with
    | nil => intro os; simp
    | cons x l ih =>
      intro os
      rw [List.foldl_cons]
      refine (ih _).trans ?_
      refine ((insG_perm lt os x).append_right l).trans ?_
      exact List.perm_middle.symm
  have := key xs []
  simpa [sortG] using this
theorem sortG_len (lt : α → α → Bool) (xs : List α) : (sortG lt xs).length = xs.length := (sortG_perm lt xs).length_eq
theorem sortG_take {lt : α → α → Bool} {xs : List α} {k : Nat} (hk : k < xs.length) : sortG lt (xs.take (k + 1)) = insG lt (sortG lt (xs.take k)) xs[k] := by
  unfold sortG
  rw [List.take_succ_eq_append_getElem hk, List.foldl_append]; rfl
theorem sortG_one (lt : α → α → Bool) (xs : List α) : sortG lt (xs.take 1) ++ xs.drop 1 = xs := by
  cases xs with
  | nil => rfl
  | cons x xs => rfl
theorem posG_hi {lt : α → α → Bool} {x : α} {os : List α} : ∀ k, k ≤ os.length → ∀ j (hj : j < os.length), posG lt x os k ≤ j → j < k → lt x os[j] = true
  | 0, _, j, _, _, h => by omega
  | k + 1, hk, j, hj, h1, h2 => by
    rw [posG_step (by omega)] at h1
    split at h1
    · rename_i hlt
      by_cases e : j = k
      · subst e; exact hlt
      · exact posG_hi k (by omega) j hj h1 (by omega)
    · omega
theorem posG_lo {lt : α → α → Bool} {x : α} {os : List α} : ∀ k, k ≤ os.length → ∀ j (hj : j < os.length), j + 1 = posG lt x os k → lt x os[j] = false
  | 0, _, j, _, h => by simp [posG] at h
  | k + 1, hk, j, hj, h1 => by
    rw [posG_step (by omega)] at h1
    split at h1
    · exact posG_lo k (by omega) j hj h1
    · rename_i hlt
      obtain rfl : j = k := by omega
      simpa using hlt
/-- The row while the element x is on its way down. -/
def midG (os : List α) (j : Nat) (x : α) (rest : List α) : List α := os.take j ++ (x :: (os.drop j ++ rest))
theorem midG_x {os : List α} {j : Nat} {x : α} {rest : List α} (hj : j ≤ os.length) : (midG os j x rest)[j]? = some x := by
  unfold midG
  rw [List.getElem?_append_right (by simp; omega)]
  simp [Nat.min_eq_left hj]
theorem midG_y {os : List α} {j : Nat} {x : α} {rest : List α} (hj : j < os.length) : (midG os (j + 1) x rest)[j]? = some os[j] := by
  unfold midG
  rw [List.getElem?_append_left (by simp; omega), List.getElem?_take_of_lt (by omega), List.getElem?_eq_getElem hj]
theorem midG_len {os : List α} {j : Nat} {x : α} {rest : List α} (hj : j ≤ os.length) : (midG os j x rest).length = os.length + 1 + rest.length := by
  unfold midG
  simp; omega
theorem midG_swap {os : List α} {j : Nat} {x : α} {rest : List α} (hj : j < os.length) :
    ((midG os (j + 1) x rest).set (j + 1) os[j]).set j x = midG os j x rest := by
  unfold midG
  rw [List.take_succ_eq_append_getElem hj]
  rw [List.set_append_right _ _ (by simp; omega)]
  rw [List.append_assoc, List.set_append_right _ _ (by simp; omega)]
  have e1 : (os.take j ++ [os[j]]).length = j + 1 := by simp; omega
  have e2 : (os.take j).length = j := by simp; omega
  rw [e1, e2, Nat.sub_self, List.drop_eq_getElem_cons hj]
  simp only [List.set_cons_zero, List.cons_append, List.nil_append, Nat.sub_self]
theorem midG_start {lt : α → α → Bool} {xs : List α} {i : Nat} (hi : i < xs.length) : sortG lt (xs.take i) ++ xs.drop i = midG (sortG lt (xs.take i)) i xs[i] (xs.drop (i + 1)) := by
  have hl : (sortG lt (xs.take i)).length = i := by rw [sortG_len, List.length_take]; omega
  unfold midG
  generalize sortG lt (xs.take i) = os at hl
  have e1 : os.take i = os := List.take_of_length_le (by omega)
  have e2 : os.drop i = [] := List.drop_of_length_le (by omega)
  rw [e1, e2, List.drop_eq_getElem_cons hi, List.nil_append]
theorem midG_end {lt : α → α → Bool} {xs : List α} {i j : Nat} (hi : i < xs.length) (hj : j = posG lt xs[i] (sortG lt (xs.take i)) i) : midG (sortG lt (xs.take i)) j xs[i] (xs.drop (i + 1)) = sortG lt (xs.take (i + 1)) ++ xs.drop (i + 1) := by
  have hl : (sortG lt (xs.take i)).length = i := by rw [sortG_len, List.length_take]; omega
  rw [sortG_take hi]
  unfold midG insG
  rw [hl, ← hj]
  simp
end

/-- Ranges in the order of their first numbers. -/
def ltR (x y : Rg) : Bool := decide (x.1 < y.1)
theorem insR_sorted {os : List Rg} {x : Rg} (h : os.Pairwise (fun a b => a.1 ≤ b.1)) : (insG ltR os x).Pairwise (fun a b => a.1 ≤ b.1) := by
  unfold insG
  obtain ⟨p, hp⟩ : ∃ p, p = posG ltR x os os.length := ⟨_, rfl⟩
  rw [← hp]
  have hhi : ∀ j (hj : j < os.length), p ≤ j → x.1 < os[j].1 := fun j hj h1 => of_decide_eq_true (posG_hi (lt := ltR) os.length (Nat.le_refl _) j hj (hp ▸ h1) hj)
  have hlo : ∀ j (hj : j < os.length), j + 1 = p → os[j].1 ≤ x.1 := fun j hj h1 => by
    have := of_decide_eq_false (posG_lo (lt := ltR) os.length (Nat.le_refl _) j hj (h1.trans hp))
    omega
  have hpw := List.pairwise_iff_getElem.1 h
  have hlo2 : ∀ j (hj : j < os.length), j < p → os[j].1 ≤ x.1 := fun j hj h1 => by
    have hple : p ≤ os.length := hp ▸ posG_le ltR x os os.length
    by_cases e : j + 1 = p
    · exact hlo j hj e
    · have := hpw j (p - 1) hj (by omega) (by omega)
      have := hlo (p - 1) (by omega) (by omega)
      omega
  rw [List.pairwise_append]
  refine ⟨h.sublist (List.take_sublist ..), List.pairwise_cons.2 ⟨fun b hb => ?_, h.sublist (List.drop_sublist ..)⟩, fun a ha b hb => ?_⟩
  · obtain ⟨i, hi, rfl⟩ := List.getElem_of_mem hb
    rw [List.length_drop] at hi
    rw [List.getElem_drop]
    have := hhi (p + i) (by omega) (by omega)
    omega
  · obtain ⟨i, hi, rfl⟩ := List.getElem_of_mem ha
    rw [List.length_take] at hi
    rw [List.getElem_take]
    rcases List.mem_cons.1 hb with rfl | hb
    · exact hlo2 i (by omega) (by omega)
    · obtain ⟨j, hj, rfl⟩ := List.getElem_of_mem hb
      rw [List.length_drop] at hj
      rw [List.getElem_drop]
      exact hpw i (p + j) (by omega) (by omega) (by omega)
theorem sortR_sorted (xs : List Rg) : (sortG ltR xs).Pairwise (fun a b => a.1 ≤ b.1) := by
  have key : ∀ (l os : List Rg), os.Pairwise (fun a b => a.1 ≤ b.1) → (l.foldl (insG ltR) os).Pairwise (fun a b => a.1 ≤ b.1) := by
    intro l
    induction l with
    | nil => intro os h; exact h
    | cons x l ih => intro os h; rw [List.foldl_cons]; exact ih _ (insR_sorted h)
  exact key xs [] List.Pairwise.nil
theorem rgMem_perm {a b : List Rg} (h : a.Perm b) (x : Int) : rgMem a x ↔ rgMem b x :=
  ⟨fun ⟨r, h1, h2⟩ => ⟨r, h.mem_iff.1 h1, h2⟩, fun ⟨r, h1, h2⟩ => ⟨r, h.mem_iff.2 h1, h2⟩⟩

/-- One range more in a list that is drawn up in order. -/
def mrgS (acc : List Rg) (r : Rg) : List Rg :=
  match acc.getLast? with
  | none => acc ++ [r]
  | some l => if l.2 + 1 < r.1 then acc ++ [r] else acc.dropLast ++ [(l.1, max l.2 r.2)]
def mrgG (s : List Rg) : List Rg := s.foldl mrgS []
theorem mrgS_nil (r : Rg) : mrgS [] r = [r] := rfl
theorem mrgS_snoc (acc : List Rg) (l r : Rg) : mrgS (acc ++ [l]) r = if l.2 + 1 < r.1 then acc ++ [l] ++ [r] else acc ++ [(l.1, max l.2 r.2)] := by
  unfold mrgS
  rw [List.getLast?_concat]
  simp only [List.dropLast_concat]
theorem mrg_good : ∀ (s acc : List Rg), rgCh acc → s.Pairwise (fun a b => a.1 ≤ b.1) → (∀ r ∈ s, 0 ≤ r.1 ∧ r.1 ≤ r.2 ∧ r.2 ≤ 65535) → (∀ l ∈ acc, ∀ r ∈ s, l.1 ≤ r.1) →
    rgCh (s.foldl mrgS acc) ∧ ∀ x, rgMem (s.foldl mrgS acc) x ↔ rgMem acc x ∨ rgMem s x
  | [], acc, ha, _, _, _ => ⟨ha, fun x => ⟨.inl, fun h => h.elim id (fun h => absurd h (rgMem_nil x))⟩⟩
  | r :: s, acc, ha, hs, hv, hle => by
    rw [List.foldl_cons]
    obtain ⟨hs1, hs2⟩ := List.pairwise_cons.1 hs
    have hv1 := hv r (List.mem_cons_self ..)
    have key : rgCh (mrgS acc r) ∧ (∀ x, rgMem (mrgS acc r) x ↔ rgMem acc x ∨ (r.1 ≤ x ∧ x ≤ r.2)) ∧ ∀ l ∈ mrgS acc r, l.1 ≤ r.1 := by
      rcases List.eq_nil_or_concat acc with rfl | ⟨pre, l, rfl⟩
      · rw [mrgS_nil]
        refine ⟨rgCh_cons.2 ⟨by simp, hv1, rgCh_nil⟩, fun x => ?_, fun l hl => by simp at hl; subst hl; exact Int.le_refl _⟩
        rw [rgMem_cons]
        exact or_comm
      · rw [List.concat_eq_append] at ha hle ⊢
        have hll := hle l (by simp) r (List.mem_cons_self ..)
        have hlv := ha.2 l (by simp)
        have hpre : rgCh pre := ⟨ha.1.sublist (List.sublist_append_left ..), fun q hq => ha.2 q (List.mem_append.2 (.inl hq))⟩
        have hpl : ∀ q ∈ pre, q.2 + 1 < l.1 := fun q hq => (List.pairwise_append.1 ha.1).2.2 q hq l (by simp)
        rw [mrgS_snoc]
        split
        · rename_i hlt
          refine ⟨rgCh_append ha (rgCh_cons.2 ⟨by simp, hv1, rgCh_nil⟩) (fun q hq y hy => ?_), fun x => ?_, fun q hq => ?_⟩
          · simp at hy; subst hy
            rcases List.mem_append.1 hq with hq | hq
            · have := hpl q hq; omega
            · simp at hq; subst hq; exact hlt
          · rw [rgMem_append, rgMem_cons]
            exact ⟨fun h => h.elim .inl (fun h => h.elim .inr (fun h => absurd h (rgMem_nil x))), fun h => h.elim .inl (fun h => .inr (.inl h))⟩
          · rcases List.mem_append.1 hq with hq | hq
            · exact hle q hq r (List.mem_cons_self ..)
            · simp at hq; subst hq; exact Int.le_refl _
        · rename_i hlt
          refine ⟨rgCh_append hpre (rgCh_cons.2 ⟨by simp, ⟨hlv.1, by show l.1 ≤ max l.2 r.2; omega, by show max l.2 r.2 ≤ 65535; omega⟩, rgCh_nil⟩) (fun q hq y hy => ?_), fun x => ?_, fun q hq => ?_⟩
          · simp at hy; subst hy
            exact hpl q hq
          · rw [rgMem_append, rgMem_append, rgMem_cons, rgMem_cons]
            have n1 := rgMem_nil x
            simp only [n1, or_false]
            show rgMem pre x ∨ (l.1 ≤ x ∧ x ≤ max l.2 r.2) ↔ _
            constructor
            · rintro (h | h)
              · exact .inl (.inl h)
              · by_cases h2 : x ≤ l.2
                · exact .inl (.inr ⟨h.1, h2⟩)
                · exact .inr (by omega)
            · rintro ((h | h) | h)
              · exact .inl h
              · exact .inr (by omega)
              · exact .inr (by omega)
          · rcases List.mem_append.1 hq with hq | hq
            · exact hle q (List.mem_append.2 (.inl hq)) r (List.mem_cons_self ..)
            · simp at hq; subst hq; exact hll
    obtain ⟨k1, k2, k3⟩ := key
    obtain ⟨c, m⟩ := mrg_good s (mrgS acc r) k1 hs2 (fun q hq => hv q (List.mem_cons_of_mem _ hq)) (fun l hl q hq => by
      have := k3 l hl
      have := hs1 q hq
      omega)
    refine ⟨c, fun x => ?_⟩
    rw [m x, k2 x, rgMem_cons, or_assoc]
theorem mrg_union {a b : List Rg} (ha : rgCh a) (hb : rgCh b) : mrgG (sortG ltR (a ++ b)) = unG a b := by
  have hp := sortG_perm ltR (a ++ b)
  obtain ⟨c, m⟩ := mrg_good (sortG ltR (a ++ b)) [] rgCh_nil (sortR_sorted _) (fun r hr => (List.mem_append.1 (hp.mem_iff.1 hr)).elim (ha.2 r) (hb.2 r)) (by simp)
  obtain ⟨c2, m2⟩ := unG_good b a ha hb
  refine rg_ext c c2 (fun x => ?_)
  rw [m2 x]
  show rgMem ((sortG ltR (a ++ b)).foldl mrgS []) x ↔ _
  rw [m x, rgMem_perm hp x, rgMem_append]
  exact ⟨fun h => h.elim (fun h => absurd h (rgMem_nil x)) id, .inr⟩
/-- The common numbers of two ranges. -/
def meetR (x y : Rg) : List Rg := if max x.1 y.1 ≤ min x.2 y.2 then [(max x.1 y.1, min x.2 y.2)] else []
def comG (a b : List Rg) : List Rg := a.flatMap (fun x => b.flatMap (meetR x))
theorem meetR_in {x y z : Rg} (h : z ∈ meetR x y) : z = (max x.1 y.1, min x.2 y.2) ∧ max x.1 y.1 ≤ min x.2 y.2 := by
  unfold meetR at h
  split at h
  · simp at h; exact ⟨h, by assumption⟩
  · cases h
theorem comG_one {x : Rg} (hx : 0 ≤ x.1 ∧ x.1 ≤ x.2 ∧ x.2 ≤ 65535) : ∀ {b : List Rg}, rgCh b → rgCh (b.flatMap (meetR x)) ∧ (∀ y, rgMem (b.flatMap (meetR x)) y ↔ (x.1 ≤ y ∧ y ≤ x.2) ∧ rgMem b y) ∧ ∀ z ∈ b.flatMap (meetR x), x.1 ≤ z.1 ∧ z.2 ≤ x.2
  | [], _ => ⟨rgCh_nil, fun y => ⟨fun h => absurd h (rgMem_nil y), fun h => absurd h.2 (rgMem_nil y)⟩, by simp⟩
  | b :: bs, h => by
    obtain ⟨b1, b2, b3⟩ := rgCh_cons.1 h
    obtain ⟨c, m, l⟩ := comG_one hx b3
    rw [List.flatMap_cons]
    have hm : rgCh (meetR x b) := by
      unfold meetR
      split
      · exact rgCh_cons.2 ⟨by simp, ⟨by show 0 ≤ max x.1 b.1; omega, by assumption, by show min x.2 b.2 ≤ 65535; omega⟩, rgCh_nil⟩
      · exact rgCh_nil
    refine ⟨rgCh_append hm c (fun p hp q hq => ?_), fun y => ?_, fun z hz => ?_⟩
    · obtain ⟨rfl, _⟩ := meetR_in hp
      obtain ⟨r, hr, hq⟩ := List.mem_flatMap.1 hq
      obtain ⟨rfl, _⟩ := meetR_in hq
      have := b1 r hr
      show min x.2 b.2 + 1 < max x.1 r.1
      omega
    · rw [rgMem_append, m y, rgMem_cons]
      have e : rgMem (meetR x b) y ↔ (x.1 ≤ y ∧ y ≤ x.2) ∧ (b.1 ≤ y ∧ y ≤ b.2) := by
        unfold meetR
        split
        · rw [rgMem_cons]
          have n1 := rgMem_nil y
          simp only [n1, or_false]
          omega
        · have n1 := rgMem_nil y
          simp only [n1, false_iff]
          omega
      rw [e]
      constructor
      · rintro (h | h)
        · exact ⟨h.1, .inl h.2⟩
        · exact ⟨h.1, .inr h.2⟩
      · rintro ⟨h1, h | h⟩
        · exact .inl ⟨h1, h⟩
        · exact .inr ⟨h1, h⟩
    · rcases List.mem_append.1 hz with hz | hz
      · obtain ⟨rfl, _⟩ := meetR_in hz
        exact ⟨by show x.1 ≤ max x.1 b.1; omega, by show min x.2 b.2 ≤ x.2; omega⟩
      · exact l z hz
theorem comG_good : ∀ {a b : List Rg}, rgCh a → rgCh b → rgCh (comG a b) ∧ ∀ x, rgMem (comG a b) x ↔ rgMem a x ∧ rgMem b x
  | [], b, _, _ => ⟨rgCh_nil, fun y => ⟨fun h => absurd h (rgMem_nil y), fun h => absurd h.1 (rgMem_nil y)⟩⟩
  | a :: as, b, ha, hb => by
    obtain ⟨a1, a2, a3⟩ := rgCh_cons.1 ha
    obtain ⟨c, m⟩ := comG_good a3 hb
    obtain ⟨c2, m2, l2⟩ := comG_one a2 hb
    have e : comG (a :: as) b = b.flatMap (meetR a) ++ comG as b := by unfold comG; rw [List.flatMap_cons]
    rw [e]
    refine ⟨rgCh_append c2 c (fun p hp q hq => ?_), fun y => ?_⟩
    · have h1 := (l2 p hp).2
      obtain ⟨r, hr, hq⟩ := List.mem_flatMap.1 hq
      have h2 := ((comG_one (a3.2 r hr) hb).2.2 q hq).1
      have := a1 r hr
      omega
    · rw [rgMem_append, m y, m2 y, rgMem_cons]
      constructor
      · rintro (h | h)
        · exact ⟨.inl h.1, h.2⟩
        · exact ⟨.inr h.1, h.2⟩
      · rintro ⟨h | h, h2⟩
        · exact .inl ⟨h, h2⟩
        · exact .inr ⟨h, h2⟩
theorem com_co {a b : List Rg} (ha : rgCh a) (hb : rgCh b) : comG a b = coG a b :=
  rg_ext (comG_good ha hb).1 (coG_good ha hb).1 (fun x => by rw [(comG_good ha hb).2 x, (coG_good ha hb).2 x])
/-- The ranges of the numbers that are missing, from n on. -/
def misG : List Rg → Int → List Rg
  | [], n => if n ≤ 65535 then [(n, 65535)] else []
  | r :: s, n => (if n < r.1 then [(n, r.1 - 1)] else []) ++ misG s (r.2 + 1)
theorem misG_good : ∀ {s : List Rg} {n : Int}, rgCh s → 0 ≤ n → n ≤ 65536 → (∀ r ∈ s, n ≤ r.1) →
    rgCh (misG s n) ∧ (∀ x, rgMem (misG s n) x ↔ (n ≤ x ∧ x ≤ 65535) ∧ ¬ rgMem s x) ∧ ∀ z ∈ misG s n, n ≤ z.1
  | [], n, _, h0, h1, _ => by
    unfold misG
    split
    · refine ⟨rgCh_cons.2 ⟨by simp, ⟨h0, by assumption, Int.le_refl _⟩, rgCh_nil⟩, fun x => ?_, fun z hz => by simp at hz; subst hz; exact Int.le_refl _⟩
      rw [rgMem_cons]
      have n1 := rgMem_nil x
      simp only [n1, or_false, not_false_eq_true, and_true]
    · refine ⟨rgCh_nil, fun x => ?_, by simp⟩
      have n1 := rgMem_nil x
      simp only [n1, false_iff]
      omega
  | r :: s, n, h, h0, h1, hle => by
    obtain ⟨a1, a2, a3⟩ := rgCh_cons.1 h
    have hr := hle r (List.mem_cons_self ..)
    obtain ⟨c, m, l⟩ := misG_good (n := r.2 + 1) a3 (by omega) (by omega) (fun q hq => by have := a1 q hq; omega)
    unfold misG
    have e : rgCh (if n < r.1 then [(n, r.1 - 1)] else []) ∧ (∀ x, rgMem (if n < r.1 then [(n, r.1 - 1)] else []) x ↔ n ≤ x ∧ x < r.1) := by
      split
      · refine ⟨rgCh_cons.2 ⟨by simp, ⟨h0, by show n ≤ r.1 - 1; omega, by show r.1 - 1 ≤ 65535; omega⟩, rgCh_nil⟩, fun x => ?_⟩
        rw [rgMem_cons]
        have n1 := rgMem_nil x
        simp only [n1, or_false]
        omega
      · refine ⟨rgCh_nil, fun x => ?_⟩
        have n1 := rgMem_nil x
        simp only [n1, false_iff]
        omega
    refine ⟨rgCh_append e.1 c (fun p hp q hq => ?_), fun x => ?_, fun z hz => ?_⟩
    · have h2 := l q hq
      split at hp
      · simp at hp; subst hp
        show r.1 - 1 + 1 < q.1
        omega
      · cases hp
    · rw [rgMem_append, e.2 x, m x, rgMem_cons]
      constructor
      · rintro (h | ⟨h, h2⟩)
        · refine ⟨by omega, ?_⟩
          rintro (h2 | h2)
          · omega
          · obtain ⟨q, hq, hq1, hq2⟩ := h2
            have := a1 q hq
            omega
        · refine ⟨by omega, ?_⟩
          rintro (h3 | h3)
          · omega
          · exact h2 h3
      · rintro ⟨h, h2⟩
        by_cases hx : x < r.1
        · exact .inl ⟨h.1, hx⟩
        · refine .inr ⟨⟨?_, h.2⟩, fun h3 => h2 (.inr h3)⟩
          by_cases hx2 : x ≤ r.2
          · exact absurd (.inl ⟨by omega, hx2⟩) h2
          · omega
    · rcases List.mem_append.1 hz with hz | hz
      · split at hz
        · simp at hz; subst hz; exact Int.le_refl _
        · cases hz
      · have := l z hz
        omega
theorem com_wi {a b : List Rg} (ha : rgCh a) (hb : rgCh b) : comG a (misG b 0) = wiG a b := by
  obtain ⟨c, m, _⟩ := misG_good (n := 0) hb (by omega) (by omega) (fun r hr => (hb.2 r hr).1)
  obtain ⟨c2, m2⟩ := comG_good ha c
  obtain ⟨c3, m3⟩ := wiG_good b a ha hb
  refine rg_ext c2 c3 (fun x => ?_)
  rw [m2 x, m3 x, m x]
  exact ⟨fun h => ⟨h.1, h.2.2⟩, fun h => ⟨h.1, rgMem_word ha h.1, h.2⟩⟩
/-- The first missing range that ends at x or behind. -/
def nxM (l : List Rg) (x : Int) : Option Int := match l.find? (fun r => decide (x ≤ r.2)) with
  | none => none
  | some r => some (max x r.1)
theorem nxM_is {l s : List Rg} {x : Int} (hl : rgCh l) (hs : rgCh s) (hm : ∀ y, rgMem l y ↔ (0 ≤ y ∧ y ≤ 65535) ∧ ¬ rgMem s y) (h0 : 0 ≤ x) (h1 : x ≤ 65535) :
    nxM l x = if nextG s x ≤ 65535 then some (nextG s x) else none := by
  have hn := nextG_is s x hs
  have hb := nextG_bd hs h0 h1
  unfold nxM
  cases hf : l.find? (fun r => decide (x ≤ r.2)) with
  | none =>
    have hno := List.find?_eq_none.1 hf
    rw [if_neg]
    intro hle
    obtain ⟨n1, n2, n3⟩ := hn
    obtain ⟨r, hr, hr1, hr2⟩ := (hm (nextG s x)).2 ⟨⟨by omega, hle⟩, n2⟩
    have := hno r hr
    simp only [decide_eq_true_eq] at this
    omega
  | some r =>
    obtain ⟨hr, pre, post, rfl, hpre⟩ := List.find?_eq_some_iff_append.1 hf
    simp only [decide_eq_true_eq] at hr
    have hrv := hl.2 r (by simp)
    have hrm : ∀ y, r.1 ≤ y → y ≤ r.2 → ¬ rgMem s y := fun y hy1 hy2 => ((hm y).1 ⟨r, by simp, hy1, hy2⟩).2
    have hP : nextP s x (max x r.1) := by
      refine ⟨by omega, hrm _ (by omega) (by omega), fun z hz1 hz2 => ?_⟩
      refine Classical.byContradiction fun hz => ?_
      obtain ⟨q, hq, hq1, hq2⟩ := (hm z).2 ⟨⟨by omega, by omega⟩, hz⟩
      rcases List.mem_append.1 hq with hq | hq
      · have := hpre q hq
        simp only [Bool.not_eq_true', decide_eq_false_iff_not] at this
        omega
      · rcases List.mem_cons.1 hq with rfl | hq
        · omega
        · have hpw := (List.pairwise_append.1 hl.1).2.1
          have := (List.pairwise_cons.1 hpw).1 q hq
          omega
    have e := nextP_one hn hP
    rw [if_pos (by rw [e]; omega), e]
end Go.Proofs.YtneimcacpbepfaaGreatDoor
