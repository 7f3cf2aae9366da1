/-
  Sets of numbers as ranges: a set has one list; adding, leaving out, joining; how many numbers. No program.
-/
import Derived.Test.YtejdphfcogfcmaaGreatDoorMath2
namespace Go.Proofs.YtejdphfcogfcmaaGreatDoor
set_option linter.unusedVariables false
set_option linter.unusedSimpArgs false

abbrev Rg := Int × Int
def rgIn (r : Rg) (x : Int) : Prop := r.1 ≤ x ∧ x ≤ r.2
def rgMem (s : List Rg) (x : Int) : Prop := ∃ r ∈ s, r.1 ≤ x ∧ x ≤ r.2
/-- Ranges of words in their order, with a number missing between two. -/
def rgCh (s : List Rg) : Prop := s.Pairwise (fun a b => a.2 + 1 < b.1) ∧ ∀ r ∈ s, 0 ≤ r.1 ∧ r.1 ≤ r.2 ∧ r.2 ≤ 65535
instance (s : List Rg) : Decidable (rgCh s) := by unfold rgCh; infer_instance
def rgOk (s : List Rg) : Bool := decide (rgCh s) && decide (s.length ≤ 10)

theorem rgMem_nil (x : Int) : ¬ rgMem [] x := by rintro ⟨r, h, _⟩; cases h
theorem rgMem_cons (a : Rg) (s : List Rg) (x : Int) : rgMem (a :: s) x ↔ (a.1 ≤ x ∧ x ≤ a.2) ∨ rgMem s x := by
  constructor
  · rintro ⟨r, h, h2⟩
    rcases List.mem_cons.1 h with rfl | h
    · exact .inl h2
    · exact .inr ⟨r, h, h2⟩
  · rintro (h | ⟨r, h, h2⟩)
    · exact ⟨a, List.mem_cons_self .., h⟩
    · exact ⟨r, List.mem_cons_of_mem _ h, h2⟩
theorem rgMem_append (a b : List Rg) (x : Int) : rgMem (a ++ b) x ↔ rgMem a x ∨ rgMem b x := by
  constructor
  · rintro ⟨r, h, h2⟩
    rcases List.mem_append.1 h with h | h
    · exact .inl ⟨r, h, h2⟩
    · exact .inr ⟨r, h, h2⟩
  · rintro (⟨r, h, h2⟩ | ⟨r, h, h2⟩)
    · exact ⟨r, List.mem_append.2 (.inl h), h2⟩
    · exact ⟨r, List.mem_append.2 (.inr h), h2⟩
theorem rgCh_nil : rgCh [] := ⟨List.Pairwise.nil, by simp⟩
theorem rgCh_cons {a : Rg} {s : List Rg} : rgCh (a :: s) ↔ (∀ b ∈ s, a.2 + 1 < b.1) ∧ (0 ≤ a.1 ∧ a.1 ≤ a.2 ∧ a.2 ≤ 65535) ∧ rgCh s := by
  unfold rgCh
  rw [List.pairwise_cons]
  constructor
  · rintro ⟨⟨h1, h2⟩, h3⟩
    exact ⟨h1, h3 a (List.mem_cons_self ..), h2, fun r hr => h3 r (List.mem_cons_of_mem _ hr)⟩
  · rintro ⟨h1, h2, h3, h4⟩
    refine ⟨⟨h1, h3⟩, fun r hr => ?_⟩
    rcases List.mem_cons.1 hr with rfl | hr
    · exact h2
    · exact h4 r hr
theorem rgMem_word {s : List Rg} (h : rgCh s) {x : Int} (hx : rgMem s x) : 0 ≤ x ∧ x ≤ 65535 := by
  obtain ⟨r, hr, h1, h2⟩ := hx
  have := h.2 r hr
  omega
/-- Numbers of the tail lie behind the head. -/
theorem rgMem_tail {a : Rg} {s : List Rg} (h : rgCh (a :: s)) {x : Int} (hx : rgMem s x) : a.2 + 1 < x := by
  obtain ⟨r, hr, h1, h2⟩ := hx
  have := (rgCh_cons.1 h).1 r hr
  omega
/-- A set has only one list. -/
theorem rg_ext : ∀ {a b : List Rg}, rgCh a → rgCh b → (∀ x, rgMem a x ↔ rgMem b x) → a = b
  | [], [], _, _, _ => rfl
  | [], b :: bs, _, hb, h => by
    obtain ⟨_, hv, _⟩ := rgCh_cons.1 hb
    exact absurd ((h b.1).2 ((rgMem_cons ..).2 (.inl ⟨Int.le_refl _, hv.2.1⟩))) (rgMem_nil _)
  | a :: as, [], ha, _, h => by
    obtain ⟨_, hv, _⟩ := rgCh_cons.1 ha
    exact absurd ((h a.1).1 ((rgMem_cons ..).2 (.inl ⟨Int.le_refl _, hv.2.1⟩))) (rgMem_nil _)
  | a :: as, b :: bs, ha, hb, h => by
    obtain ⟨a1, a2, a3⟩ := rgCh_cons.1 ha
    obtain ⟨b1, b2, b3⟩ := rgCh_cons.1 hb
    have m (x : Int) : ((a.1 ≤ x ∧ x ≤ a.2) ∨ rgMem as x) ↔ ((b.1 ≤ x ∧ x ≤ b.2) ∨ rgMem bs x) := by rw [← rgMem_cons, ← rgMem_cons]; exact h x
    have ta {x : Int} (hx : rgMem as x) : a.2 + 1 < x := rgMem_tail ha hx
    have tb {x : Int} (hx : rgMem bs x) : b.2 + 1 < x := rgMem_tail hb hx
    have e1 : a.1 = b.1 := by
      have u : b.1 ≤ a.1 := by
        rcases (m a.1).1 (.inl ⟨Int.le_refl _, a2.2.1⟩) with h | h
        · exact h.1
        · have := tb h; omega
      have v : a.1 ≤ b.1 := by
        rcases (m b.1).2 (.inl ⟨Int.le_refl _, b2.2.1⟩) with h | h
        · exact h.1
        · have := ta h; omega
      omega
    have e2 : a.2 = b.2 := by
      have u : ¬ a.2 < b.2 := by
        intro hlt
        rcases (m (a.2 + 1)).2 (.inl ⟨by omega, by omega⟩) with h | h
        · omega
        · have := ta h; omega
      have v : ¬ b.2 < a.2 := by
        intro hlt
        rcases (m (b.2 + 1)).1 (.inl ⟨by omega, by omega⟩) with h | h
        · omega
        · have := tb h; omega
      omega
    obtain rfl : a = b := Prod.ext e1 e2
    congr 1
    refine rg_ext a3 b3 (fun x => ⟨fun hx => ?_, fun hx => ?_⟩)
    · rcases (m x).1 (.inr hx) with h | h
      · have := ta hx; omega
      · exact h
    · rcases (m x).2 (.inr hx) with h | h
      · have := tb hx; omega
      · exact h

/-- A range added. -/
def addG : List Rg → Rg → List Rg
  | [], r => [r]
  | x :: s, r => if x.2 + 1 < r.1 then x :: addG s r else if r.2 + 1 < x.1 then r :: x :: s else addG s (min r.1 x.1, max r.2 x.2)
theorem addG_low : ∀ (s : List Rg) (r : Rg) (b : Int), (∀ z ∈ s, b < z.1) → b < r.1 → ∀ z ∈ addG s r, b < z.1
  | [], r, b, _, hr, z, hz => by simp [addG] at hz; subst hz; exact hr
  | x :: s, r, b, hs, hr, z, hz => by
    unfold addG at hz
    have hx := hs x (List.mem_cons_self ..)
    have hs' : ∀ z ∈ s, b < z.1 := fun z hz => hs z (List.mem_cons_of_mem _ hz)
    split at hz
    · rcases List.mem_cons.1 hz with rfl | hz
      · exact hx
      · exact addG_low s r b hs' hr z hz
    · split at hz
      · rcases List.mem_cons.1 hz with rfl | hz
        · exact hr
        · exact hs z hz
      · exact addG_low s _ b hs' (by show b < min r.1 x.1; omega) z hz
theorem addG_good : ∀ (s : List Rg) (r : Rg), rgCh s → 0 ≤ r.1 → r.1 ≤ r.2 → r.2 ≤ 65535 →
    rgCh (addG s r) ∧ ∀ x, rgMem (addG s r) x ↔ (r.1 ≤ x ∧ x ≤ r.2) ∨ rgMem s x
  | [], r, _, h0, h1, h2 => by
    refine ⟨rgCh_cons.2 ⟨by simp, ⟨h0, h1, h2⟩, rgCh_nil⟩, fun x => ?_⟩
    exact rgMem_cons r [] x
  | x :: s, r, h, h0, h1, h2 => by
    obtain ⟨a1, a2, a3⟩ := rgCh_cons.1 h
    unfold addG
    split
    · rename_i hlt
      obtain ⟨c, m⟩ := addG_good s r a3 h0 h1 h2
      refine ⟨rgCh_cons.2 ⟨fun b hb => addG_low s r (x.2 + 1) (fun z hz => a1 z hz) hlt b hb, a2, c⟩, fun y => ?_⟩
      rw [rgMem_cons, m y, rgMem_cons]
      exact or_left_comm
    · split
      · rename_i hlt
        refine ⟨rgCh_cons.2 ⟨fun b hb => ?_, ⟨h0, h1, h2⟩, h⟩, fun y => rgMem_cons r (x :: s) y⟩
        rcases List.mem_cons.1 hb with rfl | hb
        · exact hlt
        · have := a1 b hb; omega
      · rename_i n1 n2
        obtain ⟨c, m⟩ := addG_good s (min r.1 x.1, max r.2 x.2) a3 (by show 0 ≤ min r.1 x.1; omega) (by show min r.1 x.1 ≤ max r.2 x.2; omega) (by show max r.2 x.2 ≤ 65535; omega)
        refine ⟨c, fun y => ?_⟩
        rw [m y, rgMem_cons]
        show (min r.1 x.1 ≤ y ∧ y ≤ max r.2 x.2) ∨ _ ↔ _
        constructor
        · rintro (h | h)
          · by_cases hr : r.1 ≤ y ∧ y ≤ r.2
            · exact .inl hr
            · exact .inr (.inl (by omega))
          · exact .inr (.inr h)
        · rintro (h | h | h)
          · exact .inl (by omega)
          · exact .inl (by omega)
          · exact .inr h
/-- A range left out. -/
def cutR (r x : Rg) : List Rg := (if x.1 < r.1 then [(x.1, min x.2 (r.1 - 1))] else []) ++ (if r.2 < x.2 then [(max x.1 (r.2 + 1), x.2)] else [])
def remG (s : List Rg) (r : Rg) : List Rg := s.flatMap (cutR r)
theorem cutR_in (r x : Rg) : ∀ z ∈ cutR r x, x.1 ≤ z.1 ∧ z.2 ≤ x.2 := by
  intro z hz
  unfold cutR at hz
  rcases List.mem_append.1 hz with h | h
  · split at h
    · simp at h; subst h; exact ⟨Int.le_refl _, by show min x.2 (r.1 - 1) ≤ x.2; omega⟩
    · cases h
  · split at h
    · simp at h; subst h; exact ⟨by show x.1 ≤ max x.1 (r.2 + 1); omega, Int.le_refl _⟩
    · cases h
theorem cutR_good {r x : Rg} (hr : r.1 ≤ r.2) (h0 : 0 ≤ x.1) (h1 : x.1 ≤ x.2) (h2 : x.2 ≤ 65535) :
    rgCh (cutR r x) ∧ ∀ y, rgMem (cutR r x) y ↔ (x.1 ≤ y ∧ y ≤ x.2) ∧ ¬ (r.1 ≤ y ∧ y ≤ r.2) := by
  unfold cutR
  split <;> split
  · rename_i a b
    refine ⟨rgCh_cons.2 ⟨?_, ⟨h0, by show x.1 ≤ min x.2 (r.1 - 1); omega, by show min x.2 (r.1 - 1) ≤ 65535; omega⟩, rgCh_cons.2 ⟨by simp, ⟨by show 0 ≤ max x.1 (r.2 + 1); omega, by show max x.1 (r.2 + 1) ≤ x.2; omega, h2⟩, rgCh_nil⟩⟩, fun y => ?_⟩
    · intro b hb
      simp at hb; subst hb
      show min x.2 (r.1 - 1) + 1 < max x.1 (r.2 + 1)
      omega
    · rw [rgMem_append, rgMem_cons, rgMem_cons]
      have n1 := rgMem_nil y
      simp only [n1, or_false]
      omega
  · rename_i a b
    refine ⟨rgCh_cons.2 ⟨by simp, ⟨h0, by show x.1 ≤ min x.2 (r.1 - 1); omega, by show min x.2 (r.1 - 1) ≤ 65535; omega⟩, rgCh_nil⟩, fun y => ?_⟩
    rw [rgMem_append, rgMem_cons]
    have n1 := rgMem_nil y
    simp only [n1, or_false]
    omega
  · rename_i a b
    refine ⟨rgCh_cons.2 ⟨by simp, ⟨by show 0 ≤ max x.1 (r.2 + 1); omega, by show max x.1 (r.2 + 1) ≤ x.2; omega, h2⟩, rgCh_nil⟩, fun y => ?_⟩
    rw [rgMem_append, rgMem_cons]
    have n1 := rgMem_nil y
    simp only [n1, or_false, false_or]
    omega
  · rename_i a b
    refine ⟨rgCh_nil, fun y => ?_⟩
    have n1 := rgMem_nil y
    rw [rgMem_append]
    simp only [n1, or_false, false_iff]
    omega
theorem rgCh_append {a b : List Rg} (ha : rgCh a) (hb : rgCh b) (h : ∀ x ∈ a, ∀ y ∈ b, x.2 + 1 < y.1) : rgCh (a ++ b) :=
  ⟨List.pairwise_append.2 ⟨ha.1, hb.1, h⟩, fun r hr => (List.mem_append.1 hr).elim (ha.2 r) (hb.2 r)⟩
theorem remG_good : ∀ (s : List Rg) (r : Rg), rgCh s → r.1 ≤ r.2 → rgCh (remG s r) ∧ ∀ x, rgMem (remG s r) x ↔ rgMem s x ∧ ¬ (r.1 ≤ x ∧ x ≤ r.2)
  | [], r, _, _ => ⟨rgCh_nil, fun x => ⟨fun h => absurd h (rgMem_nil x), fun h => absurd h.1 (rgMem_nil x)⟩⟩
  | a :: s, r, h, hr => by
    obtain ⟨a1, a2, a3⟩ := rgCh_cons.1 h
    obtain ⟨c, m⟩ := remG_good s r a3 hr
    obtain ⟨c2, m2⟩ := cutR_good hr a2.1 a2.2.1 a2.2.2
    have e : remG (a :: s) r = cutR r a ++ remG s r := by unfold remG; rw [List.flatMap_cons]
    rw [e]
    refine ⟨rgCh_append c2 c (fun x hx y hy => ?_), fun x => ?_⟩
    · have h1 := (cutR_in r a x hx).2
      unfold remG at hy
      obtain ⟨z, hz, hyz⟩ := List.mem_flatMap.1 hy
      have h2 := (cutR_in r z y hyz).1
      have := a1 z hz
      omega
    · rw [rgMem_append, m x, m2 x, rgMem_cons]
      constructor
      · rintro (h | h)
        · exact ⟨.inl h.1, h.2⟩
        · exact ⟨.inr h.1, h.2⟩
      · rintro ⟨h | h, h2⟩
        · exact .inl ⟨h, h2⟩
        · exact .inr ⟨h, h2⟩
def unG (a b : List Rg) : List Rg := b.foldl addG a
def wiG (a b : List Rg) : List Rg := b.foldl remG a
def coG (a b : List Rg) : List Rg := wiG a (wiG a b)
theorem unG_good : ∀ (b a : List Rg), rgCh a → rgCh b → rgCh (unG a b) ∧ ∀ x, rgMem (unG a b) x ↔ rgMem a x ∨ rgMem b x
  | [], a, ha, _ => ⟨ha, fun x => ⟨.inl, fun h => h.elim id (fun h => absurd h (rgMem_nil x))⟩⟩
  | r :: b, a, ha, hb => by
    obtain ⟨_, v, hb'⟩ := rgCh_cons.1 hb
    obtain ⟨c, m⟩ := addG_good a r ha v.1 v.2.1 v.2.2
    obtain ⟨c2, m2⟩ := unG_good b (addG a r) c hb'
    refine ⟨c2, fun x => ?_⟩
    show rgMem (unG (addG a r) b) x ↔ _
    rw [m2 x, m x, rgMem_cons]
    exact ⟨fun h => h.elim (fun h => h.elim (fun h => .inr (.inl h)) .inl) (fun h => .inr (.inr h)), fun h => h.elim (fun h => .inl (.inr h)) (fun h => h.elim (fun h => .inl (.inl h)) .inr)⟩
theorem wiG_good : ∀ (b a : List Rg), rgCh a → rgCh b → rgCh (wiG a b) ∧ ∀ x, rgMem (wiG a b) x ↔ rgMem a x ∧ ¬ rgMem b x
  | [], a, ha, _ => ⟨ha, fun x => ⟨fun h => ⟨h, rgMem_nil x⟩, fun h => h.1⟩⟩
  | r :: b, a, ha, hb => by
    obtain ⟨_, v, hb'⟩ := rgCh_cons.1 hb
    obtain ⟨c, m⟩ := remG_good a r ha v.2.1
    obtain ⟨c2, m2⟩ := wiG_good b (remG a r) c hb'
    refine ⟨c2, fun x => ?_⟩
    show rgMem (wiG (remG a r) b) x ↔ _
    rw [m2 x, m x, rgMem_cons]
    constructor
    · rintro ⟨⟨h, h1⟩, h2⟩
      exact ⟨h, fun h3 => h3.elim h1 h2⟩
    · rintro ⟨h, h2⟩
      exact ⟨⟨h, fun h3 => h2 (.inl h3)⟩, fun h3 => h2 (.inr h3)⟩
theorem coG_good {a b : List Rg} (ha : rgCh a) (hb : rgCh b) : rgCh (coG a b) ∧ ∀ x, rgMem (coG a b) x ↔ rgMem a x ∧ rgMem b x := by
  obtain ⟨c, m⟩ := wiG_good b a ha hb
  obtain ⟨c2, m2⟩ := wiG_good (wiG a b) a ha c
  refine ⟨c2, fun x => ?_⟩
  show rgMem (wiG a (wiG a b)) x ↔ _
  rw [m2 x, m x]
  constructor
  · rintro ⟨h, h2⟩
    exact ⟨h, Classical.byContradiction fun h3 => h2 ⟨h, h3⟩⟩
  · rintro ⟨h, h2⟩
    exact ⟨h, fun h3 => h3.2 h2⟩
/-- How many numbers. -/
def sizG (s : List Rg) : Int := (s.map fun r => r.2 - r.1 + 1).sum
open Classical in
noncomputable def cntN (N : Nat) (P : Int → Prop) : Nat := (List.range N).countP (fun x : Nat => decide (P (x : Int)))
theorem cnt_congr {N : Nat} {P Q : Int → Prop} (h : ∀ x : Int, P x ↔ Q x) : cntN N P = cntN N Q := by
  unfold cntN
  congr 1
  funext x
  exact decide_eq_decide.2 (h x)
theorem cnt_or (N : Nat) (P Q : Int → Prop) : cntN N (fun x => P x ∨ Q x) + cntN N (fun x => P x ∧ Q x) = cntN N P + cntN N Q := by
  unfold cntN
  induction List.range N with
  | nil => rfl
  | cons a l ih =>
    dsimp only at ih ⊢
    simp only [List.countP_cons]
    by_cases hp : P a <;> by_cases hq : Q a <;> simp [hp, hq] <;> omega
theorem cnt_range (N : Nat) (f t : Int) (h0 : 0 ≤ f) (h1 : f ≤ t + 1) (h2 : t < N) : (cntN N (fun x => f ≤ x ∧ x ≤ t) : Int) = t - f + 1 := by
  have key : ∀ M : Nat, (cntN M (fun x => f ≤ x ∧ x ≤ t) : Int) = if (M : Int) ≤ f then 0 else if (M : Int) ≤ t then M - f else t - f + 1 := by
    intro M
    induction M with
    | zero => simp [cntN]; omega
    | succ M ih =>
      have e : cntN (M + 1) (fun x => f ≤ x ∧ x ≤ t) = cntN M (fun x => f ≤ x ∧ x ≤ t) + (if f ≤ (M : Int) ∧ (M : Int) ≤ t then 1 else 0) := by
        unfold cntN
        rw [List.range_succ, List.countP_append, List.countP_cons, List.countP_nil]
        simp
      rw [e]
      push_cast
      rw [ih]
      split <;> split <;> (try split) <;> (try split) <;> (try split) <;> (try split) <;> omega
  rw [key]
  split
  · omega
  · split <;> omega
theorem siz_cnt : ∀ (s : List Rg), rgCh s → sizG s = (cntN 65536 (rgMem s) : Int)
  | [], _ => by
    have : cntN 65536 (rgMem []) = 0 := by
      unfold cntN
      rw [List.countP_eq_zero]
      intro x _
      simp [rgMem_nil]
    rw [this]
    rfl
  | a :: s, h => by
    obtain ⟨_, v, hs⟩ := rgCh_cons.1 h
    have h1 := siz_cnt s hs
    have h2 := cnt_or 65536 (fun x => a.1 ≤ x ∧ x ≤ a.2) (rgMem s)
    have h3 : cntN 65536 (fun x => (a.1 ≤ x ∧ x ≤ a.2) ∧ rgMem s x) = 0 := by
      unfold cntN
      rw [List.countP_eq_zero]
      intro x _
      simp only [decide_eq_true_eq]
      rintro ⟨hx, hm⟩
      have := rgMem_tail h hm
      omega
    have h4 : cntN 65536 (rgMem (a :: s)) = cntN 65536 (fun x => (a.1 ≤ x ∧ x ≤ a.2) ∨ rgMem s x) := cnt_congr (fun x => rgMem_cons a s x)
    have h5 := cnt_range 65536 a.1 a.2 v.1 (by omega) (by omega)
    have e : sizG (a :: s) = (a.2 - a.1 + 1) + sizG s := by simp [sizG]
    rw [e, h1, h4]
    omega
end Go.Proofs.YtejdphfcogfcmaaGreatDoor
