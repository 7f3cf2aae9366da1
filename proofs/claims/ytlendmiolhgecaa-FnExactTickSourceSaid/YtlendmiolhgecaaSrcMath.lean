/-
  The source: mathematics. No program.
-/
import Derived.Test.YtlendmiolhgecaaSndMath
import Derived.Test.YtlendmiolhgecaaSortG
namespace Go.Proofs.Ytlendmiolhgecaa
open Go.RowKit Go.Lib
set_option linter.unusedVariables false

/-- A hold: the serial of an item, and until when. -/
structure Hd where
  n : Int
  u : Int
def hd0 : Hd := ⟨0, 0⟩
/-- A source: its window, clock, quiet ticks, holds. -/
structure So where
  w : Sw
  c : Int
  u : Int
  h : List Hd
def so0 : So := ⟨sw0, 0, 0, []⟩
def hd1 (w : Sw) (c : Int) (x : Hd) : Bool := serB x.n && (heldB w x.n && inB x.u (c + 1) (c + 3))
theorem hd1_iff {w : Sw} {c : Int} {x : Hd} : hd1 w c x = true ↔ serB x.n = true ∧ heldB w x.n = true ∧ c + 1 ≤ x.u ∧ x.u ≤ c + 3 := by
  unfold hd1 inB
  simp only [Bool.and_eq_true, decide_eq_true_eq]
def AscG (t : Int) (h : List Hd) : Prop := h.Pairwise (fun a b => gapI t a.n < gapI t b.n)
instance (t : Int) (h : List Hd) : Decidable (AscG t h) := by unfold AscG; infer_instance
def soOk (s : So) : Bool := swOk s.w && (inB s.c 0 9999 && (inB s.u 0 3 && (s.h.all (hd1 s.w s.c) && decide (AscG s.w.t s.h))))
theorem soOk_iff {s : So} : soOk s = true ↔ swOk s.w = true ∧ (0 ≤ s.c ∧ s.c ≤ 9999) ∧ (0 ≤ s.u ∧ s.u ≤ 3) ∧ (∀ x ∈ s.h, hd1 s.w s.c x = true) ∧ AscG s.w.t s.h := by
  unfold soOk inB
  simp only [Bool.and_eq_true, decide_eq_true_eq, List.all_eq_true]
theorem soOk_no {s : So} (h : ¬ (swOk s.w = true ∧ (0 ≤ s.c ∧ s.c ≤ 9999) ∧ (0 ≤ s.u ∧ s.u ≤ 3) ∧ (∀ x ∈ s.h, hd1 s.w s.c x = true) ∧ AscG s.w.t s.h)) : soOk s = false := by
  cases e : soOk s with
  | false => rfl
  | true => exact absurd (soOk_iff.1 e) h
theorem ascG_nil (t : Int) : AscG t [] := List.Pairwise.nil
theorem ascG_lt {t : Int} {h : List Hd} (ha : AscG t h) {i j : Nat} (hj : j < h.length) (hij : i < j) : gapI t (h[i]'(by omega)).n < gapI t h[j].n := List.pairwise_iff_getElem.1 ha i j (by omega) hj hij
/-- One more at the end of what has been looked at. -/
theorem ascG_step {t : Int} {h : List Hd} {k : Nat} (hk : k < h.length) (ha : AscG t (h.take k)) (hl : ∀ (j : Nat) (e : j + 1 = k), gapI t (h[j]'(by omega)).n < gapI t h[k].n) : AscG t (h.take (k + 1)) := by
  rw [List.take_succ_eq_append_getElem hk]
  refine List.pairwise_append.2 ⟨ha, List.pairwise_singleton _ _, ?_⟩
  intro x hx y hy
  rw [List.mem_singleton.1 hy]
  obtain ⟨i, hi, rfl⟩ := List.getElem_of_mem hx
  have hik : i < k := by rw [List.length_take] at hi; omega
  rw [List.getElem_take]
  obtain ⟨j, rfl⟩ : ∃ j, j + 1 = k := ⟨k - 1, by omega⟩
  have h1 := hl j rfl
  by_cases e : i = j
  · subst e; exact h1
  · have h2 := ascG_lt (t := t) (h := h.take (j + 1)) ha (i := i) (j := j) (by rw [List.length_take]; omega) (by omega)
    simp only [List.getElem_take] at h2
    omega
/-- The gap of the hold before a place. -/
def lastG (t : Int) (h : List Hd) : Nat → Int
  | 0 => -1
  | k + 1 => gapI t (h.getD k hd0).n
theorem lastG_at {t : Int} {h : List Hd} {k j : Nat} (e : j + 1 = k) (hj : j < h.length) : lastG t h k = gapI t h[j].n := by
  subst e
  show gapI t (h.getD j hd0).n = _
  rw [List.getD_eq_getElem?_getD, List.getElem?_eq_getElem hj]; rfl
theorem lastG_next {t : Int} {h : List Hd} {k : Nat} (hk : k < h.length) : lastG t h (k + 1) = gapI t h[k].n := lastG_at rfl hk
theorem lastG_bd (t : Int) (h : List Hd) (k : Nat) : -1 ≤ lastG t h k ∧ lastG t h k ≤ 65535 := by
  cases k with
  | zero => exact ⟨Int.le_refl _, by show (-1 : Int) ≤ 65535; omega⟩
  | succ k => have := gapI_bd t (h.getD k hd0).n; exact ⟨by show -1 ≤ gapI t _; omega, this.2⟩
theorem ascG_next {t : Int} {h : List Hd} {k : Nat} (hk : k < h.length) (ha : AscG t (h.take k)) (hl : lastG t h k < gapI t h[k].n) : AscG t (h.take (k + 1)) :=
  ascG_step hk ha (fun j e => by rw [← lastG_at e (by omega)]; exact hl)
theorem ascG_no {t : Int} {h : List Hd} {k : Nat} (hk : k < h.length) (hl : ¬ lastG t h k < gapI t h[k].n) : ¬ AscG t h := by
  intro ha
  cases k with
  | zero => exact hl (by show (-1 : Int) < _; have := gapI_bd t h[0].n; omega)
  | succ k => exact hl (by rw [lastG_at rfl (by omega)]; exact ascG_lt ha hk (Nat.lt_succ_self k))
theorem ascG_idx {t : Int} {h : List Hd} (ha : AscG t h) : ∀ (i : Nat) (hi : i < h.length), (i : Int) ≤ gapI t h[i].n
  | 0, hi => by have := gapI_bd t h[0].n; omega
  | i + 1, hi => by
    have h1 := ascG_idx ha i (by omega)
    have h2 := ascG_lt ha hi (Nat.lt_succ_self i)
    omega
theorem ascG_len {t : Int} {h : List Hd} {m : Nat} (ha : AscG t h) (hb : ∀ x ∈ h, gapI t x.n < (m : Int)) : h.length ≤ m := by
  rcases Nat.eq_zero_or_pos h.length with e | e
  · omega
  · have h1 := ascG_idx ha (h.length - 1) (by omega)
    have h2 := hb _ (List.getElem_mem (show h.length - 1 < h.length by omega))
    omega
theorem soOk_len {s : So} (h : soOk s = true) : s.h.length ≤ 6 ∧ s.w.q.length ≤ 6 := by
  obtain ⟨h1, _, _, h4, h5⟩ := soOk_iff.1 h
  obtain ⟨_, b, c, _⟩ := swOk_iff.1 h1
  have := ascG_len (m := s.w.q.length) h5 (fun x hx => of_decide_eq_true (hd1_iff.1 (h4 x hx)).2.1)
  omega
/-- The holds for items that are held and that last longer than a clock. -/
def keepH (w : Sw) (c : Int) (h : List Hd) : List Hd := h.filter (fun x => heldB w x.n && decide (c < x.u))
theorem keepH_mem {w : Sw} {c : Int} {h : List Hd} {x : Hd} : x ∈ keepH w c h ↔ x ∈ h ∧ heldB w x.n = true ∧ c < x.u := by
  unfold keepH
  simp only [List.mem_filter, Bool.and_eq_true, decide_eq_true_eq]
theorem keepH_len (w : Sw) (c : Int) (h : List Hd) : (keepH w c h).length ≤ h.length := List.length_filter_le _ _
def withW (s : So) (w : Sw) : So := ⟨w, s.c, s.u, keepH w s.c s.h⟩
/-- A window that has moved on by some steps. -/
theorem withW_ok {s : So} (h : soOk s = true) {w : Sw} (hw : swOk w = true) {g : Nat} (hg : g ≤ 6) (ht : w.t = aftI s.w.t (g : Int)) {u : Int} (hu : 0 ≤ u ∧ u ≤ 3) : soOk ⟨w, s.c, u, keepH w s.c s.h⟩ = true := by
  obtain ⟨h1, h2, h3, h4, h5⟩ := soOk_iff.1 h
  obtain ⟨a1, a2, a3, _⟩ := swOk_iff.1 h1
  obtain ⟨b1, b2, b3, _⟩ := swOk_iff.1 hw
  refine soOk_iff.2 ⟨hw, h2, hu, ?_, ?_⟩
  · intro x hx
    obtain ⟨k1, k2, k3⟩ := keepH_mem.1 hx
    obtain ⟨m1, m2, m3, m4⟩ := hd1_iff.1 (h4 x k1)
    exact hd1_iff.2 ⟨m1, k2, m3, m4⟩
  · show AscG w.t (keepH w s.c s.h)
    have hs : (keepH w s.c s.h).Pairwise (fun a b => gapI s.w.t a.n < gapI s.w.t b.n) := List.Pairwise.sublist List.filter_sublist h5
    refine List.Pairwise.imp_of_mem ?_ hs
    intro a b ha hb hab
    obtain ⟨p1, p2, _⟩ := keepH_mem.1 ha
    obtain ⟨q1, q2, _⟩ := keepH_mem.1 hb
    have e1 := of_decide_eq_true p2
    have e2 := of_decide_eq_true q2
    have e3 := of_decide_eq_true (hd1_iff.1 (h4 a p1)).2.1
    have e4 := of_decide_eq_true (hd1_iff.1 (h4 b q1)).2.1
    have n1 := serB_bd (hd1_iff.1 (h4 a p1)).1
    have n2 := serB_bd (hd1_iff.1 (h4 b q1)).1
    rw [ht] at e1 e2 ⊢
    unfold gapI aftI at *
    omega
/-- What the program keeps: the holds for items that are held. -/
theorem keep_held {s : So} (h : soOk s = true) {w : Sw} (hw : swOk w = true) : s.h.filter (fun x => heldOk w x.n) = keepH w s.c s.h := by
  obtain ⟨_, _, _, h4, _⟩ := soOk_iff.1 h
  unfold keepH
  refine List.filter_congr ?_
  intro x hx
  obtain ⟨m1, m2, m3, m4⟩ := hd1_iff.1 (h4 x hx)
  unfold heldOk
  rw [hw, m1, decide_eq_true (show s.c < x.u by omega), Bool.true_and, Bool.true_and, Bool.and_true]
theorem keep_all {s : So} (h : soOk s = true) : keepH s.w s.c s.h = s.h := by
  obtain ⟨_, _, _, h4, _⟩ := soOk_iff.1 h
  refine List.filter_eq_self.2 ?_
  intro x hx
  obtain ⟨m1, m2, m3, m4⟩ := hd1_iff.1 (h4 x hx)
  rw [m2, decide_eq_true (show s.c < x.u by omega)]; rfl
theorem withW_same {s : So} (h : soOk s = true) : withW s s.w = s := by
  unfold withW
  rw [keep_all h]
/-- What is left when a tick has passed. -/
theorem keep_tick {s : So} (h : soOk s = true) (c : Int) : s.h.filter (fun x => !decide (x.u ≤ c)) = keepH s.w c s.h := by
  obtain ⟨_, _, _, h4, _⟩ := soOk_iff.1 h
  unfold keepH
  refine List.filter_congr ?_
  intro x hx
  obtain ⟨m1, m2, m3, m4⟩ := hd1_iff.1 (h4 x hx)
  rw [m2, Bool.true_and]
  by_cases e : x.u ≤ c
  · rw [decide_eq_true e, decide_eq_false (by omega)]; rfl
  · rw [decide_eq_false e, decide_eq_true (by omega)]; rfl
-- ------------------------------------------------------------ the functions
def newW (f z : Int) : So := ⟨⟨f, z, []⟩, 0, 0, []⟩
def newV (f z : Int) : So := if soOk (newW f z) = true then newW f z else so0
theorem newOk_eq (f z : Int) : soOk (newW f z) = (serB f && inB z 1 6) := by
  cases h : soOk (newW f z) with
  | true =>
    obtain ⟨h1, _, _, _, _⟩ := soOk_iff.1 h
    obtain ⟨a, b, _, _⟩ := swOk_iff.1 h1
    have a' : 0 ≤ f ∧ f ≤ 65535 := a
    have b' : 1 ≤ z ∧ z ≤ 6 := b
    rw [serB_yes a'.1 a'.2, inB_yes b'.1 b'.2]; rfl
  | false =>
    cases h1 : serB f with
    | false => rfl
    | true =>
      cases h2 : inB z 1 6 with
      | false => rfl
      | true =>
        have hb := inB_bd h2
        have : soOk (newW f z) = true := soOk_iff.2 ⟨swOk_mk (serB_bd h1) hb (by simp; omega) (by simp), by simp [newW], by simp [newW], by simp [newW], ascG_nil _⟩
        rw [h] at this
        cases this
def sendOk (s : So) (d : ByteArray) : Bool := soOk s && itB d
def sendW (s : So) (d : ByteArray) : So := ⟨pushW s.w d, s.c, 0, keepH (pushW s.w d) s.c s.h⟩
def sendV11 (s : So) (d : ByteArray) : So := if sendOk s d = true then sendW s d else so0
def sendP11 (s : So) (d : ByteArray) : Pk := if sendOk s d = true then ⟨1, leadI (roomW s.w), (pushW s.w d).t, leadI (pushW s.w d), d⟩ else pk0
theorem sendOk_parts {s : So} {d : ByteArray} (h : sendOk s d = true) : soOk s = true ∧ itB d = true ∧ pushOk s.w d = true := by
  unfold sendOk at h
  obtain ⟨h1, h2⟩ := Bool.and_eq_true_iff.1 h
  exact ⟨h1, h2, by unfold pushOk; rw [(soOk_iff.1 h1).1, h2]; rfl⟩
theorem pushW_t {w : Sw} {d : ByteArray} (h : swOk w = true) : ∃ g : Nat, g ≤ 6 ∧ (pushW w d).t = aftI w.t (g : Int) := by
  obtain ⟨h1, _⟩ := swOk_iff.1 h
  unfold pushW roomW
  split
  · exact ⟨1, by omega, rfl⟩
  · exact ⟨0, by omega, (aft_zero9 h1).symm⟩
theorem sendW_ok {s : So} {d : ByteArray} (h : sendOk s d = true) : soOk (sendW s d) = true := by
  obtain ⟨h1, h2, h3⟩ := sendOk_parts h
  obtain ⟨g, hg, ht⟩ := pushW_t (d := d) (soOk_iff.1 h1).1
  exact withW_ok h1 (pushW_ok h3).1 hg ht ⟨by omega, by omega⟩
/-- Whether there is a hold for a serial. -/
def hasH (h : List Hd) (n : Int) : Bool := h.any (fun x => x.n == n)
theorem hasH_iff {h : List Hd} {n : Int} : hasH h n = true ↔ ∃ x ∈ h, x.n = n := by unfold hasH; simp
theorem hasH_no {h : List Hd} {n : Int} (e : hasH h n = false) : ∀ x ∈ h, x.n ≠ n := by
  intro x hx e2
  rw [hasH_iff.2 ⟨x, hx, e2⟩] at e
  cases e
/-- The place of a serial among holds. -/
def plcH (t : Int) (h : List Hd) (n : Int) : Nat := (h.takeWhile (fun x => decide (gapI t x.n < gapI t n))).length
theorem plcH_le (t : Int) (h : List Hd) (n : Int) : plcH t h n ≤ h.length := (List.takeWhile_sublist _).length_le
theorem plcH_lo (t n : Int) : ∀ (h : List Hd) (j : Nat) (hj : j < h.length), j < plcH t h n → gapI t h[j].n < gapI t n
  | [], j, hj, _ => absurd hj (Nat.not_lt_zero _)
  | x :: h, j, hj, hp => by
    unfold plcH at hp
    rw [List.takeWhile_cons] at hp
    by_cases e : gapI t x.n < gapI t n
    · rw [decide_eq_true e] at hp
      cases j with
      | zero => exact e
      | succ j => exact plcH_lo t n h j (by simpa using hj) (by simpa [plcH] using hp)
    · rw [decide_eq_false e] at hp
      simp at hp
theorem plcH_hi (t n : Int) : ∀ (h : List Hd) (hp : plcH t h n < h.length), ¬ gapI t (h[plcH t h n]'hp).n < gapI t n
  | [], hp => absurd hp (Nat.not_lt_zero _)
  | x :: h, hp => by
    by_cases e : gapI t x.n < gapI t n
    · have e2 : plcH t (x :: h) n = plcH t h n + 1 := by unfold plcH; rw [List.takeWhile_cons, decide_eq_true e]; rfl
      have hp2 : plcH t h n < h.length := by rw [e2] at hp; simpa using hp
      have ih := plcH_hi t n h hp2
      have e3 : (x :: h)[plcH t (x :: h) n]'hp = h[plcH t h n]'hp2 := by simp [e2]
      rw [e3]
      exact ih
    · have e2 : plcH t (x :: h) n = 0 := by unfold plcH; rw [List.takeWhile_cons, decide_eq_false e]; rfl
      have e3 : (x :: h)[plcH t (x :: h) n]'hp = x := by simp [e2]
      rw [e3]
      exact e
/-- The loop of the place. -/
theorem plcH_at {t n : Int} {h : List Hd} {k : Nat} (hk : k ≤ h.length) (hl : ∀ j (hj : j < h.length), j < k → gapI t h[j].n < gapI t n) (hs : k = h.length ∨ ∃ hk2 : k < h.length, ¬ gapI t (h[k]'hk2).n < gapI t n) : plcH t h n = k := by
  rcases Nat.lt_trichotomy (plcH t h n) k with e | e | e
  · exact absurd (hl _ (by omega) e) (plcH_hi t n h (by omega))
  · exact e
  · have hp := plcH_le t h n
    rcases hs with rfl | ⟨hk2, h2⟩
    · omega
    · exact absurd (plcH_lo t n h k hk2 e) h2
theorem gap_inj {t a b : Int} (ha : serB a = true) (hb : serB b = true) (h : gapI t a = gapI t b) : a = b := by
  have h1 := serB_bd ha
  have h2 := serB_bd hb
  unfold gapI at h
  omega
def atH : Option Hd → Int → Bool
  | some x, n => x.n == n
  | none, _ => false
/-- A hold for a serial stands at its place. -/
theorem hasH_plc {t n : Int} {h : List Hd} (ha : AscG t h) (hs : ∀ x ∈ h, serB x.n = true) (hn : serB n = true) : hasH h n = atH h[plcH t h n]? n := by
  have hp := plcH_le t h n
  cases e : hasH h n with
  | false =>
    have hno := hasH_no e
    rcases Nat.lt_or_ge (plcH t h n) h.length with hl | hl
    · rw [List.getElem?_eq_getElem hl]
      have := hno _ (List.getElem_mem hl)
      show false = (h[plcH t h n].n == n)
      simp [this]
    · rw [List.getElem?_eq_none hl]; rfl
  | true =>
    obtain ⟨x, hx, rfl⟩ := hasH_iff.1 e
    obtain ⟨i, hi, rfl⟩ := List.getElem_of_mem hx
    have hpi : plcH t h h[i].n = i := plcH_at (by omega) (fun j hj hji => ascG_lt ha hi hji) (.inr ⟨hi, Int.lt_irrefl _⟩)
    rw [hpi, List.getElem?_eq_getElem hi]
    show true = (h[i].n == h[i].n)
    simp
def insH (t : Int) (h : List Hd) (x : Hd) : List Hd := h.take (plcH t h x.n) ++ x :: h.drop (plcH t h x.n)
theorem insH_len (t : Int) (h : List Hd) (x : Hd) : (insH t h x).length = h.length + 1 := by
  have := plcH_le t h x.n
  unfold insH
  simp; omega
theorem insH_mem {t : Int} {h : List Hd} {x y : Hd} : y ∈ insH t h x ↔ y = x ∨ y ∈ h := by
  unfold insH
  rw [List.mem_append, List.mem_cons]
  have e : y ∈ h ↔ y ∈ h.take (plcH t h x.n) ∨ y ∈ h.drop (plcH t h x.n) := by rw [← List.mem_append, List.take_append_drop]
  rw [e]
  constructor
  · rintro (h1 | h1 | h1)
    · exact .inr (.inl h1)
    · exact .inl h1
    · exact .inr (.inr h1)
  · rintro (h1 | h1 | h1)
    · exact .inr (.inl h1)
    · exact .inl h1
    · exact .inr (.inr h1)
theorem insH_asc {t : Int} {h : List Hd} {x : Hd} (ha : AscG t h) (hs : ∀ y ∈ h, serB y.n = true) (hx : serB x.n = true) (hno : hasH h x.n = false) : AscG t (insH t h x) := by
  have hne : ∀ y ∈ h, gapI t y.n ≠ gapI t x.n := fun y hy e => hasH_no hno y hy (gap_inj (hs y hy) hx e)
  unfold insH AscG
  have hlo : ∀ y ∈ h.take (plcH t h x.n), gapI t y.n < gapI t x.n := by
    intro y hy
    obtain ⟨i, hi, rfl⟩ := List.getElem_of_mem hy
    rw [List.length_take] at hi
    rw [List.getElem_take]
    exact plcH_lo t x.n h i (by omega) (by omega)
  have hhi : ∀ y ∈ h.drop (plcH t h x.n), gapI t x.n < gapI t y.n := by
    intro y hy
    obtain ⟨i, hi, rfl⟩ := List.getElem_of_mem hy
    rw [List.length_drop] at hi
    rw [List.getElem_drop]
    have h1 := plcH_hi t x.n h (by omega)
    have h2 := hne _ (List.getElem_mem (show plcH t h x.n + i < h.length by omega))
    cases i with
    | zero => simp only [Nat.add_zero] at h2 ⊢; omega
    | succ i =>
      have h3 := ascG_lt ha (i := plcH t h x.n) (j := plcH t h x.n + (i + 1)) (by omega) (by omega)
      omega
  refine List.pairwise_append.2 ⟨List.Pairwise.sublist (List.take_sublist _ _) ha, List.pairwise_cons.2 ⟨hhi, List.Pairwise.sublist (List.drop_sublist _ _) ha⟩, ?_⟩
  intro a h1 b h2
  have h3 := hlo a h1
  rcases List.mem_cons.1 h2 with rfl | h2
  · exact h3
  · have := hhi b h2; omega
/-- The order of the program's sort. -/
def ltH (t : Int) (a b : Hd) : Bool := decide (gapI t a.n < gapI t b.n)
theorem posG_end {α : Type} {lt : α → α → Bool} {x : α} {os : List α} (h : ∀ y ∈ os, lt x y = false) : posG lt x os os.length = os.length := by
  have key : ∀ k, k ≤ os.length → posG lt x os k = k := by
    intro k
    cases k with
    | zero => intro _; rfl
    | succ k =>
      intro hk
      rw [posG_step (by omega), h _ (List.getElem_mem (by omega))]
      rfl
  exact key _ (Nat.le_refl _)
theorem sortG_id {α : Type} {lt : α → α → Bool} {xs : List α} (h : xs.Pairwise (fun a b => lt b a = false)) : sortG lt xs = xs := by
  have key : ∀ (k : Nat), k ≤ xs.length → sortG lt (xs.take k) = xs.take k := by
    intro k
    induction k with
    | zero => intro _; simp [sortG]
    | succ k ih =>
      intro hk
      rw [sortG_take (by omega), ih (by omega)]
      unfold insG
      have hp : posG lt xs[k] (xs.take k) (xs.take k).length = (xs.take k).length := posG_end (by
        intro y hy
        obtain ⟨i, hi, rfl⟩ := List.getElem_of_mem hy
        rw [List.length_take] at hi
        rw [List.getElem_take]
        exact List.pairwise_iff_getElem.1 h i k (by omega) (by omega) (by omega))
      rw [hp, List.take_of_length_le (Nat.le_refl _), List.drop_of_length_le (Nat.le_refl _), List.take_succ_eq_append_getElem (by omega)]
  have := key xs.length (Nat.le_refl _)
  rwa [List.take_of_length_le (Nat.le_refl _)] at this
theorem sort_ins {t : Int} {h : List Hd} {x : Hd} (ha : AscG t h) (hs : ∀ y ∈ h, serB y.n = true) (hx : serB x.n = true) (hno : hasH h x.n = false) : sortG (ltH t) (h ++ [x]) = insH t h x := by
  have ha2 : h.Pairwise (fun a b => gapI t a.n < gapI t b.n) := ha
  have ha3 : h.Pairwise (fun a b => ltH t b a = false) := ha2.imp (fun hab => decide_eq_false (by omega))
  have hid : sortG (ltH t) h = h := sortG_id ha3
  have e1 : sortG (ltH t) (h ++ [x]) = insG (ltH t) h x := by
    have := sortG_take (lt := ltH t) (xs := h ++ [x]) (k := h.length) (by simp)
    rw [List.take_of_length_le (by simp), List.take_left, hid] at this
    simpa using this
  rw [e1]
  unfold insG insH
  have hp : plcH t h x.n = posG (ltH t) x h h.length := by
    have hple := posG_le (ltH t) x h h.length
    refine plcH_at hple ?_ ?_
    · intro j hj hjp
      obtain ⟨p, hp⟩ : ∃ p, p + 1 = posG (ltH t) x h h.length := ⟨posG (ltH t) x h h.length - 1, by omega⟩
      have h1 := posG_lo (lt := ltH t) (x := x) (os := h) h.length (Nat.le_refl _) p (by omega) hp
      have h1 := of_decide_eq_false h1
      have h2 : gapI t h[p].n ≠ gapI t x.n := fun e => hasH_no hno _ (List.getElem_mem (by omega)) (gap_inj (hs _ (List.getElem_mem (by omega))) hx e)
      by_cases e : j = p
      · subst e; omega
      · have h3 := ascG_lt ha (i := j) (j := p) (by omega) (by omega)
        omega
    · rcases Nat.lt_or_ge (posG (ltH t) x h h.length) h.length with e | e
      · refine .inr ⟨e, ?_⟩
        have h1 := posG_hi (lt := ltH t) (x := x) (os := h) h.length (Nat.le_refl _) _ e (Nat.le_refl _) e
        have h1 := of_decide_eq_true h1
        omega
      · exact .inl (by omega)
  rw [hp]
-- requests
def reqOk (s : So) (p : Pk) : Bool := soOk s && (pktOk p.k p.n p.t p.l p.d && decide (p.k = 3))
def holdS (s : So) (n : Int) : So := ⟨s.w, s.c, s.u, insH s.w.t s.h ⟨n, s.c + 3⟩⟩
def reqW (s : So) (n : Int) : So := if heldB s.w n = true ∧ hasH s.h n = false then holdS s n else s
def statK (w : Sw) : Pk := ⟨5, w.t, w.t, leadI w, ⟨#[]⟩⟩
def confK (w : Sw) (n : Int) : Pk := ⟨4, n, w.t, leadI w, ⟨#[]⟩⟩
def repK (w : Sw) (n : Int) : Pk := ⟨2, n, w.t, leadI w, itemI w n⟩
def reqE (s : So) (n : Int) : List Pk := if heldB s.w n = true then (if hasH s.h n = true then [confK s.w n] else [confK s.w n, repK s.w n]) else [statK s.w]
def reqV (s : So) (p : Pk) : So := if reqOk s p = true then reqW s p.n else so0
def reqL (s : So) (p : Pk) : List Pk := if reqOk s p = true then reqE s p.n else []
theorem reqOk_parts {s : So} {p : Pk} (h : reqOk s p = true) : soOk s = true ∧ pktOk p.k p.n p.t p.l p.d = true ∧ p.k = 3 ∧ serB p.n = true := by
  unfold reqOk at h
  simp only [Bool.and_eq_true, decide_eq_true_eq] at h
  obtain ⟨h1, h2, h3⟩ := h
  obtain ⟨_, n1, _⟩ := pktOk_bd h2
  exact ⟨h1, h2, h3, serB_yes n1.1 n1.2⟩
theorem holdS_ok {s : So} {n : Int} (h : soOk s = true) (hn : serB n = true) (hh : heldB s.w n = true) (hno : hasH s.h n = false) : soOk (holdS s n) = true := by
  obtain ⟨h1, h2, h3, h4, h5⟩ := soOk_iff.1 h
  refine soOk_iff.2 ⟨h1, h2, h3, ?_, insH_asc h5 (fun y hy => (hd1_iff.1 (h4 y hy)).1) hn hno⟩
  intro x hx
  rcases insH_mem.1 hx with rfl | hx
  · exact hd1_iff.2 ⟨hn, hh, by show s.c + 1 ≤ s.c + 3; omega, Int.le_refl _⟩
  · exact h4 x hx
theorem reqW_ok {s : So} {n : Int} (h : soOk s = true) (hn : serB n = true) : soOk (reqW s n) = true := by
  unfold reqW
  split
  · rename_i hc; exact holdS_ok h hn hc.1 hc.2
  · exact h
-- ticks
def tickOk (s : So) : Bool := soOk s && decide (s.c ≠ 9999)
def tickW (s : So) : So := ⟨s.w, s.c + 1, if s.u = 3 then 0 else s.u + 1, keepH s.w (s.c + 1) s.h⟩
def tickE (s : So) : List Pk := if s.u = 3 then [statK s.w] else []
def tickV (s : So) : So := if tickOk s = true then tickW s else so0
def tickL (s : So) : List Pk := if tickOk s = true then tickE s else []
theorem tickOk_parts {s : So} (h : tickOk s = true) : soOk s = true ∧ s.c ≠ 9999 := by
  unfold tickOk at h
  simpa only [Bool.and_eq_true, decide_eq_true_eq] using h
theorem tickW_ok {s : So} (h : tickOk s = true) : soOk (tickW s) = true := by
  obtain ⟨h0, hc⟩ := tickOk_parts h
  obtain ⟨h1, h2, h3, h4, h5⟩ := soOk_iff.1 h0
  refine soOk_iff.2 ⟨h1, ⟨by show 0 ≤ s.c + 1; omega, by show s.c + 1 ≤ 9999; omega⟩, ?_, ?_, List.Pairwise.sublist List.filter_sublist h5⟩
  · show 0 ≤ (if s.u = 3 then 0 else s.u + 1) ∧ (if s.u = 3 then 0 else s.u + 1) ≤ 3
    split <;> omega
  · intro x hx
    obtain ⟨k1, k2, k3⟩ := keepH_mem.1 hx
    obtain ⟨m1, m2, m3, m4⟩ := hd1_iff.1 (h4 x k1)
    exact hd1_iff.2 ⟨m1, k2, by show s.c + 1 + 1 ≤ x.u; omega, by show x.u ≤ s.c + 1 + 3; omega⟩
-- trimming
def trimOk (s : So) (x : Int) : Bool := soOk s && dropOk s.w x
def trimW (s : So) (x : Int) : So := withW s (dropV s.w x)
def trimV (s : So) (x : Int) : So := if trimOk s x = true then trimW s x else so0
def trimC (s : So) (x : Int) : Int := if trimOk s x = true then dropC s.w x else 0
theorem trimOk_parts {s : So} {x : Int} (h : trimOk s x = true) : soOk s = true ∧ dropOk s.w x = true := by unfold trimOk at h; exact Bool.and_eq_true_iff.1 h
theorem dropV_t {w : Sw} {x : Int} (h : dropOk w x = true) : swOk (dropV w x) = true ∧ ∃ g : Nat, g ≤ 6 ∧ (dropV w x).t = aftI w.t (g : Int) := by
  have hv : dropV w x = dropN w (gapI w.t x).toNat := if_pos h
  obtain ⟨h1, h2, h3, h4, h5, h6⟩ := drop_law h
  unfold dropOk at h
  simp only [Bool.and_eq_true, decide_eq_true_eq] at h
  refine ⟨h2, (gapI w.t x).toNat, by omega, ?_⟩
  rw [hv]; rfl
theorem trimW_ok {s : So} {x : Int} (h : trimOk s x = true) : soOk (trimW s x) = true := by
  obtain ⟨h1, h2⟩ := trimOk_parts h
  obtain ⟨h3, g, hg, ht⟩ := dropV_t h2
  obtain ⟨_, _, h4, _, _⟩ := soOk_iff.1 h1
  exact withW_ok h1 h3 hg ht h4
def onhOk (s : So) (n : Int) : Bool := soOk s && serB n
def onhV (s : So) (n : Int) : Bool := onhOk s n && hasH s.h n
def ticksV (s : So) : Int := if soOk s = true then 4 - s.u else 0
end Go.Proofs.Ytlendmiolhgecaa
