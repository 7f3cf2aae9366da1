/-
  Sets of numbers as ranges: whether a number is there, the next one that is missing, and what the laws ask. No program.
-/
import Derived.Test.YtneimcacpbepfaaGreatDoorRngText
namespace Go.Proofs.YtneimcacpbepfaaGreatDoor
open Go.RowKit Go.Lib
set_option linter.unusedVariables false

def hasB (s : List Rg) (x : Int) : Bool := s.any (fun r => decide (r.1 ≤ x) && decide (x ≤ r.2))
theorem hasB_iff (s : List Rg) (x : Int) : hasB s x = true ↔ rgMem s x := by
  unfold hasB rgMem
  rw [List.any_eq_true]
  simp only [Bool.and_eq_true, decide_eq_true_eq]
theorem hasB_no {s : List Rg} {x : Int} (h : ¬ rgMem s x) : hasB s x = false := by
  cases hb : hasB s x with
  | false => rfl
  | true => exact absurd ((hasB_iff s x).1 hb) h
def nextG (s : List Rg) (x : Int) : Int := s.foldl (fun x r => if r.1 ≤ x ∧ x ≤ r.2 then r.2 + 1 else x) x
/-- y is the smallest number, not less than x, that is not there. -/
def nextP (s : List Rg) (x y : Int) : Prop := x ≤ y ∧ ¬ rgMem s y ∧ ∀ z, x ≤ z → z < y → rgMem s z
theorem nextP_one {s : List Rg} {x y z : Int} (h : nextP s x y) (g : nextP s x z) : y = z := by
  obtain ⟨h1, h2, h3⟩ := h
  obtain ⟨g1, g2, g3⟩ := g
  rcases Int.lt_trichotomy y z with hl | hl | hl
  · exact absurd (g3 y h1 hl) h2
  · exact hl
  · exact absurd (h3 z g1 hl) g2
theorem nextG_is : ∀ (s : List Rg) (x : Int), rgCh s → nextP s x (nextG s x)
  | [], x, _ => ⟨Int.le_refl _, rgMem_nil _, fun z h1 h2 => by show rgMem [] z; have : nextG [] x = x := rfl; omega⟩
  | a :: s, x, h => by
    obtain ⟨a1, a2, a3⟩ := rgCh_cons.1 h
    show nextP (a :: s) x (nextG s (if a.1 ≤ x ∧ x ≤ a.2 then a.2 + 1 else x))
    split
    · rename_i hin
      obtain ⟨h1, h2, h3⟩ := nextG_is s (a.2 + 1) a3
      generalize nextG s (a.2 + 1) = y at h1 h2 h3
      refine ⟨by omega, ?_, fun z hz1 hz2 => ?_⟩
      · rw [rgMem_cons]
        rintro (h | h)
        · omega
        · exact h2 h
      · rw [rgMem_cons]
        by_cases hz : z ≤ a.2
        · exact .inl ⟨by omega, hz⟩
        · exact .inr (h3 z (by omega) hz2)
    · rename_i hin
      obtain ⟨h1, h2, h3⟩ := nextG_is s x a3
      generalize nextG s x = y at h1 h2 h3
      refine ⟨h1, ?_, fun z hz1 hz2 => (rgMem_cons ..).2 (.inr (h3 z hz1 hz2))⟩
      rw [rgMem_cons]
      rintro (h4 | h4)
      · by_cases hxy : x = y
        · subst hxy; exact hin h4
        · have := rgMem_tail h (h3 x (Int.le_refl _) (by omega))
          omega
      · exact h2 h4
theorem nextG_bd {s : List Rg} {x : Int} (h : rgCh s) (h0 : 0 ≤ x) (h1 : x ≤ 65535) : 0 ≤ nextG s x ∧ nextG s x ≤ 65536 := by
  obtain ⟨g1, g2, g3⟩ := nextG_is s x h
  refine ⟨by omega, ?_⟩
  by_cases hx : nextG s x ≤ 65536
  · exact hx
  · have := rgMem_word h (g3 65536 (by omega) (by omega))
    omega
theorem siz_nonneg {s : List Rg} (h : rgCh s) : 0 ≤ sizG s ∧ sizG s ≤ 65536 := by
  rw [siz_cnt s h]
  have : cntN 65536 (rgMem s) ≤ (List.range 65536).length := List.countP_le_length
  rw [List.length_range] at this
  omega
theorem siz_or {a b u v : List Rg} (ha : rgCh a) (hb : rgCh b) (hu : rgCh u) (hv : rgCh v) (h1 : ∀ x, rgMem u x ↔ rgMem a x ∨ rgMem b x) (h2 : ∀ x, rgMem v x ↔ rgMem a x ∧ rgMem b x) :
    sizG u + sizG v = sizG a + sizG b := by
  rw [siz_cnt _ ha, siz_cnt _ hb, siz_cnt _ hu, siz_cnt _ hv, cnt_congr h1, cnt_congr h2]
  have := cnt_or 65536 (rgMem a) (rgMem b)
  omega
theorem siz_un {a b : List Rg} (ha : rgCh a) (hb : rgCh b) : sizG (unG a b) + sizG (coG a b) = sizG a + sizG b :=
  siz_or ha hb (unG_good b a ha hb).1 (coG_good ha hb).1 (unG_good b a ha hb).2 (coG_good ha hb).2
theorem siz_nil : sizG [] = 0 := rfl
theorem siz_wi {a b : List Rg} (ha : rgCh a) (hb : rgCh b) : sizG (coG a b) + sizG (wiG a b) = sizG a := by
  obtain ⟨c1, m1⟩ := coG_good ha hb
  obtain ⟨c2, m2⟩ := wiG_good b a ha hb
  have := siz_or c1 c2 ha rgCh_nil (fun x => by
    rw [m1 x, m2 x]
    constructor
    · intro h
      by_cases hb : rgMem b x
      · exact .inl ⟨h, hb⟩
      · exact .inr ⟨h, hb⟩
    · rintro (h | h) <;> exact h.1) (fun x => by
    rw [m1 x, m2 x]
    exact ⟨fun h => absurd h (rgMem_nil x), fun h => absurd h.1.2 h.2.2⟩)
  rw [siz_nil] at this
  omega
theorem un_comm {a b : List Rg} (ha : rgCh a) (hb : rgCh b) : unG b a = unG a b := by
  obtain ⟨c1, m1⟩ := unG_good b a ha hb
  obtain ⟨c2, m2⟩ := unG_good a b hb ha
  exact rg_ext c2 c1 (fun x => by rw [m1 x, m2 x]; exact or_comm)
theorem un_back {a b : List Rg} (ha : rgCh a) (hb : rgCh b) : unG (coG a b) (wiG a b) = a := by
  obtain ⟨c1, m1⟩ := coG_good ha hb
  obtain ⟨c2, m2⟩ := wiG_good b a ha hb
  obtain ⟨c3, m3⟩ := unG_good (wiG a b) (coG a b) c1 c2
  refine rg_ext c3 ha (fun x => ?_)
  rw [m3 x, m1 x, m2 x]
  constructor
  · rintro (h | h) <;> exact h.1
  · intro h
    by_cases hb : rgMem b x
    · exact .inl ⟨h, hb⟩
    · exact .inr ⟨h, hb⟩
/-- What the law asks of a range that is added. -/
theorem add_facts {s : List Rg} {f t : Int} (h : rgCh s) (h0 : 0 ≤ f) (h1 : f ≤ t) (h2 : t ≤ 65535) :
    rgCh (addG s (f, t)) ∧ hasB (addG s (f, t)) f = true ∧ hasB (addG s (f, t)) t = true ∧ t < nextG (addG s (f, t)) f := by
  obtain ⟨c, m⟩ := addG_good s (f, t) h h0 h1 h2
  refine ⟨c, (hasB_iff _ _).2 ((m f).2 (.inl ⟨Int.le_refl _, h1⟩)), (hasB_iff _ _).2 ((m t).2 (.inl ⟨h1, Int.le_refl _⟩)), ?_⟩
  obtain ⟨n1, n2, n3⟩ := nextG_is (addG s (f, t)) f c
  generalize nextG (addG s (f, t)) f = y at n1 n2 n3
  by_cases hy : t < y
  · exact hy
  · exact absurd ((m y).2 (.inl ⟨n1, by show y ≤ t; omega⟩)) n2
theorem rem_facts {s : List Rg} {f t : Int} (h : rgCh s) (h1 : f ≤ t) :
    rgCh (remG s (f, t)) ∧ hasB (remG s (f, t)) f = false ∧ hasB (remG s (f, t)) t = false := by
  obtain ⟨c, m⟩ := remG_good s (f, t) h h1
  exact ⟨c, hasB_no (fun hm => ((m f).1 hm).2 ⟨Int.le_refl _, h1⟩), hasB_no (fun hm => ((m t).1 hm).2 ⟨h1, Int.le_refl _⟩)⟩
theorem siz_add {s : List Rg} {f t : Int} (h : rgCh s) (h0 : 0 ≤ f) (h1 : f ≤ t) (h2 : t ≤ 65535) : sizG (addG s (f, t)) - sizG (remG s (f, t)) = t - f + 1 := by
  obtain ⟨c, m⟩ := addG_good s (f, t) h h0 h1 h2
  obtain ⟨c2, m2⟩ := remG_good s (f, t) h h1
  have hr : rgCh [(f, t)] := rgCh_cons.2 ⟨by simp, ⟨h0, h1, h2⟩, rgCh_nil⟩
  have hm : ∀ x, rgMem [(f, t)] x ↔ (f ≤ x ∧ x ≤ t) := fun x => by
    rw [rgMem_cons]
    exact ⟨fun h => h.elim id (fun h => absurd h (rgMem_nil x)), .inl⟩
  have := siz_or c2 hr c rgCh_nil (fun x => by
    rw [m x, m2 x, hm x]
    show (f ≤ x ∧ x ≤ t) ∨ rgMem s x ↔ (rgMem s x ∧ ¬ (f ≤ x ∧ x ≤ t)) ∨ (f ≤ x ∧ x ≤ t)
    by_cases hx : f ≤ x ∧ x ≤ t
    · exact ⟨fun _ => .inr hx, fun _ => .inl hx⟩
    · exact ⟨fun h => h.elim (fun h => absurd h hx) (fun h => .inl ⟨h, hx⟩), fun h => h.elim (fun h => .inr h.1) (fun h => absurd h hx)⟩) (fun x => by
    rw [m2 x, hm x]
    exact ⟨fun h => absurd h (rgMem_nil x), fun h => absurd h.2 h.1.2⟩)
  have e : sizG [(f, t)] = t - f + 1 := by simp [sizG]
  rw [siz_nil, e] at this
  omega
/-- What is missing next is missing. -/
theorem next_facts {s : List Rg} {x : Int} (h : rgCh s) : hasB s (nextG s x) = false ∧ x ≤ nextG s x := by
  obtain ⟨n1, n2, _⟩ := nextG_is s x h
  exact ⟨hasB_no n2, n1⟩
end Go.Proofs.YtneimcacpbepfaaGreatDoor
