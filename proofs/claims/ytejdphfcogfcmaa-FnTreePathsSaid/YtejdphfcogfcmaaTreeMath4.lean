/-
  Trees: what the law of paths asks. No program.
-/
import Derived.Test.YtejdphfcogfcmaaTreeMath3
import Derived.Test.YtejdphfcogfcmaaTreeMath2
import Derived.Test.YtejdphfcogfcmaaTree5
namespace Go.Proofs.Ytejdphfcogfcmaa
set_option linter.unusedVariables false

theorem meet_sym {p : List Int} (h : trOk p = true) : ∀ (s a b : Nat), a + b ≤ s → a < p.length → b < p.length → meetV p (a : Int) (b : Int) = meetV p (b : Int) (a : Int)
  | 0, a, b, hs, ha, hb => by
    obtain rfl : a = 0 := by omega
    obtain rfl : b = 0 := by omega
    rfl
  | s + 1, a, b, hs, ha, hb => by
    rcases Nat.lt_trichotomy a b with hab | hab | hab
    · obtain ⟨m, h1, h2, h3⟩ := meet_lt h ha hb hab
      obtain ⟨k, h4, h5, h6⟩ := meet_gt h hb ha hab
      obtain rfl : m = k := by omega
      rw [h3, h6]
      exact meet_sym h s a m (by omega) ha (by omega)
    · subst hab
      rfl
    · obtain ⟨m, h1, h2, h3⟩ := meet_gt h ha hb hab
      obtain ⟨k, h4, h5, h6⟩ := meet_lt h hb ha hab
      obtain rfl : m = k := by omega
      rw [h3, h6]
      exact meet_sym h s m b (by omega) (by omega) hb
theorem meetOk_sym (p : List Int) (x y : Int) : meetOk p x y = meetOk p y x := Bool.and_comm _ _
theorem meetW_sym (p : List Int) (x y : Int) : meetW p x y = meetW p y x := by
  unfold meetW
  rw [meetOk_sym p y x]
  by_cases h : meetOk p x y = true
  · rw [if_pos h, if_pos h]
    unfold meetOk at h
    rw [Bool.and_eq_true] at h
    obtain ⟨h1, x0, x1⟩ := ndOk_parts h.1
    obtain ⟨_, y0, y1⟩ := ndOk_parts h.2
    obtain ⟨a, rfl⟩ : ∃ a : Nat, x = a := ⟨x.toNat, by omega⟩
    obtain ⟨b, rfl⟩ : ∃ b : Nat, y = b := ⟨y.toNat, by omega⟩
    exact meet_sym h1 (a + b) a b (Nat.le_refl _) (by omega) (by omega)
  · rw [if_neg h, if_neg h]
/-- What the law asks of a node below another. -/
theorem below_law {p : List Int} {x b : Int} (h : ndOk p x = true) (hb : b ∈ nbl p x) :
    ndOk p b = true ∧ x ∈ pth p b ∧ faceOk p x b = (b != x) ∧ (faceOk p x b = true → ∃ y : Nat, faceV p x b = (y : Int) ∧ y < p.length ∧ par6 p y = x) := by
  obtain ⟨h1, x0, x1⟩ := ndOk_parts h
  obtain ⟨k, rfl, hk, hm⟩ := nbl_mem.1 hb
  obtain ⟨n, rfl⟩ : ∃ n : Nat, x = n := ⟨x.toNat, by omega⟩
  have hnd : ndOk p (k : Int) = true := by
    unfold ndOk
    rw [h1, decide_eq_true (show (0 : Int) ≤ (k : Int) by omega), decide_eq_true (show (k : Int) ≤ (p.length : Int) - 1 by omega)]; rfl
  refine ⟨hnd, hm, ?_, ?_⟩
  · by_cases e : k = n
    · subst e
      unfold faceOk
      rw [h, decide_eq_false (show ¬ ((k : Int) ≠ (k : Int)) from fun hh => hh rfl)]
      simp
    · obtain ⟨y, hy, _⟩ := face_facts h1 k n hk hm e
      unfold faceOk
      rw [h, hnd, decide_eq_true (show (n : Int) ≠ (k : Int) by omega), hy]
      have : ((k : Int) != (n : Int)) = true := by simp; omega
      rw [this]; rfl
  · intro hf
    have e : k ≠ n := fun e => by
      subst e
      unfold faceOk at hf
      rw [decide_eq_false (show ¬ ((k : Int) ≠ (k : Int)) from fun hh => hh rfl)] at hf
      simp at hf
    obtain ⟨y, hy, h2, _, h4⟩ := face_facts h1 k n hk hm e
    refine ⟨y, ?_, h4, h2⟩
    unfold faceV
    rw [if_pos hf, hy]; rfl
/-- The same of every element of the list that is told. -/
theorem below_all {p : List Int} {x b : Int} (hm : b ∈ okL (ndOk p x) (nbl p x)) : ndOk p b = true ∧ x ∈ pth p b ∧ faceOk p x b = (b != x) ∧ (faceOk p x b = true → ∃ y : Nat, faceV p x b = (y : Int) ∧ y < p.length ∧ par6 p y = x) := by
  cases h : ndOk p x with
  | false =>
    rw [h] at hm
    cases hm
  | true =>
    rw [h] at hm
    exact below_law h hm
theorem nbl_len9 {p : List Int} {x : Int} (h : p.length ≤ 9) : (okL (ndOk p x) (nbl p x)).length ≤ 9 := by
  unfold okL
  split
  · have := pick6_len (nbB p x) p.length
    unfold nbl; omega
  · simp
end Go.Proofs.Ytejdphfcogfcmaa
