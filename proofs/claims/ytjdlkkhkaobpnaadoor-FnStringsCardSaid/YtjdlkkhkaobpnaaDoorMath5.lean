/-
  A byte changed in a sealed text: it is no sealed text any more.
-/
import Derived.Test.YtjdlkkhkaobpnaaDoorVerify
namespace Go.Proofs.YtjdlkkhkaobpnaaDoor.M

theorem ckStep_inj {h1 h2 : Int} (c : UInt8) (a0 : 0 ≤ h1) (a1 : h1 < 999979) (b0 : 0 ≤ h2) (b1 : h2 < 999979) (h : ckStep h1 c = ckStep h2 c) : h1 = h2 := by
  unfold ckStep at h; omega
theorem ckStep_byte {h : Int} {c d : UInt8} (hcd : c ≠ d) : ckStep h c ≠ ckStep h d := fun e => by
  have hc := c.toNat_lt
  have hd := d.toNat_lt
  have : c.toNat = d.toNat := by unfold ckStep at e; omega
  exact hcd (UInt8.toNat_inj.1 this)
theorem fold_ne : ∀ (l : List UInt8) (h1 h2 : Int), 0 ≤ h1 → h1 < 999979 → 0 ≤ h2 → h2 < 999979 → h1 ≠ h2 → l.foldl ckStep h1 ≠ l.foldl ckStep h2
  | [], _, _, _, _, _, _, h => h
  | c :: l, h1, h2, a0, a1, b0, b1, h => fold_ne l _ _ (ckStep_bd h1 c).1 (ckStep_bd h1 c).2 (ckStep_bd h2 c).1 (ckStep_bd h2 c).2 (fun e => h (ckStep_inj c a0 a1 b0 b1 e))
theorem fold_set : ∀ (l : List UInt8) (k : Nat) (b : UInt8) (h : Int), (∃ c, l[k]? = some c ∧ c ≠ b) → (l.set k b).foldl ckStep h ≠ l.foldl ckStep h
  | [], k, b, h, ⟨c, hc, _⟩ => by simp at hc
  | x :: l, 0, b, h, ⟨c, hc, hn⟩ => by
    simp at hc; subst hc
    exact fold_ne l _ _ (ckStep_bd h b).1 (ckStep_bd h b).2 (ckStep_bd h x).1 (ckStep_bd h x).2 (ckStep_byte (fun e => hn e.symm))
  | x :: l, k + 1, b, h, ⟨c, hc, hn⟩ => fold_set l k b (ckStep h x) ⟨c, by simpa using hc, hn⟩
theorem ck_set (l : List UInt8) (k : Nat) (b : UInt8) (h : ∃ c, l[k]? = some c ∧ c ≠ b) : ck (l.set k b) ≠ ck l := fold_set l k b 7 h

theorem sld_at_lt (x : List UInt8) (i : Nat) (h : i < x.length) : (sld x)[i]? = x[i]? := by
  unfold sld; rw [List.getElem?_append_left h]
theorem sld_at_eq (x : List UInt8) : (sld x)[x.length]? = some 35 := by
  unfold sld; rw [List.getElem?_append_right (Nat.le_refl _)]; simp
theorem sld_at_gt (x : List UInt8) (i : Nat) (h : x.length < i) : (sld x)[i]? ≠ some 35 := fun e => by
  unfold sld at e
  rw [List.getElem?_append_right (by omega)] at e
  obtain ⟨j, hj⟩ : ∃ j, i - x.length = j + 1 := ⟨i - x.length - 1, by omega⟩
  rw [hj, List.getElem?_cons_succ] at e
  exact no_sharp x (List.mem_of_getElem? e)
theorem sld_at_pre (x : List UInt8) (hx : (35 : UInt8) ∉ x) (i : Nat) (h : i < x.length) : (sld x)[i]? ≠ some 35 := fun e => by
  rw [sld_at_lt x i h] at e
  exact hx (List.mem_of_getElem? e)

theorem flip_ne (x t : List UInt8) (hx : (35 : UInt8) ∉ x) (ht : (35 : UInt8) ∉ t) (k : Nat) (b c : UInt8) (hc : (sld x)[k]? = some c) (hb : c ≠ b) : sld t ≠ (sld x).set k b := fun e => by
  have hk : k < (sld x).length := (List.getElem?_eq_some_iff.1 hc).1
  have hat : ∀ i, i ≠ k → (sld t)[i]? = (sld x)[i]? := fun i hi => by rw [e, List.getElem?_set_ne (fun h => hi h.symm)]
  have hatk : (sld t)[k]? = some b := by rw [e, List.getElem?_set_self hk]
  rcases Nat.lt_trichotomy t.length x.length with h | h | h
  · by_cases hq : t.length = k
    · have h1 := hat x.length (by omega)
      rw [sld_at_eq x] at h1
      exact sld_at_gt t x.length h h1
    · have h1 := hat t.length hq
      rw [sld_at_eq t] at h1
      exact sld_at_pre x hx t.length h h1.symm
  · by_cases hq : k = x.length
    · rw [hq, ← h, sld_at_eq t] at hatk
      rw [hq, sld_at_eq x] at hc
      exact hb (Option.some.inj (hc.symm.trans hatk))
    · have htx : t = if k < x.length then x.set k b else x := by
        apply List.ext_getElem?
        intro i
        by_cases hi : i < x.length
        · have h2 := sld_at_lt t i (by omega)
          have h3 := sld_at_lt x i hi
          by_cases hik : i = k
          · subst hik
            rw [if_pos hi, List.getElem?_set_self hi, ← h2]; exact hatk
          · rw [← h2, hat i hik, h3]
            split
            · rw [List.getElem?_set_ne (fun h => hik h.symm)]
            · rfl
        · rw [List.getElem?_eq_none (by omega)]
          split
          · rw [List.getElem?_eq_none (by simp; omega)]
          · rw [List.getElem?_eq_none (by omega)]
      by_cases hkx : k < x.length
      · rw [if_pos hkx] at htx
        have h2 := ck_set x k b ⟨c, by rw [← sld_at_lt x k hkx]; exact hc, hb⟩
        apply h2
        have h3 : Lib.itoa (ck t) = Lib.itoa (ck x) := by
          have h4 : (sld t).drop (t.length + 1) = (sld x).drop (x.length + 1) := by
            rw [e, ← h]
            apply List.ext_getElem?
            intro i
            rw [List.getElem?_drop, List.getElem?_drop, List.getElem?_set_ne (by omega)]
          have h5 : ∀ z : List UInt8, (sld z).drop (z.length + 1) = Lib.itoa (ck z) := fun z => by
            unfold sld
            rw [List.drop_append]
            simp
          rw [h5, h5] at h4
          exact h4
        rw [← htx]
        exact itoa_inj h3
      · rw [if_neg hkx] at htx
        rw [htx] at hatk
        exact hb (Option.some.inj (hc.symm.trans hatk))
  · by_cases hq : x.length = k
    · have h1 := hat t.length (by omega)
      rw [sld_at_eq t] at h1
      exact sld_at_gt x t.length h h1.symm
    · have h1 := hat x.length hq
      rw [sld_at_eq x] at h1
      exact sld_at_pre t ht x.length h h1

end Go.Proofs.YtjdlkkhkaobpnaaDoor.M
