/-
  Plain mathematics of numerals: the value of a list of digits, and what it has to do with the decimal numeral.
-/
import Derived.Lib.ItoaNum
import Derived.Lib.AtoiAll
import Derived.Lib.Hide
namespace Go.Proofs.Ytlendmiolhgecaa.M

def dv (acc : Int) (l : List UInt8) : Int := l.foldl (fun n c => 10 * n + ((c.toNat : Int) - 48)) acc
def allDig (l : List UInt8) : Prop := ∀ c ∈ l, 48 ≤ c.toNat ∧ c.toNat ≤ 57

theorem dv_snoc (acc : Int) (l : List UInt8) (c : UInt8) : dv acc (l ++ [c]) = 10 * dv acc l + ((c.toNat : Int) - 48) := by simp [dv]
theorem allDig_snoc {l : List UInt8} {c : UInt8} (h : allDig l) (hc : 48 ≤ c.toNat ∧ c.toNat ≤ 57) : allDig (l ++ [c]) := by
  intro x hx
  rcases List.mem_append.1 hx with h1 | h1
  · exact h x h1
  · simp at h1; subst h1; exact hc

theorem dig_nat (k : Nat) (h : k < 10) : (UInt8.ofNat (48 + k)).toNat = 48 + k := by
  simp; omega

theorem dec_props (u : Nat) : allDig (Lib.decDigits u) ∧ dv 0 (Lib.decDigits u) = u ∧ Lib.decDigits u ≠ [] := by
  induction u using Nat.strongRecOn with
  | ind u ih =>
    by_cases h : u < 10
    · rw [Lib.decDigits_one h]
      refine ⟨fun c hc => ?_, ?_, by simp⟩
      · simp only [List.mem_singleton] at hc
        subst hc; rw [dig_nat u h]; omega
      · simp only [dv, List.foldl_cons, List.foldl_nil]; rw [dig_nat u h]; omega
    · obtain ⟨h1, h2, h3⟩ := ih (u / 10) (by omega)
      have e : Lib.decDigits u = Lib.decDigits (u / 10) ++ [UInt8.ofNat (48 + u % 10)] := by rw [Lib.decDigits, dif_neg h]
      rw [e]
      have hd := dig_nat (u % 10) (by omega)
      refine ⟨allDig_snoc h1 (by rw [hd]; omega), ?_, by simp⟩
      rw [dv_snoc, h2, hd]; omega

theorem nDigits_pow : ∀ (k u : Nat), u < 10 ^ (k + 1) → Lib.nDigits u ≤ k + 1
  | 0, u, h => by rw [Lib.nDigits_small (by simpa using h)]; omega
  | k + 1, u, h => by
    by_cases h1 : u < 10
    · rw [Lib.nDigits_small h1]; omega
    · rw [Lib.nDigits_big h1]
      have := nDigits_pow k (u / 10) (by rw [Nat.pow_succ] at h; omega)
      omega

theorem dv_bound' : ∀ (l : List UInt8) (acc : Int), 0 ≤ acc → allDig l → acc ≤ dv acc l ∧ dv acc l < (acc + 1) * 10 ^ l.length
  | [], acc, h, _ => by simp [dv]; omega
  | c :: l, acc, h, hd => by
    have hc := hd c (by simp)
    obtain ⟨h1, h2⟩ := dv_bound' l (10 * acc + ((c.toNat : Int) - 48)) (by omega) (fun x hx => hd x (by simp [hx]))
    have e : dv acc (c :: l) = dv (10 * acc + ((c.toNat : Int) - 48)) l := rfl
    rw [e, List.length_cons, Int.pow_succ]
    refine ⟨by omega, Int.lt_of_lt_of_le h2 ?_⟩
    have hp : (0 : Int) ≤ 10 ^ l.length := Int.pow_nonneg (by omega)
    have : (10 * acc + ((c.toNat : Int) - 48) + 1) * 10 ^ l.length ≤ ((acc + 1) * 10) * 10 ^ l.length := Int.mul_le_mul_of_nonneg_right (by omega) hp
    rw [Int.mul_comm ((10 : Int) ^ l.length) 10, ← Int.mul_assoc]
    exact this

theorem dv_bound (l : List UInt8) (h : allDig l) : 0 ≤ dv 0 l ∧ dv 0 l < 10 ^ l.length := by
  obtain ⟨h1, h2⟩ := dv_bound' l 0 (by omega) h
  exact ⟨h1, by simpa using h2⟩

theorem dv6 (l : List UInt8) (h : allDig l) (hl : l.length ≤ 6) : 0 ≤ dv 0 l ∧ dv 0 l ≤ 999999 := by
  obtain ⟨h1, h2⟩ := dv_bound l h
  have key : ∀ n : Nat, n ≤ 6 → (10 : Int) ^ n ≤ 10 ^ 6 := fun n hn => by
    match n, hn with
    | 0, _ | 1, _ | 2, _ | 3, _ | 4, _ | 5, _ | 6, _ => decide
  have := key _ hl
  omega

/-- The numbers that have a text. -/
def inR (m : Int) : Prop := -999999 ≤ m ∧ m ≤ 999999

theorem dec_len {u : Nat} (h : u ≤ 999999) : 1 ≤ (Lib.decDigits u).length ∧ (Lib.decDigits u).length ≤ 6 := by
  rw [Lib.decDigits_length]
  exact ⟨Lib.nDigits_pos u, nDigits_pow 5 u (by omega)⟩

theorem itoa_neg (u : Nat) (h : 0 < u) : Lib.itoa (-(u : Int)) = 45 :: Lib.decDigits u := by
  unfold Lib.itoa
  rw [if_pos (by omega)]; congr 2; omega
theorem itoa_nat (u : Nat) : Lib.itoa (u : Int) = Lib.decDigits u := by
  unfold Lib.itoa
  rw [if_neg (by omega)]; congr 1

theorem itoa_cases (m : Int) : (∃ u : Nat, m = u ∧ Lib.itoa m = Lib.decDigits u) ∨ (∃ u : Nat, 0 < u ∧ m = -(u : Int) ∧ Lib.itoa m = 45 :: Lib.decDigits u) := by
  by_cases h : 0 ≤ m
  · left; exact ⟨m.toNat, by omega, by rw [← itoa_nat]; congr 1; omega⟩
  · right; exact ⟨(-m).toNat, by omega, by omega, by rw [← itoa_neg _ (by omega)]; congr 1; omega⟩

/-- A text without '-' is the numeral of its value, if of any number. -/
theorem plain_of_itoa {s : List UInt8} {m : Int} (hm : inR m) (h : Lib.itoa m = s) (h45 : s.head? ≠ some 45 ∨ s.length ≤ 1) :
    1 ≤ s.length ∧ s.length ≤ 6 ∧ allDig s ∧ m = dv 0 s := by
  rcases itoa_cases m with ⟨u, hu, e⟩ | ⟨u, hu0, hu, e⟩
  · obtain ⟨h1, h2, _⟩ := dec_props u
    rw [e] at h; subst h
    have := dec_len (u := u) (by unfold inR at hm; omega)
    exact ⟨this.1, this.2, h1, by rw [h2]; exact hu⟩
  · rw [e] at h; subst h
    have := dec_len (u := u) (by unfold inR at hm; omega)
    rcases h45 with h45 | h45
    · exact absurd rfl h45
    · rw [List.length_cons] at h45; omega

/-- A text that begins with '-': the same of what is behind it. -/
theorem minus_of_itoa {s : List UInt8} {m : Int} (hm : inR m) (h : Lib.itoa m = 45 :: s) :
    1 ≤ s.length ∧ s.length ≤ 6 ∧ allDig s ∧ m = -dv 0 s := by
  rcases itoa_cases m with ⟨u, hu, e⟩ | ⟨u, hu0, hu, e⟩
  · obtain ⟨h1, h2, _⟩ := dec_props u
    rw [e] at h
    have := (h1 45 (by rw [h]; simp)).1
    simp at this
  · rw [e] at h
    obtain rfl : Lib.decDigits u = s := by injection h
    obtain ⟨h1, h2, _⟩ := dec_props u
    have := dec_len (u := u) (by unfold inR at hm; omega)
    exact ⟨this.1, this.2, h1, by rw [h2]; exact hu⟩

theorem itoa_inj {m n : Int} (h : Lib.itoa m = Lib.itoa n) : m = n := by
  rcases itoa_cases m with ⟨u, hu, e⟩ | ⟨u, hu0, hu, e⟩ <;> rcases itoa_cases n with ⟨v, hv, f⟩ | ⟨v, hv0, hv, f⟩
  · rw [e, f] at h
    have h1 := (dec_props u).2.1; have h2 := (dec_props v).2.1
    rw [h] at h1; rw [h1] at h2; omega
  · rw [e, f] at h
    have := ((dec_props u).1 45 (by rw [h]; simp)).1
    simp at this
  · rw [e, f] at h
    have := ((dec_props v).1 45 (by rw [← h]; simp)).1
    simp at this
  · rw [e, f] at h
    have h' : Lib.decDigits u = Lib.decDigits v := by injection h
    have h1 := (dec_props u).2.1; have h2 := (dec_props v).2.1
    rw [h'] at h1; rw [h1] at h2; omega

theorem parseUint10_dig : ∀ (l : List UInt8) (acc : Nat), allDig l → dv acc l ≤ 999999 → Lib.parseUint10 acc l = .ok (dv acc l).toNat
  | [], acc, _, _ => by simp [Lib.parseUint10, dv]
  | c :: l, acc, hd, hb => by
    have hc := hd c (by simp)
    have hd' : allDig l := fun x hx => hd x (by simp [hx])
    have e : dv acc (c :: l) = dv ((acc * 10 + (c.toNat - 48) : Nat) : Int) l := by
      show dv (10 * (acc : Int) + ((c.toNat : Int) - 48)) l = _
      congr 1; omega
    rw [e] at hb ⊢
    have hle := (dv_bound' l ((acc * 10 + (c.toNat - 48) : Nat) : Int) (by omega) hd').1
    rw [Lib.parseUint10, if_pos (by omega), if_neg (by omega), if_neg (by omega)]
    exact parseUint10_dig l _ hd' hb

theorem atoiAll_itoa {m : Int} (hm : inR m) : Lib.atoiAll (Lib.itoa m) = .ok m := by
  unfold inR at hm
  have key : ∀ u : Nat, u ≤ 999999 → Lib.parseMag (Lib.decDigits u) = .ok u := fun u hu => by
    obtain ⟨h1, h2, h3⟩ := dec_props u
    unfold Lib.parseMag
    rw [if_neg h3]
    have := parseUint10_dig (Lib.decDigits u) 0 h1 (by rw [show ((0 : Nat) : Int) = 0 from rfl, h2]; omega)
    rw [this, show ((0 : Nat) : Int) = 0 from rfl, h2]; rfl
  rcases itoa_cases m with ⟨u, hu, e⟩ | ⟨u, hu0, hu, e⟩
  · rw [e]
    obtain ⟨h1, h2, h3⟩ := dec_props u
    obtain ⟨c, r, hcr⟩ : ∃ c r, Lib.decDigits u = c :: r := List.exists_cons_of_ne_nil h3
    have hc := h1 c (by rw [hcr]; simp)
    have hk := key u (by omega)
    rw [hcr] at hk ⊢
    unfold Lib.atoiAll
    simp only []
    rw [if_neg (by omega), hk]
    simp only []
    rw [if_neg (by omega), if_neg (by omega), if_neg (by omega), hu]
  · rw [e]
    unfold Lib.atoiAll
    simp only []
    rw [if_pos (by right; rfl), key u (by omega)]
    simp only []
    rw [if_neg (by simp), if_neg (by omega), if_pos (by rfl), hu]
end Go.Proofs.Ytlendmiolhgecaa.M
