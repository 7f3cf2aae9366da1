/-
  Links that lose, repeat and reorder: mathematics. No program.
-/
namespace Go.Proofs.Ytbhhmaialilabaa
set_option linter.unusedVariables false

/-- A link: the texts on it, its letters, and how many of them are used. -/
structure Lk where
  q : List ByteArray
  f : ByteArray
  u : Int
def lk0 : Lk := ⟨[], ⟨#[]⟩, 0⟩
/-- The number of a letter, or -1. -/
def fateN (b : UInt8) : Int := if b = 107 then 0 else if b = 108 then 1 else if b = 100 then 2 else if b = 115 then 3 else -1
/-- The same of a number. -/
def fateI (x : Int) : Int := if x = 107 then 0 else if x = 108 then 1 else if x = 100 then 2 else if x = 115 then 3 else -1
theorem byte_is (b : UInt8) (n : Nat) (hn : n < 256) : b = UInt8.ofNat n ↔ (b.toNat : Int) = n := by
  constructor
  · intro h
    subst h
    rw [UInt8.toNat_ofNat_of_lt' (by omega)]
  · intro h
    apply UInt8.toNat_inj.1
    rw [UInt8.toNat_ofNat_of_lt' (by omega)]
    omega
theorem fateN_eq (b : UInt8) : fateN b = fateI (b.toNat : Int) := by
  have h1 : b = 107 ↔ (b.toNat : Int) = 107 := byte_is b 107 (by omega)
  have h2 : b = 108 ↔ (b.toNat : Int) = 108 := byte_is b 108 (by omega)
  have h3 : b = 100 ↔ (b.toNat : Int) = 100 := byte_is b 100 (by omega)
  have h4 : b = 115 ↔ (b.toNat : Int) = 115 := byte_is b 115 (by omega)
  unfold fateN fateI
  by_cases e1 : b = 107
  · rw [if_pos e1, if_pos (h1.1 e1)]
  · rw [if_neg e1, if_neg (fun e => e1 (h1.2 e))]
    by_cases e2 : b = 108
    · rw [if_pos e2, if_pos (h2.1 e2)]
    · rw [if_neg e2, if_neg (fun e => e2 (h2.2 e))]
      by_cases e3 : b = 100
      · rw [if_pos e3, if_pos (h3.1 e3)]
      · rw [if_neg e3, if_neg (fun e => e3 (h3.2 e))]
        by_cases e4 : b = 115
        · rw [if_pos e4, if_pos (h4.1 e4)]
        · rw [if_neg e4, if_neg (fun e => e4 (h4.2 e))]
theorem fateN_bd (b : UInt8) : -1 ≤ fateN b ∧ fateN b ≤ 3 := by
  unfold fateN
  repeat' split
  all_goals omega
def shortB (s : ByteArray) : Bool := decide (s.size ≤ 60)
def letB (b : UInt8) : Bool := decide (0 ≤ fateN b)
/-- Whether a link is valid. -/
def lkOk (l : Lk) : Bool := (l.q.all shortB && l.f.data.toList.all letB) && ((decide (l.q.length ≤ 8) && decide (l.f.size ≤ 40)) && (decide (0 ≤ l.u) && decide (l.u ≤ l.f.size)))
theorem lkOk_parts {l : Lk} (h : lkOk l = true) : (∀ s ∈ l.q, s.size ≤ 60) ∧ (∀ b ∈ l.f.data.toList, 0 ≤ fateN b) ∧ l.q.length ≤ 8 ∧ l.f.size ≤ 40 ∧ 0 ≤ l.u ∧ l.u ≤ l.f.size := by
  unfold lkOk at h
  simp only [Bool.and_eq_true, decide_eq_true_eq, List.all_eq_true] at h
  exact ⟨fun s hs => of_decide_eq_true (h.1.1 s hs), fun b hb => of_decide_eq_true (h.1.2 b hb), h.2.1.1, h.2.1.2, h.2.2.1, h.2.2.2⟩
theorem lkOk_yes {l : Lk} (h1 : ∀ s ∈ l.q, s.size ≤ 60) (h2 : ∀ b ∈ l.f.data.toList, 0 ≤ fateN b) (h3 : l.q.length ≤ 8) (h4 : l.f.size ≤ 40) (h5 : 0 ≤ l.u) (h6 : l.u ≤ l.f.size) : lkOk l = true := by
  unfold lkOk
  simp only [Bool.and_eq_true, decide_eq_true_eq, List.all_eq_true]
  exact ⟨⟨fun s hs => decide_eq_true (h1 s hs), fun b hb => decide_eq_true (h2 b hb)⟩, ⟨h3, h4⟩, h5, h6⟩
theorem lkOk_no {l : Lk} (h : ¬ ((∀ s ∈ l.q, s.size ≤ 60) ∧ (∀ b ∈ l.f.data.toList, 0 ≤ fateN b) ∧ l.q.length ≤ 8 ∧ l.f.size ≤ 40 ∧ 0 ≤ l.u ∧ l.u ≤ l.f.size)) : lkOk l = false := by
  cases e : lkOk l with
  | false => rfl
  | true => exact absurd (lkOk_parts e) h
/-- When both lists have been looked through, the rest decides. -/
theorem lkOk_rest {l : Lk} (h1 : ∀ s ∈ l.q, s.size ≤ 60) (h2 : ∀ b ∈ l.f.data.toList, 0 ≤ fateN b) : lkOk l = ((decide (l.q.length ≤ 8) && decide (l.f.size ≤ 40)) && (decide (0 ≤ l.u) && decide (l.u ≤ l.f.size))) := by
  have e1 : l.q.all shortB = true := by rw [List.all_eq_true]; exact fun s hs => decide_eq_true (h1 s hs)
  have e2 : l.f.data.toList.all letB = true := by rw [List.all_eq_true]; exact fun b hb => decide_eq_true (h2 b hb)
  unfold lkOk
  rw [e1, e2]
  rfl
/-- The letter for the next text. -/
def fateB (l : Lk) : UInt8 := if l.u = l.f.size then 107 else l.f.data.toList.getD l.u.toNat 107
theorem fateB_end {l : Lk} (h : l.u = l.f.size) : fateB l = 107 := if_pos h
theorem fateB_at {l : Lk} (h : lkOk l = true) (hne : l.u ≠ l.f.size) : ∃ (k : Nat) (hk : k < l.f.size), l.u = (k : Int) ∧ fateB l = l.f[k] := by
  obtain ⟨_, _, _, _, h0, h1⟩ := lkOk_parts h
  have hk : l.u.toNat < l.f.size := by omega
  refine ⟨l.u.toNat, hk, by omega, ?_⟩
  unfold fateB
  rw [if_neg hne, List.getD_eq_getElem?_getD, List.getElem?_eq_getElem (by simpa using hk)]
  rfl
theorem fateB_four {l : Lk} (h : lkOk l = true) : fateB l = 107 ∨ fateB l = 108 ∨ fateB l = 100 ∨ fateB l = 115 := by
  by_cases e : l.u = l.f.size
  · exact .inl (fateB_end e)
  · obtain ⟨k, hk, _, e2⟩ := fateB_at h e
    have := (lkOk_parts h).2.1 l.f[k] (by
      have : l.f[k] = l.f.data.toList[k]'(by simpa using hk) := rfl
      rw [this]
      exact List.getElem_mem _)
    rw [e2]
    unfold fateN at this
    split at this
    · rename_i h; exact .inl h
    · split at this
      · rename_i h; exact .inr (.inl h)
      · split at this
        · rename_i h; exact .inr (.inr (.inl h))
        · split at this
          · rename_i h; exact .inr (.inr (.inr h))
          · omega
/-- The letters used after one more text. -/
def usedN (l : Lk) : Int := if l.u + 1 < l.f.size then l.u + 1 else l.f.size
/-- The texts behind a text that is sent and not refused. -/
def putQ (b : UInt8) (q : List ByteArray) (s : ByteArray) : List ByteArray :=
  if b = 108 then q
  else if b = 115 ∧ 0 < q.length then q.dropLast ++ [s] ++ q.drop (q.length - 1)
  else if b = 100 ∧ q.length + 1 < 8 then q ++ [s, s]
  else q ++ [s]
def sendOk (l : Lk) (s : ByteArray) : Bool := (lkOk l && decide (s.size ≤ 60)) && (decide (fateB l = 108) || decide (l.q.length ≠ 8))
def sendL (l : Lk) (s : ByteArray) : Lk := if sendOk l s = true then ⟨putQ (fateB l) l.q s, l.f, usedN l⟩ else lk0
def takeOk (l : Lk) : Bool := lkOk l && decide (l.q ≠ [])
def takeL (l : Lk) : Lk := if takeOk l = true then ⟨l.q.tail, l.f, l.u⟩ else lk0
def takeS (l : Lk) : ByteArray := if takeOk l = true then l.q.headD ⟨#[]⟩ else ⟨#[]⟩
def dropOk (l : Lk) (i : Int) : Bool := lkOk l && (decide (0 ≤ i) && decide (i ≤ (l.q.length : Int) - 1))
def dropL (l : Lk) (i : Int) : Lk := if dropOk l i = true then ⟨l.q.take i.toNat ++ l.q.drop (i.toNat + 1), l.f, l.u⟩ else lk0
def nextFate (l : Lk) : UInt8 := if lkOk l = true then fateB l else 0
def newOk (f : ByteArray) : Bool := lkOk ⟨[], f, 0⟩
def newL (f : ByteArray) : Lk := if newOk f = true then ⟨[], f, 0⟩ else lk0
def step7 (a : Lk × Int) (s : ByteArray) : Lk × Int := if sendOk a.1 s = true then (sendL a.1 s, a.2) else (a.1, a.2 + 1)
def run7 (l : Lk) (t : List ByteArray) : Lk × Int := t.foldl step7 (l, 0)
theorem run7_snoc (l : Lk) (t : List ByteArray) (s : ByteArray) : run7 l (t ++ [s]) = step7 (run7 l t) s := by unfold run7; rw [List.foldl_append]; rfl
theorem run7_nil (l : Lk) : run7 l [] = (l, 0) := rfl
def allOk (l : Lk) (t : List ByteArray) : Bool := lkOk l && decide (t.length ≤ 20)
def allL (l : Lk) (t : List ByteArray) : Lk := if allOk l t = true then (run7 l t).1 else lk0
def allN (l : Lk) (t : List ByteArray) : Int := if allOk l t = true then (run7 l t).2 else 0
theorem run7_bd (l : Lk) : ∀ (n : Nat) (t : List ByteArray), t.length = n → 0 ≤ (run7 l t).2 ∧ (run7 l t).2 ≤ n
  | 0, t, h => by rw [List.eq_nil_of_length_eq_zero h]; exact ⟨Int.le_refl _, Int.le_refl _⟩
  | n + 1, t, h => by
    have hne : t ≠ [] := fun e => by rw [e] at h; simp at h
    have ih := run7_bd l n t.dropLast (by rw [List.length_dropLast]; omega)
    rw [← List.dropLast_concat_getLast hne, run7_snoc]
    unfold step7
    split <;> simp only <;> omega
def drainL (l : Lk) : Lk := if lkOk l = true then ⟨[], l.f, l.u⟩ else lk0
def drainT (l : Lk) : List ByteArray := if lkOk l = true then l.q else []
/-- How many of some letters are the k-th. -/
def cntL (bs : List UInt8) (k : Int) : Nat := (bs.filter fun b => decide (fateN b = k)).length
def cntR (bs : List UInt8) : List Int := [(cntL bs 0 : Int), (cntL bs 1 : Int), (cntL bs 2 : Int), (cntL bs 3 : Int)]
def cntV (l : Lk) : List Int := if lkOk l = true then cntR (l.f.data.toList.drop l.u.toNat) else []
theorem cntL_snoc (bs : List UInt8) (b : UInt8) (k : Int) : cntL (bs ++ [b]) k = cntL bs k + (if fateN b = k then 1 else 0) := by
  unfold cntL
  rw [List.filter_append, List.length_append]
  by_cases h : fateN b = k
  · rw [if_pos h]; simp [h]
  · rw [if_neg h]; simp [h]
theorem cnt_sum : ∀ (bs : List UInt8), (∀ b ∈ bs, 0 ≤ fateN b) → cntL bs 0 + cntL bs 1 + cntL bs 2 + cntL bs 3 = bs.length
  | [], _ => rfl
  | b :: bs, h => by
    have ih := cnt_sum bs (fun c hc => h c (List.mem_cons_of_mem _ hc))
    have h0 := h b (List.mem_cons_self ..)
    have h1 := fateN_bd b
    have e : ∀ k : Int, cntL (b :: bs) k = (if fateN b = k then 1 else 0) + cntL bs k := fun k => by
      unfold cntL
      by_cases hk : fateN b = k
      · rw [if_pos hk]; simp [hk]; omega
      · rw [if_neg hk]; simp [hk]
    rw [e 0, e 1, e 2, e 3, List.length_cons]
    have : fateN b = 0 ∨ fateN b = 1 ∨ fateN b = 2 ∨ fateN b = 3 := by omega
    rcases this with h2 | h2 | h2 | h2 <;> rw [h2] <;> simp <;> omega
/-- A link that a text was sent on is valid. -/
theorem putQ_len {b : UInt8} {q : List ByteArray} {s : ByteArray} : (putQ b q s).length ≤ q.length + 2 ∧ (b ≠ 108 → q.length ≠ 8 → q.length ≤ 8 → (putQ b q s).length ≤ 8) := by
  unfold putQ
  split
  · exact ⟨by omega, fun h => absurd ‹_› h⟩
  · split
    · rename_i h1 h2
      simp only [List.length_append, List.length_dropLast, List.length_drop, List.length_cons, List.length_nil]
      omega
    · split
      · simp only [List.length_append, List.length_cons, List.length_nil]; omega
      · simp only [List.length_append, List.length_cons, List.length_nil]; omega
theorem putQ_mem {b : UInt8} {q : List ByteArray} {s x : ByteArray} (h : x ∈ putQ b q s) : x ∈ q ∨ x = s := by
  unfold putQ at h
  split at h
  · exact .inl h
  · split at h
    · simp only [List.mem_append, List.mem_cons, List.not_mem_nil, or_false] at h
      rcases h with (h | h) | h
      · exact .inl ((List.dropLast_sublist _).subset h)
      · exact .inr h
      · exact .inl (List.mem_of_mem_drop h)
    · split at h
      · simp only [List.mem_append, List.mem_cons, List.not_mem_nil, or_false] at h
        rcases h with h | h | h
        · exact .inl h
        · exact .inr h
        · exact .inr h
      · simp only [List.mem_append, List.mem_cons, List.not_mem_nil, or_false] at h
        rcases h with h | h
        · exact .inl h
        · exact .inr h
theorem usedN_bd {l : Lk} (h : lkOk l = true) : l.u ≤ usedN l ∧ usedN l ≤ l.u + 1 ∧ usedN l ≤ l.f.size ∧ 0 ≤ usedN l := by
  obtain ⟨_, _, _, _, h0, h1⟩ := lkOk_parts h
  unfold usedN
  split <;> omega
theorem sendOk_parts {l : Lk} {s : ByteArray} (h : sendOk l s = true) : lkOk l = true ∧ s.size ≤ 60 ∧ (fateB l = 108 ∨ l.q.length ≠ 8) := by
  unfold sendOk at h
  simp only [Bool.and_eq_true, Bool.or_eq_true, decide_eq_true_eq] at h
  exact ⟨h.1.1, h.1.2, h.2⟩
theorem send_valid {l : Lk} {s : ByteArray} (h : sendOk l s = true) : lkOk (sendL l s) = true := by
  obtain ⟨h1, h2, h3⟩ := sendOk_parts h
  obtain ⟨a1, a2, a3, a4, a5, a6⟩ := lkOk_parts h1
  have e : sendL l s = ⟨putQ (fateB l) l.q s, l.f, usedN l⟩ := if_pos h
  rw [e]
  obtain ⟨u0, u1, u2, u3⟩ := usedN_bd h1
  refine lkOk_yes (fun x hx => ?_) a2 ?_ a4 u3 u2
  · rcases putQ_mem hx with hx | hx
    · exact a1 x hx
    · rw [hx]; exact h2
  · by_cases hb : fateB l = 108
    · show (putQ (fateB l) l.q s).length ≤ 8
      unfold putQ
      rw [if_pos hb]
      exact a3
    · exact putQ_len.2 hb (h3.resolve_left hb) a3
theorem run_valid {l : Lk} (h : lkOk l = true) : ∀ (n : Nat) (t : List ByteArray), t.length = n → lkOk (run7 l t).1 = true
  | 0, t, ht => by rw [List.eq_nil_of_length_eq_zero ht]; exact h
  | n + 1, t, ht => by
    have hne : t ≠ [] := fun e => by rw [e] at ht; simp at ht
    have ih := run_valid h n t.dropLast (by rw [List.length_dropLast]; omega)
    rw [← List.dropLast_concat_getLast hne, run7_snoc]
    unfold step7
    split
    · rename_i hs; exact send_valid hs
    · exact ih
/-- What the law asks of a text that is sent. -/
theorem send_law {l : Lk} {s : ByteArray} (h : sendOk l s = true) : lkOk (sendL l s) = true ∧ nextFate l = fateB l ∧ l.q.length ≤ (sendL l s).q.length ∧ (sendL l s).q.length ≤ l.q.length + 2 ∧
    (fateB l = 108 ↔ (sendL l s).q.length = l.q.length) ∧ ((sendL l s).q.length = l.q.length + 2 → fateB l = 100) ∧ l.u ≤ (sendL l s).u ∧ (sendL l s).u ≤ l.u + 1 ∧
    (fateB l = 107 → (sendL l s).q = l.q ++ [s]) := by
  obtain ⟨h1, h2, h3⟩ := sendOk_parts h
  have e : sendL l s = ⟨putQ (fateB l) l.q s, l.f, usedN l⟩ := if_pos h
  have hv := send_valid h
  obtain ⟨u0, u1, u2, u3⟩ := usedN_bd h1
  refine ⟨hv, if_pos h1, ?_⟩
  rw [e]
  simp only
  have hl : (putQ (fateB l) l.q s).length = (if fateB l = 108 then l.q.length else if fateB l = 115 ∧ 0 < l.q.length then l.q.length + 1 else if fateB l = 100 ∧ l.q.length + 1 < 8 then l.q.length + 2 else l.q.length + 1) := by
    unfold putQ
    split
    · rfl
    · split
      · simp only [List.length_append, List.length_dropLast, List.length_drop, List.length_cons, List.length_nil]; omega
      · split
        · simp only [List.length_append, List.length_cons, List.length_nil]
        · simp only [List.length_append, List.length_cons, List.length_nil]
  rw [hl]
  refine ⟨?_, ?_, ⟨fun hb => if_pos hb, fun hb => ?_⟩, fun hb => ?_, u0, u1, fun hb => ?_⟩
  · split
    · omega
    · split
      · omega
      · split <;> omega
  · split
    · omega
    · split
      · omega
      · split <;> omega
  · rcases Decidable.em (fateB l = 108) with h0 | h0
    · exact h0
    · rw [if_neg h0] at hb
      split at hb
      · omega
      · split at hb <;> omega
  · split at hb
    · omega
    · split at hb
      · omega
      · split at hb
        · rename_i h0; exact h0.1
        · omega
  · unfold putQ
    rw [hb]
    rfl
/-- What the law asks of a text that is taken. -/
theorem take_law {l : Lk} (h : takeOk l = true) : dropOk l 0 = true ∧ dropL l 0 = takeL l ∧ ∃ hq : 0 < l.q.length, takeS l = l.q[0] := by
  have hh := h
  unfold takeOk at hh
  rw [Bool.and_eq_true, decide_eq_true_eq] at hh
  obtain ⟨h1, h2⟩ := hh
  have hq : 0 < l.q.length := List.length_pos_iff.2 h2
  have hd : dropOk l 0 = true := by
    unfold dropOk
    rw [h1, decide_eq_true (show (0 : Int) ≤ 0 by omega), decide_eq_true (show (0 : Int) ≤ (l.q.length : Int) - 1 by omega)]; rfl
  refine ⟨hd, ?_, hq, ?_⟩
  · unfold dropL takeL
    rw [if_pos hd, if_pos h]
    simp
  · unfold takeS
    rw [if_pos h]
    rw [List.headD_eq_head?_getD, List.head?_eq_getElem?, List.getElem?_eq_getElem hq]
    rfl
/-- Taking the texts one after the other. -/
def takeN (l : Lk) (k : Nat) : Lk := ⟨l.q.drop k, l.f, l.u⟩
theorem takeN_zero (l : Lk) : takeN l 0 = l := rfl
theorem takeN_step {l : Lk} (h : lkOk l = true) {k : Nat} (hk : k < l.q.length) : takeOk (takeN l k) = true ∧ takeL (takeN l k) = takeN l (k + 1) ∧ takeS (takeN l k) = l.q[k] := by
  obtain ⟨a1, a2, a3, a4, a5, a6⟩ := lkOk_parts h
  have hv : lkOk (takeN l k) = true := lkOk_yes (fun s hs => a1 s (List.mem_of_mem_drop hs)) a2 (by show (l.q.drop k).length ≤ 8; rw [List.length_drop]; omega) a4 a5 a6
  have hd : l.q.drop k = l.q[k] :: l.q.drop (k + 1) := List.drop_eq_getElem_cons hk
  have hne : (takeN l k).q ≠ [] := by
    show l.q.drop k ≠ []
    rw [hd]
    exact List.cons_ne_nil _ _
  have ht : takeOk (takeN l k) = true := by
    unfold takeOk
    rw [hv, decide_eq_true hne]; rfl
  refine ⟨ht, ?_, ?_⟩
  · unfold takeL
    rw [if_pos ht]
    show (⟨(l.q.drop k).tail, l.f, l.u⟩ : Lk) = ⟨l.q.drop (k + 1), l.f, l.u⟩
    rw [hd]; rfl
  · unfold takeS
    rw [if_pos ht]
    show (l.q.drop k).headD _ = _
    rw [hd]; rfl
theorem takeN_all {l : Lk} (h : lkOk l = true) : takeN l l.q.length = drainL l := by
  unfold takeN drainL
  rw [if_pos h, List.drop_length]
/-- The letters that are left, counted. -/
theorem cnt_law {l : Lk} (h : lkOk l = true) : ∃ a b c d : Nat, cntV l = [(a : Int), (b : Int), (c : Int), (d : Int)] ∧ (a : Int) + b + c + d = (l.f.size : Int) - l.u ∧ a + b + c + d ≤ 40 := by
  obtain ⟨_, a2, _, a4, a5, a6⟩ := lkOk_parts h
  have e : cntV l = cntR (l.f.data.toList.drop l.u.toNat) := if_pos h
  have hs := cnt_sum (l.f.data.toList.drop l.u.toNat) (fun b hb => a2 b (List.mem_of_mem_drop hb))
  have hl : (l.f.data.toList.drop l.u.toNat).length = l.f.size - l.u.toNat := by rw [List.length_drop]; simp
  refine ⟨_, _, _, _, e, ?_, ?_⟩ <;> omega
end Go.Proofs.Ytbhhmaialilabaa
