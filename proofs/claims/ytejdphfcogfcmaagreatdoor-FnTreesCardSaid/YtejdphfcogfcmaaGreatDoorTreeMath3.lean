/-
  Trees: what the program's ways of reckoning come to: meeting nodes, faces, ways up, branches, leaves. No program.
-/
import Derived.Test.YtejdphfcogfcmaaGreatDoorTreeMath2
namespace Go.Proofs.YtejdphfcogfcmaaGreatDoor
set_option linter.unusedVariables false

/-! ### Meeting nodes -/
def meetF (p : List Int) (b : Int) (l : List Int) : Int := l.foldl (fun last x => if x ∈ pth p b then x else last) 0
theorem meetF_snoc (p : List Int) (b : Int) (l : List Int) (x : Int) : meetF p b (l ++ [x]) = if x ∈ pth p b then x else meetF p b l := by
  unfold meetF
  rw [List.foldl_append]
  rfl
theorem pth_not_gt {p : List Int} (h : trOk p = true) {a b : Nat} (hb : b < p.length) (hab : b < a) : (a : Int) ∉ pth p (b : Int) := fun hx => by
  have := pth_mem h b hb _ hx
  omega
theorem pth_self {p : List Int} (h : trOk p = true) {a : Nat} (ha : a < p.length) : (a : Int) ∈ pth p (a : Int) := by
  obtain ⟨l, hl, _⟩ := pth_end h ha
  rw [hl]
  exact List.mem_append_right _ (List.mem_singleton.2 rfl)
theorem meet_eq {p : List Int} (h : trOk p = true) {a : Nat} (ha : a < p.length) : meetV p (a : Int) (a : Int) = (a : Int) := by
  have hs := pth_self h ha
  obtain ⟨l, hl, _⟩ := pth_end h ha
  show meetF p (a : Int) (pth p (a : Int)) = _
  have e : meetF p (a : Int) (l ++ [(a : Int)]) = (a : Int) := by rw [meetF_snoc, if_pos hs]
  rw [← hl] at e
  exact e
theorem meet_gt {p : List Int} (h : trOk p = true) {a b : Nat} (ha : a < p.length) (hb : b < p.length) (hab : b < a) : ∃ m : Nat, par6 p a = (m : Int) ∧ m < a ∧ meetV p (a : Int) (b : Int) = meetV p (m : Int) (b : Int) := by
  obtain ⟨m, hm, hma⟩ := par_nat h (by omega) ha
  refine ⟨m, hm, hma, ?_⟩
  show meetF p (b : Int) (pth p (a : Int)) = meetF p (b : Int) (pth p (m : Int))
  rw [pth_up h (by omega) ha hm, meetF_snoc, if_neg (pth_not_gt h hb hab)]
theorem foldl_same {α β : Type} {f g : β → α → β} : ∀ (l : List α) (b : β), (∀ x ∈ l, ∀ b, f b x = g b x) → l.foldl f b = l.foldl g b
  | [], _, _ => rfl
  | x :: l, b, h => by
    rw [List.foldl_cons, List.foldl_cons, h x (List.mem_cons_self ..) b]
    exact foldl_same l _ (fun y hy => h y (List.mem_cons_of_mem _ hy))
theorem meet_lt {p : List Int} (h : trOk p = true) {a b : Nat} (ha : a < p.length) (hb : b < p.length) (hab : a < b) : ∃ m : Nat, par6 p b = (m : Int) ∧ m < b ∧ meetV p (a : Int) (b : Int) = meetV p (a : Int) (m : Int) := by
  obtain ⟨m, hm, hmb⟩ := par_nat h (by omega) hb
  refine ⟨m, hm, hmb, ?_⟩
  unfold meetV
  refine foldl_same _ _ (fun x hx last => ?_)
  have hxa := pth_mem h a ha x hx
  have : x ∈ pth p (b : Int) ↔ x ∈ pth p (m : Int) := by
    rw [pth_up h (by omega) hb hm, List.mem_append, List.mem_singleton]
    constructor
    · rintro (h1 | h1)
      · exact h1
      · omega
    · exact .inl
  simp only [this]

/-! ### Ways up, faces -/
/-- The nodes from a node up to the source. -/
def upL (p : List Int) (n : Int) : List Int := if 0 ≤ n then (pth p n).reverse else []
theorem upL_end (p : List Int) {n : Int} (h : n < 0) : upL p n = [] := if_neg (by omega)
theorem upL_step {p : List Int} (h : trOk p = true) {n : Nat} (hn : n < p.length) : upL p (n : Int) = (n : Int) :: upL p (par6 p n) := by
  unfold upL
  rw [if_pos (by omega)]
  by_cases e : n = 0
  · subst e
    obtain ⟨_, _, h0, _⟩ := trOk_parts h
    rw [if_neg (by rw [h0]; omega), show ((0 : Nat) : Int) = 0 from rfl, pth_root h]
    rfl
  · obtain ⟨m, hm, hmn⟩ := par_nat h (by omega) hn
    rw [pth_up h (by omega) hn hm, hm, if_pos (by omega), List.reverse_append]
    rfl
theorem upL_len {p : List Int} (h : trOk p = true) {n : Nat} (hn : n < p.length) : (upL p (n : Int)).length ≤ n + 1 := by
  unfold upL
  rw [if_pos (by omega), List.length_reverse]
  exact (pth_len h n hn).2
theorem upL_rev (p : List Int) {n : Int} (h : 0 ≤ n) : (upL p n).reverse = pth p n := by unfold upL; rw [if_pos h, List.reverse_reverse]
theorem upL_mem {p : List Int} (h : trOk p = true) {n : Nat} (hn : n < p.length) : ∀ x ∈ upL p (n : Int), 0 ≤ x ∧ x < p.length := by
  intro x hx
  unfold upL at hx
  rw [if_pos (by omega)] at hx
  have := pth_mem h n hn x (List.mem_reverse.1 hx)
  omega
theorem nextOf_skip {n m z : Int} (hm : m ≠ n) : ∀ (l : List Int), nextOf n (l ++ [m] ++ [z]) = nextOf n (l ++ [m])
  | [] => by show (if m = n then some z else nextOf n [z]) = nextOf n [m]; rw [if_neg hm]; rfl
  | [x] => by
    show (if x = n then some m else (if m = n then some z else nextOf n [z])) = (if x = n then some m else nextOf n [m])
    rw [if_neg hm]; rfl
  | x :: q :: l => by
    show (if x = n then some q else nextOf n (q :: (l ++ [m] ++ [z]))) = (if x = n then some q else nextOf n (q :: (l ++ [m])))
    rw [show q :: (l ++ [m] ++ [z]) = (q :: l) ++ [m] ++ [z] from rfl, nextOf_skip hm (q :: l)]
    rfl
def isUp (p : List Int) (n : Int) (y : Int) : Bool := decide (par6 p y.toNat = n)
theorem face_find {p : List Int} (h : trOk p = true) {n : Int} (h0 : 0 ≤ n) : ∀ (x : Nat), x < p.length → nextOf n (pth p (x : Int)) = (upL p (x : Int)).find? (isUp p n) := by
  intro x
  induction x using Nat.strongRecOn with
  | ind x ih =>
    intro hx
    rw [upL_step h hx, List.find?_cons]
    by_cases e : x = 0
    · subst e
      obtain ⟨_, _, hr, _⟩ := trOk_parts h
      have hno : isUp p n ((0 : Nat) : Int) = false := by unfold isUp; rw [Int.toNat_natCast, hr]; exact decide_eq_false (by omega)
      rw [hno, hr, upL_end p (by omega), show ((0 : Nat) : Int) = 0 from rfl, pth_root h]
      rfl
    · obtain ⟨m, hm, hmx⟩ := par_nat h (by omega) hx
      obtain ⟨l, hl, hnl⟩ := pth_end h (n := m) (by omega)
      rw [pth_up h (by omega) hx hm]
      by_cases emn : (m : Int) = n
      · subst emn
        have hyes : isUp p (m : Int) (x : Int) = true := by unfold isUp; rw [Int.toNat_natCast, hm]; exact decide_eq_true rfl
        rw [hyes, hl]
        exact nextOf_last hnl
      · have hno : isUp p n (x : Int) = false := by unfold isUp; rw [Int.toNat_natCast, hm]; exact decide_eq_false emn
        have ihm := ih m hmx (by omega)
        rw [hno, hm, ← ihm, hl]
        exact nextOf_skip emn l
theorem face_hit {p : List Int} (h : trOk p = true) {n : Int} (h0 : 0 ≤ n) {x : Nat} (hx : x < p.length) {pre rest : List Int} {y : Int} (e : upL p (x : Int) = pre ++ y :: rest) (hp : ∀ z ∈ pre, par6 p z.toNat ≠ n) (hy : par6 p y.toNat = n) : nextOf n (pth p (x : Int)) = some y := by
  rw [face_find h h0 x hx, e, List.find?_append]
  have h1 : pre.find? (isUp p n) = none := List.find?_eq_none.2 (fun z hz => by unfold isUp; simp; exact hp z hz)
  have h2 : isUp p n y = true := by unfold isUp; exact decide_eq_true hy
  rw [h1, List.find?_cons, h2]
  rfl
theorem face_miss {p : List Int} (h : trOk p = true) {n : Int} (h0 : 0 ≤ n) {x : Nat} (hx : x < p.length) (hp : ∀ z ∈ upL p (x : Int), par6 p z.toNat ≠ n) : nextOf n (pth p (x : Int)) = none := by
  rw [face_find h h0 x hx]
  exact List.find?_eq_none.2 (fun z hz => by unfold isUp; simp; exact hp z hz)
theorem nextOf_end {n : Int} : ∀ {l : List Int}, n ∉ l → nextOf n (l ++ [n]) = none
  | [], _ => rfl
  | [x], h => by
    have hx : x ≠ n := fun e => h (by rw [e]; exact List.mem_cons_self ..)
    show (if x = n then some n else none) = none
    rw [if_neg hx]
  | x :: q :: l, h => by
    have hx : x ≠ n := fun e => h (by rw [e]; exact List.mem_cons_self ..)
    show (if x = n then some q else nextOf n (q :: (l ++ [n]))) = none
    rw [if_neg hx]
    exact nextOf_end (l := q :: l) (fun h2 => h (List.mem_cons_of_mem _ h2))
/-- A face of a node to itself there is none: the test of the two being one is not needed. -/
theorem faceOk_plain (p : List Int) (n t : Int) : faceOk p n t = ((ndOk p n && ndOk p t) && (nextOf n (pth p t)).isSome) := by
  unfold faceOk
  by_cases e : n = t
  · subst e
    cases hn : ndOk p n with
    | false => rfl
    | true =>
      obtain ⟨h1, h2, h3⟩ := ndOk_parts hn
      obtain ⟨k, rfl⟩ : ∃ k : Nat, n = (k : Int) := ⟨n.toNat, by omega⟩
      obtain ⟨l, hl, hnl⟩ := pth_end h1 (n := k) (by omega)
      rw [hl, nextOf_end hnl]
      simp
  · rw [decide_eq_true e, Bool.and_true]

/-! ### Children, leaves, leaves to be added -/
theorem chl_all {p : List Int} (h : trOk p = true) {n : Int} (hn : 0 ≤ n) : pick6 (fun i => decide (par6 p i = n)) p.length = chl p n := by
  obtain ⟨_, _, h0, _⟩ := trOk_parts h
  refine pick6_congr (fun i hi => ?_)
  unfold chB
  by_cases e : i = 0
  · subst e
    rw [h0, decide_eq_false (show ¬ (-1 : Int) = n by omega)]; rfl
  · rw [decide_eq_true (show 1 ≤ i by omega), Bool.true_and]
theorem lvs_all {p : List Int} (h : trOk p = true) : pick6 (fun i => decide ((chl p (i : Int)).length = 0)) p.length = lvs p := by
  obtain ⟨h2, _, _, hu⟩ := trOk_parts h
  refine pick6_congr (fun i hi => ?_)
  unfold lfB
  by_cases e : i = 0
  · subst e
    have h1 : (1 : Int) ∈ chl p 0 := chl_mem.2 ⟨1, rfl, by omega, by omega, by have := hu 1 (by omega) (by omega); omega⟩
    have : (chl p ((0 : Nat) : Int)).length ≠ 0 := fun e => by
      rw [List.length_eq_zero_iff] at e
      rw [show ((0 : Nat) : Int) = 0 from rfl] at e
      rw [e] at h1
      cases h1
    rw [decide_eq_false this]; rfl
  · rw [decide_eq_true (show 1 ≤ i by omega), Bool.true_and]
    simp [List.length_eq_zero_iff]
theorem leaf_ok {p : List Int} {n : Int} (h : ndOk p n = true) : trOk (p ++ [n]) = leafOk p n := by
  cases hl : leafOk p n with
  | true => exact (leaf_tree hl).1
  | false =>
    unfold leafOk at hl
    rw [h, Bool.true_and, decide_eq_false_iff_not] at hl
    refine trOk_len ?_
    rw [List.length_append]
    simp only [List.length_cons, List.length_nil]
    omega

/-! ### Branches -/
/-- The nodes of the branch that begins at a node, each before those below it. -/
def brl (p : List Int) : Nat → Int → List Int
  | 0, _ => []
  | f + 1, n => n :: (chl p n).flatMap (brl p f)
theorem brl_succ (p : List Int) (f : Nat) (n : Int) : brl p (f + 1) n = n :: (chl p n).flatMap (brl p f) := rfl
theorem chl_nat {p : List Int} (h : trOk p = true) {n : Nat} {c : Int} (hc : c ∈ chl p (n : Int)) : ∃ k : Nat, c = (k : Int) ∧ n < k ∧ k < p.length ∧ par6 p k = (n : Int) := by
  obtain ⟨i, e, hi, h1, hp⟩ := chl_mem.1 hc
  obtain ⟨m, hm, hmi⟩ := par_nat h h1 hi
  exact ⟨i, e, by omega, hi, hp⟩
theorem pth_trans {p : List Int} (h : trOk p = true) {c n : Nat} (hc : 1 ≤ c) (hcl : c < p.length) (hp : par6 p c = (n : Int)) : ∀ (x : Nat), x < p.length → (c : Int) ∈ pth p (x : Int) → (n : Int) ∈ pth p (x : Int) := by
  intro x
  induction x using Nat.strongRecOn with
  | ind x ih =>
    intro hx hm
    by_cases e : x = 0
    · subst e
      rw [show ((0 : Nat) : Int) = 0 from rfl, pth_root h] at hm
      simp at hm
      omega
    · obtain ⟨m, hpar, hmx⟩ := par_nat h (by omega) hx
      rw [pth_up h (by omega) hx hpar] at hm ⊢
      rcases List.mem_append.1 hm with h1 | h1
      · exact List.mem_append_left _ (ih m hmx (by omega) h1)
      · have e2 : c = x := by simp at h1; omega
        subst e2
        obtain rfl : m = n := by omega
        exact List.mem_append_left _ (pth_self h (by omega))
/-- On the path to a node the one behind a node is the child that is on the path. -/
theorem next_child {p : List Int} (h : trOk p = true) {c n : Nat} (hc : 1 ≤ c) (hcl : c < p.length) (hp : par6 p c = (n : Int)) : ∀ (x : Nat), x < p.length → (c : Int) ∈ pth p (x : Int) → nextOf (n : Int) (pth p (x : Int)) = some (c : Int) := by
  intro x
  induction x using Nat.strongRecOn with
  | ind x ih =>
    intro hx hm
    by_cases e : x = 0
    · subst e
      rw [show ((0 : Nat) : Int) = 0 from rfl, pth_root h] at hm
      simp at hm
      omega
    · obtain ⟨m, hpar, hmx⟩ := par_nat h (by omega) hx
      rw [pth_up h (by omega) hx hpar] at hm ⊢
      rcases List.mem_append.1 hm with h1 | h1
      · exact nextOf_append (ih m hmx (by omega) h1)
      · have e2 : c = x := by simp at h1; omega
        subst e2
        obtain rfl : m = n := by omega
        obtain ⟨l, hl, hnl⟩ := pth_end h (n := m) (by omega)
        rw [hl]
        exact nextOf_last hnl
theorem child_on {p : List Int} (h : trOk p = true) {n : Nat} : ∀ (x : Nat), x < p.length → (n : Int) ∈ pth p (x : Int) → x ≠ n → ∃ c : Nat, n < c ∧ c < p.length ∧ par6 p c = (n : Int) ∧ (c : Int) ∈ pth p (x : Int) := by
  intro x
  induction x using Nat.strongRecOn with
  | ind x ih =>
    intro hx hm hne
    by_cases e : x = 0
    · subst e
      rw [show ((0 : Nat) : Int) = 0 from rfl, pth_root h] at hm
      simp at hm
      omega
    · obtain ⟨m, hpar, hmx⟩ := par_nat h (by omega) hx
      by_cases emn : m = n
      · subst emn
        exact ⟨x, hmx, hx, hpar, pth_self h hx⟩
      · rw [pth_up h (by omega) hx hpar] at hm ⊢
        rcases List.mem_append.1 hm with h1 | h1
        · obtain ⟨c, c1, c2, c3, c4⟩ := ih m hmx (by omega) h1 emn
          exact ⟨c, c1, c2, c3, List.mem_append_left _ c4⟩
        · simp at h1
          omega
theorem brl_mem {p : List Int} (h : trOk p = true) : ∀ (f n : Nat), n < p.length → p.length ≤ f + n → ∀ x : Int, x ∈ brl p f (n : Int) ↔ ∃ k : Nat, x = (k : Int) ∧ k < p.length ∧ (n : Int) ∈ pth p (k : Int) := by
  intro f
  induction f with
  | zero => intro n hn hf; omega
  | succ f ih =>
    intro n hn hf x
    rw [brl_succ, List.mem_cons, List.mem_flatMap]
    constructor
    · rintro (rfl | ⟨c, hc, hx⟩)
      · exact ⟨n, rfl, hn, pth_self h hn⟩
      · obtain ⟨k, rfl, hnk, hkl, hp⟩ := chl_nat h hc
        obtain ⟨q, rfl, hq, hm⟩ := (ih k hkl (by omega) x).1 hx
        exact ⟨q, rfl, hq, pth_trans h (by omega) hkl hp q hq hm⟩
    · rintro ⟨k, rfl, hk, hm⟩
      by_cases e : k = n
      · exact .inl (by rw [e])
      · obtain ⟨c, c1, c2, c3, c4⟩ := child_on h k hk hm e
        exact .inr ⟨(c : Int), chl_mem.2 ⟨c, rfl, c2, by omega, c3⟩, (ih c c2 (by omega) _).2 ⟨k, rfl, hk, c4⟩⟩
theorem pick6_sorted (q : Nat → Bool) (k : Nat) : (pick6 q k).Pairwise (· < ·) := by
  unfold pick6
  rw [List.pairwise_map]
  refine List.Pairwise.filter _ ?_
  exact List.pairwise_lt_range.imp (fun h => by omega)
theorem brl_nodup {p : List Int} (h : trOk p = true) : ∀ (f n : Nat), n < p.length → p.length ≤ f + n → (brl p f (n : Int)).Nodup := by
  intro f
  induction f with
  | zero => intro n hn hf; omega
  | succ f ih =>
    intro n hn hf
    rw [brl_succ, List.nodup_cons]
    refine ⟨fun hx => ?_, ?_⟩
    · obtain ⟨c, hc, hx⟩ := List.mem_flatMap.1 hx
      obtain ⟨k, rfl, hnk, hkl, hp⟩ := chl_nat h hc
      obtain ⟨q, e, hq, hm⟩ := (brl_mem h f k hkl (by omega) _).1 hx
      obtain rfl : n = q := by omega
      have := pth_mem h n hn _ hm
      omega
    · unfold List.Nodup
      rw [List.pairwise_flatMap]
      refine ⟨fun c hc => ?_, ?_⟩
      · obtain ⟨k, rfl, hnk, hkl, hp⟩ := chl_nat h hc
        exact ih k hkl (by omega)
      · have hs : (chl p (n : Int)).Pairwise (· < ·) := pick6_sorted _ _
        refine (List.Pairwise.and_mem.1 hs).imp (fun {c1 c2} hcc x hx y hy e => ?_)
        obtain ⟨m1, m2, hlt⟩ := hcc
        subst e
        obtain ⟨k1, rfl, a1, a2, a3⟩ := chl_nat h m1
        obtain ⟨k2, rfl, b1, b2, b3⟩ := chl_nat h m2
        obtain ⟨q, rfl, hq, hm⟩ := (brl_mem h f k1 a2 (by omega) _).1 hx
        obtain ⟨q2, e2, hq2, hm2⟩ := (brl_mem h f k2 b2 (by omega) _).1 hy
        obtain rfl : q = q2 := by omega
        have n1 := next_child h (by omega) a2 a3 q hq hm
        have n2 := next_child h (by omega) b2 b3 q hq hm2
        rw [n1] at n2
        have := Option.some.inj n2
        omega
theorem nbl_mem {p : List Int} {n x : Int} : x ∈ nbl p n ↔ ∃ k : Nat, x = (k : Int) ∧ k < p.length ∧ n ∈ pth p (k : Int) := by
  unfold nbl
  rw [pick6_mem]
  constructor
  · rintro ⟨i, e, h1, h2⟩
    exact ⟨i, e, h1, by unfold nbB at h2; exact of_decide_eq_true h2⟩
  · rintro ⟨i, e, h1, h2⟩
    exact ⟨i, e, h1, by unfold nbB; exact decide_eq_true h2⟩
theorem brl_perm {p : List Int} (h : trOk p = true) {f n : Nat} (hn : n < p.length) (hf : p.length ≤ f + n) : (brl p f (n : Int)).Perm (nbl p (n : Int)) := by
  refine (List.perm_ext_iff_of_nodup (brl_nodup h f n hn hf) ?_).2 (fun x => by rw [brl_mem h f n hn hf x, nbl_mem])
  exact (pick6_sorted _ _).imp (fun h => by omega)
theorem brl_len {p : List Int} (h : trOk p = true) {f n : Nat} (hn : n < p.length) (hf : p.length ≤ f + n) : (brl p f (n : Int)).length ≤ 8 := by
  rw [(brl_perm h hn hf).length_eq]
  have := pick6_len (nbB p (n : Int)) p.length
  have := (trOk_parts h).2.1
  unfold nbl
  omega
/-- A list in order that has the nodes of a branch is the list of the nodes below. -/
theorem sorted_nbl {p l : List Int} (h : trOk p = true) {f n : Nat} (hn : n < p.length) (hf : p.length ≤ f + n) (hl : l.Perm (brl p f (n : Int))) (hs : l.Pairwise (· ≤ ·)) : l = nbl p (n : Int) := by
  refine List.Perm.eq_of_pairwise (fun a b _ _ h1 h2 => by omega) hs ?_ (hl.trans (brl_perm h hn hf))
  exact (pick6_sorted _ _).imp (fun h => by omega)
end Go.Proofs.YtejdphfcogfcmaaGreatDoor
