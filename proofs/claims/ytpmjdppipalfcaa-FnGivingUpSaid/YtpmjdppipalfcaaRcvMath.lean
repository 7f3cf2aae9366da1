/-
  The window of a receiver: mathematics. No program.
-/
import Derived.Test.YtpmjdppipalfcaaSndMath
namespace Go.Proofs.Ytpmjdppipalfcaa
open Go.RowKit Go.Lib
set_option linter.unusedVariables false

/-- A slot: whether its item has come, the item. -/
structure Sl where
  h : Bool
  s : ByteArray
/-- A window: the next serial, the slots. -/
structure Rw where
  x : Int
  q : List Sl
def sl0 : Sl := ⟨false, ⟨#[]⟩⟩
def rw0 : Rw := ⟨0, []⟩
def slOk (s : Sl) : Bool := itB s.s && (s.h || decide (s.s.size = 0))
def firstB (q : List Sl) : Bool := match q with | [] => true | a :: _ => !a.h
def lastB (q : List Sl) : Bool := match q.getLast? with | none => true | some a => a.h
def rwOk (w : Rw) : Bool := serB w.x && (decide (w.q.length ≤ 8) && (w.q.all slOk && (firstB w.q && lastB w.q)))
theorem rwOk_iff {w : Rw} : rwOk w = true ↔ (0 ≤ w.x ∧ w.x ≤ 65535) ∧ w.q.length ≤ 8 ∧ (∀ s ∈ w.q, slOk s = true) ∧ firstB w.q = true ∧ lastB w.q = true := by
  unfold rwOk serB
  simp only [Bool.and_eq_true, decide_eq_true_eq, List.all_eq_true]
/-- The slots that are released, and what is left. -/
def relE (q : List Sl) : List ByteArray := (q.takeWhile (·.h)).map (fun s => ⟨#[43]⟩ ++ s.s)
def relN (q : List Sl) : Nat := (q.takeWhile (·.h)).length
def relW (w : Rw) : Rw := ⟨aftI w.x (relN w.q), w.q.dropWhile (·.h)⟩
def hasQ (q : List Sl) (k : Nat) : Bool := match q[k]? with | none => false | some s => s.h
def itmQ (q : List Sl) (k : Nat) : ByteArray := match q[k]? with | none => ⟨#[]⟩ | some s => s.s
def gapN (w : Rw) (n : Int) : Nat := (gapI w.x n).toNat
def setQ (q : List Sl) (k : Nat) (s : Sl) : List Sl := (q ++ List.replicate (k + 1 - q.length) sl0).set k s
/-- An item that lies there, or was released. -/
def haveB (w : Rw) (n : Int) : Bool := befB n w.x || hasQ w.q (gapN w n)
def haveOk (w : Rw) (n : Int) : Bool := rwOk w && serB n
def haveV (w : Rw) (n : Int) : Bool := haveOk w n && haveB w n
def reachB (w : Rw) (n : Int) : Bool := befB n w.x || decide (gapI w.x n < 8)
def takeOk (w : Rw) (n : Int) (s : ByteArray) : Bool := rwOk w && (serB n && (itB s && reachB w n))
def putQ (w : Rw) (n : Int) (s : ByteArray) : List Sl := setQ w.q (gapN w n) ⟨true, s⟩
def takeW (w : Rw) (n : Int) (s : ByteArray) : Rw := if haveB w n = true then w else relW ⟨w.x, putQ w n s⟩
def takeE (w : Rw) (n : Int) (s : ByteArray) : List ByteArray := if haveB w n = true then [] else relE (putQ w n s)
def takeV (w : Rw) (n : Int) (s : ByteArray) : Rw := if takeOk w n s = true then takeW w n s else rw0
def takeL (w : Rw) (n : Int) (s : ByteArray) : List ByteArray := if takeOk w n s = true then takeE w n s else []
/-- The serials that are missing up to a lead. -/
def missL (w : Rw) (l : Int) : List Int := ((List.range (gapN w l)).filter fun i => !hasQ w.q i).map fun (i : Nat) => aftI w.x (i : Int)
def missOk (w : Rw) (l : Int) : Bool := rwOk w && (serB l && decide (gapI w.x l ≤ 8))
def missV (w : Rw) (l : Int) : List Int := if missOk w l = true then missL w l else []
/-- What is given up. -/
def giveN (w : Rw) (t : Int) : Nat := if befB w.x t = true then gapN w t else 0
def evtQ (q : List Sl) (i : Nat) : ByteArray := if hasQ q i = true then ⟨#[43]⟩ ++ itmQ q i else ⟨#[45]⟩
def cutW (w : Rw) (n : Nat) : Rw := ⟨aftI w.x n, w.q.drop n⟩
def giveE (w : Rw) (t : Int) : List ByteArray := (List.range (giveN w t)).map (evtQ w.q) ++ relE (w.q.drop (giveN w t))
def giveW (w : Rw) (t : Int) : Rw := relW (cutW w (giveN w t))
def giveOk (w : Rw) (t : Int) : Bool := rwOk w && (serB t && (befB t w.x || decide (gapI w.x t ≤ 8)))
def giveV (w : Rw) (t : Int) : Rw := if giveOk w t = true then giveW w t else rw0
def giveL (w : Rw) (t : Int) : List ByteArray := if giveOk w t = true then giveE w t else []
def highI (w : Rw) : Int := aftI w.x w.q.length
def highV (w : Rw) : Int := if rwOk w = true then highI w else 0
def cntH (q : List Sl) : Nat := q.countP (·.h)
def cntV (w : Rw) : Int := if rwOk w = true then (cntH w.q : Int) else 0
def cntF (w : Rw) : Int := if rwOk w = true then ((w.q.length - cntH w.q : Nat) : Int) else 0

/-- The missing ones of the first k. -/
def missP (x : Int) (q : List Sl) (k : Nat) : List Int := ((List.range k).filter fun i => !hasQ q i).map fun (i : Nat) => aftI x (i : Int)
theorem missP_no {x : Int} {q : List Sl} {k : Nat} (h : hasQ q k = false) : missP x q (k + 1) = missP x q k ++ [aftI x k] := by
  unfold missP
  rw [List.range_succ, List.filter_append, List.map_append]
  simp [h]
theorem missP_yes {x : Int} {q : List Sl} {k : Nat} (h : hasQ q k = true) : missP x q (k + 1) = missP x q k := by
  unfold missP
  rw [List.range_succ, List.filter_append, List.map_append]
  simp [h]
theorem missP_len (x : Int) (q : List Sl) (k : Nat) : (missP x q k).length ≤ k := by
  unfold missP
  rw [List.length_map]
  exact Nat.le_trans (List.length_filter_le _ _) (by rw [List.length_range]; exact Nat.le_refl _)
theorem relE_len (q : List Sl) : (relE q).length = relN q := by unfold relE relN; rw [List.length_map]
theorem relN_le (q : List Sl) : relN q ≤ q.length := by
  have := congrArg List.length (List.takeWhile_append_dropWhile (p := (·.h)) (l := q))
  rw [List.length_append] at this
  unfold relN
  omega
theorem rel_len (q : List Sl) : relN q + (q.dropWhile (·.h)).length = q.length := by
  have := congrArg List.length (List.takeWhile_append_dropWhile (p := (·.h)) (l := q))
  rw [List.length_append] at this
  exact this
theorem rel_drop (q : List Sl) : q.dropWhile (·.h) = q.drop (relN q) := by
  unfold relN
  induction q with
  | nil => rfl
  | cons a q ih =>
    by_cases h : a.h = true
    · rw [List.dropWhile_cons_of_pos h, List.takeWhile_cons_of_pos h, ih]; rfl
    · rw [List.dropWhile_cons_of_neg h, List.takeWhile_cons_of_neg h]; rfl
theorem rel_first (q : List Sl) : firstB (q.dropWhile (·.h)) = true := by
  induction q with
  | nil => rfl
  | cons a q ih =>
    by_cases h : a.h = true
    · rw [List.dropWhile_cons_of_pos h]; exact ih
    · rw [List.dropWhile_cons_of_neg h]; unfold firstB; rw [Bool.not_eq_true] at h; simp [h]
theorem last_drop (q : List Sl) (n : Nat) (h : lastB q = true) : lastB (q.drop n) = true := by
  unfold lastB at h ⊢
  by_cases hn : n < q.length
  · rw [List.getLast?_drop, if_neg (by omega)]; exact h
  · rw [List.drop_eq_nil_of_le (by omega)]; rfl
theorem rel_cons {a : Sl} {q : List Sl} (h : a.h = true) (x : Int) (hx : 0 ≤ x ∧ x ≤ 65535) (hl : q.length ≤ 8) : relW ⟨x, a :: q⟩ = relW ⟨aftI x 1, q⟩ := by
  have hn : relN (a :: q) = relN q + 1 := by unfold relN; rw [List.takeWhile_cons_of_pos h]; rfl
  have := relN_le q
  unfold relW
  simp only
  rw [hn, aft_aft _ (by omega) (by omega), List.dropWhile_cons_of_pos h]
  congr 2
  push_cast
  omega
theorem rel_none {q : List Sl} (h : firstB q = true) : relN q = 0 ∧ relE q = [] ∧ q.dropWhile (·.h) = q := by
  cases q with
  | nil => exact ⟨rfl, rfl, rfl⟩
  | cons a q =>
    have ha : ¬ a.h = true := by unfold firstB at h; simpa using h
    unfold relN relE
    rw [List.takeWhile_cons_of_neg ha, List.dropWhile_cons_of_neg ha]
    exact ⟨rfl, rfl, rfl⟩
theorem relW_none {w : Rw} (hx : 0 ≤ w.x ∧ w.x ≤ 65535) (h : firstB w.q = true) : relW w = w := by
  obtain ⟨h1, h2, h3⟩ := rel_none h
  unfold relW
  rw [h1, h3]
  show (⟨aftI w.x 0, w.q⟩ : Rw) = w
  rw [aft_zero9 hx]
theorem relW_ok {w : Rw} (hx : 0 ≤ w.x ∧ w.x ≤ 65535) (hl : w.q.length ≤ 8) (hs : ∀ s ∈ w.q, slOk s = true) (hb : lastB w.q = true) : rwOk (relW w) = true := by
  refine rwOk_iff.2 ⟨aftI_bd _ _, ?_, ?_, rel_first _, ?_⟩
  · have := rel_len w.q; show (w.q.dropWhile (·.h)).length ≤ 8; omega
  · intro s h; exact hs s ((List.dropWhile_sublist _).mem h)
  · show lastB (w.q.dropWhile (·.h)) = true
    rw [rel_drop]; exact last_drop _ _ hb

theorem has_lt {q : List Sl} {k : Nat} (h : hasQ q k = true) : k < q.length := by
  unfold hasQ at h
  by_cases hk : k < q.length
  · exact hk
  · rw [List.getElem?_eq_none (by omega)] at h; cases h
theorem has_drop (q : List Sl) (n k : Nat) : hasQ (q.drop n) k = hasQ q (n + k) := by unfold hasQ; rw [List.getElem?_drop]
theorem itm_drop (q : List Sl) (n k : Nat) : itmQ (q.drop n) k = itmQ q (n + k) := by unfold itmQ; rw [List.getElem?_drop]
theorem first_has (q : List Sl) : firstB q = !hasQ q 0 := by cases q <;> rfl
theorem last_has (q : List Sl) : lastB q = (decide (q.length = 0) || hasQ q (q.length - 1)) := by
  unfold lastB hasQ
  rw [List.getLast?_eq_getElem?]
  cases q with
  | nil => rfl
  | cons a q => rw [show decide ((a :: q).length = 0) = false from rfl, Bool.false_or, List.getElem?_eq_getElem (by simp)]
theorem rel_lt (q : List Sl) : ∀ i, i < relN q → hasQ q i = true ∧ (relE q)[i]? = some (⟨#[43]⟩ ++ itmQ q i) := by
  induction q with
  | nil => intro i h; cases h
  | cons a q ih =>
    intro i h
    by_cases ha : a.h = true
    · have hn : relN (a :: q) = relN q + 1 := by unfold relN; rw [List.takeWhile_cons_of_pos ha]; rfl
      have he : relE (a :: q) = (⟨#[43]⟩ ++ a.s) :: relE q := by unfold relE; rw [List.takeWhile_cons_of_pos ha]; rfl
      rw [he]
      cases i with
      | zero => exact ⟨ha, rfl⟩
      | succ i => exact ih i (by omega)
    · have hn : relN (a :: q) = 0 := by unfold relN; rw [List.takeWhile_cons_of_neg ha]; rfl
      omega
theorem rel_at (q : List Sl) : hasQ q (relN q) = false := by
  induction q with
  | nil => rfl
  | cons a q ih =>
    by_cases ha : a.h = true
    · have hn : relN (a :: q) = relN q + 1 := by unfold relN; rw [List.takeWhile_cons_of_pos ha]; rfl
      rw [hn]; exact ih
    · have hn : relN (a :: q) = 0 := by unfold relN; rw [List.takeWhile_cons_of_neg ha]; rfl
      rw [hn]; unfold hasQ; simpa using ha
theorem setQ_len (q : List Sl) (k : Nat) (s : Sl) : (setQ q k s).length = q.length + (k + 1 - q.length) := by unfold setQ; rw [List.length_set, List.length_append, List.length_replicate]
theorem setQ_at (q : List Sl) (k : Nat) (s : Sl) : (setQ q k s)[k]? = some s := by
  have := setQ_len q k s
  unfold setQ at *
  rw [List.getElem?_set_self (by rw [List.length_set] at this; omega)]
theorem setQ_has (q : List Sl) (k : Nat) (s : Sl) (i : Nat) : hasQ (setQ q k s) i = if i = k then s.h else hasQ q i := by
  by_cases hi : i = k
  · subst hi; rw [if_pos rfl]; unfold hasQ; rw [setQ_at]
  · rw [if_neg hi]
    unfold hasQ setQ
    rw [List.getElem?_set_ne (by omega), List.getElem?_append]
    by_cases hq : i < q.length
    · rw [if_pos hq]
    · rw [if_neg hq, show q[i]? = none from List.getElem?_eq_none (by omega)]
      cases h : (List.replicate (k + 1 - q.length) sl0)[i - q.length]? with
      | none => rfl
      | some a =>
        have := List.mem_of_getElem? h
        rw [List.mem_replicate] at this
        rw [this.2]; rfl
theorem setQ_ok {q : List Sl} {k : Nat} {s : Sl} (hq : ∀ a ∈ q, slOk a = true) (hs : slOk s = true) : ∀ a ∈ setQ q k s, slOk a = true := by
  intro a ha
  unfold setQ at ha
  rcases List.mem_or_eq_of_mem_set ha with h | h
  · rcases List.mem_append.1 h with h | h
    · exact hq a h
    · rw [List.mem_replicate] at h; rw [h.2]; decide
  · rw [h]; exact hs
theorem setQ_last {q : List Sl} {k : Nat} {s : Sl} (h : lastB q = true) (hs : s.h = true) : lastB (setQ q k s) = true := by
  rw [last_has, setQ_len, setQ_has]
  by_cases e : q.length + (k + 1 - q.length) - 1 = k
  · rw [if_pos e, hs, Bool.or_true]
  · rw [if_neg e, show q.length + (k + 1 - q.length) = q.length by omega]
    rw [last_has] at h; exact h

theorem takeOk_parts {w : Rw} {n : Int} {s : ByteArray} (h : takeOk w n s = true) : rwOk w = true ∧ (0 ≤ n ∧ n ≤ 65535) ∧ itB s = true ∧ reachB w n = true := by
  unfold takeOk at h
  simp only [Bool.and_eq_true] at h
  exact ⟨h.1, serB_bd h.2.1, h.2.2.1, h.2.2.2⟩
theorem take_gap {w : Rw} {n : Int} {s : ByteArray} (h : takeOk w n s = true) (hh : haveB w n = false) : gapI w.x n < 8 ∧ befB n w.x = false ∧ hasQ w.q (gapN w n) = false := by
  obtain ⟨h1, h2, h3, h4⟩ := takeOk_parts h
  unfold haveB at hh
  rw [Bool.or_eq_false_iff] at hh
  unfold reachB at h4
  rw [hh.1, Bool.false_or, decide_eq_true_eq] at h4
  exact ⟨h4, hh⟩
theorem put_facts {w : Rw} {n : Int} {s : ByteArray} (h : takeOk w n s = true) (hh : haveB w n = false) : (putQ w n s).length ≤ 8 ∧ (∀ a ∈ putQ w n s, slOk a = true) ∧ lastB (putQ w n s) = true ∧ hasQ (putQ w n s) (gapN w n) = true := by
  obtain ⟨h1, h2, h3, h4⟩ := takeOk_parts h
  obtain ⟨g1, g2, g3⟩ := take_gap h hh
  obtain ⟨r1, r2, r3, r4, r5⟩ := rwOk_iff.1 h1
  have := gapI_bd w.x n
  refine ⟨?_, setQ_ok r3 ?_, setQ_last r5 rfl, ?_⟩
  · unfold putQ; rw [setQ_len]; unfold gapN; omega
  · unfold slOk; rw [h3]; rfl
  · unfold putQ; rw [setQ_has, if_pos rfl]
theorem takeW_ok {w : Rw} {n : Int} {s : ByteArray} (h : takeOk w n s = true) : rwOk (takeW w n s) = true := by
  unfold takeW
  by_cases hh : haveB w n = true
  · rw [if_pos hh]; exact (takeOk_parts h).1
  · rw [if_neg hh]
    rw [Bool.not_eq_true] at hh
    obtain ⟨p1, p2, p3, p4⟩ := put_facts h hh
    exact relW_ok (rwOk_iff.1 (takeOk_parts h).1).1 p1 p2 p3
theorem takeW_gap {w : Rw} {n : Int} {s : ByteArray} (h : takeOk w n s = true) : gapI w.x (takeW w n s).x = (takeE w n s).length := by
  have hx := (rwOk_iff.1 (takeOk_parts h).1).1
  unfold takeW takeE
  by_cases hh : haveB w n = true
  · rw [if_pos hh, if_pos hh]
    show gapI w.x w.x = 0
    unfold gapI; omega
  · rw [if_neg hh, if_neg hh, relE_len]
    rw [Bool.not_eq_true] at hh
    have := (put_facts h hh).1
    have := relN_le (putQ w n s)
    show gapI w.x (aftI w.x (relN (putQ w n s))) = _
    exact gap_aft hx (by omega)
theorem takeW_have {w : Rw} {n : Int} {s : ByteArray} (h : takeOk w n s = true) : haveB (takeW w n s) n = true := by
  obtain ⟨h1, h2, h3, h4⟩ := takeOk_parts h
  have hx := (rwOk_iff.1 h1).1
  unfold takeW
  by_cases hh : haveB w n = true
  · rw [if_pos hh]; exact hh
  · rw [if_neg hh]
    rw [Bool.not_eq_true] at hh
    obtain ⟨p1, p2, p3, p4⟩ := put_facts h hh
    obtain ⟨g1, g2, g3⟩ := take_gap h hh
    have hr := relN_le (putQ w n s)
    have hg := gapI_bd w.x n
    have hk : gapN w n = (gapI w.x n).toNat := rfl
    show (befB n (aftI w.x (relN (putQ w n s))) || hasQ ((putQ w n s).dropWhile (·.h)) (gapI (aftI w.x (relN (putQ w n s))) n).toNat) = true
    by_cases hc : gapN w n < relN (putQ w n s)
    · have : befB n (aftI w.x (relN (putQ w n s))) = true := by
        unfold befB
        exact inB_yes (by unfold gapI aftI at *; omega) (by unfold gapI aftI at *; omega)
      rw [this, Bool.true_or]
    · rw [rel_drop, has_drop]
      have : relN (putQ w n s) + (gapI (aftI w.x (relN (putQ w n s))) n).toNat = gapN w n := by
        rw [hk]; unfold gapI aftI at *; omega
      rw [this, p4, Bool.or_true]
/-- What lies there, or was released, can be taken and changes nothing. -/
theorem take_again {w : Rw} {n : Int} {s : ByteArray} (hw : rwOk w = true) (hn : 0 ≤ n ∧ n ≤ 65535) (hs : itB s = true) (hh : haveB w n = true) : takeOk w n s = true ∧ takeV w n s = w ∧ takeL w n s = [] := by
  have hr : reachB w n = true := by
    unfold reachB
    cases hb : befB n w.x with
    | true => rfl
    | false =>
      unfold haveB at hh
      rw [hb, Bool.false_or] at hh
      have := has_lt hh
      have := (rwOk_iff.1 hw).2.1
      rw [Bool.false_or]
      apply decide_eq_true
      unfold gapN at *
      omega
  have ho : takeOk w n s = true := by
    unfold takeOk; rw [hw, serB_yes hn.1 hn.2, hs, hr]; rfl
  refine ⟨ho, ?_, ?_⟩
  · unfold takeV takeW; rw [if_pos ho, if_pos hh]
  · unfold takeL takeE; rw [if_pos ho, if_pos hh]
/-- The next item is released at once. -/
theorem take_next {w : Rw} {s : ByteArray} (h : takeOk w w.x s = true) : ∃ r, takeL w w.x s = (⟨#[43]⟩ ++ s) :: r := by
  obtain ⟨h1, h2, h3, h4⟩ := takeOk_parts h
  obtain ⟨r1, r2, r3, r4, r5⟩ := rwOk_iff.1 h1
  have hz : gapI w.x w.x = 0 := by unfold gapI; omega
  have hb : befB w.x w.x = false := by unfold befB; rw [hz]; rfl
  have hk : gapN w w.x = 0 := by unfold gapN; rw [hz]; rfl
  have hh : haveB w w.x = false := by
    unfold haveB; rw [hb, hk, Bool.false_or]
    rw [first_has] at r4; simpa using r4
  unfold takeL takeE
  rw [if_pos h, hh, if_neg (by decide)]
  have : ∃ q, putQ w w.x s = ⟨true, s⟩ :: q := by
    unfold putQ setQ
    rw [hk]
    cases w.q with
    | nil => exact ⟨[], rfl⟩
    | cons a q => exact ⟨_, rfl⟩
  obtain ⟨q, hq⟩ := this
  rw [hq]
  exact ⟨relE q, rfl⟩
/-- What the law asks of an item that comes in. -/
theorem take_law {w : Rw} {n : Int} {s z : ByteArray} (h : takeOk w n s = true) (hz : itB z = true) :
    haveOk (takeV w n s) n = true ∧ haveV (takeV w n s) n = true ∧ gapOk w.x (takeV w n s).x = true ∧ gapV w.x (takeV w n s).x = (takeL w n s).length ∧
    takeOk (takeV w n s) n z = true ∧ takeL (takeV w n s) n z = [] ∧ takeV (takeV w n s) n z = takeV w n s ∧ rwOk (takeV w n s) = true := by
  obtain ⟨h1, h2, h3, h4⟩ := takeOk_parts h
  have ev : takeV w n s = takeW w n s := if_pos h
  have el : takeL w n s = takeE w n s := if_pos h
  rw [ev, el]
  have ho := takeW_ok h
  have hx := (rwOk_iff.1 h1).1
  have hy := (rwOk_iff.1 ho).1
  have hh := takeW_have h
  obtain ⟨a1, a2, a3⟩ := take_again ho h2 hz hh
  have hv : haveOk (takeW w n s) n = true := by unfold haveOk; rw [ho, serB_yes h2.1 h2.2]; rfl
  have hg : gapOk w.x (takeW w n s).x = true := by unfold gapOk; rw [serB_yes hx.1 hx.2, serB_yes hy.1 hy.2]; rfl
  refine ⟨hv, ?_, hg, ?_, a1, a3, a2, ho⟩
  · unfold haveV; rw [hv, hh]; rfl
  · unfold gapV; rw [if_pos hg]; exact takeW_gap h
/-- What is missing does not lie there. -/
theorem miss_law {w : Rw} {l n : Int} (h : n ∈ missV w l) : haveOk w n = true ∧ haveV w n = false := by
  unfold missV at h
  by_cases ho : missOk w l = true
  · rw [if_pos ho] at h
    unfold missOk at ho
    simp only [Bool.and_eq_true, decide_eq_true_eq] at ho
    obtain ⟨hw, hl, hg⟩ := ho
    have hx := (rwOk_iff.1 hw).1
    unfold missL at h
    rw [List.mem_map] at h
    obtain ⟨i, hi, e⟩ := h
    rw [List.mem_filter, List.mem_range] at hi
    have hb := aftI_bd w.x i
    rw [e] at hb
    have hn : haveOk w n = true := by unfold haveOk; rw [hw, serB_yes hb.1 hb.2]; rfl
    have hi8 : i < 8 := by unfold gapN at hi; omega
    have hk : gapN w n = i := by
      unfold gapN; rw [← e, gap_aft hx (by omega)]; rfl
    refine ⟨hn, ?_⟩
    unfold haveV haveB
    rw [hn, hk, Bool.true_and, Bool.or_eq_false_iff]
    refine ⟨?_, by simpa using hi.2⟩
    unfold befB
    apply inB_no
    rw [← e]
    unfold gapI aftI
    omega
  · rw [if_neg ho] at h; cases h

theorem giveOk_parts {w : Rw} {t : Int} (h : giveOk w t = true) : rwOk w = true ∧ (0 ≤ t ∧ t ≤ 65535) ∧ giveN w t ≤ 8 := by
  unfold giveOk at h
  simp only [Bool.and_eq_true, Bool.or_eq_true, decide_eq_true_eq] at h
  obtain ⟨h1, h2, h3⟩ := h
  have hx := (rwOk_iff.1 h1).1
  have ht := serB_bd h2
  refine ⟨h1, ht, ?_⟩
  unfold giveN
  by_cases hb : befB w.x t = true
  · rw [if_pos hb]
    unfold gapN
    have := inB_bd hb
    rcases h3 with h3 | h3
    · have := inB_bd h3
      unfold gapI at *
      omega
    · omega
  · rw [if_neg hb]; omega
theorem giveW_ok {w : Rw} {t : Int} (h : giveOk w t = true) : rwOk (giveW w t) = true := by
  obtain ⟨h1, h2, h3⟩ := giveOk_parts h
  obtain ⟨r1, r2, r3, r4, r5⟩ := rwOk_iff.1 h1
  unfold giveW
  refine relW_ok (aftI_bd _ _) ?_ (fun s hs => r3 s (List.mem_of_mem_drop hs)) (last_drop _ _ r5)
  show (w.q.drop (giveN w t)).length ≤ 8
  rw [List.length_drop]; omega
theorem giveE_len (w : Rw) (t : Int) : (giveE w t).length = giveN w t + relN (w.q.drop (giveN w t)) := by
  unfold giveE; rw [List.length_append, List.length_map, List.length_range, relE_len]
theorem giveW_x {w : Rw} {t : Int} (h : giveOk w t = true) : (giveW w t).x = aftI w.x ((giveE w t).length : Nat) := by
  obtain ⟨h1, h2, h3⟩ := giveOk_parts h
  obtain ⟨r1, r2, r3, r4, r5⟩ := rwOk_iff.1 h1
  have := relN_le (w.q.drop (giveN w t))
  rw [List.length_drop] at this
  show aftI (aftI w.x (giveN w t)) (relN (w.q.drop (giveN w t))) = _
  rw [giveE_len, aft_aft _ (by omega) (by omega)]
  congr 1
theorem giveE_le {w : Rw} {t : Int} (h : giveOk w t = true) : (giveE w t).length ≤ 16 := by
  obtain ⟨h1, h2, h3⟩ := giveOk_parts h
  obtain ⟨r1, r2, r3, r4, r5⟩ := rwOk_iff.1 h1
  have := relN_le (w.q.drop (giveN w t))
  rw [List.length_drop] at this
  rw [giveE_len]; omega
theorem give_late {w : Rw} {t : Int} (h : giveOk w t = true) : befB (giveW w t).x t = false := by
  obtain ⟨h1, h2, h3⟩ := giveOk_parts h
  obtain ⟨r1, r2, r3, r4, r5⟩ := rwOk_iff.1 h1
  have hl := giveE_le h
  rw [giveW_x h, giveE_len]
  have hle := relN_le (w.q.drop (giveN w t))
  rw [List.length_drop] at hle
  unfold befB
  apply inB_no
  by_cases hb : befB w.x t = true
  · have hn : giveN w t = (gapI w.x t).toNat := by unfold giveN; rw [if_pos hb]; rfl
    have := inB_bd hb
    unfold gapI aftI at *
    omega
  · have hn : giveN w t = 0 := by unfold giveN; rw [if_neg hb]
    have hr : relN (w.q.drop (giveN w t)) = 0 := by rw [hn, List.drop_zero]; exact (rel_none r4).1
    rw [hr, hn]
    rw [show ((0 + 0 : Nat) : Int) = 0 from rfl, aft_zero9 r1]
    intro hc
    exact hb (inB_yes hc.1 hc.2)
/-- What is told as released. -/
def toldB (s : ByteArray) : Bool := !decide (s = (⟨#[45]⟩ : ByteArray))
theorem told_plus (s : ByteArray) : toldB (⟨#[43]⟩ ++ s) = true := by
  unfold toldB
  rw [Bool.not_eq_true', decide_eq_false_iff_not]
  intro h
  have := congrArg (fun b : ByteArray => b.data.toList.head?) h
  simp [ByteArray.data_append] at this
theorem told_evt (q : List Sl) (i : Nat) : toldB (evtQ q i) = hasQ q i := by
  unfold evtQ
  cases h : hasQ q i with
  | true => rw [if_pos rfl, told_plus]
  | false => rw [if_neg (by decide)]; unfold toldB; rw [Bool.not_eq_false', decide_eq_true_eq]
theorem told_rel (q : List Sl) : (relE q).countP toldB = relN q := by
  unfold relE relN
  rw [List.countP_map]
  rw [List.countP_eq_length.2 (fun a _ => told_plus a.s)]
theorem cnt_rel (q : List Sl) : relN q + cntH (q.dropWhile (·.h)) = cntH q := by
  unfold cntH relN
  conv => rhs; rw [← List.takeWhile_append_dropWhile (p := (·.h)) (l := q)]
  rw [List.countP_append]
  congr 1
  rw [List.countP_eq_length.2]
  exact List.all_eq_true.1 List.all_takeWhile
theorem cnt_range (q : List Sl) : ∀ n, ((List.range n).map (evtQ q)).countP toldB + cntH (q.drop n) = cntH q := by
  intro n
  induction n with
  | zero => rw [List.drop_zero]; exact Nat.zero_add _
  | succ n ih =>
    rw [List.range_succ, List.map_append, List.countP_append]
    have : ([n].map (evtQ q)).countP toldB + cntH (q.drop (n + 1)) = cntH (q.drop n) := by
      rw [List.map_singleton, List.countP_singleton, told_evt]
      by_cases hn : n < q.length
      · rw [List.drop_eq_getElem_cons hn]
        unfold cntH hasQ
        rw [List.countP_cons, List.getElem?_eq_getElem hn]
        simp only
        omega
      · rw [List.drop_eq_nil_of_le (by omega), List.drop_eq_nil_of_le (by omega)]
        unfold hasQ
        rw [List.getElem?_eq_none (by omega)]
        rfl
    omega
theorem give_cnt (w : Rw) (t : Int) : (giveE w t).countP toldB + cntH (giveW w t).q = cntH w.q := by
  unfold giveE giveW relW cutW
  rw [List.countP_append, told_rel]
  have h1 := cnt_rel (w.q.drop (giveN w t))
  have h2 := cnt_range w.q (giveN w t)
  simp only
  omega
theorem cntH_le (q : List Sl) : cntH q ≤ q.length := List.countP_le_length
/-- What the law asks of giving up. -/
theorem give_law {w : Rw} {t : Int} (h : giveOk w t = true) :
    gapOk w.x (giveV w t).x = true ∧ gapV w.x (giveV w t).x = (giveL w t).length ∧ gapOk (giveV w t).x t = true ∧ befV (giveV w t).x t = false ∧ rwOk (giveV w t) = true ∧ rwOk w = true ∧
    (((giveL w t).countP toldB : Nat) : Int) + cntV (giveV w t) = cntV w := by
  obtain ⟨h1, h2, h3⟩ := giveOk_parts h
  have hx := (rwOk_iff.1 h1).1
  have ho := giveW_ok h
  have hy := (rwOk_iff.1 ho).1
  have ev : giveV w t = giveW w t := if_pos h
  have el : giveL w t = giveE w t := if_pos h
  rw [ev, el]
  have hg : gapOk w.x (giveW w t).x = true := by unfold gapOk; rw [serB_yes hx.1 hx.2, serB_yes hy.1 hy.2]; rfl
  have hg2 : gapOk (giveW w t).x t = true := by unfold gapOk; rw [serB_yes h2.1 h2.2, serB_yes hy.1 hy.2]; rfl
  refine ⟨hg, ?_, hg2, ?_, ho, h1, ?_⟩
  · have := giveE_le h
    unfold gapV; rw [if_pos hg, giveW_x h]; exact gap_aft hx (by omega)
  · unfold befV; rw [give_late h, Bool.and_false]
  · have := give_cnt w t
    unfold cntV
    rw [if_pos ho, if_pos h1]
    omega
end Go.Proofs.Ytpmjdppipalfcaa
