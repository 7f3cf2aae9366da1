/-
  The window of a receiver: mathematics of what moves on. No program.
-/
import Derived.Test.YtpmjdppipalfcaaRcvMath
namespace Go.Proofs.Ytpmjdppipalfcaa
open Go.RowKit Go.Lib
set_option linter.unusedVariables false

/-- How far a window moves on: c steps at least, then as long as items are there. -/
def movN (q : List Sl) (c : Nat) : Nat := c + relN (q.drop c)
def movL (q : List Sl) (c : Nat) : List ByteArray := (List.range (movN q c)).map (evtQ q)
def movW (w : Rw) (c : Nat) : Rw := ⟨aftI w.x (movN w.q c), w.q.drop (movN w.q c)⟩
theorem mov_more {q : List Sl} {c i : Nat} (h : i ≤ movN q c) : (decide (i < c) || hasQ q i) = decide (i < movN q c) := by
  unfold movN at *
  by_cases hc : i < c
  · rw [decide_eq_true hc, Bool.true_or, decide_eq_true (by omega)]
  · rw [decide_eq_false hc, Bool.false_or]
    obtain ⟨j, rfl⟩ : ∃ j, i = c + j := ⟨i - c, by omega⟩
    rw [← has_drop]
    by_cases hj : j < relN (q.drop c)
    · rw [(rel_lt _ j hj).1, decide_eq_true (by omega)]
    · rw [show j = relN (q.drop c) by omega, rel_at, decide_eq_false (by omega)]
theorem mov_le (q : List Sl) (c n : Nat) (h : q.length ≤ n) (hc : c ≤ n) : movN q c ≤ n := by
  have := relN_le (q.drop c)
  rw [List.length_drop] at this
  unfold movN
  omega
theorem movL_len (q : List Sl) (c : Nat) : (movL q c).length = movN q c := by unfold movL; rw [List.length_map, List.length_range]
theorem relE_range (q : List Sl) : relE q = (List.range (relN q)).map (evtQ q) := by
  apply List.ext_getElem?
  intro i
  by_cases hi : i < relN q
  · obtain ⟨h1, h2⟩ := rel_lt q i hi
    rw [h2, List.getElem?_map, List.getElem?_range hi]
    show _ = some (evtQ q i)
    unfold evtQ
    rw [if_pos h1]
  · rw [List.getElem?_eq_none (by rw [relE_len]; omega), List.getElem?_eq_none (by rw [List.length_map, List.length_range]; omega)]
theorem evt_drop (q : List Sl) (n i : Nat) : evtQ (q.drop n) i = evtQ q (n + i) := by unfold evtQ; rw [has_drop, itm_drop]
theorem movL_split (q : List Sl) (c : Nat) : movL q c = (List.range c).map (evtQ q) ++ relE (q.drop c) := by
  rw [relE_range]
  unfold movL movN
  rw [List.range_add, List.map_append, List.map_map]
  congr 1
  apply List.map_congr_left
  intro i _
  exact (evt_drop q c i).symm
theorem movW_rel (w : Rw) (c : Nat) (hc : c ≤ 1000) (hl : w.q.length ≤ 1000) : movW w c = relW (cutW w c) := by
  have := relN_le (w.q.drop c)
  rw [List.length_drop] at this
  unfold movW relW cutW movN
  simp only
  rw [aft_aft _ (by omega) (by omega), rel_drop, List.drop_drop]
  congr 2
theorem give_mov {w : Rw} {t : Int} (h : giveOk w t = true) : giveW w t = movW w (giveN w t) ∧ giveE w t = movL w.q (giveN w t) := by
  obtain ⟨h1, h2, h3⟩ := giveOk_parts h
  obtain ⟨r1, r2, r3, r4, r5⟩ := rwOk_iff.1 h1
  refine ⟨?_, ?_⟩
  · rw [movW_rel w _ (by omega) (by omega)]; rfl
  · rw [movL_split]; rfl
theorem cut_zero {w : Rw} (hx : 0 ≤ w.x ∧ w.x ≤ 65535) : cutW w 0 = w := by
  unfold cutW
  rw [List.drop_zero, show ((0 : Nat) : Int) = 0 from rfl, aft_zero9 hx]
theorem take_mov_have {w : Rw} {n : Int} {s : ByteArray} (h : takeOk w n s = true) (hh : haveB w n = true) : takeW w n s = movW w 0 ∧ takeE w n s = movL w.q 0 := by
  have h1 := (takeOk_parts h).1
  obtain ⟨r1, r2, r3, r4, r5⟩ := rwOk_iff.1 h1
  refine ⟨?_, ?_⟩
  · rw [movW_rel w 0 (by omega) (by omega), cut_zero r1, relW_none r1 r4]; unfold takeW; rw [if_pos hh]
  · rw [movL_split, List.drop_zero, (rel_none r4).2.1]; unfold takeE; rw [if_pos hh]; rfl
theorem take_mov_put {w : Rw} {n : Int} {s : ByteArray} (h : takeOk w n s = true) (hh : haveB w n = false) : takeW w n s = movW ⟨w.x, putQ w n s⟩ 0 ∧ takeE w n s = movL (putQ w n s) 0 := by
  have h1 := (takeOk_parts h).1
  obtain ⟨r1, r2, r3, r4, r5⟩ := rwOk_iff.1 h1
  have hp := (put_facts h hh).1
  have hn : ¬ haveB w n = true := by rw [hh]; decide
  refine ⟨?_, ?_⟩
  · rw [movW_rel _ 0 (by omega) (by show (putQ w n s).length ≤ 1000; omega), cut_zero (w := ⟨w.x, putQ w n s⟩) r1]; unfold takeW; rw [if_neg hn]
  · rw [movL_split, List.drop_zero]; unfold takeE; rw [if_neg hn]; rfl
theorem put_items {w : Rw} {n : Int} {s : ByteArray} (h : takeOk w n s = true) (hh : haveB w n = false) : ∀ a ∈ putQ w n s, a.s.size ≤ 8 := by
  intro a ha
  have := (put_facts h hh).2.1 a ha
  unfold slOk itB at this
  simp only [Bool.and_eq_true, decide_eq_true_eq] at this
  exact this.1.2
theorem rw_items {w : Rw} (h : rwOk w = true) : ∀ a ∈ w.q, a.s.size ≤ 8 := by
  intro a ha
  have := (rwOk_iff.1 h).2.2.1 a ha
  unfold slOk itB at this
  simp only [Bool.and_eq_true, decide_eq_true_eq] at this
  exact this.1.2
theorem take_unless {w : Rw} {n : Int} {s : ByteArray} (hw : rwOk w = true) (hn : serB n = true) (hs : itB s = true) : takeOk w n s = (haveB w n || decide (gapI w.x n < 8)) := by
  unfold takeOk
  rw [hw, hn, hs, Bool.true_and, Bool.true_and, Bool.true_and]
  unfold reachB haveB
  cases hb : befB n w.x with
  | true => rfl
  | false =>
    rw [Bool.false_or, Bool.false_or]
    cases hq : hasQ w.q (gapN w n) with
    | false => rfl
    | true =>
      have := has_lt hq
      have := (rwOk_iff.1 hw).2.1
      have := gapI_bd w.x n
      unfold gapN at *
      rw [decide_eq_true (by omega)]
      rfl
/-- The steps of what is given up. -/
theorem giv_more {w : Rw} {t : Int} (h : giveOk w t = true) {i : Nat} (hi : i ≤ giveN w t) : befB (aftI w.x i) t = decide (i < giveN w t) := by
  obtain ⟨h1, h2, h3⟩ := giveOk_parts h
  have hx := (rwOk_iff.1 h1).1
  unfold giveN at *
  by_cases hb : befB w.x t = true
  · rw [if_pos hb] at *
    have hbd := inB_bd hb
    have hn : gapN w t = (gapI w.x t).toNat := rfl
    by_cases hlt : i < gapN w t
    · rw [decide_eq_true hlt]
      exact inB_yes (by unfold gapI aftI at *; omega) (by unfold gapI aftI at *; omega)
    · rw [decide_eq_false hlt]
      exact inB_no (by unfold gapI aftI at *; omega)
  · rw [if_neg hb] at *
    have h0 : i = 0 := by omega
    subst h0
    rw [show ((0 : Nat) : Int) = 0 from rfl, aft_zero9 hx]
    simpa using hb
theorem giv_count {w : Rw} {t : Int} (hw : rwOk w = true) (ht : 0 ≤ t ∧ t ≤ 65535) : giveOk w t = decide ((if befB t w.x = true then 0 else gapI w.x t) ≤ 8) ∧ (giveOk w t = true → (if befB t w.x = true then 0 else gapI w.x t) = (giveN w t : Int)) := by
  have hx := (rwOk_iff.1 hw).1
  have he : giveOk w t = (befB t w.x || decide (gapI w.x t ≤ 8)) := by unfold giveOk; rw [hw, serB_yes ht.1 ht.2]; rfl
  refine ⟨?_, fun h => ?_⟩
  · rw [he]
    cases hb : befB t w.x with
    | true => rfl
    | false => rfl
  · rw [he] at h
    unfold giveN
    cases hb : befB t w.x with
    | true =>
      have := inB_bd hb
      rw [if_pos rfl, if_neg (by intro hc; have := inB_bd hc; unfold gapI at *; omega)]
      rfl
    | false =>
      rw [hb, Bool.false_or, decide_eq_true_eq] at h
      have hg := gapI_bd w.x t
      rw [if_neg (by decide)]
      by_cases h0 : gapI w.x t = 0
      · rw [if_neg (by intro hc; have := inB_bd hc; omega), h0]; rfl
      · rw [if_pos (show befB w.x t = true from inB_yes (by omega) (by omega))]
        unfold gapN; omega
end Go.Proofs.Ytpmjdppipalfcaa
