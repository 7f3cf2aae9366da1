/-
  The window of the source: mathematics. No program.
-/
import Derived.Test.YtlendmiolhgecaaPktMath
namespace Go.Proofs.Ytlendmiolhgecaa
open Go.RowKit Go.Lib
set_option linter.unusedVariables false

/-- A window: its trail, its size, its items. -/
structure Sw where
  t : Int
  z : Int
  q : List ByteArray
def sw0 : Sw := ⟨0, 0, []⟩
/-- An item. -/
def itB (s : ByteArray) : Bool := ltrB s && decide (s.size ≤ 8)
theorem itB_iff {s : ByteArray} : itB s = true ↔ ltrB s = true ∧ s.size ≤ 8 := by unfold itB; rw [Bool.and_eq_true, decide_eq_true_eq]
def swOk (w : Sw) : Bool := serB w.t && (inB w.z 1 6 && (decide ((w.q.length : Int) ≤ w.z) && w.q.all itB))
theorem swOk_iff {w : Sw} : swOk w = true ↔ (0 ≤ w.t ∧ w.t ≤ 65535) ∧ (1 ≤ w.z ∧ w.z ≤ 6) ∧ (w.q.length : Int) ≤ w.z ∧ ∀ s ∈ w.q, itB s = true := by
  unfold swOk serB inB
  simp only [Bool.and_eq_true, decide_eq_true_eq, List.all_eq_true]
theorem swOk_no {w : Sw} (h : ¬ ((0 ≤ w.t ∧ w.t ≤ 65535) ∧ (1 ≤ w.z ∧ w.z ≤ 6) ∧ (w.q.length : Int) ≤ w.z ∧ ∀ s ∈ w.q, itB s = true)) : swOk w = false := by
  cases e : swOk w with
  | false => rfl
  | true => exact absurd (swOk_iff.1 e) h
theorem swOk_mk {t z : Int} {q : List ByteArray} (h1 : 0 ≤ t ∧ t ≤ 65535) (h2 : 1 ≤ z ∧ z ≤ 6) (h3 : (q.length : Int) ≤ z) (h4 : ∀ s ∈ q, itB s = true) : swOk ⟨t, z, q⟩ = true := swOk_iff.2 ⟨h1, h2, h3, h4⟩
def leadI (w : Sw) : Int := aftI w.t w.q.length
def leadV (w : Sw) : Int := if swOk w = true then leadI w else 0
theorem leadI_bd (w : Sw) : 0 ≤ leadI w ∧ leadI w ≤ 65535 := aftI_bd _ _
/-- A window without its n oldest items. -/
def dropN (w : Sw) (n : Nat) : Sw := ⟨aftI w.t n, w.z, w.q.drop n⟩
theorem aft_zero9 {x : Int} (h : 0 ≤ x ∧ x ≤ 65535) : aftI x 0 = x := by unfold aftI; omega
theorem aft_aft (x : Int) {a b : Int} (ha : 0 ≤ a ∧ a ≤ 65536) (hb : 0 ≤ b ∧ b ≤ 65536) : aftI (aftI x a) b = aftI x (a + b) := by unfold aftI; omega
theorem gap_aft {x n : Int} (h : 0 ≤ x ∧ x ≤ 65535) (hn : 0 ≤ n ∧ n ≤ 65535) : gapI x (aftI x n) = n := by unfold gapI aftI; omega
theorem aft_gap {x y : Int} (h : 0 ≤ x ∧ x ≤ 65535) (hy : 0 ≤ y ∧ y ≤ 65535) : aftI x (gapI x y) = y := by unfold gapI aftI; omega
theorem dropN_zero {w : Sw} (h : 0 ≤ w.t ∧ w.t ≤ 65535) : dropN w 0 = w := by
  unfold dropN
  rw [show ((0 : Nat) : Int) = 0 from rfl, aft_zero9 h, List.drop_zero]
theorem dropN_ok {w : Sw} (h : swOk w = true) (n : Nat) : swOk (dropN w n) = true := by
  obtain ⟨h1, h2, h3, h4⟩ := swOk_iff.1 h
  refine swOk_mk (aftI_bd _ _) h2 ?_ (fun s hs => h4 s (List.mem_of_mem_drop hs))
  rw [List.length_drop]
  omega
theorem dropN_lead {w : Sw} (h : swOk w = true) {n : Nat} (hn : n ≤ w.q.length) : leadI (dropN w n) = leadI w := by
  obtain ⟨h1, h2, h3, h4⟩ := swOk_iff.1 h
  unfold leadI dropN
  rw [aft_aft _ (by omega) (by rw [List.length_drop]; omega), List.length_drop]
  congr 1
  omega
/-- The window that an item is pushed on: room is made. -/
def roomW (w : Sw) : Sw := if (w.q.length : Int) = w.z then dropN w 1 else w
def pushW (w : Sw) (s : ByteArray) : Sw := ⟨(roomW w).t, (roomW w).z, (roomW w).q ++ [s]⟩
def pushOk (w : Sw) (s : ByteArray) : Bool := swOk w && itB s
def pushV (w : Sw) (s : ByteArray) : Sw := if pushOk w s = true then pushW w s else sw0
/-- The number, trail and lead of the packet of a push. -/
def pushN (w : Sw) (s : ByteArray) : Int := if pushOk w s = true then leadI (roomW w) else 0
def pushT (w : Sw) (s : ByteArray) : Int := if pushOk w s = true then (roomW w).t else 0
def pushL (w : Sw) (s : ByteArray) : Int := if pushOk w s = true then leadI (pushW w s) else 0
def heldB (w : Sw) (x : Int) : Bool := decide (gapI w.t x < (w.q.length : Int))
def heldOk (w : Sw) (x : Int) : Bool := swOk w && (serB x && heldB w x)
def itemI (w : Sw) (x : Int) : ByteArray := w.q.getD (gapI w.t x).toNat ⟨#[]⟩
def heldV (w : Sw) (x : Int) : ByteArray := if heldOk w x = true then itemI w x else ⟨#[]⟩
def dropOk (w : Sw) (x : Int) : Bool := swOk w && (serB x && decide (gapI w.t x ≤ (w.q.length : Int)))
def dropV (w : Sw) (x : Int) : Sw := if dropOk w x = true then dropN w (gapI w.t x).toNat else sw0
def dropC (w : Sw) (x : Int) : Int := if dropOk w x = true then gapI w.t x else 0
def sizeOk (w : Sw) (z : Int) : Bool := swOk w && inB z 1 6
def sizeW (w : Sw) (z : Int) : Sw := ⟨(dropN w ((w.q.length : Int) - z).toNat).t, z, (dropN w ((w.q.length : Int) - z).toNat).q⟩
def sizeV (w : Sw) (z : Int) : Sw := if sizeOk w z = true then sizeW w z else sw0
def ansOk (w : Sw) (k n t l : Int) (d : ByteArray) : Bool := swOk w && (pktOk k n t l d && (decide (k = 3) && heldB w n))
def heldL (w : Sw) : List Int := (List.range w.q.length).map fun (i : Nat) => aftI w.t (i : Int)
def hsV (w : Sw) : List Int := if swOk w = true then heldL w else []
theorem heldL_len (w : Sw) : (heldL w).length = w.q.length := by simp [heldL]

theorem roomW_facts {w : Sw} (h : swOk w = true) : swOk (roomW w) = true ∧ leadI (roomW w) = leadI w ∧ ((roomW w).q.length : Int) < (roomW w).z ∧ (roomW w).z = w.z := by
  obtain ⟨h1, h2, h3, h4⟩ := swOk_iff.1 h
  unfold roomW
  by_cases hf : (w.q.length : Int) = w.z
  · rw [if_pos hf]
    refine ⟨dropN_ok h 1, dropN_lead h (by omega), ?_, rfl⟩
    unfold dropN
    simp only [List.length_drop]
    omega
  · rw [if_neg hf]
    exact ⟨h, rfl, by omega, rfl⟩
theorem pushOk_parts {w : Sw} {s : ByteArray} (h : pushOk w s = true) : swOk w = true ∧ itB s = true := by unfold pushOk at h; exact Bool.and_eq_true_iff.1 h
theorem pushW_ok {w : Sw} {s : ByteArray} (h : pushOk w s = true) : swOk (pushW w s) = true ∧ leadI (pushW w s) = aftI (leadI w) 1 ∧ ((pushW w s).q.length : Int) ≤ 6 := by
  obtain ⟨hw, hs⟩ := pushOk_parts h
  obtain ⟨r1, r2, r3, r4⟩ := roomW_facts hw
  obtain ⟨h1, h2, h3, h4⟩ := swOk_iff.1 r1
  have hl : ((pushW w s).q.length : Int) = (roomW w).q.length + 1 := by unfold pushW; simp
  refine ⟨swOk_mk h1 h2 ?_ ?_, ?_, by omega⟩
  · simp only [List.length_append, List.length_cons, List.length_nil]
    omega
  · intro u hu
    rcases List.mem_append.1 hu with hu | hu
    · exact h4 u hu
    · rw [List.mem_singleton.1 hu]
      exact hs
  · rw [← r2]
    unfold leadI
    rw [hl, aft_aft _ (by omega) (by omega)]
    rfl
/-- What the law asks of a push. -/
theorem push_law {w : Sw} {s : ByteArray} (h : pushOk w s = true) :
    heldOk (pushV w s) (pushN w s) = true ∧ heldV (pushV w s) (pushN w s) = s ∧ swOk w = true ∧ swOk (pushV w s) = true ∧ pushN w s = leadV w ∧ gapOk (leadV w) (leadV (pushV w s)) = true ∧ gapV (leadV w) (leadV (pushV w s)) = 1 ∧
    pushL w s = leadV (pushV w s) ∧ pushT w s = (pushV w s).t := by
  obtain ⟨hw, hs⟩ := pushOk_parts h
  obtain ⟨r1, r2, r3, r4⟩ := roomW_facts hw
  obtain ⟨p1, p2, p3⟩ := pushW_ok h
  obtain ⟨h1, h2, h3, h4⟩ := swOk_iff.1 r1
  have ev : pushV w s = pushW w s := if_pos h
  have en : pushN w s = leadI (roomW w) := if_pos h
  have et : pushT w s = (roomW w).t := if_pos h
  have el : pushL w s = leadI (pushW w s) := if_pos h
  have e1 : leadV w = leadI w := if_pos hw
  have e2 : leadV (pushW w s) = leadI (pushW w s) := if_pos p1
  have hg : gapI (pushW w s).t (leadI (roomW w)) = ((roomW w).q.length : Int) := gap_aft (x := (roomW w).t) h1 (by omega)
  have hk : heldOk (pushW w s) (leadI (roomW w)) = true := by
    unfold heldOk heldB
    rw [p1, serB_yes (leadI_bd _).1 (leadI_bd _).2, hg, Bool.true_and, Bool.true_and]
    apply decide_eq_true
    unfold pushW
    simp only [List.length_append, List.length_cons, List.length_nil]
    omega
  have hgo : gapOk (leadI w) (leadI (pushW w s)) = true := by
    unfold gapOk
    rw [serB_yes (leadI_bd _).1 (leadI_bd _).2, serB_yes (leadI_bd _).1 (leadI_bd _).2]; rfl
  rw [ev, en, et, el, e1, e2]
  refine ⟨hk, ?_, hw, p1, r2, hgo, ?_, rfl, rfl⟩
  · unfold heldV
    rw [if_pos hk]
    unfold itemI
    rw [hg]
    unfold pushW
    simp
  · unfold gapV
    rw [if_pos hgo, p2]
    exact gap_aft (leadI_bd w) (by omega)
/-- The serials that are held, and no others. -/
theorem held_mem {w : Sw} {x : Int} (h : swOk w = true) : decide (x ∈ hsV w) = heldOk w x := by
  obtain ⟨h1, h2, h3, h4⟩ := swOk_iff.1 h
  have e : hsV w = heldL w := if_pos h
  rw [e]
  unfold heldOk heldB
  rw [h, Bool.true_and]
  cases hs : serB x with
  | false =>
    rw [Bool.false_and]
    apply decide_eq_false
    intro hx
    obtain ⟨i, hi, rfl⟩ := List.mem_map.1 hx
    rw [serB_yes (aftI_bd _ _).1 (aftI_bd _ _).2] at hs
    cases hs
  | true =>
    obtain ⟨x0, x1⟩ := serB_bd hs
    rw [Bool.true_and]
    congr 1
    apply propext
    constructor
    · intro hx
      obtain ⟨i, hi, rfl⟩ := List.mem_map.1 hx
      have hi := List.mem_range.1 hi
      rw [gap_aft h1 (by omega)]
      omega
    · intro hx
      have hb := gapI_bd w.t x
      refine List.mem_map.2 ⟨(gapI w.t x).toNat, List.mem_range.2 (by omega), ?_⟩
      rw [Int.toNat_of_nonneg hb.1]
      exact aft_gap h1 ⟨x0, x1⟩
theorem ansOk_parts {w : Sw} {k n t l : Int} {d : ByteArray} (h : ansOk w k n t l d = true) : swOk w = true ∧ pktOk k n t l d = true ∧ k = 3 ∧ heldB w n = true := by
  unfold ansOk at h
  simp only [Bool.and_eq_true, decide_eq_true_eq] at h
  exact h
theorem itemI_ok {w : Sw} {x : Int} (h : swOk w = true) (hx : heldB w x = true) : itB (itemI w x) = true := by
  obtain ⟨h1, h2, h3, h4⟩ := swOk_iff.1 h
  have hb := gapI_bd w.t x
  have hl := of_decide_eq_true hx
  unfold itemI
  rw [List.getD_eq_getElem?_getD, List.getElem?_eq_getElem (by omega), Option.getD_some]
  exact h4 _ (List.getElem_mem _)
/-- What the law asks of an answer. -/
theorem ans_law {w : Sw} {k n t l : Int} {d : ByteArray} (h : ansOk w k n t l d = true) : heldOk w n = true ∧ heldV w n = itemI w n ∧ pktOk 2 n w.t (leadI w) (itemI w n) = true := by
  obtain ⟨hw, hp, _, hh⟩ := ansOk_parts h
  obtain ⟨h1, h2, h3, h4⟩ := swOk_iff.1 hw
  obtain ⟨_, n1, _, _, _, _, _, _⟩ := pktOk_bd hp
  have hk : heldOk w n = true := by unfold heldOk; rw [hw, hh, serB_yes n1.1 n1.2]; rfl
  obtain ⟨i1, i2⟩ := itB_iff.1 (itemI_ok hw hh)
  refine ⟨hk, if_pos hk, ?_⟩
  unfold pktOk
  rw [inB_yes (by omega) (by omega), serB_yes n1.1 n1.2, serB_yes h1.1 h1.2, serB_yes (leadI_bd w).1 (leadI_bd w).2, i1, decide_eq_true i2, inB_yes (by omega) (by omega)]
  have hg : gapI w.t (leadI w) = (w.q.length : Int) := gap_aft h1 (by omega)
  rw [hg, decide_eq_true (show (w.q.length : Int) ≤ 32767 by omega)]
  simp
/-- What the law asks of a drop. -/
theorem drop_law {w : Sw} {x : Int} (h : dropOk w x = true) : swOk w = true ∧ swOk (dropV w x) = true ∧ leadV w = leadV (dropV w x) ∧ (dropV w x).t = x ∧ ((dropV w x).q.length : Int) + dropC w x = (w.q.length : Int) ∧ w.q.length ≤ 6 := by
  have hv : dropV w x = dropN w (gapI w.t x).toNat := if_pos h
  have hc : dropC w x = gapI w.t x := if_pos h
  unfold dropOk at h
  simp only [Bool.and_eq_true, decide_eq_true_eq] at h
  obtain ⟨hw, hs, hg⟩ := h
  obtain ⟨h1, h2, h3, h4⟩ := swOk_iff.1 hw
  obtain ⟨x0, x1⟩ := serB_bd hs
  have hb := gapI_bd w.t x
  have ho := dropN_ok hw (gapI w.t x).toNat
  rw [hv, hc]
  refine ⟨hw, ho, ?_, ?_, ?_, by omega⟩
  · unfold leadV
    rw [if_pos hw, if_pos ho, dropN_lead hw (by omega)]
  · show aftI w.t (((gapI w.t x).toNat : Nat) : Int) = x
    rw [Int.toNat_of_nonneg hb.1]
    exact aft_gap h1 ⟨x0, x1⟩
  · unfold dropN
    simp only [List.length_drop]
    omega
/-- What the law asks of a new size. -/
theorem size_law {w : Sw} {z : Int} (h : sizeOk w z = true) : swOk w = true ∧ swOk (sizeV w z) = true ∧ leadV w = leadV (sizeV w z) ∧ ((sizeV w z).q.length : Int) ≤ z := by
  have hv : sizeV w z = sizeW w z := if_pos h
  unfold sizeOk at h
  obtain ⟨hw, hz⟩ := Bool.and_eq_true_iff.1 h
  obtain ⟨h1, h2, h3, h4⟩ := swOk_iff.1 hw
  have hz := inB_bd hz
  obtain ⟨d1, d2, d3, d4⟩ := swOk_iff.1 (dropN_ok hw ((w.q.length : Int) - z).toNat)
  have hl : ((sizeW w z).q.length : Int) ≤ z := by
    unfold sizeW dropN
    simp only [List.length_drop]
    omega
  have ho : swOk (sizeW w z) = true := swOk_mk d1 hz hl d4
  rw [hv]
  refine ⟨hw, ho, ?_, hl⟩
  unfold leadV
  rw [if_pos hw, if_pos ho]
  exact (dropN_lead hw (by omega)).symm
/-- A packet's fields. -/
structure Pk where
  k : Int
  n : Int
  t : Int
  l : Int
  d : ByteArray
def pk0 : Pk := ⟨0, 0, 0, 0, ⟨#[]⟩⟩
def pushP (w : Sw) (s : ByteArray) : Pk := if pushOk w s = true then ⟨1, leadI (roomW w), (pushW w s).t, leadI (pushW w s), s⟩ else pk0
def statP (w : Sw) : Pk := if swOk w = true then ⟨5, w.t, w.t, leadI w, ⟨#[]⟩⟩ else pk0
def ansP (w : Sw) (p : Pk) : Pk := if ansOk w p.k p.n p.t p.l p.d = true then ⟨2, p.n, w.t, leadI w, itemI w p.n⟩ else pk0
theorem pushP_yes {w : Sw} {s : ByteArray} (h : pushOk w s = true) : pushP w s = ⟨1, leadI (roomW w), (pushW w s).t, leadI (pushW w s), s⟩ := if_pos h
theorem pushV_yes {w : Sw} {s : ByteArray} (h : pushOk w s = true) : pushV w s = pushW w s := if_pos h
theorem push_no {w : Sw} {s : ByteArray} (h : pushOk w s = false) : pushP w s = pk0 ∧ pushV w s = sw0 := by unfold pushP pushV; rw [h]; exact ⟨rfl, rfl⟩
theorem held_no {w : Sw} {x : Int} (h : heldOk w x = false) : heldV w x = ⟨#[]⟩ := by unfold heldV; rw [h]; rfl
theorem drop_no {w : Sw} {x : Int} (h : dropOk w x = false) : dropV w x = sw0 ∧ dropC w x = 0 := by unfold dropV dropC; rw [h]; exact ⟨rfl, rfl⟩
theorem size_no {w : Sw} {z : Int} (h : sizeOk w z = false) : sizeV w z = sw0 := by unfold sizeV; rw [h]; rfl
theorem stat_no {w : Sw} (h : swOk w = false) : statP w = pk0 := by unfold statP; rw [h]; rfl
theorem ans_no {w : Sw} {p : Pk} (h : ansOk w p.k p.n p.t p.l p.d = false) : ansP w p = pk0 := by unfold ansP; rw [h]; rfl
theorem item_at {w : Sw} {x : Int} {k : Nat} (hk : gapI w.t x = (k : Int)) (h : k < w.q.length) : itemI w x = w.q[k] := by
  unfold itemI
  rw [hk, Int.toNat_natCast, List.getD_eq_getElem?_getD, List.getElem?_eq_getElem h, Option.getD_some]
theorem dropV_len (w : Sw) (x : Int) (h : w.q.length ≤ 1048576) : (dropV w x).q.length ≤ 2000000 := by
  unfold dropV
  split
  · show (w.q.drop _).length ≤ 2000000
    rw [List.length_drop]; omega
  · show 0 ≤ 2000000; omega
theorem sizeV_len (w : Sw) (x : Int) (h : w.q.length ≤ 1048576) : (sizeV w x).q.length ≤ 2000000 := by
  unfold sizeV
  split
  · show (w.q.drop _).length ≤ 2000000
    rw [List.length_drop]; omega
  · show 0 ≤ 2000000; omega
theorem hsV_len (w : Sw) (h : w.q.length ≤ 1048576) : (hsV w).length ≤ 2000000 := by
  unfold hsV
  split
  · rw [heldL_len]; omega
  · show 0 ≤ 2000000; omega
theorem pushV_len (w : Sw) (s : ByteArray) (h : w.q.length ≤ 1048576) : (pushV w s).q.length ≤ 2000000 := by
  unfold pushV
  split
  · show ((roomW w).q ++ [s]).length ≤ 2000000
    rw [List.length_append]
    have : (roomW w).q.length ≤ w.q.length := by
      unfold roomW
      split
      · show (w.q.drop 1).length ≤ _
        rw [List.length_drop]; omega
      · exact Nat.le_refl _
    show (roomW w).q.length + 1 ≤ 2000000
    omega
  · show 0 ≤ 2000000; omega
end Go.Proofs.Ytlendmiolhgecaa
