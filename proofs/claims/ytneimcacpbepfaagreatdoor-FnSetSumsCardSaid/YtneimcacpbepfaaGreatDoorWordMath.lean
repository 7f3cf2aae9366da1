/-
  Words: sums with the end-around carry, the swapped word, the words of a text. No program.
-/
import Derived.Test.YtneimcacpbepfaaGreatDoorSer
namespace Go.Proofs.YtneimcacpbepfaaGreatDoor
open Go.RowKit Go.Lib
set_option linter.unusedVariables false

/-- Two words added. -/
def addW (a b : Int) : Int := if 65535 < a + b then a + b - 65535 else a + b
def sumW (xs : List Int) : Int := xs.foldl addW 0
/-- The sum that a number of ones has. -/
def nrm (s : Int) : Int := if s = 0 then 0 else (s - 1) % 65535 + 1
def swp (x : Int) : Int := x % 256 * 256 + x / 256
def totI (xs : List Int) : Int := xs.foldl (· + ·) 0

theorem addW_bd {a b : Int} (a0 : 0 ≤ a) (a1 : a ≤ 65535) (b0 : 0 ≤ b) (b1 : b ≤ 65535) : 0 ≤ addW a b ∧ addW a b ≤ 65535 := by
  unfold addW; split <;> omega
theorem addW_zero {a : Int} (a1 : a ≤ 65535) : addW 0 a = a := by unfold addW; split <;> omega
theorem addW_comm (a b : Int) : addW a b = addW b a := by unfold addW; split <;> split <;> omega
theorem nrm_bd (s : Int) : 0 ≤ nrm s ∧ nrm s ≤ 65535 := by unfold nrm; split <;> omega
theorem nrm_add {s t : Int} (hs : 0 ≤ s) (ht : 0 ≤ t) : addW (nrm s) (nrm t) = nrm (s + t) := by
  unfold addW nrm
  split <;> split <;> split <;> (try split) <;> omega
theorem nrm_id {x : Int} (h0 : 0 ≤ x) (h1 : x ≤ 65535) : nrm x = x := by unfold nrm; split <;> omega
theorem nrm_step {s x : Int} (hs : 0 ≤ s) (h0 : 0 ≤ x) (h1 : x ≤ 65535) : addW (nrm s) x = nrm (s + x) := by
  conv => lhs; rw [← nrm_id h0 h1]
  exact nrm_add hs h0
theorem word_mem {xs : List Int} (h : xs.all serB = true) {x : Int} (hx : x ∈ xs) : 0 ≤ x ∧ x ≤ 65535 := by
  rw [List.all_eq_true] at h; exact serB_bd (h x hx)
theorem sum_fold : ∀ (xs : List Int) (s : Int), xs.all serB = true → 0 ≤ s → xs.foldl addW (nrm s) = nrm (xs.foldl (· + ·) s) ∧ 0 ≤ xs.foldl (· + ·) s
  | [], s, _, h => ⟨rfl, h⟩
  | x :: xs, s, hall, h => by
    rw [List.all_cons, Bool.and_eq_true] at hall
    obtain ⟨x0, x1⟩ := serB_bd hall.1
    simp only [List.foldl_cons]
    rw [nrm_step h x0 x1]
    exact sum_fold xs (s + x) hall.2 (by omega)
theorem sum_nrm {xs : List Int} (h : xs.all serB = true) : sumW xs = nrm (totI xs) ∧ 0 ≤ totI xs := sum_fold xs 0 h (Int.le_refl _)
theorem sum_bd {xs : List Int} (h : xs.all serB = true) : 0 ≤ sumW xs ∧ sumW xs ≤ 65535 := by rw [(sum_nrm h).1]; exact nrm_bd _
theorem sum_snoc (xs : List Int) (x : Int) : sumW (xs ++ [x]) = addW (sumW xs) x := by simp [sumW]
theorem sum_take {xs : List Int} {k : Nat} {u : Int} (hk : k < xs.length) (hu : u = xs[k]) : sumW (xs.take (k + 1)) = addW (sumW (xs.take k)) u := by
  rw [List.take_succ_eq_append_getElem hk, sum_snoc, hu]
theorem tot_from : ∀ (xs : List Int) (s : Int), xs.foldl (· + ·) s = s + totI xs
  | [], s => by simp [totI]
  | x :: xs, s => by
    unfold totI
    simp only [List.foldl_cons]
    rw [tot_from xs (s + x), tot_from xs (0 + x)]
    omega
theorem tot_cons (x : Int) (xs : List Int) : totI (x :: xs) = x + totI xs := by
  show List.foldl _ (0 + x) xs = _
  rw [tot_from, Int.zero_add]
theorem tot_append (xs ys : List Int) : totI (xs ++ ys) = totI xs + totI ys := by
  show List.foldl _ 0 (xs ++ ys) = _
  rw [List.foldl_append, tot_from ys]; rfl
theorem tot_rev : ∀ xs : List Int, totI xs.reverse = totI xs
  | [] => rfl
  | x :: xs => by rw [List.reverse_cons, tot_append, tot_rev xs, tot_cons, tot_cons]; simp [totI]; omega
theorem all_rev {xs : List Int} (h : xs.all serB = true) : xs.reverse.all serB = true := by rw [List.all_reverse]; exact h
theorem sum_rev {xs : List Int} (h : xs.all serB = true) : sumW xs.reverse = sumW xs := by
  rw [(sum_nrm (all_rev h)).1, (sum_nrm h).1, tot_rev]
theorem sum_append {xs ys : List Int} (h : xs.all serB = true) (h' : ys.all serB = true) : sumW (xs ++ ys) = addW (sumW xs) (sumW ys) := by
  have h2 : (xs ++ ys).all serB = true := by rw [List.all_append, h, h']; rfl
  rw [(sum_nrm h2).1, (sum_nrm h).1, (sum_nrm h').1, tot_append, nrm_add (sum_nrm h).2 (sum_nrm h').2]
theorem sum_seal {xs : List Int} (h : xs.all serB = true) : sumW (xs ++ [65535 - sumW xs]) = 65535 := by
  obtain ⟨s0, s1⟩ := sum_bd h
  rw [sum_snoc]; unfold addW; split <;> omega
theorem swp_bd {x : Int} (h0 : 0 ≤ x) (h1 : x ≤ 65535) : 0 ≤ swp x ∧ swp x ≤ 65535 := by unfold swp; omega
theorem swp_swp {x : Int} (h0 : 0 ≤ x) (h1 : x ≤ 65535) : swp (swp x) = x := by unfold swp; omega
theorem swp_add {a b : Int} (a0 : 0 ≤ a) (a1 : a ≤ 65535) (b0 : 0 ≤ b) (b1 : b ≤ 65535) : swp (addW a b) = addW (swp a) (swp b) := by
  unfold swp addW
  split <;> split <;> omega
theorem swp_all {xs : List Int} (h : xs.all serB = true) : (xs.map swp).all serB = true := by
  rw [List.all_eq_true]
  intro y hy
  obtain ⟨x, hx, rfl⟩ := List.mem_map.1 hy
  obtain ⟨x0, x1⟩ := word_mem h hx
  obtain ⟨y0, y1⟩ := swp_bd x0 x1
  exact serB_yes y0 y1
theorem swp_fold : ∀ (xs : List Int) (s : Int), xs.all serB = true → 0 ≤ s → s ≤ 65535 → (xs.map swp).foldl addW (swp s) = swp (xs.foldl addW s)
  | [], s, _, _, _ => rfl
  | x :: xs, s, h, s0, s1 => by
    rw [List.all_cons, Bool.and_eq_true] at h
    obtain ⟨x0, x1⟩ := serB_bd h.1
    obtain ⟨y0, y1⟩ := addW_bd s0 s1 x0 x1
    simp only [List.map_cons, List.foldl_cons]
    rw [← swp_add s0 s1 x0 x1]
    exact swp_fold xs _ h.2 y0 y1
theorem sum_swp {xs : List Int} (h : xs.all serB = true) : sumW (xs.map swp) = swp (sumW xs) := by
  have := swp_fold xs 0 h (Int.le_refl _) (by omega)
  exact this
theorem sum_set {xs : List Int} {x y : Int} (h : (x :: xs).all serB = true) (y0 : 0 ≤ y) (y1 : y ≤ 65535) :
    ∃ k : Int, (65535 - sumW (y :: xs)) - (65535 - addW (addW (65535 - (65535 - sumW (x :: xs))) (65535 - x)) y) = 65535 * k := by
  have hc := h
  rw [List.all_cons, Bool.and_eq_true] at hc
  obtain ⟨x0, x1⟩ := serB_bd hc.1
  have h2 : (y :: xs).all serB = true := by rw [List.all_cons, hc.2, serB_yes y0 y1]; rfl
  obtain ⟨e1, n1⟩ := sum_nrm h
  obtain ⟨e2, n2⟩ := sum_nrm h2
  obtain ⟨_, n3⟩ := sum_nrm hc.2
  rw [e1, e2, tot_cons, tot_cons, show 65535 - (65535 - nrm (x + totI xs)) = nrm (x + totI xs) by omega, nrm_step (by omega) (by omega) (by omega), nrm_step (by omega) y0 y1]
  have hn : ∀ s : Int, 0 ≤ s → ∃ k, nrm s = s - 65535 * k := by
    intro s hs
    by_cases e : s = 0
    · exact ⟨0, by subst e; rfl⟩
    · refine ⟨(s - 1) / 65535, ?_⟩
      unfold nrm; rw [if_neg e]; omega
  obtain ⟨k1, hk1⟩ := hn (y + totI xs) (by omega)
  obtain ⟨k2, hk2⟩ := hn (x + totI xs + (65535 - x) + y) (by omega)
  exact ⟨k1 - k2 + 1, by rw [hk1, hk2]; omega⟩

/-- The k-th word of a text. -/
def byteI (s : ByteArray) (k : Nat) : Int := if h : k < s.size then (s[k].toNat : Int) else 0
def wAt (s : ByteArray) (k : Nat) : Int := 256 * byteI s (2 * k) + byteI s (2 * k + 1)
def wrds (s : ByteArray) (n : Nat) : List Int := (List.range n).map (wAt s)
def wrdsOf (s : ByteArray) : List Int := wrds s ((s.size + 1) / 2)

theorem byteI_bd (s : ByteArray) (k : Nat) : 0 ≤ byteI s k ∧ byteI s k ≤ 255 := by
  unfold byteI
  split
  · rename_i h
    have : s[k].toNat < 256 := s[k].toNat_lt
    omega
  · omega
theorem byteI_in {s : ByteArray} {k : Nat} (h : k < s.size) : byteI s k = (s[k].toNat : Int) := dif_pos h
theorem byteI_out {s : ByteArray} {k : Nat} (h : ¬ k < s.size) : byteI s k = 0 := dif_neg h
theorem wAt_bd (s : ByteArray) (k : Nat) : 0 ≤ wAt s k ∧ wAt s k ≤ 65535 := by
  have := byteI_bd s (2 * k); have := byteI_bd s (2 * k + 1); unfold wAt; omega
theorem wrds_len (s : ByteArray) (n : Nat) : (wrds s n).length = n := by simp [wrds]
theorem wrds_succ (s : ByteArray) (n : Nat) : wrds s (n + 1) = wrds s n ++ [wAt s n] := by simp [wrds, List.range_succ]
theorem wrds_all (s : ByteArray) (n : Nat) : (wrds s n).all serB = true := by
  rw [List.all_eq_true]
  intro y hy
  obtain ⟨k, _, rfl⟩ := List.mem_map.1 hy
  obtain ⟨y0, y1⟩ := wAt_bd s k
  exact serB_yes y0 y1
theorem byteI_left (a b : ByteArray) (k : Nat) (h : k < a.size) : byteI (a ++ b) k = byteI a k := by
  rw [byteI_in h, byteI_in (by rw [ByteArray.size_append]; omega), ByteArray.getElem_append_left h]
theorem byteI_right (a b : ByteArray) (k : Nat) : byteI (a ++ b) (a.size + k) = byteI b k := by
  by_cases h : k < b.size
  · rw [byteI_in h, byteI_in (by rw [ByteArray.size_append]; omega), ByteArray.getElem_append_right (by omega)]
    simp
  · rw [byteI_out h, byteI_out (by rw [ByteArray.size_append]; omega)]
theorem wrdsOf_append (a b : ByteArray) (h : a.size % 2 = 0) : wrdsOf (a ++ b) = wrdsOf a ++ wrdsOf b := by
  obtain ⟨m, hm⟩ : ∃ m, a.size = 2 * m := ⟨a.size / 2, by omega⟩
  unfold wrdsOf
  have e1 : ((a ++ b).size + 1) / 2 = m + (b.size + 1) / 2 := by rw [ByteArray.size_append]; omega
  have e2 : (a.size + 1) / 2 = m := by omega
  rw [e1, e2]
  unfold wrds
  rw [List.range_add, List.map_append, List.map_map]
  congr 1
  · apply List.map_congr_left
    intro k hk
    have := List.mem_range.1 hk
    unfold wAt
    rw [byteI_left a b _ (by omega), byteI_left a b _ (by omega)]
  · apply List.map_congr_left
    intro k _
    show wAt (a ++ b) (m + k) = wAt b k
    unfold wAt
    rw [show 2 * (m + k) = a.size + 2 * k by omega, byteI_right, show a.size + 2 * k + 1 = a.size + (2 * k + 1) by omega, byteI_right]

/-- Whether a list is one of at most 40 words. -/
def wOk (xs : List Int) : Bool := decide (xs.length ≤ 40) && xs.all serB
def sumV (xs : List Int) : Int := if wOk xs = true then sumW xs else 0
def chkV (xs : List Int) : Int := if wOk xs = true then 65535 - sumW xs else 0
def sndV (xs : List Int) : Bool := wOk xs && decide (sumW xs = 65535)
def slOk (xs : List Int) : Bool := wOk xs && decide (xs.length ≠ 40)
def slL (xs : List Int) : List Int := if slOk xs = true then xs ++ [65535 - sumW xs] else []
def addOk (a b : Int) : Bool := serB a && serB b
def addV (a b : Int) : Int := if addOk a b = true then addW a b else 0
def updOk (c o n : Int) : Bool := serB c && (serB o && serB n)
def updV (c o n : Int) : Int := if updOk c o n = true then 65535 - addW (addW (65535 - c) (65535 - o)) n else 0
def swpV (x : Int) : Int := if serB x = true then swp x else 0
def woOk (s : ByteArray) : Bool := decide (s.size ≤ 80)
def woL (s : ByteArray) : List Int := if woOk s = true then wrdsOf s else []
def tsOk (a b : ByteArray) : Bool := decide (a.size + b.size ≤ 80)
def tsV (a b : ByteArray) : Int := if tsOk a b = true then sumW (wrdsOf (a ++ b)) else 0

theorem wOk_all {xs : List Int} (h : wOk xs = true) : xs.all serB = true := by unfold wOk at h; rw [Bool.and_eq_true] at h; exact h.2
theorem wOk_len {xs : List Int} (h : wOk xs = true) : xs.length ≤ 40 := by unfold wOk at h; rw [Bool.and_eq_true] at h; exact of_decide_eq_true h.1
theorem wOk_yes {xs : List Int} (h : xs.all serB = true) (hl : xs.length ≤ 40) : wOk xs = true := by unfold wOk; rw [h, decide_eq_true hl]; rfl
theorem sumV_yes {xs : List Int} (h : wOk xs = true) : sumV xs = sumW xs := if_pos h
theorem sumV_no {xs : List Int} (h : wOk xs = false) : sumV xs = 0 := by unfold sumV; rw [h]; rfl
theorem sumV_bd (xs : List Int) : 0 ≤ sumV xs ∧ sumV xs ≤ 65535 := by
  cases h : wOk xs with
  | false => rw [sumV_no h]; omega
  | true => rw [sumV_yes h]; exact sum_bd (wOk_all h)
theorem addOk_bd {a b : Int} (h : addOk a b = true) : 0 ≤ a ∧ a ≤ 65535 ∧ 0 ≤ b ∧ b ≤ 65535 := by
  unfold addOk at h
  simp only [Bool.and_eq_true] at h
  have := serB_bd h.1
  have := serB_bd h.2
  omega
theorem updOk_bd {a b c : Int} (h : updOk a b c = true) : 0 ≤ a ∧ a ≤ 65535 ∧ 0 ≤ b ∧ b ≤ 65535 ∧ 0 ≤ c ∧ c ≤ 65535 := by
  unfold updOk at h
  simp only [Bool.and_eq_true] at h
  have := serB_bd h.1
  have := serB_bd h.2.1
  have := serB_bd h.2.2
  omega
theorem wrdsOf_ok {s : ByteArray} (h : s.size ≤ 80) : wOk (wrdsOf s) = true := wOk_yes (wrds_all _ _) (by unfold wrdsOf; rw [wrds_len]; omega)
end Go.Proofs.YtneimcacpbepfaaGreatDoor
