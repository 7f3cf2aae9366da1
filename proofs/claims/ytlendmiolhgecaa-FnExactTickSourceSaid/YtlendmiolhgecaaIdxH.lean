/-
  slices.IndexFunc, ContainsFunc, DeleteFunc and Clone at Holds, over closures that may make memory.
-/
import Derived.Test.YtlendmiolhgecaaHldR
import Derived.Test.YtlendmiolhgecaaFit
import Derived.WalkKit
import Derived.Lib.Hide
import Derived.Shelf.Abstract
import Derived.Laws.IdiomCopy
import Derived.Lib.SliceRun
import Derived.WalkLawsBesides
import Derived.Deep.CutRange
namespace Go.Proofs.Ytlendmiolhgecaa
open Go.RowKit Go.Lib Go.Joins
set_option linter.unusedVariables false

section
variable {α : Type}
/-- The place of the first element with p, or -1. -/
def idxG (p : α → Bool) (xs : List α) : Int := if xs.any p = true then ((xs.findIdx p : Nat) : Int) else -1
theorem idxG_no {p : α → Bool} {xs : List α} (h : xs.any p = false) : idxG p xs = -1 := by unfold idxG; rw [h]; rfl
theorem idxG_at {p : α → Bool} {xs : List α} {k : Nat} (hk : k < xs.length) (h : (xs.take k).any p = false) (hp : p xs[k] = true) : idxG p xs = (k : Int) := by
  have h1 : xs.any p = true := by rw [List.any_eq_true]; exact ⟨_, List.getElem_mem hk, hp⟩
  unfold idxG
  rw [if_pos h1]
  congr 1
  rw [List.findIdx_eq hk]
  refine ⟨hp, fun j hj => ?_⟩
  rw [List.any_eq_false] at h
  have := h xs[j] (by rw [List.mem_take_iff_getElem]; exact ⟨j, by omega, rfl⟩)
  simpa using this
theorem idxG_nonneg (p : α → Bool) (xs : List α) : decide (0 ≤ idxG p xs) = xs.any p := by
  cases h : xs.any p with
  | false => rw [idxG_no h]; rfl
  | true => unfold idxG; rw [if_pos h]; exact decide_eq_true (by omega)
/-- What the place says. -/
theorem idxG_some {p : α → Bool} {xs : List α} (h : xs.any p = true) : ∃ k : Nat, ∃ hk : k < xs.length, idxG p xs = (k : Int) ∧ p xs[k] = true ∧ xs.take k = (xs.take k).filter (fun x => !p x) := by
  have hk : xs.findIdx p < xs.length := by rw [List.findIdx_lt_length]; simpa [List.any_eq_true] using h
  refine ⟨xs.findIdx p, hk, by unfold idxG; rw [if_pos h], List.findIdx_getElem, ?_⟩
  symm
  rw [List.filter_eq_self]
  intro x hx
  obtain ⟨i, hi, rfl⟩ := List.getElem_of_mem hx
  rw [List.length_take] at hi
  rw [List.getElem_take]
  have := List.not_of_lt_findIdx (p := p) (xs := xs) (i := i) (by omega)
  simpa using this
theorem filter_none {p : α → Bool} {xs : List α} (h : xs.any p = false) : xs.filter (fun x => !p x) = xs := by
  rw [List.filter_eq_self]
  intro x hx
  rw [List.any_eq_false] at h
  simpa using h x hx
/-- The row while elements are dropped: the first i are kept ones, those from j on are as they were. -/
structure DelI (p : α → Bool) (xs ys : List α) (i j : Nat) : Prop where
  len : ys.length = xs.length
  lt : i < j
  le : j ≤ xs.length
  fst : ys.take i = (xs.take j).filter (fun x => !p x)
  rst : ys.drop j = xs.drop j
theorem DelI.at {p : α → Bool} {xs ys : List α} {i j : Nat} (h : DelI p xs ys i j) (hj : j < xs.length) : ys[j]? = some xs[j] := by
  have e := congrArg (fun l => l[0]?) h.rst
  simp only [List.getElem?_drop, Nat.add_zero] at e
  rw [e, List.getElem?_eq_getElem hj]
theorem DelI.keep {p : α → Bool} {xs ys : List α} {i j : Nat} (h : DelI p xs ys i j) (hj : j < xs.length) (hp : p xs[j] = false) : DelI p xs (ys.set i xs[j]) (i + 1) (j + 1) := by
  have hl := h.len
  have hi := h.lt
  refine ⟨by rw [List.length_set]; exact hl, by omega, by omega, ?_, ?_⟩
  · rw [List.take_succ_eq_append_getElem hj, List.filter_append, ← h.fst, List.take_succ_eq_append_getElem (by rw [List.length_set]; omega), List.getElem_set_self, List.take_set_of_le (Nat.le_refl _)]
    simp [hp]
  · have e := congrArg (fun l => l.drop 1) h.rst
    simp only [List.drop_drop] at e
    rw [List.drop_set_of_lt (by omega)]
    rw [Nat.add_comm] at e
    rw [Nat.add_comm 1 j] at e
    exact e
theorem DelI.drop {p : α → Bool} {xs ys : List α} {i j : Nat} (h : DelI p xs ys i j) (hj : j < xs.length) (hp : p xs[j] = true) : DelI p xs ys i (j + 1) := by
  refine ⟨h.len, by have := h.lt; omega, by omega, ?_, ?_⟩
  · rw [List.take_succ_eq_append_getElem hj, List.filter_append, ← h.fst]
    simp [hp]
  · have e := congrArg (fun l => l.drop 1) h.rst
    simp only [List.drop_drop] at e
    exact e
theorem DelI.end {p : α → Bool} {xs ys : List α} {i : Nat} (h : DelI p xs ys i xs.length) : ys.take i = xs.filter (fun x => !p x) ∧ (xs.filter (fun x => !p x)).length = i := by
  have e := h.fst
  rw [List.take_of_length_le (Nat.le_refl xs.length)] at e
  refine ⟨e, ?_⟩
  rw [← e, List.length_take]
  have := h.len
  have := h.lt
  omega
end
/-- The first elements of a row of the call's own. -/
theorem ownz_cut {w : World} {base n z i : Nat} {e : TypeId} {xs : List Value} {g cap : Nat} (h : w.ownsRow base e z (.slice (some ⟨g, 0, none⟩) n cap) n xs) (hi : i ≤ n) :
    w.ownsRow base e z (.slice (some ⟨g, 0, none⟩) i cap) i (xs.take (i * z)) := by
  obtain ⟨hl, ⟨h1, _⟩ | ⟨g', cap', cur, hv, hb, hg, hn, hm, hs, ht⟩⟩ := h
  · cases h1
  · injection hv with e1 _ e3
    injection e1 with e1
    injection e1 with e1
    subst e1; subst e3
    have hle : i * z ≤ n * z := Nat.mul_le_mul_right z hi
    refine ⟨by rw [List.length_take]; omega, .inr ⟨g, cap, cur, rfl, hb, hg, by omega, hm, hs, ?_⟩⟩
    rw [← ht, List.take_take]
    congr 1
    omega
/-- Cells from a place on, set one by one. -/
theorem ownz_setCells {base n z : Nat} {e : TypeId} {g cap : Nat} : ∀ (vs : List Value) (o : Nat) (w : World) (xs : List Value), w.ownsRow base e z (.slice (some ⟨g, 0, none⟩) n cap) n xs → o + vs.length ≤ xs.length →
    ∃ ys, (w.setCells g o vs).ownsRow base e z (.slice (some ⟨g, 0, none⟩) n cap) n ys ∧ ys.take o = xs.take o ∧ w.grownBy (w.setCells g o vs) (some g)
  | [], o, w, xs, h, _ => ⟨xs, h, rfl, ⟨rfl, rfl, rfl, Nat.le_refl _, fun _ _ _ => rfl⟩⟩
  | v :: vs, o, w, xs, h, hl => by
    obtain ⟨s1, s2⟩ := ownz_set h (j := o) v
    obtain ⟨ys, y1, y2, y3⟩ := ownz_setCells vs (o + 1) (w.setCell ⟨g, o, none⟩ v) (xs.set o v) s1 (by rw [List.length_set]; simp at hl; omega)
    refine ⟨ys, y1, ?_, grown_trans s2 y3⟩
    have e1 := congrArg (fun l => l.take o) y2
    simp only [List.take_take, Nat.min_eq_left (Nat.le_succ o)] at e1
    rw [e1, List.take_set_of_le (Nat.le_refl _)]
theorem zero_pairs (n : Nat) (z : Value) : (Builtin.zeroCells #[z, z] n).toList = List.replicate (n * 2) z := by
  simp only [Builtin.zeroCells]
  apply List.ext_getElem
  · simp
  · intro i h1 h2
    simp only [Array.toList_map, Array.toList_range, List.getElem_map, List.getElem_range, List.getElem_replicate]
    have : i % 2 = 0 ∨ i % 2 = 1 := by omega
    rcases this with h | h <;> simp [h]
theorem run_clear_hd (w : World) (ty : TypeId) (b o n c : Nat) (hn : 0 < n) (hc : ∀ j, j < n * 2 → (w.cell? ⟨b, o + j, none⟩).isSome = true) (hf : ∀ j, j < n * 2 → w.frozen? ⟨b, o + j, none⟩ = false) :
    (Builtin.clear_ #[27] ty #[.slice (some ⟨b, o, none⟩) n c]).run Try.prog w = .ok (.tuple #[]) (w.setCells b o (List.replicate (n * 2) (.int .i64 0))) := by
  have hv : ∀ w, (zeroValue 82).run Try.prog w = .ok (.agg #[.int .i64 0, .int .i64 0]) w := fun w => by kernel_rfl
  have hzc : (Builtin.zeroCells (Value.agg #[.int .i64 0, .int .i64 0]).cells n).toList = List.replicate (n * 2) (.int .i64 0) := zero_pairs n _
  have hst := run_storeCells_cells (P := Try.prog) b o (List.replicate (n * 2) (.int .i64 0)) 0 w (by simpa using hc) (by simpa using hf) (by intro v hv'; rw [List.eq_of_mem_replicate hv']; rfl)
  simp only [Nat.add_zero] at hst
  obtain ⟨m, rfl⟩ : ∃ m, n = m + 1 := ⟨n - 1, by omega⟩
  simp [Builtin.clear_, run_underlying Try.underlying27, hv, hzc, hst]
set_option maxRecDepth 100000 in
set_option maxHeartbeats 2000000 in
theorem indexHd_any (p : Hd → Bool) (v : Value) (xs : List Hd) (fg : Nat) (cb : Array Value) (w : World) (hrow : Row w v xs.length (hdF xs))
    (eg : ∀ args w, (callFunc fg args).run Try.prog w = .ok (.enter fg args) w)
    (hp : ∀ W : World, Below w.heap.size w W → ∀ x ∈ xs, Calls Try.prog fg (#[.agg #[.int .i64 x.n, .int .i64 x.u]] ++ cb) W fun e w' => e = .returned (.bool (p x)) ∧ Below W.heap.size W w') :
    Calls Try.prog 107 #[v, .func (.func fg) #[] cb] w fun e w' => e = .returned (.int .i64 (idxG p xs)) ∧ Below w.heap.size w w' := by
  obtain ⟨a, cap, rfl, hc1, hc2, -⟩ := hd_open hrow
  unfold maxLen at hc2
  have HR := Lib.hid hrow
  have HP := Lib.hid hp
  have HB0 := Lib.hid (Below.refl w.heap.size w)
  clear hrow hp
  obtain ⟨n, hN⟩ : ∃ n, n = xs.length := ⟨_, rfl⟩
  have HN := Lib.hid hN
  rw [← hN] at hc1 ⊢
  clear hN
  go_enter Try.func107, Try.ntmps107
  go_wp2_with fail
  go_loopw [8] (fun i wr => ∃ k : Nat, k ≤ n ∧ i = .int .i64 k ∧ Hid ((xs.take k).any p = false) ∧ Hid (Below w.heap.size w wr)) (fun i _ => n - (intOf i).toNat)
  case atStart => exact ⟨0, Nat.zero_le _, rfl, Lib.hid (by simp), HB0⟩
  case round =>
    clear HB0
    obtain ⟨k, hk, rfl, HA, HB⟩ := hrel
    by_cases hkn : k < n
    · have hks : k < xs.length := by rw [← HN.out]; exact hkn
      have hrw := HR.out
      obtain ⟨b, off, rfl, hb, d0, d1⟩ := row_hd hrw hks
      have e0 := (HB.out.cell (p := ⟨b, off + k * 2, none⟩) hb).trans d0
      have e1 := (HB.out.cell (p := ⟨b, off + k * 2 + 1, none⟩) hb).trans d1
      have HI := Lib.hid (idxG_at hks HA.out)
      have HS : Hid (p xs[k] = false → (xs.take (k + 1)).any p = false) := Lib.hid (fun h => by
        rw [List.take_succ_eq_append_getElem hks, List.any_append, HA.out]; simp [h])
      have HPu := Lib.hid (HP.out wr HB.out xs[k] (List.getElem_mem hks))
      clear hrw d0 d1
      generalize xs[k] = u at e0 e1 HI HS HPu
      cases hs : p u with
      | true =>
        rw [hs] at HPu HI
        clear hs
        go_wp2_with (go_at_fn fg; refine HPu.out.mono ?_; rintro e w' ⟨rfl, l1⟩; have HB1 := Lib.hid (HB.out.trans (l1.mono HB.out.size)); clear l1)
        go_ret
        exact ⟨ret_int (HI.out (by first | exact trivial | rfl)).symm, HB1.out⟩
      | false =>
        rw [hs] at HPu HS
        clear hs
        go_wp2_with (go_at_fn fg; refine HPu.out.mono ?_; rintro e w' ⟨rfl, l1⟩; have HB1 := Lib.hid (HB.out.trans (l1.mono HB.out.size)); clear l1)
        go_roundw
        case rel => exact ⟨k + 1, by omega, by go_num, Lib.hid (HS.out (by first | exact trivial | rfl)), HB1⟩
        case measure => (simp [intOf]; omega)
    · obtain rfl : k = n := by omega
      go_wp2_with fail
      go_ret
      refine ⟨ret_int (idxG_no ?_).symm, HB.out⟩
      rw [← HA.out, HN.out, List.take_of_length_le (Nat.le_refl _)]
theorem containsHd_any (p : Hd → Bool) (v : Value) (xs : List Hd) (fg : Nat) (cb : Array Value) (w : World) (hrow : Row w v xs.length (hdF xs))
    (eg : ∀ args w, (callFunc fg args).run Try.prog w = .ok (.enter fg args) w)
    (hp : ∀ W : World, Below w.heap.size w W → ∀ x ∈ xs, Calls Try.prog fg (#[.agg #[.int .i64 x.n, .int .i64 x.u]] ++ cb) W fun e w' => e = .returned (.bool (p x)) ∧ Below W.heap.size W w') :
    Calls Try.prog 104 #[v, .func (.func fg) #[] cb] w fun e w' => e = .returned (.bool (xs.any p)) ∧ Below w.heap.size w w' := by
  have HI := Lib.hid (indexHd_any p v xs fg cb w hrow eg hp)
  obtain ⟨a, cap, rfl, _, _, _⟩ := hd_open hrow
  have HB := Lib.hid (idxG_nonneg p xs)
  clear hrow hp eg
  generalize idxG p xs = r at HI HB
  go_enter Try.func104, Try.ntmps104
  go_wp2_with (go_at_call 107; refine HI.out.mono ?_; rintro e w' ⟨rfl, l1⟩; have HL := Lib.hid l1; clear l1)
  go_ret
  exact ⟨ret_bool HB.out, HL.out⟩
set_option maxRecDepth 100000 in
set_option maxHeartbeats 8000000 in
theorem deleteHd_any (p : Hd → Bool) (v : Value) (xs : List Hd) (fg : Nat) (cb : Array Value) (base : Nat) (w : World) (hown : w.ownsRow base 82 2 v xs.length (hdF xs)) (hl : xs.length ≤ 1000)
    (eg : ∀ args w, (callFunc fg args).run Try.prog w = .ok (.enter fg args) w)
    (hp : ∀ W : World, w.grownBy W v.ownBlock → ∀ x ∈ xs, Calls Try.prog fg (#[.agg #[.int .i64 x.n, .int .i64 x.u]] ++ cb) W fun e w' => e = .returned (.bool (p x)) ∧ Below W.heap.size W w') :
    Calls Try.prog 60 #[v, .func (.func fg) #[] cb] w fun e w' => ∃ v', e = .returned v' ∧ w'.ownsRow base 82 2 v' (xs.filter (fun x => !p x)).length (hdF (xs.filter (fun x => !p x))) ∧
      w.grownBy w' v.ownBlock ∧ (∀ k, v'.ownBlock = some k → v.ownBlock = some k) := by
  have HI := Lib.hid (indexHd_any p v xs fg cb w (rowz_own hown) eg (fun W hW => hp W (gr_below hW)))
  have HP := Lib.hid hp
  obtain ⟨a, cap, rfl, hc1, hm1⟩ := ownz_slice hown
  unfold maxLen at hm1
  have HO := Lib.hid hown
  clear hp
  cases ha : xs.any p with
  | false =>
    have hi := idxG_no ha
    rw [hi] at HI
    have HF := Lib.hid (filter_none ha)
    clear ha hi hown
    go_enter Try.func60, Try.ntmps60
    go_wp2_with (go_at_call 107; refine HI.out.mono ?_; rintro e w' ⟨rfl, l1⟩; have HL := Lib.hid l1; clear l1)
    go_ret
    refine ⟨_, rfl, ?_, gr_below HL.out, fun k hk => hk⟩
    rw [HF.out]
    exact ownz_below HO.out HL.out (Nat.le_refl _)
  | true =>
    obtain ⟨i0, hi0, hx, hpx, hfx⟩ := idxG_some ha
    rw [hx] at HI
    obtain ⟨g, cap2, e1⟩ := ownz_form hown (by omega)
    injection e1 with e1 _ e3
    subst e1; subst e3
    have hD0 : DelI p xs xs i0 (i0 + 1) := ⟨rfl, Nat.lt_succ_self _, hi0, by rw [List.take_succ_eq_append_getElem hi0, List.filter_append, ← hfx]; simp [hpx], rfl⟩
    have HD0 := Lib.hid hD0
    have i1 : ((i0 : Int) == -1) = false := by rw [beq_eq_false_iff_ne]; omega
    clear ha hx hpx hfx hD0 hown
    go_enter Try.func60, Try.ntmps60
    go_wp2_with fail
    refine HI.out.mono ?_
    rintro e w1 ⟨rfl, l1⟩
    have HO1 := Lib.hid (ownz_below HO.out l1 (Nat.le_refl _))
    have HG1 : Hid (w.grownBy w1 (some g)) := Lib.hid (gr_below l1)
    clear l1 HO HI
    go_wp2_with fail
    go_loopw [5, 6] (fun vi vj wr => ∃ (i j : Nat) (ys : List Hd), vi = .int .i64 i ∧ vj = .int .i64 j ∧ Hid (DelI p xs ys i j) ∧ Hid (wr.ownsRow base 82 2 (.slice (some ⟨g, 0, none⟩) xs.length cap) xs.length (hdF ys)) ∧ Hid (w.grownBy wr (some g))) (fun _ vj _ => xs.length - (intOf vj).toNat)
    case atStart => exact ⟨i0, i0 + 1, xs, rfl, by go_num, HD0, HO1, HG1⟩
    case round =>
      clear HD0 HO1 HG1 i1
      obtain ⟨i, j, ys, rfl, rfl, HD, HOr, HG⟩ := hrel
      have hij := HD.out.lt
      have hjl := HD.out.le
      by_cases hjn : j < xs.length
      · have hjn2 : (j : Int) < (xs.length : Int) := by omega
        obtain ⟨d0, d1, f0, f1, hgl⟩ := ownHd_facts HOr.out (HD.out.at hjn)
        have HPx := Lib.hid (fun (W : World) (hW : w.grownBy W (some g)) => HP.out W hW xs[j] (List.getElem_mem hjn))
        have HK : Hid (p xs[j] = false → DelI p xs (ys.set i xs[j]) (i + 1) (j + 1)) := Lib.hid (fun h => HD.out.keep hjn h)
        have HDr : Hid (p xs[j] = true → DelI p xs ys i (j + 1)) := Lib.hid (fun h => HD.out.drop hjn h)
        have hyl := HD.out.len
        have HYl := Lib.hid hyl
        clear hyl
        generalize xs[j] = x at d0 d1 HPx HK HDr
        obtain ⟨xn, xu⟩ := x
        dsimp only at d0 d1 HPx
        obtain ⟨W2, hW2⟩ : ∃ W2, W2 = wr.alloc (.cells #[.int .i64 xn, .int .i64 xu] 82) := ⟨_, rfl⟩
        have lA : Below wr.heap.size wr W2 := by rw [hW2]; exact (Below.refl _ _).alloc (Nat.le_refl _) _
        have hX : Bx W2 wr.heap.size #[.int .i64 xn, .int .i64 xu] 82 := by rw [hW2]; exact Bx.new _ _ _
        go_upto_region 8 with fail
        rw [← hW2]
        obtain ⟨R, hR⟩ : ∃ R, R = wr.heap.size := ⟨_, rfl⟩
        rw [← hR] at hX ⊢
        have HRg : Hid (g < R) := Lib.hid (by rw [hR]; exact hgl)
        have HX := Lib.hid hX
        have HO2 := Lib.hid (ownz_below HOr.out lA (Nat.le_refl _))
        have HG2 : Hid (w.grownBy W2 (some g)) := Lib.hid (grown_trans HG.out (gr_below lA))
        have c0 := hX.at 0 (v := .int .i64 xn) rfl
        have c1 := hX.at 1 (v := .int .i64 xu) rfl
        have HPy := Lib.hid (HPx.out W2 HG2.out)
        clear hW2 lA hX hR d0 d1 f0 f1 hgl HOr HG HPx
        cases hs : p ⟨xn, xu⟩ with
        | true =>
          have HD2 := Lib.hid (HDr.out hs)
          rw [hs] at HPy
          clear hs HK HDr HD
          go_wp2_with (go_at_fn fg; refine HPy.out.mono ?_; rintro e w3 ⟨rfl, l3⟩; have HO3 := Lib.hid (ownz_below HO2.out l3 (Nat.le_refl _)); have HG3 : Hid (w.grownBy w3 (some g)) := Lib.hid (grown_trans HG2.out (gr_below l3)); clear l3)
          go_roundw
          case rel => exact ⟨i, j + 1, ys, rfl, by go_num, HD2, HO3, HG3⟩
          case measure => (simp [intOf]; omega)
        | false =>
          have HD2 := Lib.hid (HK.out hs)
          rw [hs] at HPy
          clear hs HK HDr HD
          go_wp2_with fail
          refine HPy.out.mono ?_
          rintro e w3 ⟨rfl, l3⟩
          have HO3 := Lib.hid (ownz_below HO2.out l3 (Nat.le_refl _))
          have HG3 : Hid (w.grownBy w3 (some g)) := Lib.hid (grown_trans HG2.out (gr_below l3))
          have hX3 := HX.out.below l3 HX.out.lt
          have x0 := hX3.at 0 (v := .int .i64 xn) rfl
          have x1 := hX3.at 1 (v := .int .i64 xu) rfl
          have hil : i < ys.length := by rw [HYl.out]; omega
          have hil2 : (i : Int) < (xs.length : Int) := by omega
          obtain ⟨y, hy⟩ : ∃ y, ys[i]? = some y := ⟨_, List.getElem?_eq_getElem hil⟩
          obtain ⟨k0, k1, f0, f1, hgl⟩ := ownHd_facts HO3.out hy
          have HSt := Lib.hid (ownHd_set HO3.out ⟨xn, xu⟩ hil)
          have hgR : R ≠ g := by have := HRg.out; omega
          have hgR2 : g ≠ R := by have := HRg.out; omega
          clear l3 hX3 hy c0 c1 hil
          go_wp2_with fail
          go_roundw
          case rel => exact ⟨i + 1, j + 1, ys.set i ⟨xn, xu⟩, by go_num, by go_num, HD2, Lib.hid HSt.out.1, Lib.hid (grown_trans HG3.out HSt.out.2)⟩
          case measure => (simp [intOf]; omega)
      · obtain rfl : j = xs.length := by omega
        obtain ⟨hE1, hE2⟩ := HD.out.end
        have hyl := HD.out.len
        have hle : i ≤ xs.length := by omega
        have hs2 : xs.length - i ≤ xs.length := by omega
        have hcl : ∀ ty, (Builtin.clear_ #[27] ty #[.slice (some ⟨g, 0 + i * 2, none⟩) (xs.length - i) (cap - i)]).run Try.prog wr = .ok (.tuple #[]) (wr.setCells g (0 + i * 2) (List.replicate ((xs.length - i) * 2) (.int .i64 0))) := fun ty => run_clear_hd wr ty g (0 + i * 2) (xs.length - i) (cap - i) (by omega)
          (fun q hq => by obtain ⟨h1, _⟩ := ownz_facts HOr.out (j := 0 + i * 2 + q) (by rw [hdF_len, hyl]; omega); rw [h1]; rfl)
          (fun q hq => by obtain ⟨_, h1, _⟩ := ownz_facts HOr.out (j := 0 + i * 2 + q) (by rw [hdF_len, hyl]; omega); exact h1)
        have hfin : ∃ zs, (wr.setCells g (0 + i * 2) (List.replicate ((xs.length - i) * 2) (.int .i64 0))).ownsRow base 82 2 (.slice (some ⟨g, 0, none⟩) i cap) i zs ∧ zs = hdF (xs.filter (fun x => !p x)) ∧ wr.grownBy (wr.setCells g (0 + i * 2) (List.replicate ((xs.length - i) * 2) (.int .i64 0))) (some g) := by
          obtain ⟨us, u1, u2, u3⟩ := ownz_setCells (List.replicate ((xs.length - i) * 2) (.int .i64 0)) (0 + i * 2) wr (hdF ys) HOr.out (by rw [List.length_replicate, hdF_len, hyl]; omega)
          refine ⟨_, ownz_cut u1 hle, ?_, u3⟩
          rw [Nat.zero_add] at u2
          rw [u2, hdF_take, hE1]
        generalize wr.setCells g (0 + i * 2) (List.replicate ((xs.length - i) * 2) (.int .i64 0)) = W9 at hcl hfin
        have HF := Lib.hid hfin
        have HE2 := Lib.hid hE2
        have i2 : (i : Int) ≤ (xs.length : Int) := by omega
        have i3 : (xs.length : Int) ≤ (cap : Int) := by omega
        have i4 : (i : Int) ≤ (cap : Int) := by omega
        have i5 : i < cap := by omega
        rw [Nat.zero_add] at hcl
        clear hfin hE1 hE2 hyl HOr HD
        go_wp2_with fail
        go_ret
        obtain ⟨zs, z1, z2, z3⟩ := HF.out
        refine ⟨.slice (some ⟨g, 0, none⟩) i cap, rfl, ?_, grown_trans HG.out z3, fun k hk => hk⟩
        rw [← z2, HE2.out]
        exact z1
set_option maxRecDepth 100000 in
set_option maxHeartbeats 1000000 in
theorem cloneHd0_any (v : Value) (zs : List Hd) (w : World) (hrow : Row w v zs.length (hdF zs)) (hfit : Fit v zs.length) (hn : zs.length ≤ 1000) :
    Calls Try.prog 91 #[v] w fun e w' => ∃ v', e = .returned v' ∧ w'.ownsRow w.heap.size 82 2 v' zs.length (hdF zs) ∧ Below w.heap.size w w' := by
  obtain ⟨i0, hi, hz0, hz1, hz2⟩ := info_parts infoHd
  rcases hfit with ⟨rfl, h0⟩ | ⟨ad, c, rfl⟩
  · obtain rfl : zs = [] := List.eq_nil_of_length_eq_zero h0
    have hnil : ∀ W : World, (binOp .eql 27 (.slice none 0 0) (.slice none 0 0)).run Try.prog W = .ok (.bool true) W := fun W => Go.Lib.run_eql_slice_nil (P := Try.prog) W 27 82 none 0 0 0 0 Try.underlying27
    go_enter Try.func91, Try.ntmps91
    go_wp2_with fail
    go_ret
    exact ⟨_, rfl, ⟨rfl, .inl ⟨rfl, rfl⟩⟩, Below.refl _ _⟩
  · have hr0 := hrow
    obtain ⟨a1, c1, e1, hd1, hm1, _⟩ := hr0
    injection e1 with e1 _ e2
    subst e1; subst e2
    have hnil : ∀ W : World, (binOp .eql 27 (.slice (some ad) zs.length c) (.slice none 0 0)).run Try.prog W = .ok (.bool false) W := fun W => Go.Lib.run_eql_slice_nil (P := Try.prog) W 27 82 (some ad) zs.length c 0 0 Try.underlying27
    have HR := Lib.hid (hrow.below ((Below.refl w.heap.size w).alloc (Nat.le_refl _) (.cells #[] 82)) (Nat.le_refl _))
    have HO := Lib.hid (litz w w.heap.size 82 2 (Nat.le_refl _))
    have HL := Lib.hid (hdF_len zs)
    clear hrow
    go_enter Try.func91, Try.ntmps91
    go_wp2_with (at_builtin; refine wpList_append_fit _ rfl _ _ 27 rfl w.heap.size 82 i0 (.agg #[.int .i64 0, .int .i64 0]) 2 16 Try.underlying27 hi hz0 hz1 hz2 rfl (by decide) _ 0 [] rfl HO.out _ zs.length (hdF zs) rfl (fit_some _ _ _) HL.out HR.out (hdF_one zs) (by unfold maxLen; omega) (by omega) (by simp) ?_; intro v1 w1 hown1 hgrow1; have hb1 : Below w.heap.size w w1 := ((Below.refl w.heap.size w).alloc (Nat.le_refl _) _).grown hgrow1 (by simp) (fun k hk => by have e : w.heap.size = k := Option.some.inj hk; omega); have HO1 := Lib.hid hown1; have HB1 := Lib.hid hb1; clear hown1 hgrow1 hb1)
    go_ret
    have h := HO1.out
    rw [Nat.zero_add, List.nil_append] at h
    exact ⟨_, rfl, h, HB1.out⟩
end Go.Proofs.Ytlendmiolhgecaa
