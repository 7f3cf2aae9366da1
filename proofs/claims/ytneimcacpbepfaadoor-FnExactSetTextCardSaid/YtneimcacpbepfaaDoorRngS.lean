/-
  The laws' helpers at slices of ranges: sizes, copies, comparisons, marks.
-/
import Derived.Test.YtneimcacpbepfaaDoorRng3
import Derived.Laws.ResultCell
import Derived.WalkLawsBesides
namespace Go.Proofs.YtneimcacpbepfaaDoor
open Go.RowKit Go.Lib Go.Joins
set_option linter.unusedVariables false

set_option maxHeartbeats 400000 in
theorem szR_yes (a : Option Addr) (n cap : Nat) (l : Int) (w : World) (h : (n : Int) ≤ l) (hl : l ≤ 1048576) :
    Calls Tryd.prog 4 #[.slice a n cap, .int .i64 l] w fun e w' => e = .returned (.int .i64 (l - n)) ∧ w = w' := by
  have w1 : IntKind.i64.wrap (l - (n : Int)) = l - n := IntWalk.i64_in _ (by omega)
  have h2 : ¬ (l - (n : Int) < 0) := by omega
  go_enter Tryd.func4, Tryd.ntmps4
  go_wp2_with fail
  go_ret
  exact ⟨rfl, rfl⟩
set_option maxHeartbeats 400000 in
theorem szR_no (a : Option Addr) (n cap : Nat) (l : Int) (w : World) (h : l < (n : Int)) (h0 : 0 ≤ l) (hn : n ≤ 9223372036854775807) :
    Calls Tryd.prog 4 #[.slice a n cap, .int .i64 l] w fun e w' => e = .returned (.int .i64 (-1)) ∧ w = w' := by
  have w1 : IntKind.i64.wrap (l - (n : Int)) = l - n := IntWalk.i64_in _ (by omega)
  have h2 : l - (n : Int) < 0 := by omega
  go_enter Tryd.func4, Tryd.ntmps4
  go_wp2_with fail
  go_ret
  exact ⟨rfl, rfl⟩
theorem results_rg1 {fn : Func} {p : Tmp} (h : fn.results = #[.cell p 33]) (tmps : Array Value) (w : World) (g : Nat) {x y : Int} (hp : tmps.getD p undef = .pointer (some ⟨g, 0, none⟩)) (hg : Rb w g x y) :
    (results fn tmps).run Tryd.prog w = .ok (.agg #[.int .i64 x, .int .i64 y]) w := by
  have hp' : tmps[p]?.getD undef = .pointer (some ⟨g, 0, none⟩) := by simpa using hp
  unfold results
  rw [h]
  simp [asAddr, hp', run_loadVar_row w g 33 33 _ _ _ hg Tryd.underlying33 (by rfl) (by kernel_rfl)]
set_option maxHeartbeats 400000 in
theorem toRange_any (x y : Int) (w : World) :
    Calls Tryd.prog 11 #[.agg #[.int .i64 x, .int .i64 y]] w fun e w' => e = .returned (.agg #[.int .i64 x, .int .i64 y]) ∧ Below w.heap.size w w' := by
  go_enter Tryd.func11, Tryd.ntmps11
  go_wp2_with fail
  refine bodyPost_ret (results_rg1 rfl _ _ (w.heap.size + 1) rfl ((heap_alloc_old _ _ (by simp)).trans (heap_second w _ _))) rfl ⟨rfl, ?_⟩
  exact (((Below.refl _ _).alloc (Nat.le_refl _) _).alloc (by simp) _).alloc (by simp; omega) _
theorem made_zero {z0 : Value} (n : Nat) (xs : List Value) (h : 2 * n = xs.length) : madeCells #[z0, z0] (n * 2) = fillV xs z0 0 := by
  rw [fillV_zero]
  apply Array.ext_getElem?
  intro i
  unfold madeCells
  simp only [Array.getElem?_map, Array.getElem?_replicate]
  by_cases hi : i < xs.length
  · rw [if_pos hi, Array.getElem?_range, if_pos (by omega)]
    have : i % 2 = 0 ∨ i % 2 = 1 := by omega
    rcases this with h | h <;> simp [h]
  · rw [if_neg hi, Array.getElem?_range, if_neg (by omega)]
    rfl
theorem make_rgs (n : Nat) (ss : List Rg) (h : n = ss.length) (hn : n ≤ 1048576) (W : World) :
    (Instr.makeSlice 26 (.int .i64 (n : Int)) (.int .i64 (n : Int))).run Tryd.prog W = .ok (.slice (some ⟨W.heap.size, 0, none⟩) n n) (W.alloc (.cells (fillV (rgF ss) (.int .i64 0) 0) 33)) := by
  obtain ⟨i0, hi, hz0, hz1, hz2⟩ := info_parts infoRg
  rw [run_make (P := Tryd.prog) W 26 33 i0 (.agg #[.int .i64 0, .int .i64 0]) Tryd.underlying26 hi hz0 .i64 .i64 n n (by omega) (by omega) (by rw [hz2]; omega) (by omega), hz1, Int.toNat_natCast,
    show (Value.agg #[.int .i64 0, .int .i64 0]).cells = #[.int .i64 0, .int .i64 0] from rfl, made_zero n (rgF ss) (by rw [rgF_len]; omega)]
theorem rgF_at {s : List Rg} {k : Nat} (hk : k < s.length) : (rgF s)[k * 2]? = some (.int .i64 s[k].1) ∧ (rgF s)[k * 2 + 1]? = some (.int .i64 s[k].2) :=
  ⟨flat_get rgC_len s k 0 hk (by omega), flat_get rgC_len s k 1 hk (by omega)⟩
theorem fillV_set2 {xs : List Value} {z u v : Value} {k : Nat} (h0 : xs[k * 2]? = some u) (h1 : xs[k * 2 + 1]? = some v) : ((fillV xs z (k * 2)).setIfInBounds (k * 2) u).setIfInBounds (k * 2 + 1) v = fillV xs z ((k + 1) * 2) := by
  obtain ⟨a0, b0⟩ := List.getElem?_eq_some_iff.1 h0
  obtain ⟨a1, b1⟩ := List.getElem?_eq_some_iff.1 h1
  rw [← b0, fillV_set xs z (k * 2) a0, ← b1, fillV_set xs z (k * 2 + 1) a1, show (k + 1) * 2 = k * 2 + 1 + 1 by omega]
/-- A block of ranges that is filled. -/
def Fb (w : World) (g : Nat) (s : List Rg) (k : Nat) : Prop := w.heap[g]? = some (.cells (fillV (rgF s) (.int .i64 0) (k * 2)) 33 (0, 0))
theorem Fb.free {w : World} {g k : Nat} {s : List Rg} (h : Fb w g s k) {i : Nat} (hi : i < s.length * 2) (hk : k ≤ s.length) : w.frozen? ⟨g, i, none⟩ = false ∧ ∃ u, w.cell? ⟨g, i, none⟩ = some u := by
  unfold Fb at h
  have hsz : (fillV (rgF s) (.int .i64 0) (k * 2)).size = s.length * 2 := by rw [fillV_size _ _ _ (by rw [rgF_len]; omega), rgF_len]
  refine ⟨by simp [World.frozen?, h], (fillV (rgF s) (.int .i64 0) (k * 2))[i]'(by omega), ?_⟩
  rw [cell_of_block h]
  exact Array.getElem?_eq_getElem (by omega)
theorem Fb.store {w : World} {g k : Nat} {s : List Rg} (h : Fb w g s k) (hk : k < s.length) :
    Fb ((w.setCell ⟨g, k * 2, none⟩ (.int .i64 s[k].1)).setCell ⟨g, k * 2 + 1, none⟩ (.int .i64 s[k].2)) g s (k + 1) ∧ w.grownBy ((w.setCell ⟨g, k * 2, none⟩ (.int .i64 s[k].1)).setCell ⟨g, k * 2 + 1, none⟩ (.int .i64 s[k].2)) (some g) := by
  obtain ⟨a0, b0⟩ := blk_set (i := k * 2) h (.int .i64 s[k].1)
  obtain ⟨a1, b1⟩ := blk_set (i := k * 2 + 1) a0 (.int .i64 s[k].2)
  refine ⟨?_, grown_trans b0 b1⟩
  unfold Fb
  rw [a1, fillV_set2 (rgF_at hk).1 (rgF_at hk).2]
set_option maxHeartbeats 1000000 in
theorem toRangeS_lit (v : Value) (s : List Rg) (w : World) (hrow : Row w v s.length (rgF s)) (hn : s.length ≤ 1048576) :
    Calls Tryd.prog 6 #[v] w fun e w' => ∃ g : Nat, e = .returned (.slice (some ⟨g, 0, none⟩) s.length s.length) ∧ w'.ownsRow w.heap.size 33 2 (.slice (some ⟨g, 0, none⟩) s.length s.length) s.length (rgF s) ∧ Below w.heap.size w w' := by
  obtain ⟨n, hN⟩ : ∃ n, n = s.length := ⟨_, rfl⟩
  have hmk := make_rgs n s hN (by omega)
  obtain ⟨a, cap, rfl, hc1, hm1, hcell⟩ := rg_open hrow
  have HC := Lib.hid hcell
  clear hcell hrow
  rw [← hN] at hn hc1 ⊢
  have HN := Lib.hid hN
  clear hN
  have HF0 : Hid (Fb (w.alloc (.cells (fillV (rgF s) (.int .i64 0) 0) 33)) w.heap.size s 0) := Lib.hid (by unfold Fb; rw [Nat.zero_mul]; exact heap_alloc_new w _)
  have HB0 := Lib.hid ((Below.refl w.heap.size w).alloc (Nat.le_refl _) (.cells (fillV (rgF s) (.int .i64 0) 0) 33))
  go_enter Tryd.func6, Tryd.ntmps6
  go_wp2_with fail
  clear hmk
  go_loopw [4] (fun i wr => ∃ k : Nat, k ≤ n ∧ i = .int .i64 k ∧ Hid (Fb wr w.heap.size s k) ∧ Hid (Below w.heap.size w wr)) (fun i _ => n - (intOf i).toNat)
  case atStart => exact ⟨0, Nat.zero_le _, rfl, HF0, HB0⟩
  case round =>
    clear HF0 HB0
    obtain ⟨k, hk, rfl, HF, HB⟩ := hrel
    by_cases hkn : k < n
    · have hks : k < s.length := by rw [← HN.out]; exact hkn
      obtain ⟨b, off, rfl, hb, hf, ht⟩ := HC.out k hks
      have hf1 := HB.out.cell hb |>.trans hf
      have ht1 := HB.out.cell hb |>.trans ht
      clear hf ht
      have HK := Lib.hid (fun (W : World) (h : Fb W w.heap.size s k) => h.store hks)
      have HK2 := Lib.hid (fun (W : World) (h : Fb W w.heap.size s k) => And.intro (h.free (i := k * 2) (by omega) (by omega)) (h.free (i := k * 2 + 1) (by omega) (by omega)))
      generalize s[k].1 = x at hf1 HK
      generalize s[k].2 = y at ht1 HK
      go_wp2_with fail
      refine (toRange_any x y _).mono ?_
      rintro e w1 ⟨rfl, l1⟩
      have hlt : w.heap.size < wr.heap.size := (Array.getElem?_eq_some_iff.1 HF.out).1
      have HF1 : Hid (Fb w1 w.heap.size s k) := Lib.hid ((l1.block _ hlt).trans HF.out)
      have HB1 := Lib.hid (HB.out.trans (l1.mono HB.out.size))
      obtain ⟨⟨f0, u0, c0⟩, f1, u1, c1⟩ := HK2.out w1 HF1.out
      clear l1 hf1 ht1
      go_wp2_with fail
      go_roundw
      case rel => exact ⟨k + 1, by omega, by go_num, Lib.hid (HK.out _ HF1.out).1, Lib.hid (HB1.out.grown (HK.out _ HF1.out).2 HB1.out.size (fun q hq => by have e2 : w.heap.size = q := Option.some.inj hq; omega))⟩
      case measure => (simp [intOf]; omega)
    · obtain rfl : k = n := by omega
      have HF2 : Hid (wr.heap[w.heap.size]? = some (.cells (rgF s).toArray 33 (0, 0))) := Lib.hid (by
        have h := HF.out
        unfold Fb at h
        rw [HN.out, show s.length * 2 = (rgF s).length from (rgF_len s).symm, fillV_all] at h
        exact h)
      go_wp2_with fail
      go_ret
      refine ⟨w.heap.size, rfl, ?_, HB.out⟩
      have hl : (rgF s).length = k * 2 := by rw [HN.out]; exact rgF_len s
      exact ⟨hl, .inr ⟨w.heap.size, k, (rgF s).toArray, rfl, Nat.le_refl _, HF2.out, Nat.le_refl _, by unfold maxLen; omega, by simp [hl], by rw [← hl]; simp⟩⟩
set_option maxHeartbeats 400000 in
theorem eqRange_same (x y : Int) (w : World) :
    Calls Tryd.prog 15 #[.agg #[.int .i64 x, .int .i64 y], .agg #[.int .i64 x, .int .i64 y]] w fun e w' => e = .returned (.bool true) ∧ Below w.heap.size w w' := by
  go_enter Tryd.func15, Tryd.ntmps15
  go_wp2_with fail
  go_ret
  exact ⟨rfl, ((Below.refl _ _).alloc (Nat.le_refl _) _).alloc (by simp) _⟩
theorem keep4r {W w' : World} {a1 a2 a3 a4 : Addr} {v1 v2 v3 v4 : Value} {B : Nat} (h1 : W.cell? a1 = some v1) (h2 : W.cell? a2 = some v2) (h3 : W.cell? a3 = some v3) (h4 : W.cell? a4 = some v4)
    (b1 : a1.block < B) (b2 : a2.block < B) (b3 : a3.block < B) (b4 : a4.block < B) (hb : Below B W w') :
    w'.cell? a1 = some v1 ∧ w'.cell? a2 = some v2 ∧ w'.cell? a3 = some v3 ∧ w'.cell? a4 = some v4 ∧ Below B W w' :=
  ⟨(hb.cell b1).trans h1, (hb.cell b2).trans h2, (hb.cell b3).trans h3, (hb.cell b4).trans h4, hb⟩
theorem below_callR {W0 W w5 : World} (h : Below W0.heap.size W0 W) (l5 : Below W.heap.size W w5) : Below W0.heap.size W0 w5 := h.trans (l5.mono h.size)
set_option maxHeartbeats 2000000 in
theorem eqRangeS_same (v1 v2 : Value) (s : List Rg) (w : World) (h1 : Row w v1 s.length (rgF s)) (h2 : Row w v2 s.length (rgF s)) :
    Calls Tryd.prog 8 #[v1, v2] w fun e w' => e = .returned (.bool true) ∧ Below w.heap.size w w' := by
  obtain ⟨a1, c1, rfl, hc1, hm1, hcell1⟩ := rg_open h1
  obtain ⟨a2, c2, rfl, hc2, hm2, hcell2⟩ := rg_open h2
  have HC1 := Lib.hid hcell1
  have HC2 := Lib.hid hcell2
  clear hcell1 hcell2 h1 h2
  unfold maxLen at hm1 hm2
  obtain ⟨n, hN⟩ : ∃ n, n = s.length := ⟨_, rfl⟩
  rw [← hN] at hc1 hc2 ⊢
  have HN := Lib.hid hN
  clear hN
  have HR0 := Lib.hid (Below.refl w.heap.size w)
  go_enter Tryd.func8, Tryd.ntmps8
  go_wp2_with fail
  go_loopw [5] (fun i wr => ∃ k : Nat, k ≤ n ∧ i = .int .i64 k ∧ Hid (Below w.heap.size w wr)) (fun i _ => n - (intOf i).toNat)
  case atStart => exact ⟨0, Nat.zero_le _, rfl, HR0⟩
  case round =>
    clear HR0
    obtain ⟨k, hk, rfl, HB⟩ := hrel
    by_cases hkn : k < n
    · have hks : k < s.length := by rw [← HN.out]; exact hkn
      obtain ⟨b1, o1, rfl, hb1, hf1, ht1⟩ := HC1.out k hks
      obtain ⟨b2, o2, rfl, hb2, hf2, ht2⟩ := HC2.out k hks
      have q1 := (HB.out.cell hb1).trans hf1
      have q2 := (HB.out.cell hb1).trans ht1
      have q3 := (HB.out.cell hb2).trans hf2
      have q4 := (HB.out.cell hb2).trans ht2
      have g1 : b1 < wr.heap.size := Nat.lt_of_lt_of_le hb1 HB.out.size
      have g2 : b2 < wr.heap.size := Nat.lt_of_lt_of_le hb2 HB.out.size
      clear hf1 ht1 hf2 ht2
      generalize s[k].1 = x at q1 q3
      generalize s[k].2 = y at q2 q4
      obtain ⟨W0, hW0⟩ : ∃ W0, W0 = wr := ⟨_, rfl⟩
      have HQ := Lib.hid (fun (w' : World) (hb : Below W0.heap.size W0 w') => keep4r (hW0 ▸ q1) (hW0 ▸ q2) (hW0 ▸ q3) (hW0 ▸ q4) (by rw [hW0]; exact g1) (by rw [hW0]; exact g1) (by rw [hW0]; exact g2) (by rw [hW0]; exact g2) hb)
      have HBW : Hid (Below w.heap.size w W0) := Lib.hid (by rw [hW0]; exact HB.out)
      rw [← hW0] at q1 q2 q3 q4 ⊢
      clear hW0 HB g1 g2
      go_wp2_with fail
      go_region_held3 (fun w' => w'.cell? ⟨b1, o1 + k * 2, none⟩ = some (.int .i64 x) ∧ w'.cell? ⟨b1, o1 + k * 2 + 1, none⟩ = some (.int .i64 y) ∧ w'.cell? ⟨b2, o2 + k * 2, none⟩ = some (.int .i64 x) ∧ w'.cell? ⟨b2, o2 + k * 2 + 1, none⟩ = some (.int .i64 y) ∧ Below W0.heap.size W0 w')
        ((refine HQ.out _ ?_; repeat (first | assumption | exact Below.refl _ _ | refine Below.drew ?_)))
        (first | (go_at_call 15; refine (eqRange_same _ _ _).mono ?_; rintro e w5 ⟨rfl, l5⟩; have hb5 := below_callR (W0 := W0) (by repeat (first | assumption | exact Below.refl _ _ | refine Below.drew ?_)) l5))
      all_goals go_wp2_with fail
      all_goals
        go_roundw
        case rel => exact ⟨k + 1, by omega, by go_num, Lib.hid (HBW.out.trans (Below.mono (by repeat (first | assumption | exact Below.refl _ _ | refine Below.drew ?_) : Below W0.heap.size W0 _) HBW.out.size))⟩
        case measure => (simp [intOf]; omega)
    · obtain rfl : k = n := by omega
      go_wp2_with fail
      go_ret
      exact ⟨rfl, HB.out⟩
/-- n marks from k on. -/
def marksR (k n : Nat) : List Value := (List.range n).map fun i => .int .i64 ((k + i : Nat) : Int)
theorem marksR_length (k n : Nat) : (marksR k n).length = n := by simp [marksR]
theorem marksR_succ (k j : Nat) : marksR k (j + 1) = marksR k j ++ [.int .i64 ((k + j : Nat) : Int)] := by simp [marksR, List.range_succ]
theorem marksR_at (k n i : Nat) (h : i < n) : (marksR k n)[i]? = some (.int .i64 ((k + i : Nat) : Int)) := by
  unfold marksR
  rw [List.getElem?_map, List.getElem?_range h]; rfl
theorem marksR_set (k j : Nat) (xs : List Value) (h : j < xs.length) : (marksR k j ++ xs.drop j).set j (.int .i64 ((k + j : Nat) : Int)) = marksR k (j + 1) ++ xs.drop (j + 1) := by
  rw [List.set_append_right _ _ (by rw [marksR_length]; omega), marksR_length, Nat.sub_self, List.drop_eq_getElem_cons h, List.set_cons_zero, marksR_succ]
  simp
theorem mkR_eq {x : Value} {k i n : Nat} (h : (marksR k n)[i]? = some x) (hi : i < n) : x = .int .i64 ((k + i : Nat) : Int) := by
  rw [marksR_at k n i hi] at h
  injection h with h
  exact h.symm
end Go.Proofs.YtneimcacpbepfaaDoor
