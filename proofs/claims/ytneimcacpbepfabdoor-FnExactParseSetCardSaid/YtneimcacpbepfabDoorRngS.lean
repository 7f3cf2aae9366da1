/-
  The laws' helpers at slices of ranges: sizes, copies, comparisons, marks.
-/
import Derived.Test.YtneimcacpbepfabDoorRng3
import Derived.Laws.ResultCell
import Derived.WalkLawsBesides
namespace Go.Proofs.YtneimcacpbepfabDoor
open Go.RowKit Go.Lib Go.Joins
set_option linter.unusedVariables false

theorem results_rg1 {fn : Func} {p : Tmp} (h : fn.results = #[.cell p 34]) (tmps : Array Value) (w : World) (g : Nat) {x y : Int} (hp : tmps.getD p undef = .pointer (some ⟨g, 0, none⟩)) (hg : Rb w g x y) :
    (results fn tmps).run Tryd.prog w = .ok (.agg #[.int .i64 x, .int .i64 y]) w := by
  have hp' : tmps[p]?.getD undef = .pointer (some ⟨g, 0, none⟩) := by simpa using hp
  unfold results
  rw [h]
  simp [asAddr, hp', run_loadVar_row w g 34 34 _ _ _ hg Tryd.underlying34 (by rfl) (by kernel_rfl)]
set_option maxHeartbeats 400000 in
theorem eqRange_same (x y : Int) (w : World) :
    Calls Tryd.prog 15 #[.agg #[.int .i64 x, .int .i64 y], .agg #[.int .i64 x, .int .i64 y]] w fun e w' => e = .returned (.bool true) ∧ Below w.heap.size w w' := by
  go_enter Tryd.func15, Tryd.ntmps15
  go_wp2_with fail
  go_ret
  exact ⟨rfl, ((Below.refl _ _).alloc (Nat.le_refl _) _).alloc (by simp) _⟩
theorem keep4r {W w' : World} {a1 a2 a3 a4 : Addr} {v1 v2 v3 v4 : Value} {B : Nat} (h1 : W.cell? a1 = some v1) (h2 : W.cell? a2 = some v2) (h3 : W.cell? a3 = some v3) (h4 : W.cell? a4 = some v4)
    (b1 : a1.block < B) (b2 : a2.block < B) (b3 : a3.block < B) (b4 : a4.block < B) (hb : Below B W w') :
    w'.cell? a1 = some v1 ∧ w'.cell? a2 = some v2 ∧ w'.cell? a3 = some v3 ∧ w'.cell? a4 = some v4 ∧ Below B W w' :=
  ⟨(hb.cell b1).trans h1, (hb.cell b2).trans h2, (hb.cell b3).trans h3, (hb.cell b4).trans h4, hb⟩
theorem below_callR {W0 W w5 : World} (h : Below W0.heap.size W0 W) (l5 : Below W.heap.size W w5) : Below W0.heap.size W0 w5 := h.trans (l5.mono h.size)
set_option maxHeartbeats 2000000 in
theorem eqRangeS_same (v1 v2 : Value) (s : List Rg) (w : World) (h1 : Row w v1 s.length (rgF s)) (h2 : Row w v2 s.length (rgF s)) :
    Calls Tryd.prog 6 #[v1, v2] w fun e w' => e = .returned (.bool true) ∧ Below w.heap.size w w' := by
  obtain ⟨a1, c1, rfl, hc1, hm1, hcell1⟩ := rg_open h1
  obtain ⟨a2, c2, rfl, hc2, hm2, hcell2⟩ := rg_open h2
  have HC1 := Lib.hid hcell1
  have HC2 := Lib.hid hcell2
  clear hcell1 hcell2 h1 h2
  unfold maxLen at hm1 hm2
  obtain ⟨n, hN⟩ : ∃ n, n = s.length := ⟨_, rfl⟩
  rw [← hN] at hc1 hc2 ⊢
  have HN := Lib.hid hN
  clear hN
  have HR0 := Lib.hid (Below.refl w.heap.size w)
  go_enter Tryd.func6, Tryd.ntmps6
  go_wp2_with fail
  go_loopw [5] (fun i wr => ∃ k : Nat, k ≤ n ∧ i = .int .i64 k ∧ Hid (Below w.heap.size w wr)) (fun i _ => n - (intOf i).toNat)
  case atStart => exact ⟨0, Nat.zero_le _, rfl, HR0⟩
  case round =>
    clear HR0
    obtain ⟨k, hk, rfl, HB⟩ := hrel
    by_cases hkn : k < n
    · have hks : k < s.length := by rw [← HN.out]; exact hkn
      obtain ⟨b1, o1, rfl, hb1, hf1, ht1⟩ := HC1.out k hks
      obtain ⟨b2, o2, rfl, hb2, hf2, ht2⟩ := HC2.out k hks
      have q1 := (HB.out.cell hb1).trans hf1
      have q2 := (HB.out.cell hb1).trans ht1
      have q3 := (HB.out.cell hb2).trans hf2
      have q4 := (HB.out.cell hb2).trans ht2
      have g1 : b1 < wr.heap.size := Nat.lt_of_lt_of_le hb1 HB.out.size
      have g2 : b2 < wr.heap.size := Nat.lt_of_lt_of_le hb2 HB.out.size
      clear hf1 ht1 hf2 ht2
      generalize s[k].1 = x at q1 q3
      generalize s[k].2 = y at q2 q4
      obtain ⟨W0, hW0⟩ : ∃ W0, W0 = wr := ⟨_, rfl⟩
      have HQ := Lib.hid (fun (w' : World) (hb : Below W0.heap.size W0 w') => keep4r (hW0 ▸ q1) (hW0 ▸ q2) (hW0 ▸ q3) (hW0 ▸ q4) (by rw [hW0]; exact g1) (by rw [hW0]; exact g1) (by rw [hW0]; exact g2) (by rw [hW0]; exact g2) hb)
      have HBW : Hid (Below w.heap.size w W0) := Lib.hid (by rw [hW0]; exact HB.out)
      rw [← hW0] at q1 q2 q3 q4 ⊢
      clear hW0 HB g1 g2
      go_wp2_with fail
      go_region_held3 (fun w' => w'.cell? ⟨b1, o1 + k * 2, none⟩ = some (.int .i64 x) ∧ w'.cell? ⟨b1, o1 + k * 2 + 1, none⟩ = some (.int .i64 y) ∧ w'.cell? ⟨b2, o2 + k * 2, none⟩ = some (.int .i64 x) ∧ w'.cell? ⟨b2, o2 + k * 2 + 1, none⟩ = some (.int .i64 y) ∧ Below W0.heap.size W0 w')
        ((refine HQ.out _ ?_; repeat (first | assumption | exact Below.refl _ _ | refine Below.drew ?_)))
        (first | (go_at_call 15; refine (eqRange_same _ _ _).mono ?_; rintro e w5 ⟨rfl, l5⟩; have hb5 := below_callR (W0 := W0) (by repeat (first | assumption | exact Below.refl _ _ | refine Below.drew ?_)) l5))
      all_goals go_wp2_with fail
      all_goals
        go_roundw
        case rel => exact ⟨k + 1, by omega, by go_num, Lib.hid (HBW.out.trans (Below.mono (by repeat (first | assumption | exact Below.refl _ _ | refine Below.drew ?_) : Below W0.heap.size W0 _) HBW.out.size))⟩
        case measure => (simp [intOf]; omega)
    · obtain rfl : k = n := by omega
      go_wp2_with fail
      go_ret
      exact ⟨rfl, HB.out⟩
/-- n marks from k on. -/
def marksR (k n : Nat) : List Value := (List.range n).map fun i => .int .i64 ((k + i : Nat) : Int)
theorem marksR_length (k n : Nat) : (marksR k n).length = n := by simp [marksR]
theorem marksR_succ (k j : Nat) : marksR k (j + 1) = marksR k j ++ [.int .i64 ((k + j : Nat) : Int)] := by simp [marksR, List.range_succ]
theorem marksR_at (k n i : Nat) (h : i < n) : (marksR k n)[i]? = some (.int .i64 ((k + i : Nat) : Int)) := by
  unfold marksR
  rw [List.getElem?_map, List.getElem?_range h]; rfl
theorem marksR_set (k j : Nat) (xs : List Value) (h : j < xs.length) : (marksR k j ++ xs.drop j).set j (.int .i64 ((k + j : Nat) : Int)) = marksR k (j + 1) ++ xs.drop (j + 1) := by
  rw [List.set_append_right _ _ (by rw [marksR_length]; omega), marksR_length, Nat.sub_self, List.drop_eq_getElem_cons h, List.set_cons_zero, marksR_succ]
  simp
theorem mkR_eq {x : Value} {k i n : Nat} (h : (marksR k n)[i]? = some x) (hi : i < n) : x = .int .i64 ((k + i : Nat) : Int) := by
  rw [marksR_at k n i hi] at h
  injection h with h
  exact h.symm
theorem marksR_set' (k j : Nat) (xs : List Value) (h : j < xs.length) {m : Int} (hm : m = ((k + j : Nat) : Int)) : (marksR k j ++ xs.drop j).set j (.int .i64 m) = marksR k (j + 1) ++ xs.drop (j + 1) := by
  subst hm
  exact marksR_set k j xs h
set_option maxHeartbeats 1000000 in
theorem markRangeS_any (g n cap k base : Nat) (xs : List Value) (w : World) (hown : w.ownsRow base 34 2 (.slice (some ⟨g, 0, none⟩) n cap) n xs) (hk : k + 2 * n ≤ 100000000) :
    Calls Tryd.prog 7 #[.slice (some ⟨g, 0, none⟩) n cap, .int .i64 k] w fun e w' => e = .returned (.int .i64 (k + 2 * n : Nat)) ∧
      w'.ownsRow base 34 2 (.slice (some ⟨g, 0, none⟩) n cap) n (marksR k (2 * n)) ∧ w.grownBy w' (some g) := by
  have hxl : xs.length = 2 * n := by have := hown.1; omega
  have HX := Lib.hid hxl
  clear hxl
  go_enter Tryd.func7, Tryd.ntmps7
  go_wp2_with fail
  go_loopw [1, 5] (fun z i wr => ∃ j : Nat, j ≤ n ∧ i = .int .i64 j ∧ z = .int .i64 (k + 2 * j : Nat) ∧ wr.ownsRow base 34 2 (.slice (some ⟨g, 0, none⟩) n cap) n (marksR k (j * 2) ++ xs.drop (j * 2)) ∧ w.grownBy wr (some g)) (fun _ i _ => n - (intOf i).toNat)
  case atStart => exact ⟨0, Nat.zero_le _, rfl, rfl, by simpa [marksR] using hown, ⟨rfl, rfl, rfl, Nat.le_refl _, fun _ _ _ => rfl⟩⟩
  case round =>
    obtain ⟨j, hj, rfl, rfl, ho, hg⟩ := hrel
    by_cases hjn : j < n
    · have hx0 : j * 2 < xs.length := by rw [HX.out]; omega
      have hx1 : j * 2 + 1 < xs.length := by rw [HX.out]; omega
      obtain ⟨c0, f0, _, _⟩ := ownz_facts ho (j := j * 2) (by rw [ho.1]; omega)
      obtain ⟨m, hm⟩ : ∃ m : Nat, m = k + 2 * j := ⟨_, rfl⟩
      have HM := Lib.hid hm
      rw [← hm]
      have hmb : m ≤ 100000000 := by omega
      have s1 := ownz_set ho (j := j * 2) (.int .i64 (m : Int))
      rw [marksR_set' k (j * 2) xs hx0 (by rw [hm]; omega)] at s1
      have s2 := ownz_set s1.1 (j := j * 2 + 1) (.int .i64 ((m : Int) + 1))
      rw [marksR_set' k (j * 2 + 1) xs hx1 (by rw [hm]; omega)] at s2
      obtain ⟨c1, f1, _, _⟩ := ownz_facts s1.1 (j := j * 2 + 1) (by rw [s1.1.1]; omega)
      have HS1 := Lib.hid s1.2
      have HS2 := Lib.hid s2
      have HG := Lib.hid hg
      generalize (marksR k (j * 2) ++ xs.drop (j * 2))[j * 2]'(by rw [ho.1]; omega) = u0 at c0
      generalize (marksR k (j * 2 + 1) ++ xs.drop (j * 2 + 1))[j * 2 + 1]'(by rw [s1.1.1]; omega) = u1 at c1
      clear hm s1 s2 ho hg
      go_wp2_with fail
      go_roundw
      case rel => exact ⟨j + 1, by omega, by go_num, vint (by have := HM.out; omega), by have h := HS2.out.1; rw [show j * 2 + 1 + 1 = (j + 1) * 2 by omega] at h; exact h, grown_trans (grown_trans HG.out HS1.out) HS2.out.2⟩
      case measure => (simp [intOf]; omega)
    · obtain rfl : j = n := by omega
      go_wp2_with fail
      go_ret
      exact ⟨rfl, by rw [List.drop_of_length_le (by rw [HX.out]; omega), List.append_nil, show j * 2 = 2 * j by omega] at ho; exact ho, hg⟩
set_option maxHeartbeats 400000 in
theorem markR_own (v : Value) (n k base : Nat) (xs : List Value) (w : World) (hown : w.ownsRow base 34 2 v n xs) (hk : k + 2 * n ≤ 100000000) :
    Calls Tryd.prog 7 #[v, .int .i64 k] w fun e w' => e = .returned (.int .i64 (k + 2 * n : Nat)) ∧
      w'.ownsRow base 34 2 v n (marksR k (2 * n)) ∧ w.grownBy w' v.ownBlock := by
  have h0' := hown
  obtain ⟨hl, ⟨rfl, rfl⟩ | ⟨g, cap, cur, rfl, hb, hg, hn, hm, hs, ht⟩⟩ := hown
  · clear h0' hl
    go_enter Tryd.func7, Tryd.ntmps7
    go_wp2_with fail
    refine wp_loop_rounds 1 ?_
    rw [rounds_succ]
    go_wp2_with fail
    go_ret
    exact ⟨rfl, by simpa [marksR] using World.ownsRow_nil w base _ 2, ⟨rfl, rfl, rfl, Nat.le_refl _, fun _ _ _ => rfl⟩⟩
  · exact markRangeS_any g n cap k base xs w h0' hk
set_option maxHeartbeats 1000000 in
theorem heldRangeS_any (g n cap k base : Nat) (w : World) (hown : w.ownsRow base 34 2 (.slice (some ⟨g, 0, none⟩) n cap) n (marksR k (2 * n))) (hk : k + 2 * n ≤ 100000000) :
    Calls Tryd.prog 8 #[.slice (some ⟨g, 0, none⟩) n cap, .int .i64 k] w fun e w' => e = .returned (.int .i64 (k + 2 * n : Nat)) ∧ w = w' := by
  go_enter Tryd.func8, Tryd.ntmps8
  go_wp2_with fail
  go_loop [1, 5] (fun z i => ∃ j : Nat, j ≤ n ∧ i = .int .i64 j ∧ z = .int .i64 (k + 2 * j : Nat)) (fun _ i => n - (intOf i).toNat)
  case atStart => exact ⟨0, Nat.zero_le _, rfl, rfl⟩
  case round =>
    obtain ⟨j, hj, rfl, rfl⟩ := hrel
    by_cases hjn : j < n
    · obtain ⟨c0, _, _, _⟩ := ownz_facts hown (j := j * 2) (by rw [marksR_length]; omega)
      obtain ⟨c1, _, _, _⟩ := ownz_facts hown (j := j * 2 + 1) (by rw [marksR_length]; omega)
      obtain ⟨m, hm⟩ : ∃ m : Nat, m = k + 2 * j := ⟨_, rfl⟩
      have HM := Lib.hid hm
      have e0 : (marksR k (2 * n))[j * 2]'(by rw [marksR_length]; omega) = .int .i64 (m : Int) := mkR_eq (n := 2 * n) (List.getElem?_eq_getElem _) (by omega) |>.trans (by rw [hm, show k + j * 2 = k + 2 * j by omega])
      have e1 : (marksR k (2 * n))[j * 2 + 1]'(by rw [marksR_length]; omega) = .int .i64 ((m : Int) + 1) := mkR_eq (n := 2 * n) (List.getElem?_eq_getElem _) (by omega) |>.trans (vint (by rw [hm]; omega))
      rw [e0] at c0
      rw [e1] at c1
      clear e0 e1
      rw [← hm]
      have hmb : m ≤ 100000000 := by omega
      clear hm
      go_wp2_with fail
      go_round
      case rel => exact ⟨j + 1, by omega, by go_num, vint (by have := HM.out; omega)⟩
      case measure => (simp [intOf]; omega)
    · obtain rfl : j = n := by omega
      go_wp2_with fail
      go_ret
      exact ⟨rfl, rfl⟩
set_option maxHeartbeats 400000 in
theorem heldR_own (v : Value) (n k base : Nat) (w : World) (hown : w.ownsRow base 34 2 v n (marksR k (2 * n))) (hk : k + 2 * n ≤ 100000000) :
    Calls Tryd.prog 8 #[v, .int .i64 k] w fun e w' => e = .returned (.int .i64 (k + 2 * n : Nat)) ∧ w = w' := by
  have h0' := hown
  obtain ⟨hl, ⟨rfl, rfl⟩ | ⟨g, cap, cur, rfl, hb, hg, hn, hm, hs, ht⟩⟩ := hown
  · clear h0' hl
    go_enter Tryd.func8, Tryd.ntmps8
    go_wp2_with fail
    refine wp_loop_rounds 1 ?_
    rw [rounds_succ]
    go_wp2_with fail
    go_ret
    exact ⟨rfl, rfl⟩
  · exact heldRangeS_any g n cap k base w h0' hk
end Go.Proofs.YtneimcacpbepfabDoor
