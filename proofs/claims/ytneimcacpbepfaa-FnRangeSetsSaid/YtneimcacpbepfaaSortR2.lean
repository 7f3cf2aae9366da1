/-
  slices.SortStableFunc at 20 ranges or fewer; ranges sorted by their first numbers.
-/
import Derived.Test.YtneimcacpbepfaaSortR
namespace Go.Proofs.Ytneimcacpbepfaa
open Go.RowKit Go.Lib Go.Joins
set_option linter.unusedVariables false

/-- cmp.Compare at ints. -/
def cmpZ (u v : Int) : Int := if u < v then -1 else if v < u then 1 else 0
theorem cmpZ_neg (u v : Int) : decide (cmpZ u v < 0) = decide (u < v) := by
  unfold cmpZ
  rw [Bool.eq_iff_iff]
  simp
  split
  · simp; omega
  · split <;> simp <;> omega
theorem nanZ_any (x : Int) (w : World) : Calls Try.prog 79 #[.int .i64 x] w fun e w' => e = .returned (.bool false) ∧ w = w' := by
  go_enter Try.func79, Try.ntmps79
  go_wp2
  go_ret
  exact ⟨rfl, rfl⟩
theorem compareZ_any (u v : Int) (w : World) : Calls Try.prog 77 #[.int .i64 u, .int .i64 v] w fun e w' => e = .returned (.int .i64 (cmpZ u v)) ∧ w = w' := by
  by_cases h1 : u < v
  · go_enter Try.func77, Try.ntmps77
    go_wp2_with (go_at_call 79; refine (nanZ_any _ _).mono ?_; rintro e w' ⟨rfl, rfl⟩)
    go_ret
    exact ⟨ret_int (by unfold cmpZ; rw [if_pos h1]), rfl⟩
  · by_cases h2 : v < u
    · go_enter Try.func77, Try.ntmps77
      go_wp2_with (go_at_call 79; refine (nanZ_any _ _).mono ?_; rintro e w' ⟨rfl, rfl⟩)
      go_ret
      exact ⟨ret_int (by unfold cmpZ; rw [if_neg (by omega), if_pos (by omega)]), rfl⟩
    · go_enter Try.func77, Try.ntmps77
      go_wp2_with (go_at_call 79; refine (nanZ_any _ _).mono ?_; rintro e w' ⟨rfl, rfl⟩)
      go_ret
      exact ⟨ret_int (by unfold cmpZ; rw [if_neg (by omega), if_neg (by omega)]), rfl⟩
theorem insSortR_none (v : Value) (a b : Nat) (h : b ≤ a) (ha : a ≤ 1000) (f : Value) (w : World) :
    Calls Try.prog 80 #[v, .int .i64 a, .int .i64 b, f] w fun e w' => e = .returned (.tuple #[]) ∧ w = w' := by
  have h' : ¬ ((a : Int) + 1 < (b : Int)) := by omega
  go_enter Try.func80, Try.ntmps80
  go_wp2_with fail
  refine wp_loop_rounds 1 ?_
  rw [rounds_succ]
  go_wp2_with fail
  go_end0
  exact ⟨rfl, rfl⟩

set_option maxHeartbeats 1000000 in
theorem stableR_any (lt : Rg → Rg → Bool) (cf : Rg → Rg → Int) (hlt : ∀ x y, lt x y = decide (cf x y < 0)) (g cap n base : Nat) (xs : List Rg) (fg : Nat) (cb : Array Value) (w : World)
    (eg : ∀ args w, (callFunc fg args).run Try.prog w = .ok (.enter fg args) w)
    (hcmp : ∀ W : World, w.grownBy W (some g) → ∀ x y : Rg, Calls Try.prog fg (#[.agg #[.int .i64 x.1, .int .i64 x.2], .agg #[.int .i64 y.1, .int .i64 y.2]] ++ cb) W fun e w' => e = .returned (.int .i64 (cf x y)) ∧ Below W.heap.size W w')
    (hn : n = xs.length) (hn2 : n ≤ 20)
    (hown : w.ownsRow base 58 2 (.slice (some ⟨g, 0, none⟩) n cap) n (rgF xs)) :
    Calls Try.prog 78 #[.slice (some ⟨g, 0, none⟩) n cap, .int .i64 n, .func (.func fg) #[] cb] w fun e w' => e = .returned (.tuple #[]) ∧
      w'.ownsRow base 58 2 (.slice (some ⟨g, 0, none⟩) n cap) n (rgF (sortG lt xs)) ∧ w.grownBy w' (some g) := by
  have HI := Lib.hid (insSortR_any lt cf hlt g cap n base xs fg cb w eg hcmp hn (by omega) hown)
  clear hcmp hown hlt eg hn
  by_cases h20 : n < 20
  · go_enter Try.func78, Try.ntmps78
    go_wp2_with fail
    refine wp_loop_rounds 1 ?_
    rw [rounds_succ]
    go_wp2_with fail
    refine HI.out.mono ?_
    rintro e w1 ⟨rfl, ho, hg⟩
    have HO := Lib.hid ho
    have HG := Lib.hid hg
    clear ho hg
    go_wp2_with fail
    refine wp_loop_rounds 1 ?_
    rw [rounds_succ]
    go_wp2_with fail
    go_end0
    exact ⟨rfl, HO.out, HG.out⟩
  · obtain rfl : n = 20 := by omega
    have HN := Lib.hid (fun W => insSortR_none (.slice (some ⟨g, 0, none⟩) 20 cap) 20 20 (Nat.le_refl _) (by omega) (.func (.func fg) #[] cb) W)
    go_enter Try.func78, Try.ntmps78
    go_wp2_with fail
    refine wp_loop_rounds 2 ?_
    rw [rounds_succ]
    go_wp2_with fail
    refine HI.out.mono ?_
    rintro e w1 ⟨rfl, ho, hg⟩
    have HO := Lib.hid ho
    have HG := Lib.hid hg
    clear ho hg
    go_wp2_with fail
    rw [rounds_succ]
    go_wp2_with fail
    refine (HN.out _).mono ?_
    rintro e w2 ⟨rfl, rfl⟩
    go_wp2_with fail
    refine wp_loop_rounds 1 ?_
    rw [rounds_succ]
    go_wp2_with fail
    go_end0
    exact ⟨rfl, HO.out, HG.out⟩
theorem stableFuncR_any (lt : Rg → Rg → Bool) (cf : Rg → Rg → Int) (hlt : ∀ x y, lt x y = decide (cf x y < 0)) (g cap n base : Nat) (xs : List Rg) (fg : Nat) (cb : Array Value) (w : World)
    (eg : ∀ args w, (callFunc fg args).run Try.prog w = .ok (.enter fg args) w)
    (hcmp : ∀ W : World, w.grownBy W (some g) → ∀ x y : Rg, Calls Try.prog fg (#[.agg #[.int .i64 x.1, .int .i64 x.2], .agg #[.int .i64 y.1, .int .i64 y.2]] ++ cb) W fun e w' => e = .returned (.int .i64 (cf x y)) ∧ Below W.heap.size W w')
    (hn : n = xs.length) (hn2 : n ≤ 20)
    (hown : w.ownsRow base 58 2 (.slice (some ⟨g, 0, none⟩) n cap) n (rgF xs)) :
    Calls Try.prog 75 #[.slice (some ⟨g, 0, none⟩) n cap, .func (.func fg) #[] cb] w fun e w' => e = .returned (.tuple #[]) ∧
      w'.ownsRow base 58 2 (.slice (some ⟨g, 0, none⟩) n cap) n (rgF (sortG lt xs)) ∧ w.grownBy w' (some g) := by
  have HI := Lib.hid (stableR_any lt cf hlt g cap n base xs fg cb w eg hcmp hn hn2 hown)
  clear hcmp hown hlt eg hn
  go_enter Try.func75, Try.ntmps75
  go_wp2_with fail
  refine HI.out.mono ?_
  rintro e w1 ⟨rfl, ho, hg⟩
  have HO := Lib.hid ho
  have HG := Lib.hid hg
  clear ho hg
  go_wp2_with fail
  go_end0
  exact ⟨rfl, HO.out, HG.out⟩
theorem keyR_any (x y : Int) (W : World) :
    Calls Try.prog 71 #[.agg #[.int .i64 x, .int .i64 y]] W fun e w' => e = .returned (.int .i64 x) ∧ Below W.heap.size W w' := by
  go_enter Try.func71, Try.ntmps71
  go_wp2_with fail
  go_ret
  exact ⟨rfl, (Below.refl _ _).alloc (Nat.le_refl _) _⟩
theorem keep5k {W w' : World} {a1 a2 a3 a4 a5 : Addr} {v1 v2 v3 v4 v5 : Value} {B : Nat} (h1 : W.cell? a1 = some v1) (h2 : W.cell? a2 = some v2) (h3 : W.cell? a3 = some v3) (h4 : W.cell? a4 = some v4) (h5 : W.cell? a5 = some v5)
    (b1 : a1.block < B) (b2 : a2.block < B) (b3 : a3.block < B) (b4 : a4.block < B) (b5 : a5.block < B) (hb : Below B W w') :
    w'.cell? a1 = some v1 ∧ w'.cell? a2 = some v2 ∧ w'.cell? a3 = some v3 ∧ w'.cell? a4 = some v4 ∧ w'.cell? a5 = some v5 ∧ Below B W w' :=
  ⟨(hb.cell b1).trans h1, (hb.cell b2).trans h2, (hb.cell b3).trans h3, (hb.cell b4).trans h4, (hb.cell b5).trans h5, hb⟩
set_option maxRecDepth 100000 in
set_option maxHeartbeats 2000000 in
theorem cmpClosureR_any (x1 x2 y1 y2 : Int) (K : Nat) (W : World) (hKl : K < W.heap.size) (hK : W.cell? ⟨K, 0, none⟩ = some (.func (.func 71) #[] #[])) :
    Calls Try.prog 76 (#[.agg #[.int .i64 x1, .int .i64 x2], .agg #[.int .i64 y1, .int .i64 y2]] ++ #[.pointer (some ⟨K, 0, none⟩)]) W fun e w' => e = .returned (.int .i64 (cmpZ x1 y1)) ∧ Below W.heap.size W w' := by
  obtain ⟨W5, hW5⟩ : ∃ W5, W5 = (W.alloc (.cells #[.int .i64 x1, .int .i64 x2] 58)).alloc (.cells #[.int .i64 y1, .int .i64 y2] 58) := ⟨_, rfl⟩
  have hR1 : Rb W5 W.heap.size x1 x2 := by rw [hW5]; exact heap_first W _ _
  have hR2 : Rb W5 (W.heap.size + 1) y1 y2 := by rw [hW5]; exact heap_second W _ _
  have hB5 : Below W.heap.size W W5 := by rw [hW5]; exact b_a (b_a (Below.refl _ _) _) _
  have hk5 := (hB5.cell hKl).trans hK
  obtain ⟨c1, c2⟩ := hR1.cells
  obtain ⟨c3, c4⟩ := hR2.cells
  have HQ := Lib.hid (fun (w' : World) (hb : Below W5.heap.size W5 w') => keep5k hk5 c1 c2 c3 c4 (Nat.lt_of_lt_of_le hKl hB5.size) hR1.lt hR1.lt hR2.lt hR2.lt hb)
  have HB5 := Lib.hid hB5
  obtain ⟨c, hc⟩ : ∃ c, c = cmpZ x1 y1 := ⟨_, rfl⟩
  rw [← hc]
  have HC := Lib.hid hc
  clear hR1 hR2 hB5 hc hK
  show Calls Try.prog 76 #[.agg #[.int .i64 x1, .int .i64 x2], .agg #[.int .i64 y1, .int .i64 y2], .pointer (some ⟨K, 0, none⟩)] W _
  go_enter Try.func76, Try.ntmps76
  go_upto_region 1 with fail
  rw [← hW5]
  clear hW5
  go_cut [5] from 6 to 12 (fun r wz => r = .int .i64 c ∧ Hid (Below W5.heap.size W5 wz))
  case first => as_aux_lemma =>
    go_region_held3 (fun w' => w'.cell? ⟨K, 0, none⟩ = some (.func (.func 71) #[] #[]) ∧ w'.cell? ⟨W.heap.size, 0, none⟩ = some (.int .i64 x1) ∧ w'.cell? ⟨W.heap.size, 1, none⟩ = some (.int .i64 x2) ∧ w'.cell? ⟨W.heap.size + 1, 0, none⟩ = some (.int .i64 y1) ∧ w'.cell? ⟨W.heap.size + 1, 1, none⟩ = some (.int .i64 y2) ∧ Below W5.heap.size W5 w')
      ((refine HQ.out _ ?_; repeat (first | assumption | exact Below.refl _ _ | refine Below.drew ?_)))
      (first | (go_at_call 71; refine (keyR_any _ _ _).mono ?_; rintro e w5 ⟨rfl, l5⟩; have hb5 := below_callS (W0 := W5) (by repeat (first | assumption | exact Below.refl _ _ | refine Below.drew ?_)) l5) | (go_at_call 77; refine (compareZ_any _ _ _).mono ?_; rintro e w5 ⟨rfl, rfl⟩))
    all_goals go_wp2_with fail
    all_goals go_meet
    all_goals
      case rel => exact ⟨vint HC.out.symm, Lib.hid (by repeat (first | assumption | exact Below.refl _ _ | refine Below.drew ?_))⟩
  case rest => as_aux_lemma =>
    obtain ⟨rfl, HW⟩ := hcut
    go_wp2_with fail
    go_ret
    exact ⟨rfl, HB5.out.trans (HW.out.mono HB5.out.size)⟩
end Go.Proofs.Ytneimcacpbepfaa
