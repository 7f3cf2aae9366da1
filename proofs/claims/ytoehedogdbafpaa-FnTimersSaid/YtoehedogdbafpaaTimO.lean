/-
  slices.insertionSortCmpFunc, stableCmpFunc and SortStableFunc at 20 Timers or fewer, over whatever comparison.
-/
import Derived.Test.YtoehedogdbafpaaTimR
import Derived.Test.YtoehedogdbafpaaSortG
import Derived.Deep.LoopGhost
import Derived.Shelf.Abstract
import Derived.BigRegion
import Derived.BigQuiet
import Derived.Deep.QuietTactic
import Derived.Deep.CutRange
import Derived.Deep.RegionHeld3
namespace Go.Proofs.Ytoehedogdbafpaa
open Go.RowKit Go.Lib Go.Joins
set_option linter.unusedVariables false

theorem keep6sT {W w' : World} {g a0 a1 a2 a3 a4 a5 : Nat} {v0 v1 v2 v3 v4 v5 : Value} (hg : g < W.heap.size) (h0 : W.cell? ⟨g, a0, none⟩ = some v0) (h1 : W.cell? ⟨g, a1, none⟩ = some v1) (h2 : W.cell? ⟨g, a2, none⟩ = some v2) (h3 : W.cell? ⟨g, a3, none⟩ = some v3) (h4 : W.cell? ⟨g, a4, none⟩ = some v4) (h5 : W.cell? ⟨g, a5, none⟩ = some v5)
    (hb : Below W.heap.size W w') :
    w'.cell? ⟨g, a0, none⟩ = some v0 ∧ w'.cell? ⟨g, a1, none⟩ = some v1 ∧ w'.cell? ⟨g, a2, none⟩ = some v2 ∧ w'.cell? ⟨g, a3, none⟩ = some v3 ∧ w'.cell? ⟨g, a4, none⟩ = some v4 ∧ w'.cell? ⟨g, a5, none⟩ = some v5 ∧ Below W.heap.size W w' :=
  ⟨(hb.cell hg).trans h0, (hb.cell hg).trans h1, (hb.cell hg).trans h2, (hb.cell hg).trans h3, (hb.cell hg).trans h4, (hb.cell hg).trans h5, hb⟩
theorem ownT_map {w : World} {B n : Nat} {v : Value} {xs ys : List Tm} (h : w.ownsRow B 42 3 v n (tmF xs)) (he : xs = ys) : w.ownsRow B 42 3 v n (tmF ys) := he ▸ h
set_option maxRecDepth 100000 in
set_option maxHeartbeats 20000000 in
theorem insSortT_any (lt : Tm → Tm → Bool) (cf : Tm → Tm → Int) (hlt : ∀ x y, lt x y = decide (cf x y < 0)) (g cap n base : Nat) (xs : List Tm) (fg : Nat) (cb : Array Value) (w : World)
    (eg : ∀ args w, (callFunc fg args).run Try.prog w = .ok (.enter fg args) w)
    (hcmp : ∀ W : World, w.grownBy W (some g) → ∀ x y : Tm, Calls Try.prog fg (#[.agg #[.int .i64 x.i, .int .i64 x.d, .int .i64 x.p], .agg #[.int .i64 y.i, .int .i64 y.d, .int .i64 y.p]] ++ cb) W fun e w' => e = .returned (.int .i64 (cf x y)) ∧ Below W.heap.size W w')
    (hn : n = xs.length) (hn2 : n ≤ 1048576)
    (hown : w.ownsRow base 42 3 (.slice (some ⟨g, 0, none⟩) n cap) n (tmF xs)) :
    Calls Try.prog 90 #[.slice (some ⟨g, 0, none⟩) n cap, .int .i64 0, .int .i64 n, .func (.func fg) #[] cb] w fun e w' => e = .returned (.tuple #[]) ∧
      w'.ownsRow base 42 3 (.slice (some ⟨g, 0, none⟩) n cap) n (tmF (sortG lt xs)) ∧ w.grownBy w' (some g) := by
  have HN := Lib.hid hn
  have HC := Lib.hid hcmp
  have HOw := Lib.hid hown
  have HLT := Lib.hid hlt
  clear hn hcmp hown hlt
  go_enter Try.func90, Try.ntmps90
  go_wp2_with fail
  go_loopw [8] (fun vi wr => ∃ i : Nat, 1 ≤ i ∧ i ≤ n + 1 ∧ (n = 0 ∨ i ≤ n) ∧ vi = .int .i64 i ∧ wr.ownsRow base 42 3 (.slice (some ⟨g, 0, none⟩) n cap) n (tmF (sortG lt (xs.take i) ++ xs.drop i)) ∧ w.grownBy wr (some g)) (fun vi _ => n + 1 - (intOf vi).toNat)
  case atStart => exact ⟨1, Nat.le_refl _, by omega, by omega, rfl, ownT_map HOw.out (sortG_one lt xs).symm, ⟨rfl, rfl, rfl, Nat.le_refl _, fun _ _ _ => rfl⟩⟩
  case round =>
    obtain ⟨i, hi1, hi2, hi3, rfl, hown, hgr⟩ := hrel
    obtain ⟨wo, rfl⟩ : ∃ wo : World, wo = wr := ⟨_, rfl⟩
    by_cases hin : i < n
    · have his : i < xs.length := by rw [← HN.out]; exact hin
      have hown2 := ownT_map hown (midG_start his)
      have HE := Lib.hid (fun j => @midG_end _ lt xs i j his)
      obtain ⟨x, hx⟩ : ∃ x, x = xs[i] := ⟨_, rfl⟩
      have hol : (sortG lt (xs.take i)).length = i := by rw [sortG_len, List.length_take]; omega
      rw [← hx] at hown2 HE
      obtain ⟨os, hos⟩ : ∃ os, os = sortG lt (xs.take i) := ⟨_, rfl⟩
      rw [← hos] at hown2 HE hol
      obtain ⟨rest, hrest⟩ : ∃ rest, rest = xs.drop (i + 1) := ⟨_, rfl⟩
      rw [← hrest] at hown2 HE
      have HRest := Lib.hid hrest
      have HOL := Lib.hid hol
      have HO2 := Lib.hid hown2
      have HGR := Lib.hid hgr
      clear hx hos hrest hown hown2 hol hgr hi3
      go_wp2_with fail
      go_loopw [9] (fun vj wr => ∃ j : Nat, j ≤ i ∧ vj = .int .i64 j ∧ Hid (posG lt x os j = posG lt x os i) ∧ Hid (wr.ownsRow base 42 3 (.slice (some ⟨g, 0, none⟩) n cap) n (tmF (midG os j x rest))) ∧ Hid (w.grownBy wr (some g))) (fun vj _ => (intOf vj).toNat)
      case atStart => exact ⟨i, Nat.le_refl _, rfl, Lib.hid rfl, HO2, HGR⟩
      case round =>
        clear HO2 HGR
        obtain ⟨j, hj, rfl, HP, HO, HG⟩ := hrel
        by_cases hj0 : 0 < j
        · obtain ⟨jp, hj1⟩ : ∃ jp, jp + 1 = j := ⟨j - 1, by omega⟩
          have hjp : jp < os.length := by rw [HOL.out]; omega
          have hjn : (j : Int) < (n : Int) := by omega
          have hkw : IntKind.i64.wrap ((j : Int) - 1) = (jp : Int) := (IntWalk.i64_in _ (by omega)).trans (by omega)
          have hkq : (jp : Int) < (n : Int) := by omega
          have hj0' : decide ((0 : Int) < (j : Int)) = true := decide_eq_true (by omega)
          obtain ⟨y, hy⟩ : ∃ y, y = os[jp] := ⟨_, rfl⟩
          have hmy := midG_y (x := x) (rest := rest) hjp
          have hmx := midG_x (x := x) (rest := rest) (os := os) (j := jp + 1) (by rw [HOL.out]; omega)
          rw [← hy] at hmy
          rw [hj1] at hmx hmy
          have HMy := Lib.hid hmy
          have HMx := Lib.hid hmx
          have HSW : Hid (((midG os j x rest).set j y).set jp x = midG os jp x rest) := Lib.hid (by rw [hy, ← hj1]; exact midG_swap hjp)
          have HLn : Hid ((midG os j x rest).length = os.length + 1 + rest.length) := Lib.hid (midG_len (by rw [HOL.out]; omega))
          have HPS : Hid (posG lt x os j = if lt x y = true then posG lt x os jp else j) := Lib.hid (by rw [← hj1, posG_step hjp, ← hy])
          rw [HLT.out x y] at HPS
          have HJ := Lib.hid hjp
          have HJ1 := Lib.hid hj1
          clear hy hmy hmx hjp hj1
          obtain ⟨W5, hW5⟩ : ∃ W5, W5 = wr := ⟨_, rfl⟩
          have HO5 : Hid (W5.ownsRow base 42 3 (.slice (some ⟨g, 0, none⟩) n cap) n (tmF (midG os j x rest))) := Lib.hid (by rw [hW5]; exact HO.out)
          have HG5 : Hid (w.grownBy W5 (some g)) := Lib.hid (by rw [hW5]; exact HG.out)
          have HCM := Lib.hid (fun (W : World) (hW : Below W5.heap.size W5 W) => HC.out W (grown_trans HG5.out (gr_below hW)) x y)
          obtain ⟨p0, p1, p2, -, -, -, hg5⟩ := ownT_facts HO5.out HMx.out
          obtain ⟨p3, p4, p5, -, -, -, -⟩ := ownT_facts HO5.out HMy.out
          have HK := Lib.hid (fun (w' : World) (hb : Below W5.heap.size W5 w') => keep6sT hg5 p0 p1 p2 p3 p4 p5 hb)
          rw [← hW5]
          clear hW5 HO HG
          generalize cf x y = c at HPS HCM
          obtain ⟨x0, x1, x2⟩ := x
          obtain ⟨y0, y1, y2⟩ := y
          simp only at p0 p1 p2 p3 p4 p5 HK HCM
          by_cases hc : c < 0
          · have hcd : decide (c < 0) = true := decide_eq_true hc
            go_upto_region 4 with fail
            go_cut [34] from 18 to 34 (fun b wz => b = .bool true ∧ Hid (Below W5.heap.size W5 wz))
            case first => as_aux_lemma =>
              go_region_held3 (fun w' => w'.cell? ⟨g, j * 3, none⟩ = some (.int .i64 x0) ∧ w'.cell? ⟨g, j * 3 + 1, none⟩ = some (.int .i64 x1) ∧ w'.cell? ⟨g, j * 3 + 2, none⟩ = some (.int .i64 x2) ∧ w'.cell? ⟨g, jp * 3, none⟩ = some (.int .i64 y0) ∧ w'.cell? ⟨g, jp * 3 + 1, none⟩ = some (.int .i64 y1) ∧ w'.cell? ⟨g, jp * 3 + 2, none⟩ = some (.int .i64 y2) ∧ Below W5.heap.size W5 w')
                ((refine HK.out _ ?_; repeat (first | assumption | exact Below.refl _ _ | refine Below.drew ?_)))
                (first | (go_at_fn fg; refine (HCM.out _ (by repeat (first | assumption | exact Below.refl _ _ | refine Below.drew ?_))).mono ?_; rintro e w5 ⟨rfl, l5⟩; have hb5 := below_call (W0 := W5) (by repeat (first | assumption | exact Below.refl _ _ | refine Below.drew ?_)) l5))
              all_goals go_wp2_with fail
              all_goals go_meet
              all_goals
                case rel => exact ⟨rfl, Lib.hid (by repeat (first | assumption | exact Below.refl _ _ | refine Below.drew ?_))⟩
            case rest => as_aux_lemma =>
              obtain ⟨rfl, HW⟩ := hcut
              have HO7 := Lib.hid (ownz_below HO5.out HW.out (Nat.le_refl _))
              have HG7 : Hid (w.grownBy wc (some g)) := Lib.hid (grown_trans HG5.out (gr_below HW.out))
              have HP2 : Hid (posG lt (⟨x0, x1, x2⟩ : Tm) os jp = posG lt (⟨x0, x1, x2⟩ : Tm) os i) := Lib.hid (by rw [← HP.out, HPS.out, if_pos hcd])
              have hlen : j < (midG os j (⟨x0, x1, x2⟩ : Tm) rest).length := by rw [HLn.out, HOL.out]; omega
              have hlen2 : jp < ((midG os j (⟨x0, x1, x2⟩ : Tm) rest).set j (⟨y0, y1, y2⟩ : Tm)).length := by rw [List.length_set, HLn.out]; have := HJ.out; omega
              have s1 := ownT_set HO7.out (⟨y0, y1, y2⟩ : Tm) hlen
              have hny : ((midG os j (⟨x0, x1, x2⟩ : Tm) rest).set j (⟨y0, y1, y2⟩ : Tm))[jp]? = some (⟨y0, y1, y2⟩ : Tm) := by
                rw [List.getElem?_set_ne (by have := HJ1.out; omega)]
                exact HMy.out
              obtain ⟨d0, d1, d2, r0, r1, r2, _⟩ := ownT_facts s1.1 hny
              have s2 := ownT_set s1.1 (⟨x0, x1, x2⟩ : Tm) hlen2
              rw [HSW.out] at s2
              obtain ⟨c0, c1, c2, q0, q1, q2, _⟩ := ownT_facts HO7.out HMx.out
              obtain ⟨e0, e1, e2, f0, f1, f2, _⟩ := ownT_facts HO7.out HMy.out
              have HS1 := Lib.hid s1.2
              have HS2 := Lib.hid s2
              simp only at c0 c1 c2 e0 e1 e2 d0 d1 d2
              clear s1 s2 HO5 HG5 HCM p0 p1 p2 p3 p4 p5 hg5 HK HPS HP hcd hlen hlen2 hny
              go_wp2_with fail
              go_big_region
              clear c0 c1 c2 e0 e1 e2 d0 d1 d2 q0 q1 q2 f0 f1 f2 r0 r1 r2
              go_wp2_with fail
              go_roundw
              case rel => exact ⟨jp, by have := HJ1.out; omega, rfl, HP2, Lib.hid (ownz_below HS2.out.1 (bdrew _ 1) (Nat.le_refl _)), Lib.hid (grown_trans (grown_trans (grown_trans HG7.out HS1.out) HS2.out.2) (gr_below (bdrew _ 1)))⟩
              case measure => (have := HJ1.out; simp [intOf]; omega)
          · have hcd : decide (c < 0) = false := decide_eq_false hc
            go_upto_region 4 with fail
            go_cut [34] from 18 to 34 (fun b wz => b = .bool false ∧ Hid (Below W5.heap.size W5 wz))
            case first => as_aux_lemma =>
              go_region_held3 (fun w' => w'.cell? ⟨g, j * 3, none⟩ = some (.int .i64 x0) ∧ w'.cell? ⟨g, j * 3 + 1, none⟩ = some (.int .i64 x1) ∧ w'.cell? ⟨g, j * 3 + 2, none⟩ = some (.int .i64 x2) ∧ w'.cell? ⟨g, jp * 3, none⟩ = some (.int .i64 y0) ∧ w'.cell? ⟨g, jp * 3 + 1, none⟩ = some (.int .i64 y1) ∧ w'.cell? ⟨g, jp * 3 + 2, none⟩ = some (.int .i64 y2) ∧ Below W5.heap.size W5 w')
                ((refine HK.out _ ?_; repeat (first | assumption | exact Below.refl _ _ | refine Below.drew ?_)))
                (first | (go_at_fn fg; refine (HCM.out _ (by repeat (first | assumption | exact Below.refl _ _ | refine Below.drew ?_))).mono ?_; rintro e w5 ⟨rfl, l5⟩; have hb5 := below_call (W0 := W5) (by repeat (first | assumption | exact Below.refl _ _ | refine Below.drew ?_)) l5))
              all_goals go_wp2_with fail
              all_goals go_meet
              all_goals
                case rel => exact ⟨rfl, Lib.hid (by repeat (first | assumption | exact Below.refl _ _ | refine Below.drew ?_))⟩
            case rest => as_aux_lemma =>
              obtain ⟨rfl, HW⟩ := hcut
              have HO7 := Lib.hid (ownz_below HO5.out HW.out (Nat.le_refl _))
              have HG7 : Hid (w.grownBy wc (some g)) := Lib.hid (grown_trans HG5.out (gr_below HW.out))
              have HF := Lib.hid (HE.out j (by rw [← HP.out, HPS.out, if_neg (by rw [hcd]; simp)]))
              clear HO5 HG5 HCM p0 p1 p2 p3 p4 p5 hg5 HK HPS HP hcd
              go_wp2_with fail
              go_roundw
              case rel => exact ⟨i + 1, by omega, by omega, by omega, by go_num, ownT_map HO7.out (HF.out.trans (by rw [HRest.out])), HG7.out⟩
              case measure => (first | (simp [intOf]; done) | (simp [intOf]; omega))
        · obtain rfl : j = 0 := by omega
          go_wp2_with fail
          go_quiet (fail)
          go_wp2_with fail
          have HF := Lib.hid (HE.out 0 (by rw [← HP.out]; rfl))
          go_roundw
          case rel => exact ⟨i + 1, by omega, by omega, by omega, by go_num, ownT_map (ownz_below HO.out (bdrew _ _) (Nat.le_refl _)) (HF.out.trans (by rw [HRest.out])), grown_trans HG.out ⟨rfl, rfl, rfl, Nat.le_refl _, fun _ _ _ => rfl⟩⟩
          case measure => (first | (simp [intOf]; done) | (simp [intOf]; omega))
    · have hfull : xs.take i = xs := by rw [List.take_of_length_le (by rw [← HN.out]; omega)]
      have hdrop : xs.drop i = [] := List.drop_of_length_le (by rw [← HN.out]; omega)
      rw [hfull, hdrop, List.append_nil] at hown
      go_wp2_with fail
      go_end0
      exact ⟨rfl, hown, hgr⟩
theorem insSortT_none (v : Value) (a b : Nat) (h : b ≤ a) (ha : a ≤ 1000) (f : Value) (w : World) :
    Calls Try.prog 90 #[v, .int .i64 a, .int .i64 b, f] w fun e w' => e = .returned (.tuple #[]) ∧ w = w' := by
  have h' : ¬ ((a : Int) + 1 < (b : Int)) := by omega
  go_enter Try.func90, Try.ntmps90
  go_wp2_with fail
  refine wp_loop_rounds 1 ?_
  rw [rounds_succ]
  go_wp2_with fail
  go_end0
  exact ⟨rfl, rfl⟩
set_option maxRecDepth 100000 in
set_option maxHeartbeats 1000000 in
theorem stableT_any (lt : Tm → Tm → Bool) (cf : Tm → Tm → Int) (hlt : ∀ x y, lt x y = decide (cf x y < 0)) (g cap n base : Nat) (xs : List Tm) (fg : Nat) (cb : Array Value) (w : World)
    (eg : ∀ args w, (callFunc fg args).run Try.prog w = .ok (.enter fg args) w)
    (hcmp : ∀ W : World, w.grownBy W (some g) → ∀ x y : Tm, Calls Try.prog fg (#[.agg #[.int .i64 x.i, .int .i64 x.d, .int .i64 x.p], .agg #[.int .i64 y.i, .int .i64 y.d, .int .i64 y.p]] ++ cb) W fun e w' => e = .returned (.int .i64 (cf x y)) ∧ Below W.heap.size W w')
    (hn : n = xs.length) (hn2 : n ≤ 20)
    (hown : w.ownsRow base 42 3 (.slice (some ⟨g, 0, none⟩) n cap) n (tmF xs)) :
    Calls Try.prog 88 #[.slice (some ⟨g, 0, none⟩) n cap, .int .i64 n, .func (.func fg) #[] cb] w fun e w' => e = .returned (.tuple #[]) ∧
      w'.ownsRow base 42 3 (.slice (some ⟨g, 0, none⟩) n cap) n (tmF (sortG lt xs)) ∧ w.grownBy w' (some g) := by
  have HI := Lib.hid (insSortT_any lt cf hlt g cap n base xs fg cb w eg hcmp hn (by omega) hown)
  clear hcmp hown hlt eg hn
  by_cases h20 : n < 20
  · go_enter Try.func88, Try.ntmps88
    go_wp2_with fail
    refine wp_loop_rounds 1 ?_
    rw [rounds_succ]
    go_wp2_with fail
    refine HI.out.mono ?_
    rintro e w1 ⟨rfl, ho, hg⟩
    have HO := Lib.hid ho
    have HG := Lib.hid hg
    clear ho hg
    go_wp2_with fail
    refine wp_loop_rounds 1 ?_
    rw [rounds_succ]
    go_wp2_with fail
    go_end0
    exact ⟨rfl, HO.out, HG.out⟩
  · obtain rfl : n = 20 := by omega
    have HN := Lib.hid (fun W => insSortT_none (.slice (some ⟨g, 0, none⟩) 20 cap) 20 20 (Nat.le_refl _) (by omega) (.func (.func fg) #[] cb) W)
    go_enter Try.func88, Try.ntmps88
    go_wp2_with fail
    refine wp_loop_rounds 2 ?_
    rw [rounds_succ]
    go_wp2_with fail
    refine HI.out.mono ?_
    rintro e w1 ⟨rfl, ho, hg⟩
    have HO := Lib.hid ho
    have HG := Lib.hid hg
    clear ho hg
    go_wp2_with fail
    rw [rounds_succ]
    go_wp2_with fail
    refine (HN.out _).mono ?_
    rintro e w2 ⟨rfl, rfl⟩
    go_wp2_with fail
    refine wp_loop_rounds 1 ?_
    rw [rounds_succ]
    go_wp2_with fail
    go_end0
    exact ⟨rfl, HO.out, HG.out⟩
set_option maxRecDepth 100000 in
theorem stableFuncT_any (lt : Tm → Tm → Bool) (cf : Tm → Tm → Int) (hlt : ∀ x y, lt x y = decide (cf x y < 0)) (g cap n base : Nat) (xs : List Tm) (fg : Nat) (cb : Array Value) (w : World)
    (eg : ∀ args w, (callFunc fg args).run Try.prog w = .ok (.enter fg args) w)
    (hcmp : ∀ W : World, w.grownBy W (some g) → ∀ x y : Tm, Calls Try.prog fg (#[.agg #[.int .i64 x.i, .int .i64 x.d, .int .i64 x.p], .agg #[.int .i64 y.i, .int .i64 y.d, .int .i64 y.p]] ++ cb) W fun e w' => e = .returned (.int .i64 (cf x y)) ∧ Below W.heap.size W w')
    (hn : n = xs.length) (hn2 : n ≤ 20)
    (hown : w.ownsRow base 42 3 (.slice (some ⟨g, 0, none⟩) n cap) n (tmF xs)) :
    Calls Try.prog 81 #[.slice (some ⟨g, 0, none⟩) n cap, .func (.func fg) #[] cb] w fun e w' => e = .returned (.tuple #[]) ∧
      w'.ownsRow base 42 3 (.slice (some ⟨g, 0, none⟩) n cap) n (tmF (sortG lt xs)) ∧ w.grownBy w' (some g) := by
  have HI := Lib.hid (stableT_any lt cf hlt g cap n base xs fg cb w eg hcmp hn hn2 hown)
  clear hcmp hown hlt eg hn
  go_enter Try.func81, Try.ntmps81
  go_wp2_with fail
  refine HI.out.mono ?_
  rintro e w1 ⟨rfl, ho, hg⟩
  have HO := Lib.hid ho
  have HG := Lib.hid hg
  clear ho hg
  go_wp2_with fail
  go_end0
  exact ⟨rfl, HO.out, HG.out⟩
end Go.Proofs.Ytoehedogdbafpaa
