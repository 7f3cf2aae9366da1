/-
  Ranges sorted by their first numbers: sortedBy of the program.
-/
import Derived.Test.YtneimcacpbepfaaGreatDoorRngI3
import Derived.Deep.LoopGhost
import Derived.Shelf.Abstract
import Derived.Laws.AppendOwnNone
namespace Go.Proofs.YtneimcacpbepfaaGreatDoor
open Go.RowKit Go.Lib Go.Joins
set_option linter.unusedVariables false

theorem rgF_set : ∀ (s : List Rg) (k : Nat) (r : Rg), k < s.length → ((rgF s).set (k * 2) (.int .i64 r.1)).set (k * 2 + 1) (.int .i64 r.2) = rgF (s.set k r)
  | [], k, r, h => by simp at h
  | a :: s, 0, r, _ => by
    simp [rgF, flat_cons, rgC]
  | a :: s, k + 1, r, h => by
    have ih := rgF_set s k r (by simpa using h)
    unfold rgF at ih ⊢
    rw [List.set_cons_succ, flat_cons, flat_cons, ← ih]
    rw [show (k + 1) * 2 = k * 2 + 1 + 1 by omega]
    simp only [rgC, List.cons_append, List.nil_append, List.set_cons_succ]
theorem rgF_at' {s : List Rg} {k : Nat} (hk : k < s.length) : (rgF s)[k * 2]? = some (.int .i64 s[k].1) ∧ (rgF s)[k * 2 + 1]? = some (.int .i64 s[k].2) :=
  ⟨flat_get rgC_len s k 0 hk (by omega), flat_get rgC_len s k 1 hk (by omega)⟩
theorem gr_below {w w' : World} {row : Option Nat} (h : Below w.heap.size w w') : w.grownBy w' row := ⟨h.os, h.tape, h.output, h.size, fun k hk _ => h.block k hk⟩
/-- Stores into an element of an owned row of ranges. -/
theorem ownR_set {w : World} {base n k : Nat} {s : List Rg} {g cap : Nat} (h : w.ownsRow base 47 2 (.slice (some ⟨g, 0, none⟩) n cap) n (rgF s)) (r : Rg) (hk : k < s.length) :
    ((w.setCell ⟨g, k * 2, none⟩ (.int .i64 r.1)).setCell ⟨g, k * 2 + 1, none⟩ (.int .i64 r.2)).ownsRow base 47 2 (.slice (some ⟨g, 0, none⟩) n cap) n (rgF (s.set k r)) ∧ w.grownBy ((w.setCell ⟨g, k * 2, none⟩ (.int .i64 r.1)).setCell ⟨g, k * 2 + 1, none⟩ (.int .i64 r.2)) (some g) := by
  have s1 := ownz_set h (j := k * 2) (.int .i64 r.1)
  have s2 := ownz_set s1.1 (j := k * 2 + 1) (.int .i64 r.2)
  rw [rgF_set s k r hk] at s2
  exact ⟨s2.1, grown_trans s1.2 s2.2⟩
theorem ownR_facts {w : World} {base n k : Nat} {s : List Rg} {g cap : Nat} {r : Rg} (h : w.ownsRow base 47 2 (.slice (some ⟨g, 0, none⟩) n cap) n (rgF s)) (hk : s[k]? = some r) :
    w.cell? ⟨g, k * 2, none⟩ = some (.int .i64 r.1) ∧ w.cell? ⟨g, k * 2 + 1, none⟩ = some (.int .i64 r.2) ∧ w.frozen? ⟨g, k * 2, none⟩ = false ∧ w.frozen? ⟨g, k * 2 + 1, none⟩ = false ∧ g < w.heap.size := by
  obtain ⟨hlt, he⟩ := List.getElem?_eq_some_iff.1 hk
  have hl := rgF_len s
  obtain ⟨c0, f0, _, hg⟩ := ownz_facts h (j := k * 2) (by omega)
  obtain ⟨c1, f1, _, _⟩ := ownz_facts h (j := k * 2 + 1) (by omega)
  obtain ⟨a0, b0⟩ := List.getElem?_eq_some_iff.1 (rgF_at' hlt).1
  obtain ⟨a1, b1⟩ := List.getElem?_eq_some_iff.1 (rgF_at' hlt).2
  rw [b0, he] at c0
  rw [b1, he] at c1
  exact ⟨c0, c1, f0, f1, hg⟩
theorem keep4s {W w' : World} {g a1 a2 a3 a4 : Nat} {v1 v2 v3 v4 : Value} (hg : g < W.heap.size) (h1 : W.cell? ⟨g, a1, none⟩ = some v1) (h2 : W.cell? ⟨g, a2, none⟩ = some v2) (h3 : W.cell? ⟨g, a3, none⟩ = some v3) (h4 : W.cell? ⟨g, a4, none⟩ = some v4)
    (hb : Below W.heap.size W w') :
    w'.cell? ⟨g, a1, none⟩ = some v1 ∧ w'.cell? ⟨g, a2, none⟩ = some v2 ∧ w'.cell? ⟨g, a3, none⟩ = some v3 ∧ w'.cell? ⟨g, a4, none⟩ = some v4 ∧ Below W.heap.size W w' :=
  ⟨(hb.cell hg).trans h1, (hb.cell hg).trans h2, (hb.cell hg).trans h3, (hb.cell hg).trans h4, hb⟩
theorem below_callS {W0 W w5 : World} (h : Below W0.heap.size W0 W) (l5 : Below W.heap.size W w5) : Below W0.heap.size W0 w5 := h.trans (l5.mono h.size)
theorem ownR_map {w : World} {B n : Nat} {v : Value} {xs ys : List Rg} (h : w.ownsRow B 47 2 v n (rgF xs)) (he : xs = ys) : w.ownsRow B 47 2 v n (rgF ys) := he ▸ h
set_option maxRecDepth 100000 in
set_option maxHeartbeats 4000000 in
theorem insSortR_any (lt : Rg → Rg → Bool) (cf : Rg → Rg → Int) (hlt : ∀ x y, lt x y = decide (cf x y < 0)) (g cap n base : Nat) (xs : List Rg) (fg : Nat) (cb : Array Value) (w : World)
    (eg : ∀ args w, (callFunc fg args).run Tryz.prog w = .ok (.enter fg args) w)
    (hcmp : ∀ W : World, w.grownBy W (some g) → ∀ x y : Rg, Calls Tryz.prog fg (#[.agg #[.int .i64 x.1, .int .i64 x.2], .agg #[.int .i64 y.1, .int .i64 y.2]] ++ cb) W fun e w' => e = .returned (.int .i64 (cf x y)) ∧ Below W.heap.size W w')
    (hn : n = xs.length) (hn2 : n ≤ 1048576)
    (hown : w.ownsRow base 47 2 (.slice (some ⟨g, 0, none⟩) n cap) n (rgF xs)) :
    Calls Tryz.prog 81 #[.slice (some ⟨g, 0, none⟩) n cap, .int .i64 0, .int .i64 n, .func (.func fg) #[] cb] w fun e w' => e = .returned (.tuple #[]) ∧
      w'.ownsRow base 47 2 (.slice (some ⟨g, 0, none⟩) n cap) n (rgF (sortG lt xs)) ∧ w.grownBy w' (some g) := by
  have HN := Lib.hid hn
  have HC := Lib.hid hcmp
  have HOw := Lib.hid hown
  have HLT := Lib.hid hlt
  clear hn hcmp hown hlt
  go_enter Tryz.func81, Tryz.ntmps81
  go_wp2_with fail
  go_loopw [8] (fun vi wr => ∃ i : Nat, 1 ≤ i ∧ i ≤ n + 1 ∧ (n = 0 ∨ i ≤ n) ∧ vi = .int .i64 i ∧ wr.ownsRow base 47 2 (.slice (some ⟨g, 0, none⟩) n cap) n (rgF (sortG lt (xs.take i) ++ xs.drop i)) ∧ w.grownBy wr (some g)) (fun vi _ => n + 1 - (RowKit.intOf vi).toNat)
  case atStart => exact ⟨1, Nat.le_refl _, by omega, by omega, rfl, ownR_map HOw.out (sortG_one lt xs).symm, ⟨rfl, rfl, rfl, Nat.le_refl _, fun _ _ _ => rfl⟩⟩
  case round =>
    obtain ⟨i, hi1, hi2, hi3, rfl, hown, hgr⟩ := hrel
    obtain ⟨wo, rfl⟩ : ∃ wo : World, wo = wr := ⟨_, rfl⟩
    by_cases hin : i < n
    · have his : i < xs.length := by rw [← HN.out]; exact hin
      have hown2 := ownR_map hown (midG_start his)
      have HE := Lib.hid (fun j => @midG_end _ lt xs i j his)
      obtain ⟨x, hx⟩ : ∃ x, x = xs[i] := ⟨_, rfl⟩
      have hol : (sortG lt (xs.take i)).length = i := by rw [sortG_len, List.length_take]; omega
      rw [← hx] at hown2 HE
      obtain ⟨os, hos⟩ : ∃ os, os = sortG lt (xs.take i) := ⟨_, rfl⟩
      rw [← hos] at hown2 HE hol
      obtain ⟨rest, hrest⟩ : ∃ rest, rest = xs.drop (i + 1) := ⟨_, rfl⟩
      rw [← hrest] at hown2 HE
      have HRest := Lib.hid hrest
      have HOL := Lib.hid hol
      have HO2 := Lib.hid hown2
      have HGR := Lib.hid hgr
      clear hx hos hrest hown hown2 hol hgr hi3
      go_wp2_with fail
      go_loopw [9] (fun vj wr => ∃ j : Nat, j ≤ i ∧ vj = .int .i64 j ∧ Hid (posG lt x os j = posG lt x os i) ∧ Hid (wr.ownsRow base 47 2 (.slice (some ⟨g, 0, none⟩) n cap) n (rgF (midG os j x rest))) ∧ Hid (w.grownBy wr (some g))) (fun vj _ => (RowKit.intOf vj).toNat)
      case atStart => exact ⟨i, Nat.le_refl _, rfl, Lib.hid rfl, HO2, HGR⟩
      case round =>
        clear HO2 HGR
        obtain ⟨j, hj, rfl, HP, HO, HG⟩ := hrel
        by_cases hj0 : 0 < j
        · obtain ⟨jp, hj1⟩ : ∃ jp, jp + 1 = j := ⟨j - 1, by omega⟩
          have hjp : jp < os.length := by rw [HOL.out]; omega
          have hjn : (j : Int) < (n : Int) := by omega
          have hkw : IntKind.i64.wrap ((j : Int) - 1) = (jp : Int) := (IntWalk.i64_in _ (by omega)).trans (by omega)
          have hkq : (jp : Int) < (n : Int) := by omega
          have hj0' : decide ((0 : Int) < (j : Int)) = true := decide_eq_true (by omega)
          obtain ⟨y, hy⟩ : ∃ y, y = os[jp] := ⟨_, rfl⟩
          have hmy := midG_y (x := x) (rest := rest) hjp
          have hmx := midG_x (x := x) (rest := rest) (os := os) (j := jp + 1) (by rw [HOL.out]; omega)
          rw [← hy] at hmy
          rw [hj1] at hmx hmy
          have HMy := Lib.hid hmy
          have HMx := Lib.hid hmx
          have HSW : Hid (((midG os j x rest).set j y).set jp x = midG os jp x rest) := Lib.hid (by rw [hy, ← hj1]; exact midG_swap hjp)
          have HLn : Hid ((midG os j x rest).length = os.length + 1 + rest.length) := Lib.hid (midG_len (by rw [HOL.out]; omega))
          have HPS : Hid (posG lt x os j = if lt x y = true then posG lt x os jp else j) := Lib.hid (by rw [← hj1, posG_step hjp, ← hy])
          rw [HLT.out x y] at HPS
          have HJ := Lib.hid hjp
          have HJ1 := Lib.hid hj1
          clear hy hmy hmx hjp hj1
          obtain ⟨W5, hW5⟩ : ∃ W5, W5 = wr := ⟨_, rfl⟩
          have HO5 : Hid (W5.ownsRow base 47 2 (.slice (some ⟨g, 0, none⟩) n cap) n (rgF (midG os j x rest))) := Lib.hid (by rw [hW5]; exact HO.out)
          have HG5 : Hid (w.grownBy W5 (some g)) := Lib.hid (by rw [hW5]; exact HG.out)
          have HCM := Lib.hid (fun (W : World) (hW : Below W5.heap.size W5 W) => HC.out W (grown_trans HG5.out (gr_below hW)) x y)
          obtain ⟨p1, p2, _, _, hg5⟩ := ownR_facts HO5.out HMx.out
          obtain ⟨p3, p4, _, _, _⟩ := ownR_facts HO5.out HMy.out
          have HK := Lib.hid (fun (w' : World) (hb : Below W5.heap.size W5 w') => keep4s hg5 p1 p2 p3 p4 hb)
          rw [← hW5]
          clear hW5 HO HG
          generalize cf x y = c at HPS HCM
          obtain ⟨x1, x2⟩ := x
          obtain ⟨y1, y2⟩ := y
          simp only at p1 p2 p3 p4 HK HCM
          by_cases hc : c < 0
          · have hcd : decide (c < 0) = true := decide_eq_true hc
            go_upto_region 4 with fail
            go_cut [34] from 18 to 34 (fun b wz => b = .bool true ∧ Hid (Below W5.heap.size W5 wz))
            case first => as_aux_lemma =>
              go_region_held3 (fun w' => w'.cell? ⟨g, j * 2, none⟩ = some (.int .i64 x1) ∧ w'.cell? ⟨g, j * 2 + 1, none⟩ = some (.int .i64 x2) ∧ w'.cell? ⟨g, jp * 2, none⟩ = some (.int .i64 y1) ∧ w'.cell? ⟨g, jp * 2 + 1, none⟩ = some (.int .i64 y2) ∧ Below W5.heap.size W5 w')
                ((refine HK.out _ ?_; repeat (first | assumption | exact Below.refl _ _ | refine Below.drew ?_)))
                (first | (go_at_fn fg; refine (HCM.out _ (by repeat (first | assumption | exact Below.refl _ _ | refine Below.drew ?_))).mono ?_; rintro e w5 ⟨rfl, l5⟩; have hb5 := below_callS (W0 := W5) (by repeat (first | assumption | exact Below.refl _ _ | refine Below.drew ?_)) l5))
              all_goals go_wp2_with fail
              all_goals go_meet
              all_goals
                case rel => exact ⟨rfl, Lib.hid (by repeat (first | assumption | exact Below.refl _ _ | refine Below.drew ?_))⟩
            case rest => as_aux_lemma =>
              obtain ⟨rfl, HW⟩ := hcut
              have HO7 := Lib.hid (ownz_below HO5.out HW.out (Nat.le_refl _))
              have HG7 : Hid (w.grownBy wc (some g)) := Lib.hid (grown_trans HG5.out (gr_below HW.out))
              have HP2 : Hid (posG lt (x1, x2) os jp = posG lt (x1, x2) os i) := Lib.hid (by rw [← HP.out, HPS.out, if_pos hcd])
              have hlen : j < (midG os j (x1, x2) rest).length := by rw [HLn.out, HOL.out]; omega
              have hlen2 : jp < ((midG os j (x1, x2) rest).set j (y1, y2)).length := by rw [List.length_set, HLn.out]; have := HJ.out; omega
              have s1 := ownR_set HO7.out (y1, y2) hlen
              have hny : ((midG os j (x1, x2) rest).set j (y1, y2))[jp]? = some (y1, y2) := by
                rw [List.getElem?_set_ne (by have := HJ1.out; omega)]
                exact HMy.out
              obtain ⟨d1, d2, d3, d4, _⟩ := ownR_facts s1.1 hny
              have s2 := ownR_set s1.1 (x1, x2) hlen2
              rw [HSW.out] at s2
              obtain ⟨c1, c2, q1, q2, _⟩ := ownR_facts HO7.out HMx.out
              obtain ⟨c3, c4, q3, q4, _⟩ := ownR_facts HO7.out HMy.out
              have HS1 := Lib.hid s1.2
              have HS2 := Lib.hid s2
              simp only at c1 c2 c3 c4 d1 d2 d3 d4
              clear s1 s2 HO5 HG5 HCM p1 p2 p3 p4 hg5 HK HPS HP hcd hlen hlen2 hny
              go_wp2_with fail
              go_big_region
              clear c1 c2 c3 c4 d1 d2 d3 d4 q1 q2 q3 q4
              go_wp2_with fail
              go_roundw
              case rel => exact ⟨jp, by have := HJ1.out; omega, rfl, HP2, Lib.hid (ownz_below HS2.out.1 (bdrew _ 1) (Nat.le_refl _)), Lib.hid (grown_trans (grown_trans (grown_trans HG7.out HS1.out) HS2.out.2) ⟨rfl, rfl, rfl, Nat.le_refl _, fun _ _ _ => rfl⟩)⟩
              case measure => (have := HJ1.out; simp [RowKit.intOf]; omega)
          · have hcd : decide (c < 0) = false := decide_eq_false hc
            go_upto_region 4 with fail
            go_cut [34] from 18 to 34 (fun b wz => b = .bool false ∧ Hid (Below W5.heap.size W5 wz))
            case first => as_aux_lemma =>
              go_region_held3 (fun w' => w'.cell? ⟨g, j * 2, none⟩ = some (.int .i64 x1) ∧ w'.cell? ⟨g, j * 2 + 1, none⟩ = some (.int .i64 x2) ∧ w'.cell? ⟨g, jp * 2, none⟩ = some (.int .i64 y1) ∧ w'.cell? ⟨g, jp * 2 + 1, none⟩ = some (.int .i64 y2) ∧ Below W5.heap.size W5 w')
                ((refine HK.out _ ?_; repeat (first | assumption | exact Below.refl _ _ | refine Below.drew ?_)))
                (first | (go_at_fn fg; refine (HCM.out _ (by repeat (first | assumption | exact Below.refl _ _ | refine Below.drew ?_))).mono ?_; rintro e w5 ⟨rfl, l5⟩; have hb5 := below_callS (W0 := W5) (by repeat (first | assumption | exact Below.refl _ _ | refine Below.drew ?_)) l5))
              all_goals go_wp2_with fail
              all_goals go_meet
              all_goals
                case rel => exact ⟨rfl, Lib.hid (by repeat (first | assumption | exact Below.refl _ _ | refine Below.drew ?_))⟩
            case rest => as_aux_lemma =>
              obtain ⟨rfl, HW⟩ := hcut
              have HO7 := Lib.hid (ownz_below HO5.out HW.out (Nat.le_refl _))
              have HG7 : Hid (w.grownBy wc (some g)) := Lib.hid (grown_trans HG5.out (gr_below HW.out))
              have HF := Lib.hid (HE.out j (by rw [← HP.out, HPS.out, if_neg (by rw [hcd]; simp)]))
              clear HO5 HG5 HCM p1 p2 p3 p4 hg5 HK HPS HP hcd
              go_wp2_with fail
              go_roundw
              case rel => exact ⟨i + 1, by omega, by omega, by omega, by go_num, ownR_map HO7.out (HF.out.trans (by rw [HRest.out])), HG7.out⟩
              case measure => (first | (simp [RowKit.intOf]; done) | (simp [RowKit.intOf]; omega))
        · obtain rfl : j = 0 := by omega
          go_wp2_with fail
          go_quiet (fail)
          go_wp2_with fail
          have HF := Lib.hid (HE.out 0 (by rw [← HP.out]; rfl))
          go_roundw
          case rel => exact ⟨i + 1, by omega, by omega, by omega, by go_num, ownR_map (ownz_below HO.out (bdrew _ _) (Nat.le_refl _)) (HF.out.trans (by rw [HRest.out])), grown_trans HG.out ⟨rfl, rfl, rfl, Nat.le_refl _, fun _ _ _ => rfl⟩⟩
          case measure => (first | (simp [RowKit.intOf]; done) | (simp [RowKit.intOf]; omega))
    · have hfull : xs.take i = xs := by rw [List.take_of_length_le (by rw [← HN.out]; omega)]
      have hdrop : xs.drop i = [] := List.drop_of_length_le (by rw [← HN.out]; omega)
      rw [hfull, hdrop, List.append_nil] at hown
      go_wp2_with fail
      go_end0
      exact ⟨rfl, hown, hgr⟩
end Go.Proofs.YtneimcacpbepfaaGreatDoor

namespace Go.Proofs.YtneimcacpbepfaaGreatDoor
open Go.RowKit Go.Lib Go.Joins
set_option linter.unusedVariables false

/-- cmp.Compare at ints. -/
def cmpZ (u v : Int) : Int := if u < v then -1 else if v < u then 1 else 0
theorem cmpZ_neg (u v : Int) : decide (cmpZ u v < 0) = decide (u < v) := by
  unfold cmpZ
  rw [Bool.eq_iff_iff]
  simp
  split
  · simp; omega
  · split <;> simp <;> omega
theorem nanZ_any (x : Int) (w : World) : Calls Tryz.prog 73 #[.int .i64 x] w fun e w' => e = .returned (.bool false) ∧ w = w' := by
  go_enter Tryz.func73, Tryz.ntmps73
  go_wp2
  go_ret
  exact ⟨rfl, rfl⟩
theorem compareZ_any (u v : Int) (w : World) : Calls Tryz.prog 64 #[.int .i64 u, .int .i64 v] w fun e w' => e = .returned (.int .i64 (cmpZ u v)) ∧ w = w' := by
  by_cases h1 : u < v
  · go_enter Tryz.func64, Tryz.ntmps64
    go_wp2_with (go_at_call 73; refine (nanZ_any _ _).mono ?_; rintro e w' ⟨rfl, rfl⟩)
    go_ret
    exact ⟨ret_int (by unfold cmpZ; rw [if_pos h1]), rfl⟩
  · by_cases h2 : v < u
    · go_enter Tryz.func64, Tryz.ntmps64
      go_wp2_with (go_at_call 73; refine (nanZ_any _ _).mono ?_; rintro e w' ⟨rfl, rfl⟩)
      go_ret
      exact ⟨ret_int (by unfold cmpZ; rw [if_neg (by omega), if_pos (by omega)]), rfl⟩
    · go_enter Tryz.func64, Tryz.ntmps64
      go_wp2_with (go_at_call 73; refine (nanZ_any _ _).mono ?_; rintro e w' ⟨rfl, rfl⟩)
      go_ret
      exact ⟨ret_int (by unfold cmpZ; rw [if_neg (by omega), if_neg (by omega)]), rfl⟩
theorem insSortR_none (v : Value) (a b : Nat) (h : b ≤ a) (ha : a ≤ 1000) (f : Value) (w : World) :
    Calls Tryz.prog 81 #[v, .int .i64 a, .int .i64 b, f] w fun e w' => e = .returned (.tuple #[]) ∧ w = w' := by
  have h' : ¬ ((a : Int) + 1 < (b : Int)) := by omega
  go_enter Tryz.func81, Tryz.ntmps81
  go_wp2_with fail
  refine wp_loop_rounds 1 ?_
  rw [rounds_succ]
  go_wp2_with fail
  go_end0
  exact ⟨rfl, rfl⟩

set_option maxHeartbeats 1000000 in
theorem stableR_any (lt : Rg → Rg → Bool) (cf : Rg → Rg → Int) (hlt : ∀ x y, lt x y = decide (cf x y < 0)) (g cap n base : Nat) (xs : List Rg) (fg : Nat) (cb : Array Value) (w : World)
    (eg : ∀ args w, (callFunc fg args).run Tryz.prog w = .ok (.enter fg args) w)
    (hcmp : ∀ W : World, w.grownBy W (some g) → ∀ x y : Rg, Calls Tryz.prog fg (#[.agg #[.int .i64 x.1, .int .i64 x.2], .agg #[.int .i64 y.1, .int .i64 y.2]] ++ cb) W fun e w' => e = .returned (.int .i64 (cf x y)) ∧ Below W.heap.size W w')
    (hn : n = xs.length) (hn2 : n ≤ 20)
    (hown : w.ownsRow base 47 2 (.slice (some ⟨g, 0, none⟩) n cap) n (rgF xs)) :
    Calls Tryz.prog 72 #[.slice (some ⟨g, 0, none⟩) n cap, .int .i64 n, .func (.func fg) #[] cb] w fun e w' => e = .returned (.tuple #[]) ∧
      w'.ownsRow base 47 2 (.slice (some ⟨g, 0, none⟩) n cap) n (rgF (sortG lt xs)) ∧ w.grownBy w' (some g) := by
  have HI := Lib.hid (insSortR_any lt cf hlt g cap n base xs fg cb w eg hcmp hn (by omega) hown)
  clear hcmp hown hlt eg hn
  by_cases h20 : n < 20
  · go_enter Tryz.func72, Tryz.ntmps72
    go_wp2_with fail
    refine wp_loop_rounds 1 ?_
    rw [rounds_succ]
    go_wp2_with fail
    refine HI.out.mono ?_
    rintro e w1 ⟨rfl, ho, hg⟩
    have HO := Lib.hid ho
    have HG := Lib.hid hg
    clear ho hg
    go_wp2_with fail
    refine wp_loop_rounds 1 ?_
    rw [rounds_succ]
    go_wp2_with fail
    go_end0
    exact ⟨rfl, HO.out, HG.out⟩
  · obtain rfl : n = 20 := by omega
    have HN := Lib.hid (fun W => insSortR_none (.slice (some ⟨g, 0, none⟩) 20 cap) 20 20 (Nat.le_refl _) (by omega) (.func (.func fg) #[] cb) W)
    go_enter Tryz.func72, Tryz.ntmps72
    go_wp2_with fail
    refine wp_loop_rounds 2 ?_
    rw [rounds_succ]
    go_wp2_with fail
    refine HI.out.mono ?_
    rintro e w1 ⟨rfl, ho, hg⟩
    have HO := Lib.hid ho
    have HG := Lib.hid hg
    clear ho hg
    go_wp2_with fail
    rw [rounds_succ]
    go_wp2_with fail
    refine (HN.out _).mono ?_
    rintro e w2 ⟨rfl, rfl⟩
    go_wp2_with fail
    refine wp_loop_rounds 1 ?_
    rw [rounds_succ]
    go_wp2_with fail
    go_end0
    exact ⟨rfl, HO.out, HG.out⟩
theorem stableFuncR_any (lt : Rg → Rg → Bool) (cf : Rg → Rg → Int) (hlt : ∀ x y, lt x y = decide (cf x y < 0)) (g cap n base : Nat) (xs : List Rg) (fg : Nat) (cb : Array Value) (w : World)
    (eg : ∀ args w, (callFunc fg args).run Tryz.prog w = .ok (.enter fg args) w)
    (hcmp : ∀ W : World, w.grownBy W (some g) → ∀ x y : Rg, Calls Tryz.prog fg (#[.agg #[.int .i64 x.1, .int .i64 x.2], .agg #[.int .i64 y.1, .int .i64 y.2]] ++ cb) W fun e w' => e = .returned (.int .i64 (cf x y)) ∧ Below W.heap.size W w')
    (hn : n = xs.length) (hn2 : n ≤ 20)
    (hown : w.ownsRow base 47 2 (.slice (some ⟨g, 0, none⟩) n cap) n (rgF xs)) :
    Calls Tryz.prog 62 #[.slice (some ⟨g, 0, none⟩) n cap, .func (.func fg) #[] cb] w fun e w' => e = .returned (.tuple #[]) ∧
      w'.ownsRow base 47 2 (.slice (some ⟨g, 0, none⟩) n cap) n (rgF (sortG lt xs)) ∧ w.grownBy w' (some g) := by
  have HI := Lib.hid (stableR_any lt cf hlt g cap n base xs fg cb w eg hcmp hn hn2 hown)
  clear hcmp hown hlt eg hn
  go_enter Tryz.func62, Tryz.ntmps62
  go_wp2_with fail
  refine HI.out.mono ?_
  rintro e w1 ⟨rfl, ho, hg⟩
  have HO := Lib.hid ho
  have HG := Lib.hid hg
  clear ho hg
  go_wp2_with fail
  go_end0
  exact ⟨rfl, HO.out, HG.out⟩
theorem keyR_any (x y : Int) (W : World) :
    Calls Tryz.prog 45 #[.agg #[.int .i64 x, .int .i64 y]] W fun e w' => e = .returned (.int .i64 x) ∧ Below W.heap.size W w' := by
  go_enter Tryz.func45, Tryz.ntmps45
  go_wp2_with fail
  go_ret
  exact ⟨rfl, (Below.refl _ _).alloc (Nat.le_refl _) _⟩
theorem keep5k {W w' : World} {a1 a2 a3 a4 a5 : Addr} {v1 v2 v3 v4 v5 : Value} {B : Nat} (h1 : W.cell? a1 = some v1) (h2 : W.cell? a2 = some v2) (h3 : W.cell? a3 = some v3) (h4 : W.cell? a4 = some v4) (h5 : W.cell? a5 = some v5)
    (b1 : a1.block < B) (b2 : a2.block < B) (b3 : a3.block < B) (b4 : a4.block < B) (b5 : a5.block < B) (hb : Below B W w') :
    w'.cell? a1 = some v1 ∧ w'.cell? a2 = some v2 ∧ w'.cell? a3 = some v3 ∧ w'.cell? a4 = some v4 ∧ w'.cell? a5 = some v5 ∧ Below B W w' :=
  ⟨(hb.cell b1).trans h1, (hb.cell b2).trans h2, (hb.cell b3).trans h3, (hb.cell b4).trans h4, (hb.cell b5).trans h5, hb⟩
set_option maxRecDepth 100000 in
set_option maxHeartbeats 2000000 in
theorem cmpClosureR_any (x1 x2 y1 y2 : Int) (K : Nat) (W : World) (hKl : K < W.heap.size) (hK : W.cell? ⟨K, 0, none⟩ = some (.func (.func 45) #[] #[])) :
    Calls Tryz.prog 63 (#[.agg #[.int .i64 x1, .int .i64 x2], .agg #[.int .i64 y1, .int .i64 y2]] ++ #[.pointer (some ⟨K, 0, none⟩)]) W fun e w' => e = .returned (.int .i64 (cmpZ x1 y1)) ∧ Below W.heap.size W w' := by
  obtain ⟨W5, hW5⟩ : ∃ W5, W5 = (W.alloc (.cells #[.int .i64 x1, .int .i64 x2] 47)).alloc (.cells #[.int .i64 y1, .int .i64 y2] 47) := ⟨_, rfl⟩
  have hR1 : Rb W5 W.heap.size x1 x2 := by rw [hW5]; exact heap_first W _ _
  have hR2 : Rb W5 (W.heap.size + 1) y1 y2 := by rw [hW5]; exact heap_second W _ _
  have hB5 : Below W.heap.size W W5 := by rw [hW5]; exact b_a (b_a (Below.refl _ _) _) _
  have hk5 := (hB5.cell hKl).trans hK
  obtain ⟨c1, c2⟩ := hR1.cells
  obtain ⟨c3, c4⟩ := hR2.cells
  have HQ := Lib.hid (fun (w' : World) (hb : Below W5.heap.size W5 w') => keep5k hk5 c1 c2 c3 c4 (Nat.lt_of_lt_of_le hKl hB5.size) hR1.lt hR1.lt hR2.lt hR2.lt hb)
  have HB5 := Lib.hid hB5
  obtain ⟨c, hc⟩ : ∃ c, c = cmpZ x1 y1 := ⟨_, rfl⟩
  rw [← hc]
  have HC := Lib.hid hc
  clear hR1 hR2 hB5 hc hK
  show Calls Tryz.prog 63 #[.agg #[.int .i64 x1, .int .i64 x2], .agg #[.int .i64 y1, .int .i64 y2], .pointer (some ⟨K, 0, none⟩)] W _
  go_enter Tryz.func63, Tryz.ntmps63
  go_upto_region 1 with fail
  rw [← hW5]
  clear hW5
  go_cut [5] from 6 to 12 (fun r wz => r = .int .i64 c ∧ Hid (Below W5.heap.size W5 wz))
  case first => as_aux_lemma =>
    go_region_held3 (fun w' => w'.cell? ⟨K, 0, none⟩ = some (.func (.func 45) #[] #[]) ∧ w'.cell? ⟨W.heap.size, 0, none⟩ = some (.int .i64 x1) ∧ w'.cell? ⟨W.heap.size, 1, none⟩ = some (.int .i64 x2) ∧ w'.cell? ⟨W.heap.size + 1, 0, none⟩ = some (.int .i64 y1) ∧ w'.cell? ⟨W.heap.size + 1, 1, none⟩ = some (.int .i64 y2) ∧ Below W5.heap.size W5 w')
      ((refine HQ.out _ ?_; repeat (first | assumption | exact Below.refl _ _ | refine Below.drew ?_)))
      (first | (go_at_call 45; refine (keyR_any _ _ _).mono ?_; rintro e w5 ⟨rfl, l5⟩; have hb5 := below_callS (W0 := W5) (by repeat (first | assumption | exact Below.refl _ _ | refine Below.drew ?_)) l5) | (go_at_call 64; refine (compareZ_any _ _ _).mono ?_; rintro e w5 ⟨rfl, rfl⟩))
    all_goals go_wp2_with fail
    all_goals go_meet
    all_goals
      case rel => exact ⟨vint HC.out.symm, Lib.hid (by repeat (first | assumption | exact Below.refl _ _ | refine Below.drew ?_))⟩
  case rest => as_aux_lemma =>
    obtain ⟨rfl, HW⟩ := hcut
    go_wp2_with fail
    go_ret
    exact ⟨rfl, HB5.out.trans (HW.out.mono HB5.out.size)⟩
end Go.Proofs.YtneimcacpbepfaaGreatDoor

namespace Go.Proofs.YtneimcacpbepfaaGreatDoor
open Go.RowKit Go.Lib Go.Joins
set_option linter.unusedVariables false

theorem ltR_cmp (x y : Rg) : ltR x y = decide (cmpZ x.1 y.1 < 0) := (cmpZ_neg _ _).symm
theorem rgF_nil : rgF [] = [] := rfl
set_option maxHeartbeats 2000000 in
theorem sortedByR_any (B : Nat) (v : Value) (xs : List Rg) (w : World) (hown : w.ownsRow B 47 2 v xs.length (rgF xs)) (hn2 : xs.length ≤ 20) :
    Calls Tryz.prog 44 #[v, .func (.func 45) #[] #[]] w fun e w' => ∃ v', e = .returned v' ∧
      w'.ownsRow w.heap.size 47 2 v' (sortG ltR xs).length (rgF (sortG ltR xs)) ∧ Below w.heap.size w w' := by
  obtain ⟨i0, hi, hz0, hz1, hz2⟩ := info_parts infoRg
  have eg : ∀ args w, (callFunc 63 args).run Tryz.prog w = .ok (.enter 63 args) w := enters_of Tryz.func63 (by kernel_rfl) rfl
  have HEG := Lib.hid eg
  have HR := Lib.hid (rowz_own hown)
  have hcase : (v = .slice none 0 0 ∧ xs = []) ∨ ∃ ad cap, v = .slice (some ad) xs.length cap := by
    obtain ⟨hl, ⟨rfl, h0⟩ | ⟨g, c, cur, rfl, _⟩⟩ := hown
    · exact .inl ⟨rfl, List.eq_nil_of_length_eq_zero h0⟩
    · exact .inr ⟨_, _, rfl⟩
  have hl := sortG_len ltR xs
  rw [hl]
  clear eg hown
  -- behind the append: the copy lies in a row of its own, the key in its cell
  have key : ∀ (w1 : World) (g1 c1 : Nat), w1.ownsRow (w.heap.size + 1) 47 2 (.slice (some ⟨g1, 0, none⟩) xs.length c1) xs.length (rgF xs) → Below w.heap.size w w1 →
      w1.cell? ⟨w.heap.size, 0, none⟩ = some (.func (.func 45) #[] #[]) → w.heap.size < w1.heap.size →
      Calls Tryz.prog 62 #[.slice (some ⟨g1, 0, none⟩) xs.length c1, .func (.func 63) #[] #[.pointer (some ⟨w.heap.size, 0, none⟩)]] w1 fun e w' => e = .returned (.tuple #[]) ∧
        w'.ownsRow w.heap.size 47 2 (.slice (some ⟨g1, 0, none⟩) xs.length c1) xs.length (rgF (sortG ltR xs)) ∧ Below w.heap.size w w' := by
    intro w1 g1 c1 ho hb hk hlt
    have hg1 := (ho.lt g1 rfl).1
    refine (stableFuncR_any ltR (fun x y => cmpZ x.1 y.1) ltR_cmp g1 c1 xs.length (w.heap.size + 1) xs 63 #[.pointer (some ⟨w.heap.size, 0, none⟩)] w1 HEG.out
      (fun W hW x y => cmpClosureR_any x.1 x.2 y.1 y.2 w.heap.size W (Nat.lt_of_lt_of_le hlt hW.size) (hW.cell hk (by intro e; have e2 : w.heap.size = g1 := Option.some.inj e; omega))) rfl hn2 ho).mono ?_
    rintro e w2 ⟨h1, h2, h3⟩
    exact ⟨h1, ownz_base h2 (by omega), hb.grown h3 hb.size (fun k hk => by have e2 : g1 = k := Option.some.inj hk; omega)⟩
  have HKey := Lib.hid key
  clear key
  have hb0 : Below w.heap.size w ((w.alloc (.cells #[.func (.func 45) #[] #[]] 65)).alloc (.cells #[] 47)) := ((Below.refl w.heap.size w).alloc (Nat.le_refl _) _).alloc (by simp) _
  have hk0 : ((w.alloc (.cells #[.func (.func 45) #[] #[]] 65)).alloc (.cells #[] 47)).cell? ⟨w.heap.size, 0, none⟩ = some (.func (.func 45) #[] #[]) := by
    have := heap_first w (.cells #[.func (.func 45) #[] #[]] 65) (.cells #[] 47)
    simp [World.cell?, this]
  have ho0 : ((w.alloc (.cells #[.func (.func 45) #[] #[]] 65)).alloc (.cells #[] 47)).ownsRow (w.heap.size + 1) 47 2 (.slice (some ⟨w.heap.size + 1, 0, none⟩) 0 0) 0 [] := by
    have h := lit_none (w.alloc (.cells #[.func (.func 45) #[] #[]] 65)) (w.heap.size + 1) (by simp)
    rw [rgF_nil] at h
    simpa using h
  have HB0 := Lib.hid hb0
  have HK0 := Lib.hid hk0
  have HO0 := Lib.hid ho0
  clear hb0 hk0 ho0
  rcases hcase with ⟨rfl, rfl⟩ | ⟨ad, cap, rfl⟩
  · go_enter Tryz.func44, Tryz.ntmps44
    go_wp2_with (at_builtin; refine wpList_append_own_none rfl _ _ 24 rfl (w.heap.size + 1) 47 i0 2 Tryz.underlying24 hi _ 0 [] rfl HO0.out rfl ?_)
    refine (HKey.out _ _ 0 HO0.out HB0.out HK0.out (by simp; omega)).mono ?_
    rintro e w2 ⟨rfl, ho, hb⟩
    have HO := Lib.hid ho
    have HB := Lib.hid hb
    clear ho hb
    go_wp2_with fail
    go_ret
    exact ⟨_, rfl, HO.out, HB.out⟩
  · go_enter Tryz.func44, Tryz.ntmps44
    go_wp2_with (at_builtin; refine wpList_append_own_at _ rfl _ _ 24 rfl (w.heap.size + 1) 47 i0 (.agg #[.int .i64 0, .int .i64 0]) 2 16 Tryz.underlying24 hi hz0 hz1 hz2 rfl (by decide) _ 0 [] rfl HO0.out ad xs.length cap (rgF xs) rfl (rgF_len xs) (row_news (HR.out.below HB0.out (Nat.le_refl _))) (rgF_one xs) (by unfold maxLen; omega) (by omega) (by simp) ?_; intro v1 w1 hown hgrow hnil hat)
    have hk1 := hgrow.cell HK0.out (by intro e; have e2 : w.heap.size = w.heap.size + 1 := Option.some.inj e; omega)
    have hb1 := HB0.out.grown hgrow HB0.out.size (fun k hk => by have e2 : w.heap.size + 1 = k := Option.some.inj hk; omega)
    have hlt1 : w.heap.size < w1.heap.size := Nat.lt_of_lt_of_le (by simp; omega) hgrow.size
    rw [Nat.zero_add, List.nil_append] at hown
    have hown0 := hown
    obtain ⟨hl2, ⟨hv, _⟩ | ⟨g1, c1, cur, rfl, hg1, _⟩⟩ := hown
    · cases (hnil.1 hv).1
    · have HS := Lib.hid (HKey.out w1 g1 c1 hown0 hb1 hk1 hlt1)
      clear hk1 hb1 hlt1 hown0 hgrow hnil hat hl2
      go_wp2_with fail
      refine HS.out.mono ?_
      rintro e w2 ⟨rfl, ho, hb⟩
      have HO := Lib.hid ho
      have HB := Lib.hid hb
      clear ho hb
      go_wp2_with fail
      go_ret
      exact ⟨_, rfl, HO.out, HB.out⟩
end Go.Proofs.YtneimcacpbepfaaGreatDoor
