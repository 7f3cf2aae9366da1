/-
  The laws' helpers at slices of Packets.
-/
import Derived.Test.YtlendmiolhgecaaPksR
import Derived.Test.YtlendmiolhgecaaMark
import Derived.Test.YtlendmiolhgecaaFit
import Derived.Laws.ResultCell
import Derived.WalkLawsBesides
import Derived.Deep.CutRange
import Derived.BigQuiet
import Derived.Deep.RegionHeld3
namespace Go.Proofs.Ytlendmiolhgecaa
open Go.RowKit Go.Lib Go.Joins
set_option linter.unusedVariables false

set_option maxHeartbeats 1000000 in
theorem eqPq_same (t : Pk) (w : World) :
    Calls Try.prog 38 #[.agg #[.int .i64 t.k, .int .i64 t.n, .int .i64 t.t, .int .i64 t.l, .string t.d], .agg #[.int .i64 t.k, .int .i64 t.n, .int .i64 t.t, .int .i64 t.l, .string t.d]] w fun e w' => e = .returned (.bool true) ∧ Below w.heap.size w w' := by
  go_enter Try.func38, Try.ntmps38
  go_wp2_with fail
  go_ret
  exact ⟨rfl, ((Below.refl _ _).alloc (Nat.le_refl _) _).alloc (by simp) _⟩
theorem keep10Pq {W w' : World} {a0 a1 a2 a3 a4 a5 a6 a7 a8 a9 : Addr} {v0 v1 v2 v3 v4 v5 v6 v7 v8 v9 : Value} {B : Nat} (h0 : W.cell? a0 = some v0) (h1 : W.cell? a1 = some v1) (h2 : W.cell? a2 = some v2) (h3 : W.cell? a3 = some v3) (h4 : W.cell? a4 = some v4) (h5 : W.cell? a5 = some v5) (h6 : W.cell? a6 = some v6) (h7 : W.cell? a7 = some v7) (h8 : W.cell? a8 = some v8) (h9 : W.cell? a9 = some v9)
    (b0 : a0.block < B) (b1 : a1.block < B) (b2 : a2.block < B) (b3 : a3.block < B) (b4 : a4.block < B) (b5 : a5.block < B) (b6 : a6.block < B) (b7 : a7.block < B) (b8 : a8.block < B) (b9 : a9.block < B) (hb : Below B W w') :
    w'.cell? a0 = some v0 ∧ w'.cell? a1 = some v1 ∧ w'.cell? a2 = some v2 ∧ w'.cell? a3 = some v3 ∧ w'.cell? a4 = some v4 ∧ w'.cell? a5 = some v5 ∧ w'.cell? a6 = some v6 ∧ w'.cell? a7 = some v7 ∧ w'.cell? a8 = some v8 ∧ w'.cell? a9 = some v9 ∧ Below B W w' :=
  ⟨(hb.cell b0).trans h0, (hb.cell b1).trans h1, (hb.cell b2).trans h2, (hb.cell b3).trans h3, (hb.cell b4).trans h4, (hb.cell b5).trans h5, (hb.cell b6).trans h6, (hb.cell b7).trans h7, (hb.cell b8).trans h8, (hb.cell b9).trans h9, hb⟩
set_option maxRecDepth 100000 in
set_option maxHeartbeats 4000000 in
theorem eqPqS_same (v1 v2 : Value) (s : List Pk) (w : World) (h1 : Row w v1 s.length (pqF s)) (h2 : Row w v2 s.length (pqF s)) :
    Calls Try.prog 40 #[v1, v2] w fun e w' => e = .returned (.bool true) ∧ Below w.heap.size w w' := by
  obtain ⟨a1, c1, rfl, hc1, hm1, hcell1⟩ := pq_open h1
  obtain ⟨a2, c2, rfl, hc2, hm2, hcell2⟩ := pq_open h2
  have HC1 := Lib.hid hcell1
  have HC2 := Lib.hid hcell2
  clear hcell1 hcell2 h1 h2
  unfold maxLen at hm1 hm2
  obtain ⟨n, hN⟩ : ∃ n, n = s.length := ⟨_, rfl⟩
  rw [← hN] at hc1 hc2 ⊢
  have HN := Lib.hid hN
  clear hN
  have HR0 := Lib.hid (Below.refl w.heap.size w)
  go_enter Try.func40, Try.ntmps40
  go_wp2_with fail
  go_loopw [5] (fun i wr => ∃ k : Nat, k ≤ n ∧ i = .int .i64 k ∧ Hid (Below w.heap.size w wr)) (fun i _ => n - (RowKit.intOf i).toNat)
  case atStart => exact ⟨0, Nat.zero_le _, rfl, HR0⟩
  case round =>
    clear HR0
    obtain ⟨k, hk, rfl, HB⟩ := hrel
    by_cases hkn : k < n
    · have hks : k < s.length := by rw [← HN.out]; exact hkn
      obtain ⟨b1, o1, rfl, hb1, p0, p1, p2, p3, p4⟩ := HC1.out k hks
      obtain ⟨b2, o2, rfl, hb2, p5, p6, p7, p8, p9⟩ := HC2.out k hks
      have q0 := (HB.out.cell hb1).trans p0
      have q1 := (HB.out.cell hb1).trans p1
      have q2 := (HB.out.cell hb1).trans p2
      have q3 := (HB.out.cell hb1).trans p3
      have q4 := (HB.out.cell hb1).trans p4
      have q5 := (HB.out.cell hb2).trans p5
      have q6 := (HB.out.cell hb2).trans p6
      have q7 := (HB.out.cell hb2).trans p7
      have q8 := (HB.out.cell hb2).trans p8
      have q9 := (HB.out.cell hb2).trans p9
      have g1 : b1 < wr.heap.size := Nat.lt_of_lt_of_le hb1 HB.out.size
      have g2 : b2 < wr.heap.size := Nat.lt_of_lt_of_le hb2 HB.out.size
      clear p0 p1 p2 p3 p4 p5 p6 p7 p8 p9
      generalize s[k].k = x0 at q0 q5
      generalize s[k].n = x1 at q1 q6
      generalize s[k].t = x2 at q2 q7
      generalize s[k].l = x3 at q3 q8
      generalize s[k].d = x4 at q4 q9
      obtain ⟨W0, hW0⟩ : ∃ W0, W0 = wr := ⟨_, rfl⟩
      have HQ := Lib.hid (fun (w' : World) (hb : Below W0.heap.size W0 w') => keep10Pq (hW0 ▸ q0) (hW0 ▸ q1) (hW0 ▸ q2) (hW0 ▸ q3) (hW0 ▸ q4) (hW0 ▸ q5) (hW0 ▸ q6) (hW0 ▸ q7) (hW0 ▸ q8) (hW0 ▸ q9) (by rw [hW0]; exact g1) (by rw [hW0]; exact g1) (by rw [hW0]; exact g1) (by rw [hW0]; exact g1) (by rw [hW0]; exact g1) (by rw [hW0]; exact g2) (by rw [hW0]; exact g2) (by rw [hW0]; exact g2) (by rw [hW0]; exact g2) (by rw [hW0]; exact g2) hb)
      have HBW : Hid (Below w.heap.size w W0) := Lib.hid (by rw [hW0]; exact HB.out)
      rw [← hW0] at q0 q1 q2 q3 q4 q5 q6 q7 q8 q9 ⊢
      clear hW0 HB g1 g2
      go_wp2_with fail
      go_region_held3 (fun w' => w'.cell? ⟨b1, o1 + k * 5, none⟩ = some (.int .i64 x0) ∧ w'.cell? ⟨b1, o1 + k * 5 + 1, none⟩ = some (.int .i64 x1) ∧ w'.cell? ⟨b1, o1 + k * 5 + 2, none⟩ = some (.int .i64 x2) ∧ w'.cell? ⟨b1, o1 + k * 5 + 3, none⟩ = some (.int .i64 x3) ∧ w'.cell? ⟨b1, o1 + k * 5 + 4, none⟩ = some (.string x4) ∧ w'.cell? ⟨b2, o2 + k * 5, none⟩ = some (.int .i64 x0) ∧ w'.cell? ⟨b2, o2 + k * 5 + 1, none⟩ = some (.int .i64 x1) ∧ w'.cell? ⟨b2, o2 + k * 5 + 2, none⟩ = some (.int .i64 x2) ∧ w'.cell? ⟨b2, o2 + k * 5 + 3, none⟩ = some (.int .i64 x3) ∧ w'.cell? ⟨b2, o2 + k * 5 + 4, none⟩ = some (.string x4) ∧ Below W0.heap.size W0 w')
        ((refine HQ.out _ ?_; repeat (first | assumption | exact Below.refl _ _ | refine Below.drew ?_)))
        (first | (go_at_call 38; refine (eqPq_same ⟨x0, x1, x2, x3, x4⟩ _).mono ?_; rintro e w5 ⟨rfl, l5⟩; have hb5 := below_call (W0 := W0) (by repeat (first | assumption | exact Below.refl _ _ | refine Below.drew ?_)) l5))
      all_goals go_wp2_with fail
      all_goals
        go_roundw
        case rel => exact ⟨k + 1, by omega, by go_num, Lib.hid (HBW.out.trans (Below.mono (by repeat (first | assumption | exact Below.refl _ _ | refine Below.drew ?_) : Below W0.heap.size W0 _) HBW.out.size))⟩
        case measure => (simp [RowKit.intOf]; omega)
    · obtain rfl : k = n := by omega
      go_wp2_with fail
      go_ret
      exact ⟨rfl, HB.out⟩
/-- The marks of one element. -/
def mkPqE (k : Nat) : List Value := [.int .i64 ((k : Nat) : Int), .int .i64 ((k + 1 : Nat) : Int), .int .i64 ((k + 2 : Nat) : Int), .int .i64 ((k + 3 : Nat) : Int), .string (mkT (k + 4))]
def mkPq (k n : Nat) : List Value := flatZ (fun i => mkPqE (k + 5 * i)) (List.range n)
theorem mkPq_len (k n : Nat) : (mkPq k n).length = n * 5 := by rw [show mkPq k n = flatZ (fun i => mkPqE (k + 5 * i)) (List.range n) from rfl, flat_len (z := 5) (fun _ => rfl), List.length_range]
theorem mkPq_succ (k j : Nat) : mkPq k (j + 1) = mkPq k j ++ mkPqE (k + 5 * j) := by unfold mkPq; rw [List.range_succ, flat_append, flat_one]
theorem mkPq_at (k n i : Nat) (h : i < n) : (mkPq k n)[i * 5]? = some (.int .i64 ((k + 5 * i : Nat) : Int)) ∧ (mkPq k n)[i * 5 + 1]? = some (.int .i64 ((k + 5 * i + 1 : Nat) : Int)) ∧ (mkPq k n)[i * 5 + 2]? = some (.int .i64 ((k + 5 * i + 2 : Nat) : Int)) ∧ (mkPq k n)[i * 5 + 3]? = some (.int .i64 ((k + 5 * i + 3 : Nat) : Int)) ∧ (mkPq k n)[i * 5 + 4]? = some (.string (mkT (k + 5 * i + 4))) := by
  have hi : i < (List.range n).length := by rw [List.length_range]; exact h
  have e := fun j (hj : j < 5) => flat_get (z := 5) (f := fun i => mkPqE (k + 5 * i)) (fun _ => rfl) (List.range n) i j hi hj
  rw [List.getElem_range] at e
  exact ⟨e 0 (by omega), e 1 (by omega), e 2 (by omega), e 3 (by omega), e 4 (by omega)⟩
theorem mkPq_sets (k j : Nat) (xs : List Value) (h : j * 5 + 5 ≤ xs.length) : ((((((mkPq k j ++ xs.drop (j * 5)).set (j * 5) (.int .i64 ((k + 5 * j : Nat) : Int))).set (j * 5 + 1) (.int .i64 ((k + 5 * j + 1 : Nat) : Int))).set (j * 5 + 2) (.int .i64 ((k + 5 * j + 2 : Nat) : Int))).set (j * 5 + 3) (.int .i64 ((k + 5 * j + 3 : Nat) : Int))).set (j * 5 + 4) (.string (mkT (k + 5 * j + 4)))) = mkPq k (j + 1) ++ xs.drop ((j + 1) * 5) := by
  have hl := mkPq_len k j
  obtain ⟨y0, y1, y2, y3, y4, r, hr⟩ : ∃ y0 y1 y2 y3 y4 r, xs.drop (j * 5) = y0 :: y1 :: y2 :: y3 :: y4 :: r := by
    have hlen : (xs.drop (j * 5)).length = xs.length - j * 5 := List.length_drop
    match hx : xs.drop (j * 5) with
    | [] => rw [hx] at hlen; simp at hlen; omega
    | [_] => rw [hx] at hlen; simp at hlen; omega
    | [_, _] => rw [hx] at hlen; simp at hlen; omega
    | [_, _, _] => rw [hx] at hlen; simp at hlen; omega
    | [_, _, _, _] => rw [hx] at hlen; simp at hlen; omega
    | y0 :: y1 :: y2 :: y3 :: y4 :: r => exact ⟨_, _, _, _, _, _, rfl⟩
  have hr2 : xs.drop ((j + 1) * 5) = r := by
    rw [show (j + 1) * 5 = j * 5 + 5 by omega, ← List.drop_drop, hr]; rfl
  rw [hr2, hr, mkPq_succ, List.append_assoc]
  simp only [List.set_append, hl, show ¬ (j * 5 + 1 < j * 5) by omega, show ¬ (j * 5 + 2 < j * 5) by omega, show ¬ (j * 5 + 3 < j * 5) by omega, show ¬ (j * 5 + 4 < j * 5) by omega, Nat.lt_irrefl, if_false, Nat.sub_self, Nat.add_sub_cancel_left, List.set_cons_zero, List.set_cons_succ, mkPqE, List.cons_append, List.nil_append]
end Go.Proofs.Ytlendmiolhgecaa
