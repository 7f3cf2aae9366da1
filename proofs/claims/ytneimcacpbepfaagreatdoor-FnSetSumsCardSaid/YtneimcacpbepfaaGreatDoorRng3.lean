/-
  Sets as ranges: a range left out, by the specification.
-/
import Derived.Test.YtneimcacpbepfaaGreatDoorRng2
namespace Go.Proofs.YtneimcacpbepfaaGreatDoor
open Go.RowKit Go.Lib Go.Joins
set_option linter.unusedVariables false

theorem remG_cons (a : Rg) (s : List Rg) (r : Rg) : remG (a :: s) r = cutR r a ++ remG s r := by unfold remG; rw [List.flatMap_cons]
section
variable {zs l goal : List Rg} {p q f t : Int}
theorem rem_both (h : zs ++ remG ((p, q) :: l) (f, t) = goal) (hA : p < f) (hB : t < q) : zs ++ [(p, min q (f - 1))] ++ [(max p (t + 1), q)] ++ remG l (f, t) = goal := by
  rw [← h, remG_cons]
  simp [cutR, hA, hB]
theorem rem_left (h : zs ++ remG ((p, q) :: l) (f, t) = goal) (hA : p < f) (hB : ¬ t < q) : zs ++ [(p, min q (f - 1))] ++ remG l (f, t) = goal := by
  rw [← h, remG_cons]
  simp [cutR, hA, hB]
theorem rem_right (h : zs ++ remG ((p, q) :: l) (f, t) = goal) (hA : ¬ p < f) (hB : t < q) : zs ++ [(max p (t + 1), q)] ++ remG l (f, t) = goal := by
  rw [← h, remG_cons]
  simp [cutR, hA, hB]
theorem rem_none (h : zs ++ remG ((p, q) :: l) (f, t) = goal) (hA : ¬ p < f) (hB : ¬ t < q) : zs ++ remG l (f, t) = goal := by
  rw [← h, remG_cons]
  simp [cutR, hA, hB]
theorem rem_len3 {a : List Rg} (h : a ++ l = goal) : a.length ≤ goal.length := by rw [← h]; simp
end
set_option maxRecDepth 100000 in
set_option maxHeartbeats 4000000 in
theorem l5Remove_any (v : Value) (s : List Rg) (f t : Int) (w : World) (hrow : Row w v s.length (rgF s)) (hc : rgCh s) (h0 : 0 ≤ f) (h1 : f ≤ t) (h2 : t ≤ 65535) :
    Calls Tryz.prog 49 #[v, .agg #[.int .i64 f, .int .i64 t]] w fun e w' => ∃ v', e = .returned v' ∧ w'.ownsRow w.heap.size 47 2 v' (remG s (f, t)).length (rgF (remG s (f, t))) ∧ Below w.heap.size w w' := by
  obtain ⟨i0, hi, hz0, hz1, hz2⟩ := info_parts infoRg
  have hlen := rg_len (remG_good s (f, t) hc h1).1
  have hR0 : [] ++ remG (s.drop 0) (f, t) = remG s (f, t) := by simp
  obtain ⟨a, cap, rfl, hc1, hm1, hcell⟩ := rg_open hrow
  have HC := Lib.hid hcell
  have HCh := Lib.hid hc
  unfold maxLen at hm1
  have HA0 := Lib.hid (addS_new w f t)
  have HR0 := Lib.hid hR0
  generalize remG s (f, t) = goal at *
  obtain ⟨n, hN⟩ : ∃ n, n = s.length := ⟨_, rfl⟩
  rw [← hN] at hc1 ⊢
  have HN := Lib.hid hN
  clear hcell hrow hc hR0 hN
  have wf : IntKind.i64.wrap (f - 1) = f - 1 := IntWalk.i64_in _ (by omega)
  have wt : IntKind.i64.wrap (t + 1) = t + 1 := IntWalk.i64_in _ (by omega)
  go_enter Tryz.func49, Tryz.ntmps49
  go_wp2_with fail
  go_loopw [5, 6] (fun o i wr => ∃ (k g c : Nat) (zs : List Rg), k ≤ n ∧ i = .int .i64 k ∧ o = .slice (some ⟨g, 0, none⟩) zs.length c ∧ Hid (AddS w wr g c zs f t) ∧ Hid (zs ++ remG (s.drop k) (f, t) = goal)) (fun _ i _ => n - (intOf i).toNat)
  case atStart => exact ⟨0, w.heap.size + 1, 0, [], Nat.zero_le _, rfl, rfl, HA0, HR0⟩
  case round =>
    clear HA0 HR0
    obtain ⟨k, g, c, zs, hk, rfl, rfl, HA, HR⟩ := hrel
    have hzl := rem_len3 HR.out
    by_cases hkn : k < n
    · have hks : k < s.length := by rw [← HN.out]; exact hkn
      obtain ⟨b, off, rfl, hb, hf, ht⟩ := HC.out k hks
      have hf1 : wr.cell? ⟨b, off + k * 2, none⟩ = some (.int .i64 s[k].1) := (HA.out.bel.cell hb).trans hf
      have ht1 : wr.cell? ⟨b, off + k * 2 + 1, none⟩ = some (.int .i64 s[k].2) := (HA.out.bel.cell hb).trans ht
      have hv := HCh.out.2 s[k] (List.getElem_mem hks)
      have hdr : s.drop k = s[k] :: s.drop (k + 1) := List.drop_eq_getElem_cons hks
      rw [hdr] at HR
      clear hdr
      obtain ⟨p, q, hpq⟩ : ∃ p q, s[k] = (p, q) := ⟨_, _, rfl⟩
      rw [hpq] at hf1 ht1 hv HR hf ht
      simp only at hf1 ht1 hv hf ht
      obtain ⟨p0, pq, q1⟩ := hv
      clear hpq
      obtain ⟨r0, r1⟩ := HA.out.blk.cells
      by_cases hA : p < f
      · have hdA : decide (p < f) = true := decide_eq_true hA
        by_cases hB : t < q
        · have hdB : decide (t < q) = true := decide_eq_true hB
          have HR := Lib.hid (rem_both HR.out hA hB)
          have hl3 := rem_len3 HR.out
          simp only [List.length_append, List.length_cons, List.length_nil] at hl3
          go_wp2_with fail
          go_quiet (fail)
          have HA1 := Lib.hid (HA.out.drewN nq)
          have hf2 : (wr.drewN nq).cell? ⟨b, off + k * 2, none⟩ = some (.int .i64 p) := hf1
          have ht2 : (wr.drewN nq).cell? ⟨b, off + k * 2 + 1, none⟩ = some (.int .i64 q) := ht1
          obtain ⟨wq, hwq⟩ : ∃ W9, W9 = wr.drewN nq := ⟨_, rfl⟩
          rw [← hwq] at HA1 hf2 ht2 ⊢
          clear hwq hf1 ht1 HA r0 r1
          have hf1 := hf2
          have ht1 := ht2
          clear hf2 ht2
          obtain ⟨r0, r1⟩ := HA1.out.blk.cells
          go_wp2_with fail
          have hgk := (HA1.out.own.lt g rfl).1
          have hbg : b ≠ g := by omega
          have hrg : w.heap.size ≠ g := by omega
          have hbs := HA1.out.bel.size
          go_region_held3 (fun w' => w'.cell? ⟨b, off + k * 2, none⟩ = some (.int .i64 p) ∧ w'.cell? ⟨b, off + k * 2 + 1, none⟩ = some (.int .i64 q) ∧ w'.cell? ⟨w.heap.size, 0, none⟩ = some (.int .i64 f) ∧ w'.cell? ⟨w.heap.size, 1, none⟩ = some (.int .i64 t) ∧ wq.grownBy w' (some g))
            ((refine held4 hf1 ht1 r0 r1 hbg hrg ?_; repeat (first | assumption | exact gr_self _ _ | refine gr_drew ?_ | refine gr_alloc ?_)))
            (first | (go_at_call 43; refine (l1Least_any _ _ _).mono ?_; rintro e _ ⟨rfl, rfl⟩) | (refine step_append_rowz (by rfl) _ _ _ (by rfl) (w.heap.size + 1) 47 i0 (.agg #[.int .i64 0, .int .i64 0]) 2 16 Tryz.underlying24 hi hz0 hz1 hz2 rfl (by decide) _ zs.length (rgF zs) (by rfl) (ownz_none HA1.out.own (by repeat (first | assumption | exact gr_self _ _ | refine gr_drew ?_ | refine gr_alloc ?_))) _ 1 1 [.int .i64 p, .int .i64 (min q (f - 1))] (by rfl) (row_lit2 (heap_alloc_new _ _)) rfl (by intro u hu; simp at hu; rcases hu with rfl | rfl <;> rfl) (by unfold maxLen; omega) (by omega) (by first | (simp; omega) | omega) ?_; intro v1 w4 hown1 hgrow1 hat1; have hg1 : wq.grownBy w4 (some g) := grown_trans (by repeat (first | assumption | exact gr_self _ _ | refine gr_drew ?_ | refine gr_alloc ?_)) hgrow1))
          obtain ⟨g4, c4, rfl, hs'⟩ := HA1.out.app2 hown1 hg1
          have HA3 := Lib.hid hs'
          clear hown1 hgrow1 hat1 hg1 hs' hf1 ht1 r0 r1 HA1 hgk hbg hrg hbs
          obtain ⟨zs1, hz5⟩ : ∃ z5, z5 = zs ++ [(p, min q (f - 1))] := ⟨_, rfl⟩
          have hl4 : zs1.length ≤ zs.length + 1 := by rw [hz5]; simp
          rw [← hz5] at HA3 HR ⊢
          clear hz5
          have hf1 : w4.cell? ⟨b, off + k * 2, none⟩ = some (.int .i64 p) := (HA3.out.bel.cell hb).trans hf
          have ht1 : w4.cell? ⟨b, off + k * 2 + 1, none⟩ = some (.int .i64 q) := (HA3.out.bel.cell hb).trans ht
          obtain ⟨r0, r1⟩ := HA3.out.blk.cells
          go_wp2_with fail
          go_quiet (fail)
          have HA4 := Lib.hid (HA3.out.drewN nq)
          have hf2 : (w4.drewN nq).cell? ⟨b, off + k * 2, none⟩ = some (.int .i64 p) := hf1
          have ht2 : (w4.drewN nq).cell? ⟨b, off + k * 2 + 1, none⟩ = some (.int .i64 q) := ht1
          obtain ⟨wu, hwq⟩ : ∃ W9, W9 = w4.drewN nq := ⟨_, rfl⟩
          rw [← hwq] at HA4 hf2 ht2 ⊢
          clear hwq hf1 ht1 HA3 r0 r1
          have hf1 := hf2
          have ht1 := ht2
          clear hf2 ht2
          obtain ⟨r0, r1⟩ := HA4.out.blk.cells
          go_wp2_with fail
          have hgk := (HA4.out.own.lt g4 rfl).1
          have hbg : b ≠ g4 := by omega
          have hrg : w.heap.size ≠ g4 := by omega
          have hbs := HA4.out.bel.size
          go_region_held3 (fun w' => w'.cell? ⟨b, off + k * 2, none⟩ = some (.int .i64 p) ∧ w'.cell? ⟨b, off + k * 2 + 1, none⟩ = some (.int .i64 q) ∧ w'.cell? ⟨w.heap.size, 0, none⟩ = some (.int .i64 f) ∧ w'.cell? ⟨w.heap.size, 1, none⟩ = some (.int .i64 t) ∧ wu.grownBy w' (some g4))
            ((refine held4 hf1 ht1 r0 r1 hbg hrg ?_; repeat (first | assumption | exact gr_self _ _ | refine gr_drew ?_ | refine gr_alloc ?_)))
            (first | (go_at_call 48; refine (l1Most_any _ _ _).mono ?_; rintro e _ ⟨rfl, rfl⟩) | (refine step_append_rowz (by rfl) _ _ _ (by rfl) (w.heap.size + 1) 47 i0 (.agg #[.int .i64 0, .int .i64 0]) 2 16 Tryz.underlying24 hi hz0 hz1 hz2 rfl (by decide) _ zs1.length (rgF zs1) (by rfl) (ownz_none HA4.out.own (by repeat (first | assumption | exact gr_self _ _ | refine gr_drew ?_ | refine gr_alloc ?_))) _ 1 1 [.int .i64 (max p (t + 1)), .int .i64 q] (by rfl) (row_lit2 (heap_alloc_new _ _)) rfl (by intro u hu; simp at hu; rcases hu with rfl | rfl <;> rfl) (by unfold maxLen; omega) (by omega) (by first | (simp; omega) | omega) ?_; intro v1 w6 hown1 hgrow1 hat1; have hg1 : wu.grownBy w6 (some g4) := grown_trans (by repeat (first | assumption | exact gr_self _ _ | refine gr_drew ?_ | refine gr_alloc ?_)) hgrow1))
          obtain ⟨g6, c6, rfl, hs'⟩ := HA4.out.app2 hown1 hg1
          have HA6 := Lib.hid hs'
          clear hown1 hgrow1 hat1 hg1 hs' hf1 ht1 r0 r1 HA4 hgk hbg hrg hbs
          go_wp2_with fail
          go_roundw
          case rel => exact ⟨k + 1, g6, c6, zs1 ++ [(max p (t + 1), q)], by omega, by go_num, rfl, HA6, HR⟩
          case measure => (simp [intOf]; omega)
        · have hdB : decide (t < q) = false := decide_eq_false hB
          have HR := Lib.hid (rem_left HR.out hA hB)
          have hl3 := rem_len3 HR.out
          simp only [List.length_append, List.length_cons, List.length_nil] at hl3
          go_wp2_with fail
          go_quiet (fail)
          have HA1 := Lib.hid (HA.out.drewN nq)
          have hf2 : (wr.drewN nq).cell? ⟨b, off + k * 2, none⟩ = some (.int .i64 p) := hf1
          have ht2 : (wr.drewN nq).cell? ⟨b, off + k * 2 + 1, none⟩ = some (.int .i64 q) := ht1
          obtain ⟨wq, hwq⟩ : ∃ W9, W9 = wr.drewN nq := ⟨_, rfl⟩
          rw [← hwq] at HA1 hf2 ht2 ⊢
          clear hwq hf1 ht1 HA r0 r1
          have hf1 := hf2
          have ht1 := ht2
          clear hf2 ht2
          obtain ⟨r0, r1⟩ := HA1.out.blk.cells
          go_wp2_with fail
          have hgk := (HA1.out.own.lt g rfl).1
          have hbg : b ≠ g := by omega
          have hrg : w.heap.size ≠ g := by omega
          have hbs := HA1.out.bel.size
          go_region_held3 (fun w' => w'.cell? ⟨b, off + k * 2, none⟩ = some (.int .i64 p) ∧ w'.cell? ⟨b, off + k * 2 + 1, none⟩ = some (.int .i64 q) ∧ w'.cell? ⟨w.heap.size, 0, none⟩ = some (.int .i64 f) ∧ w'.cell? ⟨w.heap.size, 1, none⟩ = some (.int .i64 t) ∧ wq.grownBy w' (some g))
            ((refine held4 hf1 ht1 r0 r1 hbg hrg ?_; repeat (first | assumption | exact gr_self _ _ | refine gr_drew ?_ | refine gr_alloc ?_)))
            (first | (go_at_call 43; refine (l1Least_any _ _ _).mono ?_; rintro e _ ⟨rfl, rfl⟩) | (refine step_append_rowz (by rfl) _ _ _ (by rfl) (w.heap.size + 1) 47 i0 (.agg #[.int .i64 0, .int .i64 0]) 2 16 Tryz.underlying24 hi hz0 hz1 hz2 rfl (by decide) _ zs.length (rgF zs) (by rfl) (ownz_none HA1.out.own (by repeat (first | assumption | exact gr_self _ _ | refine gr_drew ?_ | refine gr_alloc ?_))) _ 1 1 [.int .i64 p, .int .i64 (min q (f - 1))] (by rfl) (row_lit2 (heap_alloc_new _ _)) rfl (by intro u hu; simp at hu; rcases hu with rfl | rfl <;> rfl) (by unfold maxLen; omega) (by omega) (by first | (simp; omega) | omega) ?_; intro v1 w4 hown1 hgrow1 hat1; have hg1 : wq.grownBy w4 (some g) := grown_trans (by repeat (first | assumption | exact gr_self _ _ | refine gr_drew ?_ | refine gr_alloc ?_)) hgrow1))
          obtain ⟨g4, c4, rfl, hs'⟩ := HA1.out.app2 hown1 hg1
          have HA3 := Lib.hid hs'
          clear hown1 hgrow1 hat1 hg1 hs' hf1 ht1 r0 r1 HA1 hgk hbg hrg hbs
          obtain ⟨zs1, hz5⟩ : ∃ z5, z5 = zs ++ [(p, min q (f - 1))] := ⟨_, rfl⟩
          have hl4 : zs1.length ≤ zs.length + 1 := by rw [hz5]; simp
          rw [← hz5] at HA3 HR ⊢
          clear hz5
          have hf1 : w4.cell? ⟨b, off + k * 2, none⟩ = some (.int .i64 p) := (HA3.out.bel.cell hb).trans hf
          have ht1 : w4.cell? ⟨b, off + k * 2 + 1, none⟩ = some (.int .i64 q) := (HA3.out.bel.cell hb).trans ht
          obtain ⟨r0, r1⟩ := HA3.out.blk.cells
          go_wp2_with fail
          go_quiet (fail)
          have HA4 := Lib.hid (HA3.out.drewN nq)
          have hf2 : (w4.drewN nq).cell? ⟨b, off + k * 2, none⟩ = some (.int .i64 p) := hf1
          have ht2 : (w4.drewN nq).cell? ⟨b, off + k * 2 + 1, none⟩ = some (.int .i64 q) := ht1
          obtain ⟨wu, hwq⟩ : ∃ W9, W9 = w4.drewN nq := ⟨_, rfl⟩
          rw [← hwq] at HA4 hf2 ht2 ⊢
          clear hwq hf1 ht1 HA3 r0 r1
          have hf1 := hf2
          have ht1 := ht2
          clear hf2 ht2
          obtain ⟨r0, r1⟩ := HA4.out.blk.cells
          go_wp2_with fail
          go_roundw
          case rel => exact ⟨k + 1, g4, c4, zs1, by omega, by go_num, rfl, HA4, HR⟩
          case measure => (simp [intOf]; omega)
      · have hdA : decide (p < f) = false := decide_eq_false hA
        by_cases hB : t < q
        · have hdB : decide (t < q) = true := decide_eq_true hB
          have HR := Lib.hid (rem_right HR.out hA hB)
          have hl3 := rem_len3 HR.out
          simp only [List.length_append, List.length_cons, List.length_nil] at hl3
          go_wp2_with fail
          go_quiet (fail)
          have HA1 := Lib.hid (HA.out.drewN nq)
          have hf2 : (wr.drewN nq).cell? ⟨b, off + k * 2, none⟩ = some (.int .i64 p) := hf1
          have ht2 : (wr.drewN nq).cell? ⟨b, off + k * 2 + 1, none⟩ = some (.int .i64 q) := ht1
          obtain ⟨wq, hwq⟩ : ∃ W9, W9 = wr.drewN nq := ⟨_, rfl⟩
          rw [← hwq] at HA1 hf2 ht2 ⊢
          clear hwq hf1 ht1 HA r0 r1
          have hf1 := hf2
          have ht1 := ht2
          clear hf2 ht2
          obtain ⟨r0, r1⟩ := HA1.out.blk.cells
          go_wp2_with fail
          go_quiet (fail)
          have HA4 := Lib.hid (HA1.out.drewN nq)
          have hf2 : (wq.drewN nq).cell? ⟨b, off + k * 2, none⟩ = some (.int .i64 p) := hf1
          have ht2 : (wq.drewN nq).cell? ⟨b, off + k * 2 + 1, none⟩ = some (.int .i64 q) := ht1
          obtain ⟨wu, hwq⟩ : ∃ W9, W9 = wq.drewN nq := ⟨_, rfl⟩
          rw [← hwq] at HA4 hf2 ht2 ⊢
          clear hwq hf1 ht1 HA1 r0 r1
          have hf1 := hf2
          have ht1 := ht2
          clear hf2 ht2
          obtain ⟨r0, r1⟩ := HA4.out.blk.cells
          go_wp2_with fail
          have hgk := (HA4.out.own.lt g rfl).1
          have hbg : b ≠ g := by omega
          have hrg : w.heap.size ≠ g := by omega
          have hbs := HA4.out.bel.size
          go_region_held3 (fun w' => w'.cell? ⟨b, off + k * 2, none⟩ = some (.int .i64 p) ∧ w'.cell? ⟨b, off + k * 2 + 1, none⟩ = some (.int .i64 q) ∧ w'.cell? ⟨w.heap.size, 0, none⟩ = some (.int .i64 f) ∧ w'.cell? ⟨w.heap.size, 1, none⟩ = some (.int .i64 t) ∧ wu.grownBy w' (some g))
            ((refine held4 hf1 ht1 r0 r1 hbg hrg ?_; repeat (first | assumption | exact gr_self _ _ | refine gr_drew ?_ | refine gr_alloc ?_)))
            (first | (go_at_call 48; refine (l1Most_any _ _ _).mono ?_; rintro e _ ⟨rfl, rfl⟩) | (refine step_append_rowz (by rfl) _ _ _ (by rfl) (w.heap.size + 1) 47 i0 (.agg #[.int .i64 0, .int .i64 0]) 2 16 Tryz.underlying24 hi hz0 hz1 hz2 rfl (by decide) _ zs.length (rgF zs) (by rfl) (ownz_none HA4.out.own (by repeat (first | assumption | exact gr_self _ _ | refine gr_drew ?_ | refine gr_alloc ?_))) _ 1 1 [.int .i64 (max p (t + 1)), .int .i64 q] (by rfl) (row_lit2 (heap_alloc_new _ _)) rfl (by intro u hu; simp at hu; rcases hu with rfl | rfl <;> rfl) (by unfold maxLen; omega) (by omega) (by first | (simp; omega) | omega) ?_; intro v1 w6 hown1 hgrow1 hat1; have hg1 : wu.grownBy w6 (some g) := grown_trans (by repeat (first | assumption | exact gr_self _ _ | refine gr_drew ?_ | refine gr_alloc ?_)) hgrow1))
          obtain ⟨g6, c6, rfl, hs'⟩ := HA4.out.app2 hown1 hg1
          have HA6 := Lib.hid hs'
          clear hown1 hgrow1 hat1 hg1 hs' hf1 ht1 r0 r1 HA4 hgk hbg hrg hbs
          go_wp2_with fail
          go_roundw
          case rel => exact ⟨k + 1, g6, c6, zs ++ [(max p (t + 1), q)], by omega, by go_num, rfl, HA6, HR⟩
          case measure => (simp [intOf]; omega)
        · have hdB : decide (t < q) = false := decide_eq_false hB
          have HR := Lib.hid (rem_none HR.out hA hB)
          go_wp2_with fail
          go_quiet (fail)
          have HA1 := Lib.hid (HA.out.drewN nq)
          have hf2 : (wr.drewN nq).cell? ⟨b, off + k * 2, none⟩ = some (.int .i64 p) := hf1
          have ht2 : (wr.drewN nq).cell? ⟨b, off + k * 2 + 1, none⟩ = some (.int .i64 q) := ht1
          obtain ⟨wq, hwq⟩ : ∃ W9, W9 = wr.drewN nq := ⟨_, rfl⟩
          rw [← hwq] at HA1 hf2 ht2 ⊢
          clear hwq hf1 ht1 HA r0 r1
          have hf1 := hf2
          have ht1 := ht2
          clear hf2 ht2
          obtain ⟨r0, r1⟩ := HA1.out.blk.cells
          go_wp2_with fail
          go_quiet (fail)
          have HA4 := Lib.hid (HA1.out.drewN nq)
          have hf2 : (wq.drewN nq).cell? ⟨b, off + k * 2, none⟩ = some (.int .i64 p) := hf1
          have ht2 : (wq.drewN nq).cell? ⟨b, off + k * 2 + 1, none⟩ = some (.int .i64 q) := ht1
          obtain ⟨wu, hwq⟩ : ∃ W9, W9 = wq.drewN nq := ⟨_, rfl⟩
          rw [← hwq] at HA4 hf2 ht2 ⊢
          clear hwq hf1 ht1 HA1 r0 r1
          have hf1 := hf2
          have ht1 := ht2
          clear hf2 ht2
          obtain ⟨r0, r1⟩ := HA4.out.blk.cells
          go_wp2_with fail
          go_roundw
          case rel => exact ⟨k + 1, g, c, zs, by omega, by go_num, rfl, HA4, HR⟩
          case measure => (simp [intOf]; omega)
    · obtain rfl : k = n := by omega
      have hdn : s.drop k = [] := List.drop_eq_nil_of_le (by rw [HN.out]; exact Nat.le_refl _)
      rw [hdn] at HR
      clear hdn
      have HE : Hid (zs = goal) := Lib.hid (by have := HR.out; simpa [remG] using this)
      go_wp2_with fail
      go_ret
      exact ⟨_, rfl, by rw [← HE.out]; exact ownz_base HA.out.own (by omega), HA.out.bel⟩
end Go.Proofs.YtneimcacpbepfaaGreatDoor
