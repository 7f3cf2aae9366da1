/-
  Receive windows: the program's GiveUpTo.
-/
import Derived.Test.YtpmjdppipalfcaaRcvI4
import Derived.Deep.QuietTactic
import Derived.BigQuiet
import Derived.IntWalk
import Derived.Deep.CutRange
import Derived.WalkLawsBesides
import Derived.Lib.SmallJoins
import Derived.Deep.RegionHeld3
namespace Go.Proofs.Ytpmjdppipalfcaa
open Go.RowKit Go.Lib Go.Joins
set_option linter.unusedVariables false

set_option maxRecDepth 100000 in
set_option maxHeartbeats 16000000 in
theorem implGive_any (v : Value) (l : Rw) (w : World) (hrow : Row w v l.q.length (slF l.q)) (hs : ∀ s ∈ l.q, s.s.size ≤ maxLen) (n : Int) (hfit : FitA v l.q.length) :
    Calls Try.prog 13 #[.agg #[.int .i64 l.x, v], .int .i64 n] w fun e w' => ∃ v' u', e = .returned (.tuple #[.agg #[.int .i64 (giveV l n).x, v'], u', .bool (giveOk l n)]) ∧ w'.ownsRow w.heap.size 66 2 v' (giveV l n).q.length (slF (giveV l n).q) ∧ w'.ownsRow w.heap.size 9 1 u' (giveL l n).length ((giveL l n).map Value.string) ∧ (∀ k, v'.ownBlock = some k → u'.ownBlock ≠ some k) ∧ Below w.heap.size w w' := by
  obtain ⟨x, q⟩ := l
  dsimp only at hrow hfit hs ⊢
  obtain ⟨a, cap, rfl, hc1, hm1, _⟩ := sl_open hrow
  unfold maxLen at hm1
  have HP := Lib.hid hrow
  have HFit := Lib.hid hfit
  have HS := Lib.hid hs
  clear hrow hfit hs
  obtain ⟨W0, R_T, R_A, hW0, hR_T, hR_A, hX_T, hX_A, hB0⟩ := entry2 w #[.int .i64 x, .slice a q.length cap] #[.int .i64 0, .slice none 0 0] 26 26
  have HW0 := Lib.hid hW0
  have HB0 := Lib.hid hB0
  have HR_T := Lib.hid hR_T
  have HX_T := Lib.hid hX_T
  have HR_A := Lib.hid hR_A
  have HX_A := Lib.hid hX_A
  clear hW0 hB0 hR_T hX_T hR_A hX_A
  have HG := Lib.hid (fun (W1 : World) (hr : Row W1 (.slice a q.length cap) q.length (slF q)) => implIsRw_any (.slice a q.length cap) ⟨x, q⟩ W1 hr HS.out)
  have HBf := Lib.hid (fun (W1 : World) => implBefore_any n x W1)
  cases og : gapOk n x with
  | false =>
    rw [og] at HBf
    generalize befV n x = bf at HBf
    have ho : giveOk ⟨x, q⟩ n = false := give_no og
    have hv : giveV ⟨x, q⟩ n = rw0 := by unfold giveV; rw [ho]; rfl
    have hl : giveL ⟨x, q⟩ n = [] := by unfold giveL; rw [ho]; rfl
    rw [ho, hv, hl]
    clear ho hv hl
    dsimp only [rw0]
    have c119_T_0 := HX_T.out.at 0 (v := .int .i64 x) rfl
    have c119_T_1 := HX_T.out.at 1 (v := .slice a q.length cap) rfl
    have c120_A_0 := HX_A.out.at 0 (v := .int .i64 0) rfl
    have c120_A_1 := HX_A.out.at 1 (v := .slice none 0 0) rfl
    go_enter Try.func13, Try.ntmps13
    go_upto_region 1 with fail
    rw [← HW0.out, ← HR_A.out, ← HR_T.out]
    go_wp2_with fail
    refine (HBf.out _).mono ?_
    rintro e W121 ⟨rfl, l121⟩
    clear c119_T_0 c119_T_1
    clear c120_A_0 c120_A_1
    have HB_122 := Lib.hid (HB0.out.trans (l121.mono HB0.out.size))
    have T_122 := Lib.hid (HX_T.out.below l121 HX_T.out.lt)
    have A_122 := Lib.hid (HX_A.out.below l121 HX_A.out.lt)
    clear l121
    have c123_T_0 := T_122.out.at 0 (v := .int .i64 x) rfl
    have c123_T_1 := T_122.out.at 1 (v := .slice a q.length cap) rfl
    have c124_A_0 := A_122.out.at 0 (v := .int .i64 0) rfl
    have c124_A_1 := A_122.out.at 1 (v := .slice none 0 0) rfl
    have hAl := A_122.out.alloc (.cells #[] 9)
    have z0 := hAl.at 0 (v := .int .i64 0) rfl
    have y0 := hAl.free 0
    have z1 := hAl.at 1 (v := .slice none 0 0) rfl
    have y1 := hAl.free 1
    have HAl := Lib.hid hAl
    clear hAl
    go_wp2_with fail
    obtain ⟨p1, q1⟩ := HAl.out.store2 (.int .i64 0) (.slice none 0 0)
    have hB9 := HB_122.out.alloc HB_122.out.size (.cells #[] 9)
    refine bodyPost_ret (results_bx2 rfl isRw _ _ R_A rfl rfl rfl rfl p1) rfl ?_
    exact ⟨_, _, rfl, ⟨rfl, .inl ⟨rfl, rfl⟩⟩, (own_lit (heap_alloc_new W121 (.cells #[] 9)) HB_122.out.size).kept q1 (.inr (fun e => by have e2 : W121.heap.size = R_A := Option.some.inj e; have h1 := A_122.out.lt; omega)), (fun k h => by cases h), hB9.grown q1 hB9.size (fun k hk => by have e2 : R_A = k := Option.some.inj hk; have := HR_A.out; omega)⟩
  | true =>
    rw [og] at HBf
    cases ok : rwOk ⟨x, q⟩ with
    | false =>
      rw [ok] at HG
      generalize befV n x = bf at HBf
      have ho : giveOk ⟨x, q⟩ n = false := by unfold giveOk; rw [ok]; rfl
      have hv : giveV ⟨x, q⟩ n = rw0 := by unfold giveV; rw [ho]; rfl
      have hl : giveL ⟨x, q⟩ n = [] := by unfold giveL; rw [ho]; rfl
      rw [ho, hv, hl]
      clear ho hv hl
      dsimp only [rw0]
      have c125_T_0 := HX_T.out.at 0 (v := .int .i64 x) rfl
      have c125_T_1 := HX_T.out.at 1 (v := .slice a q.length cap) rfl
      have c126_A_0 := HX_A.out.at 0 (v := .int .i64 0) rfl
      have c126_A_1 := HX_A.out.at 1 (v := .slice none 0 0) rfl
      go_enter Try.func13, Try.ntmps13
      go_upto_region 1 with fail
      rw [← HW0.out, ← HR_A.out, ← HR_T.out]
      go_wp2_with fail
      refine (HBf.out _).mono ?_
      rintro e W127 ⟨rfl, l127⟩
      clear c125_T_0 c125_T_1
      clear c126_A_0 c126_A_1
      have HB_128 := Lib.hid (HB0.out.trans (l127.mono HB0.out.size))
      have T_128 := Lib.hid (HX_T.out.below l127 HX_T.out.lt)
      have A_128 := Lib.hid (HX_A.out.below l127 HX_A.out.lt)
      clear l127
      have c129_T_0 := T_128.out.at 0 (v := .int .i64 x) rfl
      have c129_T_1 := T_128.out.at 1 (v := .slice a q.length cap) rfl
      have c130_A_0 := A_128.out.at 0 (v := .int .i64 0) rfl
      have c130_A_1 := A_128.out.at 1 (v := .slice none 0 0) rfl
      go_wp2_with fail
      refine (HG.out _ (HP.out.below HB_128.out (Nat.le_refl _))).mono ?_
      rintro e W131 ⟨rfl, l131⟩
      clear c129_T_0 c129_T_1
      clear c130_A_0 c130_A_1
      have HB_132 := Lib.hid (HB_128.out.trans (l131.mono HB_128.out.size))
      have T_132 := Lib.hid (T_128.out.below l131 T_128.out.lt)
      clear T_128
      have A_132 := Lib.hid (A_128.out.below l131 A_128.out.lt)
      clear A_128
      clear l131
      have c133_T_0 := T_132.out.at 0 (v := .int .i64 x) rfl
      have c133_T_1 := T_132.out.at 1 (v := .slice a q.length cap) rfl
      have c134_A_0 := A_132.out.at 0 (v := .int .i64 0) rfl
      have c134_A_1 := A_132.out.at 1 (v := .slice none 0 0) rfl
      have hAl := A_132.out.alloc (.cells #[] 9)
      have z0 := hAl.at 0 (v := .int .i64 0) rfl
      have y0 := hAl.free 0
      have z1 := hAl.at 1 (v := .slice none 0 0) rfl
      have y1 := hAl.free 1
      have HAl := Lib.hid hAl
      clear hAl
      go_wp2_with fail
      obtain ⟨p1, q1⟩ := HAl.out.store2 (.int .i64 0) (.slice none 0 0)
      have hB9 := HB_132.out.alloc HB_132.out.size (.cells #[] 9)
      refine bodyPost_ret (results_bx2 rfl isRw _ _ R_A rfl rfl rfl rfl p1) rfl ?_
      exact ⟨_, _, rfl, ⟨rfl, .inl ⟨rfl, rfl⟩⟩, (own_lit (heap_alloc_new W131 (.cells #[] 9)) HB_132.out.size).kept q1 (.inr (fun e => by have e2 : W131.heap.size = R_A := Option.some.inj e; have h1 := A_132.out.lt; omega)), (fun k h => by cases h), hB9.grown q1 hB9.size (fun k hk => by have e2 : R_A = k := Option.some.inj hk; have := HR_A.out; omega)⟩
    | true =>
      rw [ok] at HG
      obtain ⟨hn0, hn1, hx0, hx1⟩ := gapOk_bd og
      have hbv : befV n x = befB n x := by unfold befV; rw [og, Bool.true_and]
      rw [hbv] at HBf
      obtain ⟨hxb, hl8, hso, hfb, hlb⟩ := rwOk_iff.1 ok
      dsimp only at hxb hl8 hso hfb hlb
      have hs8 := rw_items ok
      dsimp only at hs8
      obtain ⟨hgo, hgc⟩ := giv_count (w := ⟨x, q⟩) (t := n) ok ⟨hn0, hn1⟩
      dsimp only at hgo hgc
      have HGp := Lib.hid (fun (W1 : World) => implGapB_any x n W1 hx0 hx1 hn0 hn1)
      have hgk := gapI_bd x n
      have HEw : Hid (giveOk ⟨x, q⟩ n = true → giveV ⟨x, q⟩ n = movW ⟨x, q⟩ (giveN ⟨x, q⟩ n) ∧ giveL ⟨x, q⟩ n = movL q (giveN ⟨x, q⟩ n)) := Lib.hid (fun h => by obtain ⟨e1, e2⟩ := give_mov h; exact ⟨by unfold giveV; rw [if_pos h, e1], by unfold giveL; rw [if_pos h, e2]⟩)
      have HPg : Hid (giveOk ⟨x, q⟩ n = true → giveN ⟨x, q⟩ n ≤ 8) := Lib.hid (fun h => (giveOk_parts h).2.2)
      cases hb : befB n x with
      | true =>
        rw [hb] at HBf hgo hgc
        rw [if_pos rfl] at hgo hgc
        rw [decide_eq_true (by omega : (0 : Int) ≤ 8)] at hgo
        obtain ⟨e1, e2⟩ := HEw.out hgo
        have hN8 := HPg.out hgo
        have hNc := hgc hgo
        rw [hgo, e1, e2]
        generalize giveN ⟨x, q⟩ n = c at e1 e2 hN8 hNc ⊢
        have HM := Lib.hid (fun (W1 : World) (hr : Row W1 (.slice a q.length cap) q.length (slF q)) => movedOn_any (.slice a q.length cap) ⟨x, q⟩ W1 hr c HFit.out hxb hl8 hs8 hN8)
        dsimp only at HM
        rw [← hNc] at HM
        generalize movW ⟨x, q⟩ c = wv at HM ⊢
        generalize movL q c = wl at HM ⊢
        obtain ⟨xx, qq⟩ := wv
        dsimp only at HM ⊢
        clear e1 e2 hNc hgo hgc HEw HPg hso hfb hlb ok og hbv hs8
        clear hb
        generalize gapI x n = gp at HGp
        have c135_T_0 := HX_T.out.at 0 (v := .int .i64 x) rfl
        have c135_T_1 := HX_T.out.at 1 (v := .slice a q.length cap) rfl
        have c136_A_0 := HX_A.out.at 0 (v := .int .i64 0) rfl
        have c136_A_1 := HX_A.out.at 1 (v := .slice none 0 0) rfl
        go_enter Try.func13, Try.ntmps13
        go_upto_region 1 with fail
        rw [← HW0.out, ← HR_A.out, ← HR_T.out]
        go_wp2_with fail
        refine (HBf.out _).mono ?_
        rintro e W137 ⟨rfl, l137⟩
        clear c135_T_0 c135_T_1
        clear c136_A_0 c136_A_1
        have HB_138 := Lib.hid (HB0.out.trans (l137.mono HB0.out.size))
        have T_138 := Lib.hid (HX_T.out.below l137 HX_T.out.lt)
        have A_138 := Lib.hid (HX_A.out.below l137 HX_A.out.lt)
        clear l137
        have c139_T_0 := T_138.out.at 0 (v := .int .i64 x) rfl
        have c139_T_1 := T_138.out.at 1 (v := .slice a q.length cap) rfl
        have c140_A_0 := A_138.out.at 0 (v := .int .i64 0) rfl
        have c140_A_1 := A_138.out.at 1 (v := .slice none 0 0) rfl
        go_wp2_with fail
        refine (HG.out _ (HP.out.below HB_138.out (Nat.le_refl _))).mono ?_
        rintro e W141 ⟨rfl, l141⟩
        clear c139_T_0 c139_T_1
        clear c140_A_0 c140_A_1
        have HB_142 := Lib.hid (HB_138.out.trans (l141.mono HB_138.out.size))
        have T_142 := Lib.hid (T_138.out.below l141 T_138.out.lt)
        clear T_138
        have A_142 := Lib.hid (A_138.out.below l141 A_138.out.lt)
        clear A_138
        clear l141
        have c143_T_0 := T_142.out.at 0 (v := .int .i64 x) rfl
        have c143_T_1 := T_142.out.at 1 (v := .slice a q.length cap) rfl
        have c144_A_0 := A_142.out.at 0 (v := .int .i64 0) rfl
        have c144_A_1 := A_142.out.at 1 (v := .slice none 0 0) rfl
        go_wp2_with fail
        refine (HGp.out _).mono ?_
        rintro e _ ⟨rfl, rfl⟩
        go_wp2_with fail
        refine (HM.out _ (HP.out.below HB_142.out (Nat.le_refl _))).mono ?_
        rintro e W145 ⟨v_m, u_m, rfl, o_m, o_u, ap, l145⟩
        obtain ⟨a_m, c_m, rfl, _, _⟩ := ownz_slice o_m
        obtain ⟨a_u, c_u, rfl, _, _⟩ := ownz_slice o_u
        have O_m := Lib.hid (ownz_base o_m HB_142.out.size)
        have BX_T_m : Hid (∀ k, (.slice a_m qq.length c_m : Value).ownBlock = some k → k ≠ R_T) := Lib.hid (fun k h1 h2 => absurd T_142.out.lt (Nat.not_lt.2 (by rw [← h2]; exact (o_m.lt k h1).1)))
        have BX_A_m : Hid (∀ k, (.slice a_m qq.length c_m : Value).ownBlock = some k → k ≠ R_A) := Lib.hid (fun k h1 h2 => absurd A_142.out.lt (Nat.not_lt.2 (by rw [← h2]; exact (o_m.lt k h1).1)))
        have O_u := Lib.hid (ownz_base o_u HB_142.out.size)
        have BX_T_u : Hid (∀ k, (.slice a_u wl.length c_u : Value).ownBlock = some k → k ≠ R_T) := Lib.hid (fun k h1 h2 => absurd T_142.out.lt (Nat.not_lt.2 (by rw [← h2]; exact (o_u.lt k h1).1)))
        have BX_A_u : Hid (∀ k, (.slice a_u wl.length c_u : Value).ownBlock = some k → k ≠ R_A) := Lib.hid (fun k h1 h2 => absurd A_142.out.lt (Nat.not_lt.2 (by rw [← h2]; exact (o_u.lt k h1).1)))
        have AP := Lib.hid ap
        clear o_m o_u ap
        clear c143_T_0 c143_T_1
        clear c144_A_0 c144_A_1
        have HB_146 := Lib.hid (HB_142.out.trans (l145.mono HB_142.out.size))
        have T_146 := Lib.hid (T_142.out.below l145 T_142.out.lt)
        clear T_142
        have A_146 := Lib.hid (A_142.out.below l145 A_142.out.lt)
        clear A_142
        clear l145
        have c147_T_0 := T_146.out.at 0 (v := .int .i64 x) rfl
        have c147_T_1 := T_146.out.at 1 (v := .slice a q.length cap) rfl
        have c148_A_0 := A_146.out.at 0 (v := .int .i64 0) rfl
        have c148_A_1 := A_146.out.at 1 (v := .slice none 0 0) rfl
        go_upto_region 10 with fail
        obtain ⟨W149, hW149⟩ : ∃ W149, W149 = W145.alloc (.cells #[.int .i64 xx, .slice a_m qq.length c_m] 26) := ⟨_, rfl⟩
        have l149 : Below W145.heap.size W145 W149 := by rw [hW149]; exact (Below.refl _ _).alloc (Nat.le_refl _) _
        have X149_R : Hid (Bx W149 W145.heap.size #[.int .i64 xx, .slice a_m qq.length c_m] 26) := Lib.hid (by rw [hW149]; exact Bx.new _ _ _)
        rw [← hW149]
        clear hW149
        have BX_R_m : Hid (∀ k, (.slice a_m qq.length c_m : Value).ownBlock = some k → k ≠ W145.heap.size) := Lib.hid (fun k h1 h2 => absurd (O_m.out.lt k h1).2 (by omega))
        have BX_R_u : Hid (∀ k, (.slice a_u wl.length c_u : Value).ownBlock = some k → k ≠ W145.heap.size) := Lib.hid (fun k h1 h2 => absurd (O_u.out.lt k h1).2 (by omega))
        have HG_R : Hid (w.heap.size ≤ W145.heap.size) := Lib.hid HB_146.out.size
        have HN_R_T : Hid (R_T < W145.heap.size) := Lib.hid T_146.out.lt
        have HN_R_A : Hid (R_A < W145.heap.size) := Lib.hid A_146.out.lt
        obtain ⟨R_R, hR_R⟩ : ∃ X, X = W145.heap.size := ⟨_, rfl⟩
        rw [← hR_R] at X149_R HG_R BX_R_m BX_R_u HN_R_T HN_R_A ⊢
        clear hR_R
        clear c147_T_0 c147_T_1
        clear c148_A_0 c148_A_1
        have HB_150 := Lib.hid (HB_146.out.trans (l149.mono HB_146.out.size))
        have m_150 := Lib.hid (ownz_below O_m.out l149 (Nat.le_refl _))
        clear O_m
        have u_150 := Lib.hid (ownz_below O_u.out l149 (Nat.le_refl _))
        clear O_u
        have T_150 := Lib.hid (T_146.out.below l149 T_146.out.lt)
        clear T_146
        have A_150 := Lib.hid (A_146.out.below l149 A_146.out.lt)
        clear A_146
        clear l149
        have c151_T_0 := T_150.out.at 0 (v := .int .i64 x) rfl
        have c151_T_1 := T_150.out.at 1 (v := .slice a q.length cap) rfl
        have c152_A_0 := A_150.out.at 0 (v := .int .i64 0) rfl
        have c152_A_1 := A_150.out.at 1 (v := .slice none 0 0) rfl
        have c153_R_0 := X149_R.out.at 0 (v := .int .i64 xx) rfl
        have c153_R_1 := X149_R.out.at 1 (v := .slice a_m qq.length c_m) rfl
        have fr154_A_0 := A_150.out.free 0
        have fr154_A_1 := A_150.out.free 1
        go_wp2_with fail
        obtain ⟨p1, q1⟩ := A_150.out.store2 (.int .i64 xx) (.slice a_m qq.length c_m)
        refine bodyPost_ret (results_bx2 rfl isRw _ _ R_A rfl rfl rfl rfl p1) rfl ?_
        exact ⟨_, _, rfl, (m_150.out.kept q1 (by
          cases hv : (.slice a_m qq.length c_m : Value).ownBlock with
          | none => exact .inl rfl
          | some k => exact .inr (fun e => BX_A_m.out k hv (Option.some.inj e)))), (u_150.out.kept q1 (by
          cases hv : (.slice a_u wl.length c_u : Value).ownBlock with
          | none => exact .inl rfl
          | some k => exact .inr (fun e => BX_A_u.out k hv (Option.some.inj e)))), AP.out, (HB_150.out.grown q1 HB_150.out.size (fun k hk => by have e2 : R_A = k := Option.some.inj hk; have := HR_A.out; omega))⟩
      | false =>
        rw [hb] at HBf hgo hgc
        rw [if_neg (by decide)] at hgo hgc
        by_cases h8 : gapI x n ≤ 8
        rotate_left
        · rw [decide_eq_false h8] at hgo
          have h8' : (8 : Int) < gapI x n := by omega
          have HIt := Lib.hid hgo
          clear hgo hgc HEw HPg hb og ok hbv hso hfb hlb h8
          generalize gapI x n = gp at HGp h8'
          have ho : giveOk ⟨x, q⟩ n = false := HIt.out
          have hv : giveV ⟨x, q⟩ n = rw0 := by unfold giveV; rw [ho]; rfl
          have hl : giveL ⟨x, q⟩ n = [] := by unfold giveL; rw [ho]; rfl
          rw [ho, hv, hl]
          clear ho hv hl
          dsimp only [rw0]
          have c155_T_0 := HX_T.out.at 0 (v := .int .i64 x) rfl
          have c155_T_1 := HX_T.out.at 1 (v := .slice a q.length cap) rfl
          have c156_A_0 := HX_A.out.at 0 (v := .int .i64 0) rfl
          have c156_A_1 := HX_A.out.at 1 (v := .slice none 0 0) rfl
          go_enter Try.func13, Try.ntmps13
          go_upto_region 1 with fail
          rw [← HW0.out, ← HR_A.out, ← HR_T.out]
          go_wp2_with fail
          refine (HBf.out _).mono ?_
          rintro e W157 ⟨rfl, l157⟩
          clear c155_T_0 c155_T_1
          clear c156_A_0 c156_A_1
          have HB_158 := Lib.hid (HB0.out.trans (l157.mono HB0.out.size))
          have T_158 := Lib.hid (HX_T.out.below l157 HX_T.out.lt)
          have A_158 := Lib.hid (HX_A.out.below l157 HX_A.out.lt)
          clear l157
          have c159_T_0 := T_158.out.at 0 (v := .int .i64 x) rfl
          have c159_T_1 := T_158.out.at 1 (v := .slice a q.length cap) rfl
          have c160_A_0 := A_158.out.at 0 (v := .int .i64 0) rfl
          have c160_A_1 := A_158.out.at 1 (v := .slice none 0 0) rfl
          go_wp2_with fail
          refine (HG.out _ (HP.out.below HB_158.out (Nat.le_refl _))).mono ?_
          rintro e W161 ⟨rfl, l161⟩
          clear c159_T_0 c159_T_1
          clear c160_A_0 c160_A_1
          have HB_162 := Lib.hid (HB_158.out.trans (l161.mono HB_158.out.size))
          have T_162 := Lib.hid (T_158.out.below l161 T_158.out.lt)
          clear T_158
          have A_162 := Lib.hid (A_158.out.below l161 A_158.out.lt)
          clear A_158
          clear l161
          have c163_T_0 := T_162.out.at 0 (v := .int .i64 x) rfl
          have c163_T_1 := T_162.out.at 1 (v := .slice a q.length cap) rfl
          have c164_A_0 := A_162.out.at 0 (v := .int .i64 0) rfl
          have c164_A_1 := A_162.out.at 1 (v := .slice none 0 0) rfl
          go_wp2_with fail
          refine (HGp.out _).mono ?_
          rintro e _ ⟨rfl, rfl⟩
          have hAl := A_162.out.alloc (.cells #[] 9)
          have z0 := hAl.at 0 (v := .int .i64 0) rfl
          have y0 := hAl.free 0
          have z1 := hAl.at 1 (v := .slice none 0 0) rfl
          have y1 := hAl.free 1
          have HAl := Lib.hid hAl
          clear hAl
          go_wp2_with fail
          obtain ⟨p1, q1⟩ := HAl.out.store2 (.int .i64 0) (.slice none 0 0)
          have hB9 := HB_162.out.alloc HB_162.out.size (.cells #[] 9)
          refine bodyPost_ret (results_bx2 rfl isRw _ _ R_A rfl rfl rfl rfl p1) rfl ?_
          exact ⟨_, _, rfl, ⟨rfl, .inl ⟨rfl, rfl⟩⟩, (own_lit (heap_alloc_new W161 (.cells #[] 9)) HB_162.out.size).kept q1 (.inr (fun e => by have e2 : W161.heap.size = R_A := Option.some.inj e; have h1 := A_162.out.lt; omega)), (fun k h => by cases h), hB9.grown q1 hB9.size (fun k hk => by have e2 : R_A = k := Option.some.inj hk; have := HR_A.out; omega)⟩
        rw [decide_eq_true h8] at hgo
        have h8' : ¬ (8 : Int) < gapI x n := by omega
        obtain ⟨e1, e2⟩ := HEw.out hgo
        have hN8 := HPg.out hgo
        have hNc := hgc hgo
        rw [hgo, e1, e2]
        generalize giveN ⟨x, q⟩ n = c at e1 e2 hN8 hNc ⊢
        have HM := Lib.hid (fun (W1 : World) (hr : Row W1 (.slice a q.length cap) q.length (slF q)) => movedOn_any (.slice a q.length cap) ⟨x, q⟩ W1 hr c HFit.out hxb hl8 hs8 hN8)
        dsimp only at HM
        rw [← hNc] at HM
        generalize movW ⟨x, q⟩ c = wv at HM ⊢
        generalize movL q c = wl at HM ⊢
        obtain ⟨xx, qq⟩ := wv
        dsimp only at HM ⊢
        clear e1 e2 hNc hgo hgc HEw HPg hso hfb hlb ok og hbv hs8
        clear hb h8
        generalize gapI x n = gp at HGp HM h8'
        have c165_T_0 := HX_T.out.at 0 (v := .int .i64 x) rfl
        have c165_T_1 := HX_T.out.at 1 (v := .slice a q.length cap) rfl
        have c166_A_0 := HX_A.out.at 0 (v := .int .i64 0) rfl
        have c166_A_1 := HX_A.out.at 1 (v := .slice none 0 0) rfl
        go_enter Try.func13, Try.ntmps13
        go_upto_region 1 with fail
        rw [← HW0.out, ← HR_A.out, ← HR_T.out]
        go_wp2_with fail
        refine (HBf.out _).mono ?_
        rintro e W167 ⟨rfl, l167⟩
        clear c165_T_0 c165_T_1
        clear c166_A_0 c166_A_1
        have HB_168 := Lib.hid (HB0.out.trans (l167.mono HB0.out.size))
        have T_168 := Lib.hid (HX_T.out.below l167 HX_T.out.lt)
        have A_168 := Lib.hid (HX_A.out.below l167 HX_A.out.lt)
        clear l167
        have c169_T_0 := T_168.out.at 0 (v := .int .i64 x) rfl
        have c169_T_1 := T_168.out.at 1 (v := .slice a q.length cap) rfl
        have c170_A_0 := A_168.out.at 0 (v := .int .i64 0) rfl
        have c170_A_1 := A_168.out.at 1 (v := .slice none 0 0) rfl
        go_wp2_with fail
        refine (HG.out _ (HP.out.below HB_168.out (Nat.le_refl _))).mono ?_
        rintro e W171 ⟨rfl, l171⟩
        clear c169_T_0 c169_T_1
        clear c170_A_0 c170_A_1
        have HB_172 := Lib.hid (HB_168.out.trans (l171.mono HB_168.out.size))
        have T_172 := Lib.hid (T_168.out.below l171 T_168.out.lt)
        clear T_168
        have A_172 := Lib.hid (A_168.out.below l171 A_168.out.lt)
        clear A_168
        clear l171
        have c173_T_0 := T_172.out.at 0 (v := .int .i64 x) rfl
        have c173_T_1 := T_172.out.at 1 (v := .slice a q.length cap) rfl
        have c174_A_0 := A_172.out.at 0 (v := .int .i64 0) rfl
        have c174_A_1 := A_172.out.at 1 (v := .slice none 0 0) rfl
        go_wp2_with fail
        refine (HGp.out _).mono ?_
        rintro e _ ⟨rfl, rfl⟩
        go_wp2_with fail
        refine (HM.out _ (HP.out.below HB_172.out (Nat.le_refl _))).mono ?_
        rintro e W175 ⟨v_m, u_m, rfl, o_m, o_u, ap, l175⟩
        obtain ⟨a_m, c_m, rfl, _, _⟩ := ownz_slice o_m
        obtain ⟨a_u, c_u, rfl, _, _⟩ := ownz_slice o_u
        have O_m := Lib.hid (ownz_base o_m HB_172.out.size)
        have BX_T_m : Hid (∀ k, (.slice a_m qq.length c_m : Value).ownBlock = some k → k ≠ R_T) := Lib.hid (fun k h1 h2 => absurd T_172.out.lt (Nat.not_lt.2 (by rw [← h2]; exact (o_m.lt k h1).1)))
        have BX_A_m : Hid (∀ k, (.slice a_m qq.length c_m : Value).ownBlock = some k → k ≠ R_A) := Lib.hid (fun k h1 h2 => absurd A_172.out.lt (Nat.not_lt.2 (by rw [← h2]; exact (o_m.lt k h1).1)))
        have O_u := Lib.hid (ownz_base o_u HB_172.out.size)
        have BX_T_u : Hid (∀ k, (.slice a_u wl.length c_u : Value).ownBlock = some k → k ≠ R_T) := Lib.hid (fun k h1 h2 => absurd T_172.out.lt (Nat.not_lt.2 (by rw [← h2]; exact (o_u.lt k h1).1)))
        have BX_A_u : Hid (∀ k, (.slice a_u wl.length c_u : Value).ownBlock = some k → k ≠ R_A) := Lib.hid (fun k h1 h2 => absurd A_172.out.lt (Nat.not_lt.2 (by rw [← h2]; exact (o_u.lt k h1).1)))
        have AP := Lib.hid ap
        clear o_m o_u ap
        clear c173_T_0 c173_T_1
        clear c174_A_0 c174_A_1
        have HB_176 := Lib.hid (HB_172.out.trans (l175.mono HB_172.out.size))
        have T_176 := Lib.hid (T_172.out.below l175 T_172.out.lt)
        clear T_172
        have A_176 := Lib.hid (A_172.out.below l175 A_172.out.lt)
        clear A_172
        clear l175
        have c177_T_0 := T_176.out.at 0 (v := .int .i64 x) rfl
        have c177_T_1 := T_176.out.at 1 (v := .slice a q.length cap) rfl
        have c178_A_0 := A_176.out.at 0 (v := .int .i64 0) rfl
        have c178_A_1 := A_176.out.at 1 (v := .slice none 0 0) rfl
        go_upto_region 10 with fail
        obtain ⟨W179, hW179⟩ : ∃ W179, W179 = W175.alloc (.cells #[.int .i64 xx, .slice a_m qq.length c_m] 26) := ⟨_, rfl⟩
        have l179 : Below W175.heap.size W175 W179 := by rw [hW179]; exact (Below.refl _ _).alloc (Nat.le_refl _) _
        have X179_R : Hid (Bx W179 W175.heap.size #[.int .i64 xx, .slice a_m qq.length c_m] 26) := Lib.hid (by rw [hW179]; exact Bx.new _ _ _)
        rw [← hW179]
        clear hW179
        have BX_R_m : Hid (∀ k, (.slice a_m qq.length c_m : Value).ownBlock = some k → k ≠ W175.heap.size) := Lib.hid (fun k h1 h2 => absurd (O_m.out.lt k h1).2 (by omega))
        have BX_R_u : Hid (∀ k, (.slice a_u wl.length c_u : Value).ownBlock = some k → k ≠ W175.heap.size) := Lib.hid (fun k h1 h2 => absurd (O_u.out.lt k h1).2 (by omega))
        have HG_R : Hid (w.heap.size ≤ W175.heap.size) := Lib.hid HB_176.out.size
        have HN_R_T : Hid (R_T < W175.heap.size) := Lib.hid T_176.out.lt
        have HN_R_A : Hid (R_A < W175.heap.size) := Lib.hid A_176.out.lt
        obtain ⟨R_R, hR_R⟩ : ∃ X, X = W175.heap.size := ⟨_, rfl⟩
        rw [← hR_R] at X179_R HG_R BX_R_m BX_R_u HN_R_T HN_R_A ⊢
        clear hR_R
        clear c177_T_0 c177_T_1
        clear c178_A_0 c178_A_1
        have HB_180 := Lib.hid (HB_176.out.trans (l179.mono HB_176.out.size))
        have m_180 := Lib.hid (ownz_below O_m.out l179 (Nat.le_refl _))
        clear O_m
        have u_180 := Lib.hid (ownz_below O_u.out l179 (Nat.le_refl _))
        clear O_u
        have T_180 := Lib.hid (T_176.out.below l179 T_176.out.lt)
        clear T_176
        have A_180 := Lib.hid (A_176.out.below l179 A_176.out.lt)
        clear A_176
        clear l179
        have c181_T_0 := T_180.out.at 0 (v := .int .i64 x) rfl
        have c181_T_1 := T_180.out.at 1 (v := .slice a q.length cap) rfl
        have c182_A_0 := A_180.out.at 0 (v := .int .i64 0) rfl
        have c182_A_1 := A_180.out.at 1 (v := .slice none 0 0) rfl
        have c183_R_0 := X179_R.out.at 0 (v := .int .i64 xx) rfl
        have c183_R_1 := X179_R.out.at 1 (v := .slice a_m qq.length c_m) rfl
        have fr184_A_0 := A_180.out.free 0
        have fr184_A_1 := A_180.out.free 1
        go_wp2_with fail
        obtain ⟨p1, q1⟩ := A_180.out.store2 (.int .i64 xx) (.slice a_m qq.length c_m)
        refine bodyPost_ret (results_bx2 rfl isRw _ _ R_A rfl rfl rfl rfl p1) rfl ?_
        exact ⟨_, _, rfl, (m_180.out.kept q1 (by
          cases hv : (.slice a_m qq.length c_m : Value).ownBlock with
          | none => exact .inl rfl
          | some k => exact .inr (fun e => BX_A_m.out k hv (Option.some.inj e)))), (u_180.out.kept q1 (by
          cases hv : (.slice a_u wl.length c_u : Value).ownBlock with
          | none => exact .inl rfl
          | some k => exact .inr (fun e => BX_A_u.out k hv (Option.some.inj e)))), AP.out, (HB_180.out.grown q1 HB_180.out.size (fun k hk => by have e2 : R_A = k := Option.some.inj hk; have := HR_A.out; omega))⟩
end Go.Proofs.Ytpmjdppipalfcaa
