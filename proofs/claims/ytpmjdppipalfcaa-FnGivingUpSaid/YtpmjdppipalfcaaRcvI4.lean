/-
  Receive windows: the program's TakeItem.
-/
import Derived.Test.YtpmjdppipalfcaaRcvI3
import Derived.Deep.QuietTactic
import Derived.BigQuiet
import Derived.IntWalk
import Derived.Deep.CutRange
import Derived.WalkLawsBesides
import Derived.Lib.SmallJoins
import Derived.Deep.RegionHeld3
namespace Go.Proofs.Ytpmjdppipalfcaa
open Go.RowKit Go.Lib Go.Joins
set_option linter.unusedVariables false

theorem FitA.fit {v : Value} {n : Nat} (h : FitA v n) : Fit v n := by
  rcases h with h | ⟨b, off, c, h⟩
  · exact .inl h
  · exact .inr ⟨_, _, h⟩
theorem fitA_ownz {w : World} {B n z : Nat} {e : TypeId} {v : Value} {xs : List Value} (h : w.ownsRow B e z v n xs) : FitA v n := by
  obtain ⟨hl, ⟨rfl, h0⟩ | ⟨g, c, cur, rfl, _⟩⟩ := h
  · exact .inl ⟨rfl, h0⟩
  · exact .inr ⟨_, _, _, rfl⟩
theorem have_parts {w : Rw} {n : Int} (h : haveOk w n = true) : rwOk w = true ∧ serB n = true := by
  unfold haveOk at h
  simpa using h
theorem give_no {x n : Int} {q : List Sl} (h : gapOk n x = false) : giveOk ⟨x, q⟩ n = false := by
  cases ho : giveOk ⟨x, q⟩ n with
  | false => rfl
  | true =>
    obtain ⟨h1, h2, _⟩ := giveOk_parts ho
    have hx := (rwOk_iff.1 h1).1
    have : gapOk n x = true := by unfold gapOk; rw [serB_yes h2.1 h2.2, serB_yes hx.1 hx.2]; rfl
    rw [h] at this; cases this
set_option maxRecDepth 100000 in
set_option maxHeartbeats 16000000 in
theorem implTake_any (v : Value) (l : Rw) (w : World) (hrow : Row w v l.q.length (slF l.q)) (hs : ∀ s ∈ l.q, s.s.size ≤ maxLen) (n : Int) (s : ByteArray) (hsz : s.size ≤ maxLen) (hfit : FitA v l.q.length) :
    Calls Try.prog 33 #[.agg #[.int .i64 l.x, v], .int .i64 n, .string s] w fun e w' => ∃ v' u', e = .returned (.tuple #[.agg #[.int .i64 (takeV l n s).x, v'], u', .bool (takeOk l n s)]) ∧ w'.ownsRow w.heap.size 66 2 v' (takeV l n s).q.length (slF (takeV l n s).q) ∧ w'.ownsRow w.heap.size 9 1 u' (takeL l n s).length ((takeL l n s).map Value.string) ∧ (∀ k, v'.ownBlock = some k → u'.ownBlock ≠ some k) ∧ Below w.heap.size w w' := by
  obtain ⟨x, q⟩ := l
  dsimp only at hrow hfit hs ⊢
  obtain ⟨a, cap, rfl, hc1, hm1, _⟩ := sl_open hrow
  unfold maxLen at hm1
  have HP := Lib.hid hrow
  have HFit := Lib.hid hfit
  have HS := Lib.hid hs
  clear hrow hfit hs
  obtain ⟨W0, R_T, R_A, hW0, hR_T, hR_A, hX_T, hX_A, hB0⟩ := entry2 w #[.int .i64 x, .slice a q.length cap] #[.int .i64 0, .slice none 0 0] 26 26
  have HW0 := Lib.hid hW0
  have HB0 := Lib.hid hB0
  have HR_T := Lib.hid hR_T
  have HX_T := Lib.hid hX_T
  have HR_A := Lib.hid hR_A
  have HX_A := Lib.hid hX_A
  clear hW0 hB0 hR_T hX_T hR_A hX_A
  have HH := Lib.hid (fun (W1 : World) (hr : Row W1 (.slice a q.length cap) q.length (slF q)) => implHave_any (.slice a q.length cap) ⟨x, q⟩ W1 hr HS.out n)
  have HI := Lib.hid (fun (W1 : World) => isItem_any s W1 hsz)
  rw [Bool.and_comm (decide (s.size ≤ 8))] at HI
  have hit9 : (ltrB s && decide (s.size ≤ 8)) = itB s := rfl
  rw [hit9] at HI
  clear hit9
  cases hh : haveOk ⟨x, q⟩ n with
  | false =>
    rw [hh] at HH
    generalize haveV ⟨x, q⟩ n = hvv at HH
    have ho : takeOk ⟨x, q⟩ n s = false := by unfold takeOk; unfold haveOk at hh; rw [← Bool.and_assoc, hh]; rfl
    have hv : takeV ⟨x, q⟩ n s = rw0 := by unfold takeV; rw [ho]; rfl
    have hl : takeL ⟨x, q⟩ n s = [] := by unfold takeL; rw [ho]; rfl
    rw [ho, hv, hl]
    clear ho hv hl
    dsimp only [rw0]
    have c60_T_0 := HX_T.out.at 0 (v := .int .i64 x) rfl
    have c60_T_1 := HX_T.out.at 1 (v := .slice a q.length cap) rfl
    have c61_A_0 := HX_A.out.at 0 (v := .int .i64 0) rfl
    have c61_A_1 := HX_A.out.at 1 (v := .slice none 0 0) rfl
    go_enter Try.func33, Try.ntmps33
    go_upto_region 1 with fail
    rw [← HW0.out, ← HR_A.out, ← HR_T.out]
    go_wp2_with fail
    refine (HH.out _ (HP.out.below HB0.out (Nat.le_refl _))).mono ?_
    rintro e W62 ⟨rfl, l62⟩
    clear c60_T_0 c60_T_1
    clear c61_A_0 c61_A_1
    have HB_63 := Lib.hid (HB0.out.trans (l62.mono HB0.out.size))
    have T_63 := Lib.hid (HX_T.out.below l62 HX_T.out.lt)
    have A_63 := Lib.hid (HX_A.out.below l62 HX_A.out.lt)
    clear l62
    have c64_T_0 := T_63.out.at 0 (v := .int .i64 x) rfl
    have c64_T_1 := T_63.out.at 1 (v := .slice a q.length cap) rfl
    have c65_A_0 := A_63.out.at 0 (v := .int .i64 0) rfl
    have c65_A_1 := A_63.out.at 1 (v := .slice none 0 0) rfl
    have hAl := A_63.out.alloc (.cells #[] 9)
    have z0 := hAl.at 0 (v := .int .i64 0) rfl
    have y0 := hAl.free 0
    have z1 := hAl.at 1 (v := .slice none 0 0) rfl
    have y1 := hAl.free 1
    have HAl := Lib.hid hAl
    clear hAl
    go_wp2_with fail
    obtain ⟨p1, q1⟩ := HAl.out.store2 (.int .i64 0) (.slice none 0 0)
    have hB9 := HB_63.out.alloc HB_63.out.size (.cells #[] 9)
    refine bodyPost_ret (results_bx2 rfl isRw _ _ R_A rfl rfl rfl rfl p1) rfl ?_
    exact ⟨_, _, rfl, ⟨rfl, .inl ⟨rfl, rfl⟩⟩, (own_lit (heap_alloc_new W62 (.cells #[] 9)) HB_63.out.size).kept q1 (.inr (fun e => by have e2 : W62.heap.size = R_A := Option.some.inj e; have h1 := A_63.out.lt; omega)), (fun k h => by cases h), hB9.grown q1 hB9.size (fun k hk => by have e2 : R_A = k := Option.some.inj hk; have := HR_A.out; omega)⟩
  | true =>
    rw [hh] at HH
    cases his : itB s with
    | false =>
      rw [his] at HI
      generalize haveV ⟨x, q⟩ n = hvv at HH
      have ho : takeOk ⟨x, q⟩ n s = false := by unfold takeOk; rw [his, Bool.false_and, Bool.and_false, Bool.and_false]
      have hv : takeV ⟨x, q⟩ n s = rw0 := by unfold takeV; rw [ho]; rfl
      have hl : takeL ⟨x, q⟩ n s = [] := by unfold takeL; rw [ho]; rfl
      rw [ho, hv, hl]
      clear ho hv hl
      dsimp only [rw0]
      have c66_T_0 := HX_T.out.at 0 (v := .int .i64 x) rfl
      have c66_T_1 := HX_T.out.at 1 (v := .slice a q.length cap) rfl
      have c67_A_0 := HX_A.out.at 0 (v := .int .i64 0) rfl
      have c67_A_1 := HX_A.out.at 1 (v := .slice none 0 0) rfl
      go_enter Try.func33, Try.ntmps33
      go_upto_region 1 with fail
      rw [← HW0.out, ← HR_A.out, ← HR_T.out]
      go_wp2_with fail
      refine (HH.out _ (HP.out.below HB0.out (Nat.le_refl _))).mono ?_
      rintro e W68 ⟨rfl, l68⟩
      clear c66_T_0 c66_T_1
      clear c67_A_0 c67_A_1
      have HB_69 := Lib.hid (HB0.out.trans (l68.mono HB0.out.size))
      have T_69 := Lib.hid (HX_T.out.below l68 HX_T.out.lt)
      have A_69 := Lib.hid (HX_A.out.below l68 HX_A.out.lt)
      clear l68
      have c70_T_0 := T_69.out.at 0 (v := .int .i64 x) rfl
      have c70_T_1 := T_69.out.at 1 (v := .slice a q.length cap) rfl
      have c71_A_0 := A_69.out.at 0 (v := .int .i64 0) rfl
      have c71_A_1 := A_69.out.at 1 (v := .slice none 0 0) rfl
      go_wp2_with fail
      refine (HI.out _).mono ?_
      rintro e _ ⟨rfl, rfl⟩
      have hAl := A_69.out.alloc (.cells #[] 9)
      have z0 := hAl.at 0 (v := .int .i64 0) rfl
      have y0 := hAl.free 0
      have z1 := hAl.at 1 (v := .slice none 0 0) rfl
      have y1 := hAl.free 1
      have HAl := Lib.hid hAl
      clear hAl
      go_wp2_with fail
      obtain ⟨p1, q1⟩ := HAl.out.store2 (.int .i64 0) (.slice none 0 0)
      have hB9 := HB_69.out.alloc HB_69.out.size (.cells #[] 9)
      refine bodyPost_ret (results_bx2 rfl isRw _ _ R_A rfl rfl rfl rfl p1) rfl ?_
      exact ⟨_, _, rfl, ⟨rfl, .inl ⟨rfl, rfl⟩⟩, (own_lit (heap_alloc_new W68 (.cells #[] 9)) HB_69.out.size).kept q1 (.inr (fun e => by have e2 : W68.heap.size = R_A := Option.some.inj e; have h1 := A_69.out.lt; omega)), (fun k h => by cases h), hB9.grown q1 hB9.size (fun k hk => by have e2 : R_A = k := Option.some.inj hk; have := HR_A.out; omega)⟩
    | true =>
      rw [his] at HI
      obtain ⟨hok, hn⟩ := have_parts hh
      have hnb := serB_bd hn
      obtain ⟨hxb, hl8, hso, hfb, hlb⟩ := rwOk_iff.1 hok
      dsimp only at hxb hl8 hso hfb hlb
      have hit := take_unless (w := ⟨x, q⟩) hok hn his
      dsimp only at hit
      have hvb : haveV ⟨x, q⟩ n = haveB ⟨x, q⟩ n := by unfold haveV; rw [hh, Bool.true_and]
      rw [hvb] at HH
      clear hvb
      have hs8 := rw_items hok
      dsimp only at hs8
      cases hb : haveB ⟨x, q⟩ n with
      | true =>
        rw [hb] at HH hit
        rw [Bool.true_or] at hit
        obtain ⟨e1, e2⟩ := take_mov_have hit hb
        have hv : takeV ⟨x, q⟩ n s = movW ⟨x, q⟩ 0 := by unfold takeV; rw [if_pos hit, e1]
        have hl : takeL ⟨x, q⟩ n s = movL q 0 := by unfold takeL; rw [if_pos hit, e2]
        rw [hit, hv, hl]
        have HM := Lib.hid (fun (W1 : World) (hr : Row W1 (.slice a q.length cap) q.length (slF q)) => movedOn_any (.slice a q.length cap) ⟨x, q⟩ W1 hr 0 HFit.out hxb hl8 hs8 (by omega))
        dsimp only at HM
        rw [show ((0 : Nat) : Int) = 0 from rfl] at HM
        generalize movW ⟨x, q⟩ 0 = wv at HM ⊢
        generalize movL q 0 = wl at HM ⊢
        obtain ⟨xx, qq⟩ := wv
        dsimp only at HM ⊢
        clear e1 e2 hv hl hit hso hfb hlb hok hn hh hb his
        have c72_T_0 := HX_T.out.at 0 (v := .int .i64 x) rfl
        have c72_T_1 := HX_T.out.at 1 (v := .slice a q.length cap) rfl
        have c73_A_0 := HX_A.out.at 0 (v := .int .i64 0) rfl
        have c73_A_1 := HX_A.out.at 1 (v := .slice none 0 0) rfl
        go_enter Try.func33, Try.ntmps33
        go_upto_region 1 with fail
        rw [← HW0.out, ← HR_A.out, ← HR_T.out]
        go_wp2_with fail
        refine (HH.out _ (HP.out.below HB0.out (Nat.le_refl _))).mono ?_
        rintro e W74 ⟨rfl, l74⟩
        clear c72_T_0 c72_T_1
        clear c73_A_0 c73_A_1
        have HB_75 := Lib.hid (HB0.out.trans (l74.mono HB0.out.size))
        have T_75 := Lib.hid (HX_T.out.below l74 HX_T.out.lt)
        have A_75 := Lib.hid (HX_A.out.below l74 HX_A.out.lt)
        clear l74
        have c76_T_0 := T_75.out.at 0 (v := .int .i64 x) rfl
        have c76_T_1 := T_75.out.at 1 (v := .slice a q.length cap) rfl
        have c77_A_0 := A_75.out.at 0 (v := .int .i64 0) rfl
        have c77_A_1 := A_75.out.at 1 (v := .slice none 0 0) rfl
        go_wp2_with fail
        refine (HI.out _).mono ?_
        rintro e _ ⟨rfl, rfl⟩
        go_wp2_with fail
        refine (HM.out _ (HP.out.below HB_75.out (Nat.le_refl _))).mono ?_
        rintro e W78 ⟨v_m, u_m, rfl, o_m, o_u, ap, l78⟩
        obtain ⟨a_m, c_m, rfl, _, _⟩ := ownz_slice o_m
        obtain ⟨a_u, c_u, rfl, _, _⟩ := ownz_slice o_u
        have O_m := Lib.hid (ownz_base o_m HB_75.out.size)
        have BX_T_m : Hid (∀ k, (.slice a_m qq.length c_m : Value).ownBlock = some k → k ≠ R_T) := Lib.hid (fun k h1 h2 => absurd T_75.out.lt (Nat.not_lt.2 (by rw [← h2]; exact (o_m.lt k h1).1)))
        have BX_A_m : Hid (∀ k, (.slice a_m qq.length c_m : Value).ownBlock = some k → k ≠ R_A) := Lib.hid (fun k h1 h2 => absurd A_75.out.lt (Nat.not_lt.2 (by rw [← h2]; exact (o_m.lt k h1).1)))
        have O_u := Lib.hid (ownz_base o_u HB_75.out.size)
        have BX_T_u : Hid (∀ k, (.slice a_u wl.length c_u : Value).ownBlock = some k → k ≠ R_T) := Lib.hid (fun k h1 h2 => absurd T_75.out.lt (Nat.not_lt.2 (by rw [← h2]; exact (o_u.lt k h1).1)))
        have BX_A_u : Hid (∀ k, (.slice a_u wl.length c_u : Value).ownBlock = some k → k ≠ R_A) := Lib.hid (fun k h1 h2 => absurd A_75.out.lt (Nat.not_lt.2 (by rw [← h2]; exact (o_u.lt k h1).1)))
        have AP := Lib.hid ap
        clear o_m o_u ap
        clear c76_T_0 c76_T_1
        clear c77_A_0 c77_A_1
        have HB_79 := Lib.hid (HB_75.out.trans (l78.mono HB_75.out.size))
        have T_79 := Lib.hid (T_75.out.below l78 T_75.out.lt)
        clear T_75
        have A_79 := Lib.hid (A_75.out.below l78 A_75.out.lt)
        clear A_75
        clear l78
        have c80_T_0 := T_79.out.at 0 (v := .int .i64 x) rfl
        have c80_T_1 := T_79.out.at 1 (v := .slice a q.length cap) rfl
        have c81_A_0 := A_79.out.at 0 (v := .int .i64 0) rfl
        have c81_A_1 := A_79.out.at 1 (v := .slice none 0 0) rfl
        go_upto_region 10 with fail
        obtain ⟨W82, hW82⟩ : ∃ W82, W82 = W78.alloc (.cells #[.int .i64 xx, .slice a_m qq.length c_m] 26) := ⟨_, rfl⟩
        have l82 : Below W78.heap.size W78 W82 := by rw [hW82]; exact (Below.refl _ _).alloc (Nat.le_refl _) _
        have X82_R : Hid (Bx W82 W78.heap.size #[.int .i64 xx, .slice a_m qq.length c_m] 26) := Lib.hid (by rw [hW82]; exact Bx.new _ _ _)
        rw [← hW82]
        clear hW82
        have BX_R_m : Hid (∀ k, (.slice a_m qq.length c_m : Value).ownBlock = some k → k ≠ W78.heap.size) := Lib.hid (fun k h1 h2 => absurd (O_m.out.lt k h1).2 (by omega))
        have BX_R_u : Hid (∀ k, (.slice a_u wl.length c_u : Value).ownBlock = some k → k ≠ W78.heap.size) := Lib.hid (fun k h1 h2 => absurd (O_u.out.lt k h1).2 (by omega))
        have HG_R : Hid (w.heap.size ≤ W78.heap.size) := Lib.hid HB_79.out.size
        have HN_R_T : Hid (R_T < W78.heap.size) := Lib.hid T_79.out.lt
        have HN_R_A : Hid (R_A < W78.heap.size) := Lib.hid A_79.out.lt
        obtain ⟨R_R, hR_R⟩ : ∃ X, X = W78.heap.size := ⟨_, rfl⟩
        rw [← hR_R] at X82_R HG_R BX_R_m BX_R_u HN_R_T HN_R_A ⊢
        clear hR_R
        clear c80_T_0 c80_T_1
        clear c81_A_0 c81_A_1
        have HB_83 := Lib.hid (HB_79.out.trans (l82.mono HB_79.out.size))
        have m_83 := Lib.hid (ownz_below O_m.out l82 (Nat.le_refl _))
        clear O_m
        have u_83 := Lib.hid (ownz_below O_u.out l82 (Nat.le_refl _))
        clear O_u
        have T_83 := Lib.hid (T_79.out.below l82 T_79.out.lt)
        clear T_79
        have A_83 := Lib.hid (A_79.out.below l82 A_79.out.lt)
        clear A_79
        clear l82
        have c84_T_0 := T_83.out.at 0 (v := .int .i64 x) rfl
        have c84_T_1 := T_83.out.at 1 (v := .slice a q.length cap) rfl
        have c85_A_0 := A_83.out.at 0 (v := .int .i64 0) rfl
        have c85_A_1 := A_83.out.at 1 (v := .slice none 0 0) rfl
        have c86_R_0 := X82_R.out.at 0 (v := .int .i64 xx) rfl
        have c86_R_1 := X82_R.out.at 1 (v := .slice a_m qq.length c_m) rfl
        have fr87_A_0 := A_83.out.free 0
        have fr87_A_1 := A_83.out.free 1
        go_wp2_with fail
        obtain ⟨p1, q1⟩ := A_83.out.store2 (.int .i64 xx) (.slice a_m qq.length c_m)
        refine bodyPost_ret (results_bx2 rfl isRw _ _ R_A rfl rfl rfl rfl p1) rfl ?_
        exact ⟨_, _, rfl, (m_83.out.kept q1 (by
          cases hv : (.slice a_m qq.length c_m : Value).ownBlock with
          | none => exact .inl rfl
          | some k => exact .inr (fun e => BX_A_m.out k hv (Option.some.inj e)))), (u_83.out.kept q1 (by
          cases hv : (.slice a_u wl.length c_u : Value).ownBlock with
          | none => exact .inl rfl
          | some k => exact .inr (fun e => BX_A_u.out k hv (Option.some.inj e)))), AP.out, (HB_83.out.grown q1 HB_83.out.size (fun k hk => by have e2 : R_A = k := Option.some.inj hk; have := HR_A.out; omega))⟩
      | false =>
        rw [hb] at HH hit
        rw [Bool.false_or] at hit
        have hgk := gapI_bd x n
        have HGp := Lib.hid (fun (W1 : World) => implGapB_any x n W1 hxb.1 hxb.2 hnb.1 hnb.2)
        by_cases h8 : gapI x n < 8
        rotate_left
        · rw [decide_eq_false h8] at hit
          have h8' : (8 : Int) ≤ gapI x n := by omega
          have HIt := Lib.hid hit
          clear hit hh hb his hok hn hso hfb hlb h8
          generalize gapI x n = gp at HGp h8'
          have ho : takeOk ⟨x, q⟩ n s = false := HIt.out
          have hv : takeV ⟨x, q⟩ n s = rw0 := by unfold takeV; rw [ho]; rfl
          have hl : takeL ⟨x, q⟩ n s = [] := by unfold takeL; rw [ho]; rfl
          rw [ho, hv, hl]
          clear ho hv hl
          dsimp only [rw0]
          have c88_T_0 := HX_T.out.at 0 (v := .int .i64 x) rfl
          have c88_T_1 := HX_T.out.at 1 (v := .slice a q.length cap) rfl
          have c89_A_0 := HX_A.out.at 0 (v := .int .i64 0) rfl
          have c89_A_1 := HX_A.out.at 1 (v := .slice none 0 0) rfl
          go_enter Try.func33, Try.ntmps33
          go_upto_region 1 with fail
          rw [← HW0.out, ← HR_A.out, ← HR_T.out]
          go_wp2_with fail
          refine (HH.out _ (HP.out.below HB0.out (Nat.le_refl _))).mono ?_
          rintro e W90 ⟨rfl, l90⟩
          clear c88_T_0 c88_T_1
          clear c89_A_0 c89_A_1
          have HB_91 := Lib.hid (HB0.out.trans (l90.mono HB0.out.size))
          have T_91 := Lib.hid (HX_T.out.below l90 HX_T.out.lt)
          have A_91 := Lib.hid (HX_A.out.below l90 HX_A.out.lt)
          clear l90
          have c92_T_0 := T_91.out.at 0 (v := .int .i64 x) rfl
          have c92_T_1 := T_91.out.at 1 (v := .slice a q.length cap) rfl
          have c93_A_0 := A_91.out.at 0 (v := .int .i64 0) rfl
          have c93_A_1 := A_91.out.at 1 (v := .slice none 0 0) rfl
          go_wp2_with fail
          refine (HI.out _).mono ?_
          rintro e _ ⟨rfl, rfl⟩
          go_wp2_with fail
          refine (HGp.out _).mono ?_
          rintro e _ ⟨rfl, rfl⟩
          have hAl := A_91.out.alloc (.cells #[] 9)
          have z0 := hAl.at 0 (v := .int .i64 0) rfl
          have y0 := hAl.free 0
          have z1 := hAl.at 1 (v := .slice none 0 0) rfl
          have y1 := hAl.free 1
          have HAl := Lib.hid hAl
          clear hAl
          go_wp2_with fail
          obtain ⟨p1, q1⟩ := HAl.out.store2 (.int .i64 0) (.slice none 0 0)
          have hB9 := HB_91.out.alloc HB_91.out.size (.cells #[] 9)
          refine bodyPost_ret (results_bx2 rfl isRw _ _ R_A rfl rfl rfl rfl p1) rfl ?_
          exact ⟨_, _, rfl, ⟨rfl, .inl ⟨rfl, rfl⟩⟩, (own_lit (heap_alloc_new W90 (.cells #[] 9)) HB_91.out.size).kept q1 (.inr (fun e => by have e2 : W90.heap.size = R_A := Option.some.inj e; have h1 := A_91.out.lt; omega)), (fun k h => by cases h), hB9.grown q1 hB9.size (fun k hk => by have e2 : R_A = k := Option.some.inj hk; have := HR_A.out; omega)⟩
        rw [decide_eq_true h8] at hit
        obtain ⟨e1, e2⟩ := take_mov_put hit hb
        obtain ⟨p1', p2', p3', p4'⟩ := put_facts hit hb
        have pi' := put_items hit hb
        have hv : takeV ⟨x, q⟩ n s = movW ⟨x, putQ ⟨x, q⟩ n s⟩ 0 := by unfold takeV; rw [if_pos hit, e1]
        have hl : takeL ⟨x, q⟩ n s = movL (putQ ⟨x, q⟩ n s) 0 := by unfold takeL; rw [if_pos hit, e2]
        rw [hit, hv, hl]
        obtain ⟨k, hk⟩ : ∃ k : Nat, gapI x n = (k : Int) := ⟨(gapI x n).toNat, by omega⟩
        have hpq : putQ ⟨x, q⟩ n s = setQ q k ⟨true, s⟩ := by unfold putQ gapN; rw [hk, Int.toNat_natCast]
        rw [hpq] at p1' pi' ⊢
        rw [hk] at HGp h8
        have hk8 : k < 8 := by omega
        have HWi := Lib.hid (fun (W1 : World) (hr : Row W1 (.slice a q.length cap) q.length (slF q)) => withItem_any (.slice a q.length cap) ⟨x, q⟩ W1 hr k s HFit.out.fit hk8 hl8)
        dsimp only at HWi
        generalize setQ q k ⟨true, s⟩ = pq at HWi p1' pi' ⊢
        have HM := Lib.hid (fun (v' : Value) (W1 : World) (hr : Row W1 v' pq.length (slF pq)) (hf : FitA v' pq.length) => movedOn_any v' ⟨x, pq⟩ W1 hr 0 hf hxb p1' pi' (by omega))
        dsimp only at HM
        rw [show ((0 : Nat) : Int) = 0 from rfl] at HM
        generalize movW ⟨x, pq⟩ 0 = wv at HM ⊢
        generalize movL pq 0 = wl at HM ⊢
        obtain ⟨xx, qq⟩ := wv
        dsimp only at HM ⊢
        have h8' : ¬ (8 : Int) ≤ (k : Int) := by omega
        clear e1 e2 hv hl hit hso hfb hlb hok hn hh hb his p2' p3' p4' hpq hk hgk h8 pi' p1' hs8
        have c94_T_0 := HX_T.out.at 0 (v := .int .i64 x) rfl
        have c94_T_1 := HX_T.out.at 1 (v := .slice a q.length cap) rfl
        have c95_A_0 := HX_A.out.at 0 (v := .int .i64 0) rfl
        have c95_A_1 := HX_A.out.at 1 (v := .slice none 0 0) rfl
        go_enter Try.func33, Try.ntmps33
        go_upto_region 1 with fail
        rw [← HW0.out, ← HR_A.out, ← HR_T.out]
        go_wp2_with fail
        refine (HH.out _ (HP.out.below HB0.out (Nat.le_refl _))).mono ?_
        rintro e W96 ⟨rfl, l96⟩
        clear c94_T_0 c94_T_1
        clear c95_A_0 c95_A_1
        have HB_97 := Lib.hid (HB0.out.trans (l96.mono HB0.out.size))
        have T_97 := Lib.hid (HX_T.out.below l96 HX_T.out.lt)
        have A_97 := Lib.hid (HX_A.out.below l96 HX_A.out.lt)
        clear l96
        have c98_T_0 := T_97.out.at 0 (v := .int .i64 x) rfl
        have c98_T_1 := T_97.out.at 1 (v := .slice a q.length cap) rfl
        have c99_A_0 := A_97.out.at 0 (v := .int .i64 0) rfl
        have c99_A_1 := A_97.out.at 1 (v := .slice none 0 0) rfl
        go_wp2_with fail
        refine (HI.out _).mono ?_
        rintro e _ ⟨rfl, rfl⟩
        go_wp2_with fail
        refine (HGp.out _).mono ?_
        rintro e _ ⟨rfl, rfl⟩
        go_wp2_with fail
        refine (HWi.out _ (HP.out.below HB_97.out (Nat.le_refl _))).mono ?_
        rintro e W100 ⟨v_p, rfl, o_p, l100⟩
        obtain ⟨a_p, c_p, rfl, _, _⟩ := ownz_slice o_p
        have O_p := Lib.hid (ownz_base o_p HB_97.out.size)
        have BX_T_p : Hid (∀ k, (.slice a_p pq.length c_p : Value).ownBlock = some k → k ≠ R_T) := Lib.hid (fun k h1 h2 => absurd T_97.out.lt (Nat.not_lt.2 (by rw [← h2]; exact (o_p.lt k h1).1)))
        have BX_A_p : Hid (∀ k, (.slice a_p pq.length c_p : Value).ownBlock = some k → k ≠ R_A) := Lib.hid (fun k h1 h2 => absurd A_97.out.lt (Nat.not_lt.2 (by rw [← h2]; exact (o_p.lt k h1).1)))
        clear o_p
        clear c98_T_0 c98_T_1
        clear c99_A_0 c99_A_1
        have HB_101 := Lib.hid (HB_97.out.trans (l100.mono HB_97.out.size))
        have T_101 := Lib.hid (T_97.out.below l100 T_97.out.lt)
        clear T_97
        have A_101 := Lib.hid (A_97.out.below l100 A_97.out.lt)
        clear A_97
        clear l100
        have c102_T_0 := T_101.out.at 0 (v := .int .i64 x) rfl
        have c102_T_1 := T_101.out.at 1 (v := .slice a q.length cap) rfl
        have c103_A_0 := A_101.out.at 0 (v := .int .i64 0) rfl
        have c103_A_1 := A_101.out.at 1 (v := .slice none 0 0) rfl
        have fr104_T_0 := T_101.out.free 0
        have fr104_T_1 := T_101.out.free 1
        go_upto_region 9 with fail
        clear c102_T_0 c102_T_1
        clear fr104_T_0 fr104_T_1
        clear c103_A_0 c103_A_1
        obtain ⟨p105, q105⟩ := T_101.out.store2 (.int .i64 x) (.slice a_p pq.length c_p)
        obtain ⟨W105, hW105⟩ : ∃ W105, W105 = ((W100.setCell ⟨R_T, 0, none⟩ (.int .i64 x)).setCell ⟨R_T, 1, none⟩ (.slice a_p pq.length c_p)) := ⟨_, rfl⟩
        rw [← hW105] at p105 q105 ⊢
        have X105_T : Hid (Bx W105 R_T #[.int .i64 x, .slice a_p pq.length c_p] 26) := Lib.hid p105
        have HB_106 := Lib.hid (HB_101.out.grown q105 HB_101.out.size (fun k hk => by have e2 : R_T = k := Option.some.inj hk; have := HR_T.out; omega))
        have p_106 := Lib.hid (O_p.out.kept q105 (by
          cases hv : (.slice a_p pq.length c_p : Value).ownBlock with
          | none => exact .inl rfl
          | some k => exact .inr (fun e => BX_T_p.out k hv (Option.some.inj e))))
        clear O_p
        have A_106 := Lib.hid (A_101.out.grown q105 (by intro e; have e2 : R_A = R_T := Option.some.inj e; have h1 := HR_A.out; have h2 := HR_T.out; omega))
        clear A_101
        clear T_101
        clear hW105 p105 q105
        have c107_T_0 := X105_T.out.at 0 (v := .int .i64 x) rfl
        have c107_T_1 := X105_T.out.at 1 (v := .slice a_p pq.length c_p) rfl
        have c108_A_0 := A_106.out.at 0 (v := .int .i64 0) rfl
        have c108_A_1 := A_106.out.at 1 (v := .slice none 0 0) rfl
        go_wp2_with fail
        refine (HM.out _ _ (rowz_own p_106.out) (fitA_ownz p_106.out)).mono ?_
        rintro e W109 ⟨v_m, u_m, rfl, o_m, o_u, ap, l109⟩
        clear p_106
        obtain ⟨a_m, c_m, rfl, _, _⟩ := ownz_slice o_m
        obtain ⟨a_u, c_u, rfl, _, _⟩ := ownz_slice o_u
        have O_m := Lib.hid (ownz_base o_m HB_106.out.size)
        have BX_T_m : Hid (∀ k, (.slice a_m qq.length c_m : Value).ownBlock = some k → k ≠ R_T) := Lib.hid (fun k h1 h2 => absurd X105_T.out.lt (Nat.not_lt.2 (by rw [← h2]; exact (o_m.lt k h1).1)))
        have BX_A_m : Hid (∀ k, (.slice a_m qq.length c_m : Value).ownBlock = some k → k ≠ R_A) := Lib.hid (fun k h1 h2 => absurd A_106.out.lt (Nat.not_lt.2 (by rw [← h2]; exact (o_m.lt k h1).1)))
        have O_u := Lib.hid (ownz_base o_u HB_106.out.size)
        have BX_T_u : Hid (∀ k, (.slice a_u wl.length c_u : Value).ownBlock = some k → k ≠ R_T) := Lib.hid (fun k h1 h2 => absurd X105_T.out.lt (Nat.not_lt.2 (by rw [← h2]; exact (o_u.lt k h1).1)))
        have BX_A_u : Hid (∀ k, (.slice a_u wl.length c_u : Value).ownBlock = some k → k ≠ R_A) := Lib.hid (fun k h1 h2 => absurd A_106.out.lt (Nat.not_lt.2 (by rw [← h2]; exact (o_u.lt k h1).1)))
        have AP := Lib.hid ap
        clear o_m o_u ap
        clear c107_T_0 c107_T_1
        clear c108_A_0 c108_A_1
        have HB_110 := Lib.hid (HB_106.out.trans (l109.mono HB_106.out.size))
        have T_110 := Lib.hid (X105_T.out.below l109 X105_T.out.lt)
        clear X105_T
        have A_110 := Lib.hid (A_106.out.below l109 A_106.out.lt)
        clear A_106
        clear l109
        have c111_T_0 := T_110.out.at 0 (v := .int .i64 x) rfl
        have c111_T_1 := T_110.out.at 1 (v := .slice a_p pq.length c_p) rfl
        have c112_A_0 := A_110.out.at 0 (v := .int .i64 0) rfl
        have c112_A_1 := A_110.out.at 1 (v := .slice none 0 0) rfl
        go_upto_region 10 with fail
        obtain ⟨W113, hW113⟩ : ∃ W113, W113 = W109.alloc (.cells #[.int .i64 xx, .slice a_m qq.length c_m] 26) := ⟨_, rfl⟩
        have l113 : Below W109.heap.size W109 W113 := by rw [hW113]; exact (Below.refl _ _).alloc (Nat.le_refl _) _
        have X113_R : Hid (Bx W113 W109.heap.size #[.int .i64 xx, .slice a_m qq.length c_m] 26) := Lib.hid (by rw [hW113]; exact Bx.new _ _ _)
        rw [← hW113]
        clear hW113
        have BX_R_m : Hid (∀ k, (.slice a_m qq.length c_m : Value).ownBlock = some k → k ≠ W109.heap.size) := Lib.hid (fun k h1 h2 => absurd (O_m.out.lt k h1).2 (by omega))
        have BX_R_u : Hid (∀ k, (.slice a_u wl.length c_u : Value).ownBlock = some k → k ≠ W109.heap.size) := Lib.hid (fun k h1 h2 => absurd (O_u.out.lt k h1).2 (by omega))
        have HG_R : Hid (w.heap.size ≤ W109.heap.size) := Lib.hid HB_110.out.size
        have HN_R_T : Hid (R_T < W109.heap.size) := Lib.hid T_110.out.lt
        have HN_R_A : Hid (R_A < W109.heap.size) := Lib.hid A_110.out.lt
        obtain ⟨R_R, hR_R⟩ : ∃ X, X = W109.heap.size := ⟨_, rfl⟩
        rw [← hR_R] at X113_R HG_R BX_R_m BX_R_u HN_R_T HN_R_A ⊢
        clear hR_R
        clear c111_T_0 c111_T_1
        clear c112_A_0 c112_A_1
        have HB_114 := Lib.hid (HB_110.out.trans (l113.mono HB_110.out.size))
        have m_114 := Lib.hid (ownz_below O_m.out l113 (Nat.le_refl _))
        clear O_m
        have u_114 := Lib.hid (ownz_below O_u.out l113 (Nat.le_refl _))
        clear O_u
        have T_114 := Lib.hid (T_110.out.below l113 T_110.out.lt)
        clear T_110
        have A_114 := Lib.hid (A_110.out.below l113 A_110.out.lt)
        clear A_110
        clear l113
        have c115_T_0 := T_114.out.at 0 (v := .int .i64 x) rfl
        have c115_T_1 := T_114.out.at 1 (v := .slice a_p pq.length c_p) rfl
        have c116_A_0 := A_114.out.at 0 (v := .int .i64 0) rfl
        have c116_A_1 := A_114.out.at 1 (v := .slice none 0 0) rfl
        have c117_R_0 := X113_R.out.at 0 (v := .int .i64 xx) rfl
        have c117_R_1 := X113_R.out.at 1 (v := .slice a_m qq.length c_m) rfl
        have fr118_A_0 := A_114.out.free 0
        have fr118_A_1 := A_114.out.free 1
        go_wp2_with fail
        obtain ⟨p1, q1⟩ := A_114.out.store2 (.int .i64 xx) (.slice a_m qq.length c_m)
        refine bodyPost_ret (results_bx2 rfl isRw _ _ R_A rfl rfl rfl rfl p1) rfl ?_
        exact ⟨_, _, rfl, (m_114.out.kept q1 (by
          cases hv : (.slice a_m qq.length c_m : Value).ownBlock with
          | none => exact .inl rfl
          | some k => exact .inr (fun e => BX_A_m.out k hv (Option.some.inj e)))), (u_114.out.kept q1 (by
          cases hv : (.slice a_u wl.length c_u : Value).ownBlock with
          | none => exact .inl rfl
          | some k => exact .inr (fun e => BX_A_u.out k hv (Option.some.inj e)))), AP.out, (HB_114.out.grown q1 HB_114.out.size (fun k hk => by have e2 : R_A = k := Option.some.inj hk; have := HR_A.out; omega))⟩
end Go.Proofs.Ytpmjdppipalfcaa
