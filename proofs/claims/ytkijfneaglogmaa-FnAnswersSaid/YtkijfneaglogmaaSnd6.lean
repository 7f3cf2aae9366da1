/-
  Windows of the source: items that are pushed (the specification's).
-/
import Derived.Test.YtkijfneaglogmaaSnd3
import Derived.Deep.QuietTactic
import Derived.BigQuiet
import Derived.IntWalk
import Derived.Deep.CutRange
import Derived.WalkLawsBesides
import Derived.Lib.SmallJoins
import Derived.Deep.RegionHeld3
namespace Go.Proofs.Ytkijfneaglogmaa
open Go.RowKit Go.Lib Go.Joins
set_option linter.unusedVariables false

set_option maxRecDepth 100000 in
set_option maxHeartbeats 8000000 in
theorem specPush_any (v : Value) (l : Sw) (s : ByteArray) (w : World) (hrow : Row w v l.q.length (l.q.map Value.string)) (hs : ∀ s ∈ l.q, s.size ≤ maxLen) (hsz : s.size ≤ maxLen) (hfit : FitA v l.q.length) :
    Calls Try.prog 17 #[.agg #[.int .i64 l.t, .int .i64 l.z, v], .string s] w fun e w' => ∃ v', e = .returned (.tuple #[.agg #[.int .i64 (pushV l s).t, .int .i64 (pushV l s).z, v'], .agg #[.int .i64 (pushP l s).k, .int .i64 (pushP l s).n, .int .i64 (pushP l s).t, .int .i64 (pushP l s).l, .string (pushP l s).d], .bool (pushOk l s)]) ∧ w'.ownsRow w.heap.size 9 1 v' (pushV l s).q.length ((pushV l s).q.map Value.string) ∧ Below w.heap.size w w' := by
  have HFit := Lib.hid hfit
  clear hfit
  obtain ⟨t, z, q⟩ := l
  dsimp only at hrow hs ⊢
  obtain ⟨a, cap, rfl, hc1, hm1, _⟩ := row_open hrow
  unfold maxLen at hm1
  have HP := Lib.hid hrow
  clear hrow
  have HS := Lib.hid hs
  clear hs
  dsimp only at HFit
  obtain ⟨W0, R_T, R_A, R_B, hW0, hR_T, hR_A, hR_B, hX_T, hX_A, hX_B, hB0⟩ := entry3 w #[.int .i64 t, .int .i64 z, .slice a q.length cap] #[.int .i64 0, .int .i64 0, .slice none 0 0] #[.int .i64 0, .int .i64 0, .int .i64 0, .int .i64 0, .string ⟨#[]⟩] 26 26 30
  have HW0 := Lib.hid hW0
  have HB0 := Lib.hid hB0
  have HR_T := Lib.hid hR_T
  have HX_T := Lib.hid hX_T
  have HR_A := Lib.hid hR_A
  have HX_A := Lib.hid hX_A
  have HR_B := Lib.hid hR_B
  have HX_B := Lib.hid hX_B
  clear hW0 hB0 hR_T hX_T hR_A hX_A hR_B hX_B
  have HG := Lib.hid (fun (W1 : World) (hr : Row W1 (.slice a q.length cap) q.length (q.map Value.string)) => l9Good_any (.slice a q.length cap) ⟨t, z, q⟩ W1 hr HS.out)
  have HI := Lib.hid (fun (W1 : World) => l4Letters_any s 8 W1 hsz (by omega))
  have hit : (ltrB s && decide (s.size ≤ 8)) = itB s := rfl
  rw [hit] at HI
  clear hit
  have HO : Hid (pushOk ⟨t, z, q⟩ s = (swOk ⟨t, z, q⟩ && itB s)) := Lib.hid rfl
  have HN := Lib.hid (@push_no ⟨t, z, q⟩ s)
  cases hok : swOk ⟨t, z, q⟩ with
  | false =>
    rw [hok] at HG
    have hno : pushOk ⟨t, z, q⟩ s = false := by rw [HO.out, hok]; rfl
    obtain ⟨e1, e2⟩ := HN.out hno
    rw [hno, e1, e2]
    dsimp only [sw0, pk0]
    clear hno e1 e2 HN HO
    have hne_A_B : R_A ≠ R_B := fun e => absurd (congrArg some e) (by intro e; have e2 : R_A = R_B := Option.some.inj e; have h1 := HR_A.out; have h2 := HR_B.out; omega)
    have hne_B_A : R_B ≠ R_A := fun e => absurd (congrArg some e) (by intro e; have e2 : R_B = R_A := Option.some.inj e; have h1 := HR_B.out; have h2 := HR_A.out; omega)
    have c22_T_0 := HX_T.out.at 0 (v := .int .i64 t) rfl
    have c22_T_1 := HX_T.out.at 1 (v := .int .i64 z) rfl
    have c22_T_2 := HX_T.out.at 2 (v := .slice a q.length cap) rfl
    have c23_A_0 := HX_A.out.at 0 (v := .int .i64 0) rfl
    have c23_A_1 := HX_A.out.at 1 (v := .int .i64 0) rfl
    have c23_A_2 := HX_A.out.at 2 (v := .slice none 0 0) rfl
    have c24_B_0 := HX_B.out.at 0 (v := .int .i64 0) rfl
    have c24_B_1 := HX_B.out.at 1 (v := .int .i64 0) rfl
    have c24_B_2 := HX_B.out.at 2 (v := .int .i64 0) rfl
    have c24_B_3 := HX_B.out.at 3 (v := .int .i64 0) rfl
    have c24_B_4 := HX_B.out.at 4 (v := .string ⟨#[]⟩) rfl
    go_enter Try.func17, Try.ntmps17
    go_upto_region 1 with fail
    rw [← HW0.out, ← HR_B.out, ← HR_A.out, ← HR_T.out]
    go_wp2_with fail
    refine (HG.out _ (HP.out.below HB0.out (Nat.le_refl _))).mono ?_
    rintro e W25 ⟨rfl, l25⟩
    clear c22_T_0 c22_T_1 c22_T_2
    clear c23_A_0 c23_A_1 c23_A_2
    clear c24_B_0 c24_B_1 c24_B_2 c24_B_3 c24_B_4
    have HB_26 := Lib.hid (HB0.out.trans (l25.mono HB0.out.size))
    have T_26 := Lib.hid (HX_T.out.below l25 HX_T.out.lt)
    have A_26 := Lib.hid (HX_A.out.below l25 HX_A.out.lt)
    have B_26 := Lib.hid (HX_B.out.below l25 HX_B.out.lt)
    clear l25
    have c27_T_0 := T_26.out.at 0 (v := .int .i64 t) rfl
    have c27_T_1 := T_26.out.at 1 (v := .int .i64 z) rfl
    have c27_T_2 := T_26.out.at 2 (v := .slice a q.length cap) rfl
    have c28_A_0 := A_26.out.at 0 (v := .int .i64 0) rfl
    have c28_A_1 := A_26.out.at 1 (v := .int .i64 0) rfl
    have c28_A_2 := A_26.out.at 2 (v := .slice none 0 0) rfl
    have c29_B_0 := B_26.out.at 0 (v := .int .i64 0) rfl
    have c29_B_1 := B_26.out.at 1 (v := .int .i64 0) rfl
    have c29_B_2 := B_26.out.at 2 (v := .int .i64 0) rfl
    have c29_B_3 := B_26.out.at 3 (v := .int .i64 0) rfl
    have c29_B_4 := B_26.out.at 4 (v := .string ⟨#[]⟩) rfl
    have fr30_A_0 := A_26.out.free 0
    have fr30_A_1 := A_26.out.free 1
    have fr30_A_2 := A_26.out.free 2
    have fr31_B_0 := B_26.out.free 0
    have fr31_B_1 := B_26.out.free 1
    have fr31_B_2 := B_26.out.free 2
    have fr31_B_3 := B_26.out.free 3
    have fr31_B_4 := B_26.out.free 4
    go_wp2_with fail
    obtain ⟨p1, q1⟩ := A_26.out.store3 (.int .i64 0) (.int .i64 0) (.slice none 0 0)
    obtain ⟨p2, q2⟩ := (B_26.out.grown q1 (by intro e; have e2 : R_B = R_A := Option.some.inj e; have h1 := HR_B.out; have h2 := HR_A.out; omega)).store5 (.int .i64 0) (.int .i64 0) (.int .i64 0) (.int .i64 0) (.string ⟨#[]⟩)
    have hB9 := (HB_26.out.grown q1 HB_26.out.size (fun k hk => by have e2 : R_A = k := Option.some.inj hk; have := HR_A.out; omega))
    have hB10 := hB9.grown q2 hB9.size (fun k hk => by have e2 : R_B = k := Option.some.inj hk; have := HR_B.out; omega)
    refine bodyPost_ret (results_bxx1 rfl isSw isPk _ _ R_A R_B rfl rfl rfl rfl rfl (p1.grown q2 (by intro e; have e2 : R_A = R_B := Option.some.inj e; have h1 := HR_A.out; have h2 := HR_B.out; omega)) p2) rfl ⟨_, rfl, ⟨rfl, .inl ⟨rfl, rfl⟩⟩, hB10⟩
  | true =>
    rw [hok] at HG
    cases hs : itB s with
    | false =>
      rw [hs] at HI
      have hno : pushOk ⟨t, z, q⟩ s = false := by rw [HO.out, hok, hs]; rfl
      obtain ⟨e1, e2⟩ := HN.out hno
      rw [hno, e1, e2]
      dsimp only [sw0, pk0]
      clear hno e1 e2 HN HO
      have hne_A_B : R_A ≠ R_B := fun e => absurd (congrArg some e) (by intro e; have e2 : R_A = R_B := Option.some.inj e; have h1 := HR_A.out; have h2 := HR_B.out; omega)
      have hne_B_A : R_B ≠ R_A := fun e => absurd (congrArg some e) (by intro e; have e2 : R_B = R_A := Option.some.inj e; have h1 := HR_B.out; have h2 := HR_A.out; omega)
      have c32_T_0 := HX_T.out.at 0 (v := .int .i64 t) rfl
      have c32_T_1 := HX_T.out.at 1 (v := .int .i64 z) rfl
      have c32_T_2 := HX_T.out.at 2 (v := .slice a q.length cap) rfl
      have c33_A_0 := HX_A.out.at 0 (v := .int .i64 0) rfl
      have c33_A_1 := HX_A.out.at 1 (v := .int .i64 0) rfl
      have c33_A_2 := HX_A.out.at 2 (v := .slice none 0 0) rfl
      have c34_B_0 := HX_B.out.at 0 (v := .int .i64 0) rfl
      have c34_B_1 := HX_B.out.at 1 (v := .int .i64 0) rfl
      have c34_B_2 := HX_B.out.at 2 (v := .int .i64 0) rfl
      have c34_B_3 := HX_B.out.at 3 (v := .int .i64 0) rfl
      have c34_B_4 := HX_B.out.at 4 (v := .string ⟨#[]⟩) rfl
      go_enter Try.func17, Try.ntmps17
      go_upto_region 1 with fail
      rw [← HW0.out, ← HR_B.out, ← HR_A.out, ← HR_T.out]
      go_wp2_with fail
      refine (HG.out _ (HP.out.below HB0.out (Nat.le_refl _))).mono ?_
      rintro e W35 ⟨rfl, l35⟩
      clear c32_T_0 c32_T_1 c32_T_2
      clear c33_A_0 c33_A_1 c33_A_2
      clear c34_B_0 c34_B_1 c34_B_2 c34_B_3 c34_B_4
      have HB_36 := Lib.hid (HB0.out.trans (l35.mono HB0.out.size))
      have T_36 := Lib.hid (HX_T.out.below l35 HX_T.out.lt)
      have A_36 := Lib.hid (HX_A.out.below l35 HX_A.out.lt)
      have B_36 := Lib.hid (HX_B.out.below l35 HX_B.out.lt)
      clear l35
      have c37_T_0 := T_36.out.at 0 (v := .int .i64 t) rfl
      have c37_T_1 := T_36.out.at 1 (v := .int .i64 z) rfl
      have c37_T_2 := T_36.out.at 2 (v := .slice a q.length cap) rfl
      have c38_A_0 := A_36.out.at 0 (v := .int .i64 0) rfl
      have c38_A_1 := A_36.out.at 1 (v := .int .i64 0) rfl
      have c38_A_2 := A_36.out.at 2 (v := .slice none 0 0) rfl
      have c39_B_0 := B_36.out.at 0 (v := .int .i64 0) rfl
      have c39_B_1 := B_36.out.at 1 (v := .int .i64 0) rfl
      have c39_B_2 := B_36.out.at 2 (v := .int .i64 0) rfl
      have c39_B_3 := B_36.out.at 3 (v := .int .i64 0) rfl
      have c39_B_4 := B_36.out.at 4 (v := .string ⟨#[]⟩) rfl
      go_wp2_with fail
      refine (HI.out _).mono ?_
      rintro e _ ⟨rfl, rfl⟩
      have fr40_A_0 := A_36.out.free 0
      have fr40_A_1 := A_36.out.free 1
      have fr40_A_2 := A_36.out.free 2
      have fr41_B_0 := B_36.out.free 0
      have fr41_B_1 := B_36.out.free 1
      have fr41_B_2 := B_36.out.free 2
      have fr41_B_3 := B_36.out.free 3
      have fr41_B_4 := B_36.out.free 4
      go_wp2_with fail
      obtain ⟨p1, q1⟩ := A_36.out.store3 (.int .i64 0) (.int .i64 0) (.slice none 0 0)
      obtain ⟨p2, q2⟩ := (B_36.out.grown q1 (by intro e; have e2 : R_B = R_A := Option.some.inj e; have h1 := HR_B.out; have h2 := HR_A.out; omega)).store5 (.int .i64 0) (.int .i64 0) (.int .i64 0) (.int .i64 0) (.string ⟨#[]⟩)
      have hB9 := (HB_36.out.grown q1 HB_36.out.size (fun k hk => by have e2 : R_A = k := Option.some.inj hk; have := HR_A.out; omega))
      have hB10 := hB9.grown q2 hB9.size (fun k hk => by have e2 : R_B = k := Option.some.inj hk; have := HR_B.out; omega)
      refine bodyPost_ret (results_bxx1 rfl isSw isPk _ _ R_A R_B rfl rfl rfl rfl rfl (p1.grown q2 (by intro e; have e2 : R_A = R_B := Option.some.inj e; have h1 := HR_A.out; have h2 := HR_B.out; omega)) p2) rfl ⟨_, rfl, ⟨rfl, .inl ⟨rfl, rfl⟩⟩, hB10⟩
    | true =>
      rw [hs] at HI
      have hyes : pushOk ⟨t, z, q⟩ s = true := by rw [HO.out, hok, hs]; rfl
      rw [hyes, pushP_yes hyes, pushV_yes hyes]
      dsimp only
      have HPu := Lib.hid (fun (W1 : World) (hr : Row W1 (.slice a q.length cap) q.length (q.map Value.string)) => l9Push_any (.slice a q.length cap) ⟨t, z, q⟩ s W1 hr HFit.out hok)
      generalize leadI (roomW ⟨t, z, q⟩) = nu at HPu ⊢
      generalize leadI (pushW ⟨t, z, q⟩ s) = le at HPu ⊢
      generalize pushW ⟨t, z, q⟩ s = y at HPu ⊢
      clear hyes hok hs HN HO
      have hne_A_B : R_A ≠ R_B := fun e => absurd (congrArg some e) (by intro e; have e2 : R_A = R_B := Option.some.inj e; have h1 := HR_A.out; have h2 := HR_B.out; omega)
      have hne_B_A : R_B ≠ R_A := fun e => absurd (congrArg some e) (by intro e; have e2 : R_B = R_A := Option.some.inj e; have h1 := HR_B.out; have h2 := HR_A.out; omega)
      have c42_T_0 := HX_T.out.at 0 (v := .int .i64 t) rfl
      have c42_T_1 := HX_T.out.at 1 (v := .int .i64 z) rfl
      have c42_T_2 := HX_T.out.at 2 (v := .slice a q.length cap) rfl
      have c43_A_0 := HX_A.out.at 0 (v := .int .i64 0) rfl
      have c43_A_1 := HX_A.out.at 1 (v := .int .i64 0) rfl
      have c43_A_2 := HX_A.out.at 2 (v := .slice none 0 0) rfl
      have c44_B_0 := HX_B.out.at 0 (v := .int .i64 0) rfl
      have c44_B_1 := HX_B.out.at 1 (v := .int .i64 0) rfl
      have c44_B_2 := HX_B.out.at 2 (v := .int .i64 0) rfl
      have c44_B_3 := HX_B.out.at 3 (v := .int .i64 0) rfl
      have c44_B_4 := HX_B.out.at 4 (v := .string ⟨#[]⟩) rfl
      go_enter Try.func17, Try.ntmps17
      go_upto_region 1 with fail
      rw [← HW0.out, ← HR_B.out, ← HR_A.out, ← HR_T.out]
      go_wp2_with fail
      refine (HG.out _ (HP.out.below HB0.out (Nat.le_refl _))).mono ?_
      rintro e W45 ⟨rfl, l45⟩
      clear c42_T_0 c42_T_1 c42_T_2
      clear c43_A_0 c43_A_1 c43_A_2
      clear c44_B_0 c44_B_1 c44_B_2 c44_B_3 c44_B_4
      have HB_46 := Lib.hid (HB0.out.trans (l45.mono HB0.out.size))
      have T_46 := Lib.hid (HX_T.out.below l45 HX_T.out.lt)
      have A_46 := Lib.hid (HX_A.out.below l45 HX_A.out.lt)
      have B_46 := Lib.hid (HX_B.out.below l45 HX_B.out.lt)
      clear l45
      have c47_T_0 := T_46.out.at 0 (v := .int .i64 t) rfl
      have c47_T_1 := T_46.out.at 1 (v := .int .i64 z) rfl
      have c47_T_2 := T_46.out.at 2 (v := .slice a q.length cap) rfl
      have c48_A_0 := A_46.out.at 0 (v := .int .i64 0) rfl
      have c48_A_1 := A_46.out.at 1 (v := .int .i64 0) rfl
      have c48_A_2 := A_46.out.at 2 (v := .slice none 0 0) rfl
      have c49_B_0 := B_46.out.at 0 (v := .int .i64 0) rfl
      have c49_B_1 := B_46.out.at 1 (v := .int .i64 0) rfl
      have c49_B_2 := B_46.out.at 2 (v := .int .i64 0) rfl
      have c49_B_3 := B_46.out.at 3 (v := .int .i64 0) rfl
      have c49_B_4 := B_46.out.at 4 (v := .string ⟨#[]⟩) rfl
      go_wp2_with fail
      refine (HI.out _).mono ?_
      rintro e _ ⟨rfl, rfl⟩
      go_wp2_with fail
      refine (HPu.out _ (HP.out.below HB_46.out (Nat.le_refl _))).mono ?_
      rintro e W50 ⟨v_y, rfl, o_y, l50⟩
      obtain ⟨a_y, c_y, rfl, _, _⟩ := own_someS0 o_y
      have O_y := Lib.hid (own_base o_y HB_46.out.size)
      have BX_T_y : Hid (∀ k, (.slice a_y y.q.length c_y : Value).ownBlock = some k → k ≠ R_T) := Lib.hid (fun k h1 h2 => absurd T_46.out.lt (Nat.not_lt.2 (by rw [← h2]; exact (o_y.lt k h1).1)))
      have BX_A_y : Hid (∀ k, (.slice a_y y.q.length c_y : Value).ownBlock = some k → k ≠ R_A) := Lib.hid (fun k h1 h2 => absurd A_46.out.lt (Nat.not_lt.2 (by rw [← h2]; exact (o_y.lt k h1).1)))
      have BX_B_y : Hid (∀ k, (.slice a_y y.q.length c_y : Value).ownBlock = some k → k ≠ R_B) := Lib.hid (fun k h1 h2 => absurd B_46.out.lt (Nat.not_lt.2 (by rw [← h2]; exact (o_y.lt k h1).1)))
      clear o_y
      clear c47_T_0 c47_T_1 c47_T_2
      clear c48_A_0 c48_A_1 c48_A_2
      clear c49_B_0 c49_B_1 c49_B_2 c49_B_3 c49_B_4
      have HB_51 := Lib.hid (HB_46.out.trans (l50.mono HB_46.out.size))
      have T_51 := Lib.hid (T_46.out.below l50 T_46.out.lt)
      clear T_46
      have A_51 := Lib.hid (A_46.out.below l50 A_46.out.lt)
      clear A_46
      have B_51 := Lib.hid (B_46.out.below l50 B_46.out.lt)
      clear B_46
      clear l50
      have c52_T_0 := T_51.out.at 0 (v := .int .i64 t) rfl
      have c52_T_1 := T_51.out.at 1 (v := .int .i64 z) rfl
      have c52_T_2 := T_51.out.at 2 (v := .slice a q.length cap) rfl
      have c53_A_0 := A_51.out.at 0 (v := .int .i64 0) rfl
      have c53_A_1 := A_51.out.at 1 (v := .int .i64 0) rfl
      have c53_A_2 := A_51.out.at 2 (v := .slice none 0 0) rfl
      have c54_B_0 := B_51.out.at 0 (v := .int .i64 0) rfl
      have c54_B_1 := B_51.out.at 1 (v := .int .i64 0) rfl
      have c54_B_2 := B_51.out.at 2 (v := .int .i64 0) rfl
      have c54_B_3 := B_51.out.at 3 (v := .int .i64 0) rfl
      have c54_B_4 := B_51.out.at 4 (v := .string ⟨#[]⟩) rfl
      go_upto_region 4 with fail
      obtain ⟨W55, hW55⟩ : ∃ W55, W55 = (W50.alloc (.cells #[.int .i64 y.t, .int .i64 y.z, .slice a_y y.q.length c_y] 26)).alloc (.cells #[.int .i64 1, .int .i64 nu, .int .i64 y.t, .int .i64 le, .string s] 30) := ⟨_, rfl⟩
      have l55 : Below W50.heap.size W50 W55 := by rw [hW55]; exact ((Below.refl _ _).alloc (Nat.le_refl _) _).alloc (by simp) _
      have X55_U : Hid (Bx W55 W50.heap.size #[.int .i64 y.t, .int .i64 y.z, .slice a_y y.q.length c_y] 26) := Lib.hid (by rw [hW55]; exact (Bx.new2 _ _ _ _ _).1)
      have X55_V : Hid (Bx W55 (W50.heap.size + 1) #[.int .i64 1, .int .i64 nu, .int .i64 y.t, .int .i64 le, .string s] 30) := Lib.hid (by rw [hW55]; exact (Bx.new2 _ _ _ _ _).2)
      rw [← hW55]
      clear hW55
      have BX_U_y : Hid (∀ k, (.slice a_y y.q.length c_y : Value).ownBlock = some k → k ≠ W50.heap.size) := Lib.hid (fun k h1 h2 => absurd (O_y.out.lt k h1).2 (by omega))
      have HG_U : Hid (w.heap.size ≤ W50.heap.size) := Lib.hid (HB_51.out.size)
      have HN_U_T : Hid (R_T < W50.heap.size) := Lib.hid (T_51.out.lt)
      have HN_U_A : Hid (R_A < W50.heap.size) := Lib.hid (A_51.out.lt)
      have HN_U_B : Hid (R_B < W50.heap.size) := Lib.hid (B_51.out.lt)
      have BX_V_y : Hid (∀ k, (.slice a_y y.q.length c_y : Value).ownBlock = some k → k ≠ (W50.heap.size + 1)) := Lib.hid (fun k h1 h2 => absurd (O_y.out.lt k h1).2 (by omega))
      have HG_V : Hid (w.heap.size ≤ (W50.heap.size + 1)) := Lib.hid (Nat.le_succ_of_le HB_51.out.size)
      have HN_V_T : Hid (R_T < (W50.heap.size + 1)) := Lib.hid (Nat.lt_succ_of_lt T_51.out.lt)
      have HN_V_A : Hid (R_A < (W50.heap.size + 1)) := Lib.hid (Nat.lt_succ_of_lt A_51.out.lt)
      have HN_V_B : Hid (R_B < (W50.heap.size + 1)) := Lib.hid (Nat.lt_succ_of_lt B_51.out.lt)
      have HN_V_U : Hid (W50.heap.size < W50.heap.size + 1) := Lib.hid (Nat.lt_succ_self _)
      obtain ⟨R_V, hR_V⟩ : ∃ X, X = W50.heap.size + 1 := ⟨_, rfl⟩
      rw [← hR_V] at X55_V HG_V HN_V_U BX_V_y HN_V_T HN_V_A HN_V_B ⊢
      clear hR_V
      obtain ⟨R_U, hR_U⟩ : ∃ X, X = W50.heap.size := ⟨_, rfl⟩
      rw [← hR_U] at X55_U HG_U HN_V_U BX_U_y HN_U_T HN_U_A HN_U_B ⊢
      clear hR_U
      clear c52_T_0 c52_T_1 c52_T_2
      clear c53_A_0 c53_A_1 c53_A_2
      clear c54_B_0 c54_B_1 c54_B_2 c54_B_3 c54_B_4
      have HB_56 := Lib.hid (HB_51.out.trans (l55.mono HB_51.out.size))
      have y_56 := Lib.hid (own_below O_y.out l55 (Nat.le_refl _))
      clear O_y
      have T_56 := Lib.hid (T_51.out.below l55 T_51.out.lt)
      clear T_51
      have A_56 := Lib.hid (A_51.out.below l55 A_51.out.lt)
      clear A_51
      have B_56 := Lib.hid (B_51.out.below l55 B_51.out.lt)
      clear B_51
      clear l55
      have c57_T_0 := T_56.out.at 0 (v := .int .i64 t) rfl
      have c57_T_1 := T_56.out.at 1 (v := .int .i64 z) rfl
      have c57_T_2 := T_56.out.at 2 (v := .slice a q.length cap) rfl
      have c58_A_0 := A_56.out.at 0 (v := .int .i64 0) rfl
      have c58_A_1 := A_56.out.at 1 (v := .int .i64 0) rfl
      have c58_A_2 := A_56.out.at 2 (v := .slice none 0 0) rfl
      have c59_B_0 := B_56.out.at 0 (v := .int .i64 0) rfl
      have c59_B_1 := B_56.out.at 1 (v := .int .i64 0) rfl
      have c59_B_2 := B_56.out.at 2 (v := .int .i64 0) rfl
      have c59_B_3 := B_56.out.at 3 (v := .int .i64 0) rfl
      have c59_B_4 := B_56.out.at 4 (v := .string ⟨#[]⟩) rfl
      have c60_U_0 := X55_U.out.at 0 (v := .int .i64 y.t) rfl
      have c60_U_1 := X55_U.out.at 1 (v := .int .i64 y.z) rfl
      have c60_U_2 := X55_U.out.at 2 (v := .slice a_y y.q.length c_y) rfl
      have c61_V_0 := X55_V.out.at 0 (v := .int .i64 1) rfl
      have c61_V_1 := X55_V.out.at 1 (v := .int .i64 nu) rfl
      have c61_V_2 := X55_V.out.at 2 (v := .int .i64 y.t) rfl
      have c61_V_3 := X55_V.out.at 3 (v := .int .i64 le) rfl
      have c61_V_4 := X55_V.out.at 4 (v := .string s) rfl
      clear hne_A_B hne_B_A
      have hne_U_V : R_U ≠ R_V := fun e => absurd (congrArg some e) (by intro e; have e2 : R_U = R_V := Option.some.inj e; have h1 := HN_V_U.out; omega)
      have hne_U_A : R_U ≠ R_A := fun e => absurd (congrArg some e) (by intro e; have e2 : R_U = R_A := Option.some.inj e; have h1 := HN_U_A.out; omega)
      have hne_U_B : R_U ≠ R_B := fun e => absurd (congrArg some e) (by intro e; have e2 : R_U = R_B := Option.some.inj e; have h1 := HN_U_B.out; omega)
      have hne_V_U : R_V ≠ R_U := fun e => absurd (congrArg some e) (by intro e; have e2 : R_V = R_U := Option.some.inj e; have h1 := HN_V_U.out; omega)
      have hne_V_A : R_V ≠ R_A := fun e => absurd (congrArg some e) (by intro e; have e2 : R_V = R_A := Option.some.inj e; have h1 := HN_V_A.out; omega)
      have hne_V_B : R_V ≠ R_B := fun e => absurd (congrArg some e) (by intro e; have e2 : R_V = R_B := Option.some.inj e; have h1 := HN_V_B.out; omega)
      have hne_A_U : R_A ≠ R_U := fun e => absurd (congrArg some e) (by intro e; have e2 : R_A = R_U := Option.some.inj e; have h1 := HN_U_A.out; omega)
      have hne_A_V : R_A ≠ R_V := fun e => absurd (congrArg some e) (by intro e; have e2 : R_A = R_V := Option.some.inj e; have h1 := HN_V_A.out; omega)
      have hne_A_B : R_A ≠ R_B := fun e => absurd (congrArg some e) (by intro e; have e2 : R_A = R_B := Option.some.inj e; have h1 := HR_A.out; have h2 := HR_B.out; omega)
      have hne_B_U : R_B ≠ R_U := fun e => absurd (congrArg some e) (by intro e; have e2 : R_B = R_U := Option.some.inj e; have h1 := HN_U_B.out; omega)
      have hne_B_V : R_B ≠ R_V := fun e => absurd (congrArg some e) (by intro e; have e2 : R_B = R_V := Option.some.inj e; have h1 := HN_V_B.out; omega)
      have hne_B_A : R_B ≠ R_A := fun e => absurd (congrArg some e) (by intro e; have e2 : R_B = R_A := Option.some.inj e; have h1 := HR_B.out; have h2 := HR_A.out; omega)
      have fr62_A_0 := A_56.out.free 0
      have fr62_A_1 := A_56.out.free 1
      have fr62_A_2 := A_56.out.free 2
      have fr63_B_0 := B_56.out.free 0
      have fr63_B_1 := B_56.out.free 1
      have fr63_B_2 := B_56.out.free 2
      have fr63_B_3 := B_56.out.free 3
      have fr63_B_4 := B_56.out.free 4
      go_region
      go_wp2_with fail
      obtain ⟨p1, q1⟩ := A_56.out.store3 (.int .i64 y.t) (.int .i64 y.z) (.slice a_y y.q.length c_y)
      obtain ⟨p2, q2⟩ := (B_56.out.grown q1 (by intro e; have e2 : R_B = R_A := Option.some.inj e; have h1 := HR_B.out; have h2 := HR_A.out; omega)).store5 (.int .i64 1) (.int .i64 nu) (.int .i64 y.t) (.int .i64 le) (.string s)
      have hB9 := (HB_56.out.grown q1 HB_56.out.size (fun k hk => by have e2 : R_A = k := Option.some.inj hk; have := HR_A.out; omega))
      have hB10 := hB9.grown q2 hB9.size (fun k hk => by have e2 : R_B = k := Option.some.inj hk; have := HR_B.out; omega)
      obtain ⟨W9, hW9⟩ : ∃ W9, W9 = ((((((((W55.setCell ⟨R_A, 0, none⟩ (.int .i64 y.t)).setCell ⟨R_A, 1, none⟩ (.int .i64 y.z)).setCell ⟨R_A, 2, none⟩ (.slice a_y y.q.length c_y)).setCell ⟨R_B, 0, none⟩ (.int .i64 1)).setCell ⟨R_B, 1, none⟩ (.int .i64 nu)).setCell ⟨R_B, 2, none⟩ (.int .i64 y.t)).setCell ⟨R_B, 3, none⟩ (.int .i64 le)).setCell ⟨R_B, 4, none⟩ (.string s)) := ⟨_, rfl⟩
      rw [← hW9] at p2 q2 hB10 ⊢
      clear hW9
      refine bodyPost_ret (results_bxx1 rfl isSw isPk _ _ R_A R_B rfl rfl rfl rfl rfl (Bx.drew (p1.grown q2 (by intro e; have e2 : R_A = R_B := Option.some.inj e; have h1 := HR_A.out; have h2 := HR_B.out; omega))) (Bx.drew p2)) rfl ⟨_, rfl, ?_, Below.drew hB10⟩
      refine World.ownsRow.drew ((y_56.out.kept q1 ?_).kept q2 ?_)
      · cases hv : (.slice a_y y.q.length c_y : Value).ownBlock with
        | none => exact .inl rfl
        | some k => exact .inr (fun e => BX_A_y.out k hv (Option.some.inj e))
      · cases hv : (.slice a_y y.q.length c_y : Value).ownBlock with
        | none => exact .inl rfl
        | some k => exact .inr (fun e => BX_B_y.out k hv (Option.some.inj e))
end Go.Proofs.Ytkijfneaglogmaa
