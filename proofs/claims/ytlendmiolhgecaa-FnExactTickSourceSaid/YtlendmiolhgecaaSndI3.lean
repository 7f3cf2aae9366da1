/-
  Windows of the source: the program's answers and pushes.
-/
import Derived.Test.YtlendmiolhgecaaSndI2
import Derived.Deep.QuietTactic
import Derived.BigQuiet
import Derived.IntWalk
import Derived.Deep.CutRange
import Derived.WalkLawsBesides
import Derived.Lib.SmallJoins
import Derived.Deep.RegionHeld3
namespace Go.Proofs.Ytlendmiolhgecaa
open Go.RowKit Go.Lib Go.Joins
set_option linter.unusedVariables false

set_option maxRecDepth 100000 in
set_option maxHeartbeats 16000000 in
theorem implPush_any (v : Value) (l : Sw) (s : ByteArray) (w : World) (hrow : Row w v l.q.length (l.q.map Value.string)) (hs : ∀ s ∈ l.q, s.size ≤ maxLen) (hsz : s.size ≤ maxLen) (hfit : FitA v l.q.length) :
    Calls Try.prog 80 #[.agg #[.int .i64 l.t, .int .i64 l.z, v], .string s] w fun e w' => ∃ v', e = .returned (.tuple #[.agg #[.int .i64 (pushV l s).t, .int .i64 (pushV l s).z, v'], .agg #[.int .i64 (pushP l s).k, .int .i64 (pushP l s).n, .int .i64 (pushP l s).t, .int .i64 (pushP l s).l, .string (pushP l s).d], .bool (pushOk l s)]) ∧ w'.ownsRow w.heap.size 9 1 v' (pushV l s).q.length ((pushV l s).q.map Value.string) ∧ Below w.heap.size w w' := by
  have HFit := Lib.hid hfit
  clear hfit
  obtain ⟨t, z, q⟩ := l
  dsimp only at hrow hs ⊢
  obtain ⟨a, cap, rfl, hc1, hm1, _⟩ := row_open hrow
  unfold maxLen at hm1
  have HP := Lib.hid hrow
  clear hrow
  have HS := Lib.hid hs
  clear hs
  dsimp only at HFit
  obtain ⟨W0, R_T, R_A, R_B, hW0, hR_T, hR_A, hR_B, hX_T, hX_A, hX_B, hB0⟩ := entry3 w #[.int .i64 t, .int .i64 z, .slice a q.length cap] #[.int .i64 0, .int .i64 0, .slice none 0 0] #[.int .i64 0, .int .i64 0, .int .i64 0, .int .i64 0, .string ⟨#[]⟩] 26 26 64
  have HW0 := Lib.hid hW0
  have HB0 := Lib.hid hB0
  have HR_T := Lib.hid hR_T
  have HX_T := Lib.hid hX_T
  have HR_A := Lib.hid hR_A
  have HX_A := Lib.hid hX_A
  have HR_B := Lib.hid hR_B
  have HX_B := Lib.hid hX_B
  clear hW0 hB0 hR_T hX_T hR_A hX_A hR_B hX_B
  have HG := Lib.hid (fun (W1 : World) (hr : Row W1 (.slice a q.length cap) q.length (q.map Value.string)) => implIsSw_any (.slice a q.length cap) ⟨t, z, q⟩ W1 hr HS.out)
  have HI := Lib.hid (fun (W1 : World) => isItem_any s W1 hsz)
  rw [itB_item] at HI
  have HO : Hid (pushOk ⟨t, z, q⟩ s = (swOk ⟨t, z, q⟩ && itB s)) := Lib.hid rfl
  have HN := Lib.hid (@push_no ⟨t, z, q⟩ s)
  cases hok : swOk ⟨t, z, q⟩ with
  | false =>
    rw [hok] at HG
    have hno : pushOk ⟨t, z, q⟩ s = false := by rw [HO.out, hok]; rfl
    obtain ⟨e1, e2⟩ := HN.out hno
    rw [hno, e1, e2]
    dsimp only [sw0, pk0]
    clear hno e1 e2 HN HO
    have hne_A_B : R_A ≠ R_B := fun e => absurd (congrArg some e) (by intro e; have e2 : R_A = R_B := Option.some.inj e; have h1 := HR_A.out; have h2 := HR_B.out; omega)
    have hne_B_A : R_B ≠ R_A := fun e => absurd (congrArg some e) (by intro e; have e2 : R_B = R_A := Option.some.inj e; have h1 := HR_B.out; have h2 := HR_A.out; omega)
    have c181_T_0 := HX_T.out.at 0 (v := .int .i64 t) rfl
    have c181_T_1 := HX_T.out.at 1 (v := .int .i64 z) rfl
    have c181_T_2 := HX_T.out.at 2 (v := .slice a q.length cap) rfl
    have c182_A_0 := HX_A.out.at 0 (v := .int .i64 0) rfl
    have c182_A_1 := HX_A.out.at 1 (v := .int .i64 0) rfl
    have c182_A_2 := HX_A.out.at 2 (v := .slice none 0 0) rfl
    have c183_B_0 := HX_B.out.at 0 (v := .int .i64 0) rfl
    have c183_B_1 := HX_B.out.at 1 (v := .int .i64 0) rfl
    have c183_B_2 := HX_B.out.at 2 (v := .int .i64 0) rfl
    have c183_B_3 := HX_B.out.at 3 (v := .int .i64 0) rfl
    have c183_B_4 := HX_B.out.at 4 (v := .string ⟨#[]⟩) rfl
    go_enter Try.func80, Try.ntmps80
    go_upto_region 1 with fail
    rw [← HW0.out, ← HR_B.out, ← HR_A.out, ← HR_T.out]
    go_wp2_with fail
    refine (HG.out _ (HP.out.below HB0.out (Nat.le_refl _))).mono ?_
    rintro e W184 ⟨rfl, l184⟩
    clear c181_T_0 c181_T_1 c181_T_2
    clear c182_A_0 c182_A_1 c182_A_2
    clear c183_B_0 c183_B_1 c183_B_2 c183_B_3 c183_B_4
    have HB_185 := Lib.hid (HB0.out.trans (l184.mono HB0.out.size))
    have T_185 := Lib.hid (HX_T.out.below l184 HX_T.out.lt)
    have A_185 := Lib.hid (HX_A.out.below l184 HX_A.out.lt)
    have B_185 := Lib.hid (HX_B.out.below l184 HX_B.out.lt)
    clear l184
    have c186_T_0 := T_185.out.at 0 (v := .int .i64 t) rfl
    have c186_T_1 := T_185.out.at 1 (v := .int .i64 z) rfl
    have c186_T_2 := T_185.out.at 2 (v := .slice a q.length cap) rfl
    have c187_A_0 := A_185.out.at 0 (v := .int .i64 0) rfl
    have c187_A_1 := A_185.out.at 1 (v := .int .i64 0) rfl
    have c187_A_2 := A_185.out.at 2 (v := .slice none 0 0) rfl
    have c188_B_0 := B_185.out.at 0 (v := .int .i64 0) rfl
    have c188_B_1 := B_185.out.at 1 (v := .int .i64 0) rfl
    have c188_B_2 := B_185.out.at 2 (v := .int .i64 0) rfl
    have c188_B_3 := B_185.out.at 3 (v := .int .i64 0) rfl
    have c188_B_4 := B_185.out.at 4 (v := .string ⟨#[]⟩) rfl
    have fr189_A_0 := A_185.out.free 0
    have fr189_A_1 := A_185.out.free 1
    have fr189_A_2 := A_185.out.free 2
    have fr190_B_0 := B_185.out.free 0
    have fr190_B_1 := B_185.out.free 1
    have fr190_B_2 := B_185.out.free 2
    have fr190_B_3 := B_185.out.free 3
    have fr190_B_4 := B_185.out.free 4
    go_wp2_with fail
    obtain ⟨p1, q1⟩ := A_185.out.store3 (.int .i64 0) (.int .i64 0) (.slice none 0 0)
    obtain ⟨p2, q2⟩ := (B_185.out.grown q1 (by intro e; have e2 : R_B = R_A := Option.some.inj e; have h1 := HR_B.out; have h2 := HR_A.out; omega)).store5 (.int .i64 0) (.int .i64 0) (.int .i64 0) (.int .i64 0) (.string ⟨#[]⟩)
    have hB9 := (HB_185.out.grown q1 HB_185.out.size (fun k hk => by have e2 : R_A = k := Option.some.inj hk; have := HR_A.out; omega))
    have hB10 := hB9.grown q2 hB9.size (fun k hk => by have e2 : R_B = k := Option.some.inj hk; have := HR_B.out; omega)
    refine bodyPost_ret (results_bxx1 rfl isSw isPk _ _ R_A R_B rfl rfl rfl rfl rfl (p1.grown q2 (by intro e; have e2 : R_A = R_B := Option.some.inj e; have h1 := HR_A.out; have h2 := HR_B.out; omega)) p2) rfl ⟨_, rfl, ⟨rfl, .inl ⟨rfl, rfl⟩⟩, hB10⟩
  | true =>
    rw [hok] at HG
    cases hs : itB s with
    | false =>
      rw [hs] at HI
      have hno : pushOk ⟨t, z, q⟩ s = false := by rw [HO.out, hok, hs]; rfl
      obtain ⟨e1, e2⟩ := HN.out hno
      rw [hno, e1, e2]
      dsimp only [sw0, pk0]
      clear hno e1 e2 HN HO
      have hne_A_B : R_A ≠ R_B := fun e => absurd (congrArg some e) (by intro e; have e2 : R_A = R_B := Option.some.inj e; have h1 := HR_A.out; have h2 := HR_B.out; omega)
      have hne_B_A : R_B ≠ R_A := fun e => absurd (congrArg some e) (by intro e; have e2 : R_B = R_A := Option.some.inj e; have h1 := HR_B.out; have h2 := HR_A.out; omega)
      have c191_T_0 := HX_T.out.at 0 (v := .int .i64 t) rfl
      have c191_T_1 := HX_T.out.at 1 (v := .int .i64 z) rfl
      have c191_T_2 := HX_T.out.at 2 (v := .slice a q.length cap) rfl
      have c192_A_0 := HX_A.out.at 0 (v := .int .i64 0) rfl
      have c192_A_1 := HX_A.out.at 1 (v := .int .i64 0) rfl
      have c192_A_2 := HX_A.out.at 2 (v := .slice none 0 0) rfl
      have c193_B_0 := HX_B.out.at 0 (v := .int .i64 0) rfl
      have c193_B_1 := HX_B.out.at 1 (v := .int .i64 0) rfl
      have c193_B_2 := HX_B.out.at 2 (v := .int .i64 0) rfl
      have c193_B_3 := HX_B.out.at 3 (v := .int .i64 0) rfl
      have c193_B_4 := HX_B.out.at 4 (v := .string ⟨#[]⟩) rfl
      go_enter Try.func80, Try.ntmps80
      go_upto_region 1 with fail
      rw [← HW0.out, ← HR_B.out, ← HR_A.out, ← HR_T.out]
      go_wp2_with fail
      refine (HG.out _ (HP.out.below HB0.out (Nat.le_refl _))).mono ?_
      rintro e W194 ⟨rfl, l194⟩
      clear c191_T_0 c191_T_1 c191_T_2
      clear c192_A_0 c192_A_1 c192_A_2
      clear c193_B_0 c193_B_1 c193_B_2 c193_B_3 c193_B_4
      have HB_195 := Lib.hid (HB0.out.trans (l194.mono HB0.out.size))
      have T_195 := Lib.hid (HX_T.out.below l194 HX_T.out.lt)
      have A_195 := Lib.hid (HX_A.out.below l194 HX_A.out.lt)
      have B_195 := Lib.hid (HX_B.out.below l194 HX_B.out.lt)
      clear l194
      have c196_T_0 := T_195.out.at 0 (v := .int .i64 t) rfl
      have c196_T_1 := T_195.out.at 1 (v := .int .i64 z) rfl
      have c196_T_2 := T_195.out.at 2 (v := .slice a q.length cap) rfl
      have c197_A_0 := A_195.out.at 0 (v := .int .i64 0) rfl
      have c197_A_1 := A_195.out.at 1 (v := .int .i64 0) rfl
      have c197_A_2 := A_195.out.at 2 (v := .slice none 0 0) rfl
      have c198_B_0 := B_195.out.at 0 (v := .int .i64 0) rfl
      have c198_B_1 := B_195.out.at 1 (v := .int .i64 0) rfl
      have c198_B_2 := B_195.out.at 2 (v := .int .i64 0) rfl
      have c198_B_3 := B_195.out.at 3 (v := .int .i64 0) rfl
      have c198_B_4 := B_195.out.at 4 (v := .string ⟨#[]⟩) rfl
      go_wp2_with fail
      refine (HI.out _).mono ?_
      rintro e _ ⟨rfl, rfl⟩
      have fr199_A_0 := A_195.out.free 0
      have fr199_A_1 := A_195.out.free 1
      have fr199_A_2 := A_195.out.free 2
      have fr200_B_0 := B_195.out.free 0
      have fr200_B_1 := B_195.out.free 1
      have fr200_B_2 := B_195.out.free 2
      have fr200_B_3 := B_195.out.free 3
      have fr200_B_4 := B_195.out.free 4
      go_wp2_with fail
      obtain ⟨p1, q1⟩ := A_195.out.store3 (.int .i64 0) (.int .i64 0) (.slice none 0 0)
      obtain ⟨p2, q2⟩ := (B_195.out.grown q1 (by intro e; have e2 : R_B = R_A := Option.some.inj e; have h1 := HR_B.out; have h2 := HR_A.out; omega)).store5 (.int .i64 0) (.int .i64 0) (.int .i64 0) (.int .i64 0) (.string ⟨#[]⟩)
      have hB9 := (HB_195.out.grown q1 HB_195.out.size (fun k hk => by have e2 : R_A = k := Option.some.inj hk; have := HR_A.out; omega))
      have hB10 := hB9.grown q2 hB9.size (fun k hk => by have e2 : R_B = k := Option.some.inj hk; have := HR_B.out; omega)
      refine bodyPost_ret (results_bxx1 rfl isSw isPk _ _ R_A R_B rfl rfl rfl rfl rfl (p1.grown q2 (by intro e; have e2 : R_A = R_B := Option.some.inj e; have h1 := HR_A.out; have h2 := HR_B.out; omega)) p2) rfl ⟨_, rfl, ⟨rfl, .inl ⟨rfl, rfl⟩⟩, hB10⟩
    | true =>
      rw [hs] at HI
      have hyes : pushOk ⟨t, z, q⟩ s = true := by rw [HO.out, hok, hs]; rfl
      rw [hyes, pushP_yes hyes, pushV_yes hyes]
      dsimp only
      have ht := (swOk_iff.1 hok).1
      dsimp only at ht
      have hz6 := (swOk_iff.1 hok).2.1
      have hlz := (swOk_iff.1 hok).2.2.1
      dsimp only at hz6 hlz
      have hl6 : q.length ≤ 6 := by omega
      have hld := (roomW_facts hok).2.1
      rw [hld]
      clear hld HN HO
      have HLd := Lib.hid (fun (W1 : World) (hr : Row W1 (.slice a q.length cap) q.length (q.map Value.string)) => leadAt_any (.slice a q.length cap) ⟨t, z, q⟩ W1 hr ht (by dsimp only; omega))
      dsimp only at HLd
      generalize leadI ⟨t, z, q⟩ = nu at HLd ⊢
      by_cases hf : (q.length : Int) = z
      · have hpw : pushW ⟨t, z, q⟩ s = ⟨aftI t 1, z, q.drop 1 ++ [s]⟩ := by unfold pushW; rw [show roomW ⟨t, z, q⟩ = dropN ⟨t, z, q⟩ 1 from if_pos hf]; rfl
        rw [hpw]
        clear hpw
        dsimp only
        have HD1 := Lib.hid (fun (W1 : World) (hr : Row W1 (.slice a q.length cap) q.length (q.map Value.string)) => without_any (.slice a q.length cap) ⟨t, z, q⟩ 1 W1 hr HFit.out ht (by dsimp only; omega) (by dsimp only; omega))
        rw [show dropN ⟨t, z, q⟩ 1 = ⟨aftI t 1, z, q.drop 1⟩ from rfl] at HD1
        dsimp only at HD1
        have h1b := aftI_bd t 1
        generalize aftI t 1 = t1 at HD1 h1b ⊢
        have hdl : (q.drop 1).length + 1 = q.length := by rw [List.length_drop]; omega
        generalize q.drop 1 = q1 at HD1 hdl ⊢
        have hq16 : q1.length ≤ 6 := by omega
        clear hdl hyes
        obtain ⟨q2, hq2⟩ : ∃ q2, q2 = q1 ++ [s] := ⟨_, rfl⟩
        have hq7 : q2.length ≤ 7 := by rw [hq2, List.length_append]; show q1.length + 1 ≤ 7; omega
        rw [← hq2]
        have HQ2 := Lib.hid hq2
        clear hq2
        have HPk := Lib.hid (fun (v' : Value) (W1 : World) (hr : Row W1 v' q2.length (q2.map Value.string)) => pktFrom_any v' ⟨t1, z, q2⟩ 1 nu s W1 hr h1b (by dsimp only; omega))
        dsimp only at HPk
        generalize leadI ⟨t1, z, q2⟩ = le at HPk ⊢
        have hd : ((q.length : Int) == z) = true := by simp; exact hf
        clear hf hok hs
        have c201_T_0 := HX_T.out.at 0 (v := .int .i64 t) rfl
        have c201_T_1 := HX_T.out.at 1 (v := .int .i64 z) rfl
        have c201_T_2 := HX_T.out.at 2 (v := .slice a q.length cap) rfl
        have c202_A_0 := HX_A.out.at 0 (v := .int .i64 0) rfl
        have c202_A_1 := HX_A.out.at 1 (v := .int .i64 0) rfl
        have c202_A_2 := HX_A.out.at 2 (v := .slice none 0 0) rfl
        have c203_B_0 := HX_B.out.at 0 (v := .int .i64 0) rfl
        have c203_B_1 := HX_B.out.at 1 (v := .int .i64 0) rfl
        have c203_B_2 := HX_B.out.at 2 (v := .int .i64 0) rfl
        have c203_B_3 := HX_B.out.at 3 (v := .int .i64 0) rfl
        have c203_B_4 := HX_B.out.at 4 (v := .string ⟨#[]⟩) rfl
        go_enter Try.func80, Try.ntmps80
        go_upto_region 1 with fail
        rw [← HW0.out, ← HR_B.out, ← HR_A.out, ← HR_T.out]
        go_wp2_with fail
        refine (HG.out _ (HP.out.below HB0.out (Nat.le_refl _))).mono ?_
        rintro e W204 ⟨rfl, l204⟩
        clear c201_T_0 c201_T_1 c201_T_2
        clear c202_A_0 c202_A_1 c202_A_2
        clear c203_B_0 c203_B_1 c203_B_2 c203_B_3 c203_B_4
        have HB_205 := Lib.hid (HB0.out.trans (l204.mono HB0.out.size))
        have T_205 := Lib.hid (HX_T.out.below l204 HX_T.out.lt)
        have A_205 := Lib.hid (HX_A.out.below l204 HX_A.out.lt)
        have B_205 := Lib.hid (HX_B.out.below l204 HX_B.out.lt)
        clear l204
        have c206_T_0 := T_205.out.at 0 (v := .int .i64 t) rfl
        have c206_T_1 := T_205.out.at 1 (v := .int .i64 z) rfl
        have c206_T_2 := T_205.out.at 2 (v := .slice a q.length cap) rfl
        have c207_A_0 := A_205.out.at 0 (v := .int .i64 0) rfl
        have c207_A_1 := A_205.out.at 1 (v := .int .i64 0) rfl
        have c207_A_2 := A_205.out.at 2 (v := .slice none 0 0) rfl
        have c208_B_0 := B_205.out.at 0 (v := .int .i64 0) rfl
        have c208_B_1 := B_205.out.at 1 (v := .int .i64 0) rfl
        have c208_B_2 := B_205.out.at 2 (v := .int .i64 0) rfl
        have c208_B_3 := B_205.out.at 3 (v := .int .i64 0) rfl
        have c208_B_4 := B_205.out.at 4 (v := .string ⟨#[]⟩) rfl
        go_wp2_with fail
        refine (HI.out _).mono ?_
        rintro e _ ⟨rfl, rfl⟩
        go_wp2_with fail
        refine (HLd.out _ (HP.out.below HB_205.out (Nat.le_refl _))).mono ?_
        rintro e W209 ⟨rfl, l209⟩
        clear c206_T_0 c206_T_1 c206_T_2
        clear c207_A_0 c207_A_1 c207_A_2
        clear c208_B_0 c208_B_1 c208_B_2 c208_B_3 c208_B_4
        have HB_210 := Lib.hid (HB_205.out.trans (l209.mono HB_205.out.size))
        have T_210 := Lib.hid (T_205.out.below l209 T_205.out.lt)
        clear T_205
        have A_210 := Lib.hid (A_205.out.below l209 A_205.out.lt)
        clear A_205
        have B_210 := Lib.hid (B_205.out.below l209 B_205.out.lt)
        clear B_205
        clear l209
        have c211_T_0 := T_210.out.at 0 (v := .int .i64 t) rfl
        have c211_T_1 := T_210.out.at 1 (v := .int .i64 z) rfl
        have c211_T_2 := T_210.out.at 2 (v := .slice a q.length cap) rfl
        have c212_A_0 := A_210.out.at 0 (v := .int .i64 0) rfl
        have c212_A_1 := A_210.out.at 1 (v := .int .i64 0) rfl
        have c212_A_2 := A_210.out.at 2 (v := .slice none 0 0) rfl
        have c213_B_0 := B_210.out.at 0 (v := .int .i64 0) rfl
        have c213_B_1 := B_210.out.at 1 (v := .int .i64 0) rfl
        have c213_B_2 := B_210.out.at 2 (v := .int .i64 0) rfl
        have c213_B_3 := B_210.out.at 3 (v := .int .i64 0) rfl
        have c213_B_4 := B_210.out.at 4 (v := .string ⟨#[]⟩) rfl
        go_wp2_with fail
        refine (HD1.out _ (HP.out.below HB_210.out (Nat.le_refl _))).mono ?_
        rintro e W214 ⟨v_p, rfl, o_p, l214⟩
        obtain ⟨a_p, c_p, rfl, _, _⟩ := own_someS0 o_p
        have O_p := Lib.hid (own_base o_p HB_210.out.size)
        have BX_T_p : Hid (∀ k, (.slice a_p q1.length c_p : Value).ownBlock = some k → k ≠ R_T) := Lib.hid (fun k h1 h2 => absurd T_210.out.lt (Nat.not_lt.2 (by rw [← h2]; exact (o_p.lt k h1).1)))
        have BX_A_p : Hid (∀ k, (.slice a_p q1.length c_p : Value).ownBlock = some k → k ≠ R_A) := Lib.hid (fun k h1 h2 => absurd A_210.out.lt (Nat.not_lt.2 (by rw [← h2]; exact (o_p.lt k h1).1)))
        have BX_B_p : Hid (∀ k, (.slice a_p q1.length c_p : Value).ownBlock = some k → k ≠ R_B) := Lib.hid (fun k h1 h2 => absurd B_210.out.lt (Nat.not_lt.2 (by rw [← h2]; exact (o_p.lt k h1).1)))
        clear o_p
        clear c211_T_0 c211_T_1 c211_T_2
        clear c212_A_0 c212_A_1 c212_A_2
        clear c213_B_0 c213_B_1 c213_B_2 c213_B_3 c213_B_4
        have HB_215 := Lib.hid (HB_210.out.trans (l214.mono HB_210.out.size))
        have T_215 := Lib.hid (T_210.out.below l214 T_210.out.lt)
        clear T_210
        have A_215 := Lib.hid (A_210.out.below l214 A_210.out.lt)
        clear A_210
        have B_215 := Lib.hid (B_210.out.below l214 B_210.out.lt)
        clear B_210
        clear l214
        have c216_T_0 := T_215.out.at 0 (v := .int .i64 t) rfl
        have c216_T_1 := T_215.out.at 1 (v := .int .i64 z) rfl
        have c216_T_2 := T_215.out.at 2 (v := .slice a q.length cap) rfl
        have c217_A_0 := A_215.out.at 0 (v := .int .i64 0) rfl
        have c217_A_1 := A_215.out.at 1 (v := .int .i64 0) rfl
        have c217_A_2 := A_215.out.at 2 (v := .slice none 0 0) rfl
        have c218_B_0 := B_215.out.at 0 (v := .int .i64 0) rfl
        have c218_B_1 := B_215.out.at 1 (v := .int .i64 0) rfl
        have c218_B_2 := B_215.out.at 2 (v := .int .i64 0) rfl
        have c218_B_3 := B_215.out.at 3 (v := .int .i64 0) rfl
        have c218_B_4 := B_215.out.at 4 (v := .string ⟨#[]⟩) rfl
        have fr219_T_0 := T_215.out.free 0
        have fr219_T_1 := T_215.out.free 1
        have fr219_T_2 := T_215.out.free 2
        go_upto_region 6 with fail
        clear c216_T_0 c216_T_1 c216_T_2
        clear fr219_T_0 fr219_T_1 fr219_T_2
        clear c217_A_0 c217_A_1 c217_A_2
        clear c218_B_0 c218_B_1 c218_B_2 c218_B_3 c218_B_4
        obtain ⟨p220, q220⟩ := T_215.out.store3 (.int .i64 t1) (.int .i64 z) (.slice a_p q1.length c_p)
        obtain ⟨W220, hW220⟩ : ∃ W220, W220 = (((W214.setCell ⟨R_T, 0, none⟩ (.int .i64 t1)).setCell ⟨R_T, 1, none⟩ (.int .i64 z)).setCell ⟨R_T, 2, none⟩ (.slice a_p q1.length c_p)) := ⟨_, rfl⟩
        rw [← hW220] at p220 q220 ⊢
        have X220_T : Hid (Bx W220 R_T #[.int .i64 t1, .int .i64 z, .slice a_p q1.length c_p] 26) := Lib.hid p220
        have HB_221 := Lib.hid (HB_215.out.grown q220 HB_215.out.size (fun k hk => by have e2 : R_T = k := Option.some.inj hk; have := HR_T.out; omega))
        have p_221 := Lib.hid (O_p.out.kept q220 (by
          cases hv : (.slice a_p q1.length c_p : Value).ownBlock with
          | none => exact .inl rfl
          | some k => exact .inr (fun e => BX_T_p.out k hv (Option.some.inj e))))
        clear O_p
        have A_221 := Lib.hid (A_215.out.grown q220 (by intro e; have e2 : R_A = R_T := Option.some.inj e; have h1 := HR_A.out; have h2 := HR_T.out; omega))
        clear A_215
        have B_221 := Lib.hid (B_215.out.grown q220 (by intro e; have e2 : R_B = R_T := Option.some.inj e; have h1 := HR_B.out; have h2 := HR_T.out; omega))
        clear B_215
        clear T_215
        clear hW220 p220 q220
        have c222_T_0 := X220_T.out.at 0 (v := .int .i64 t1) rfl
        have c222_T_1 := X220_T.out.at 1 (v := .int .i64 z) rfl
        have c222_T_2 := X220_T.out.at 2 (v := .slice a_p q1.length c_p) rfl
        have c223_A_0 := A_221.out.at 0 (v := .int .i64 0) rfl
        have c223_A_1 := A_221.out.at 1 (v := .int .i64 0) rfl
        have c223_A_2 := A_221.out.at 2 (v := .slice none 0 0) rfl
        have c224_B_0 := B_221.out.at 0 (v := .int .i64 0) rfl
        have c224_B_1 := B_221.out.at 1 (v := .int .i64 0) rfl
        have c224_B_2 := B_221.out.at 2 (v := .int .i64 0) rfl
        have c224_B_3 := B_221.out.at 3 (v := .int .i64 0) rfl
        have c224_B_4 := B_221.out.at 4 (v := .string ⟨#[]⟩) rfl
        clear c222_T_0 c222_T_1 c222_T_2
        have c225_T_0 := X220_T.out.at 0 (v := .int .i64 t1) rfl
        have c225_T_1 := X220_T.out.at 1 (v := .int .i64 z) rfl
        have c225_T_2 := X220_T.out.at 2 (v := .slice a_p q1.length c_p) rfl
        clear c223_A_0 c223_A_1 c223_A_2
        have c226_A_0 := A_221.out.at 0 (v := .int .i64 0) rfl
        have c226_A_1 := A_221.out.at 1 (v := .int .i64 0) rfl
        have c226_A_2 := A_221.out.at 2 (v := .slice none 0 0) rfl
        clear c224_B_0 c224_B_1 c224_B_2 c224_B_3 c224_B_4
        have c227_B_0 := B_221.out.at 0 (v := .int .i64 0) rfl
        have c227_B_1 := B_221.out.at 1 (v := .int .i64 0) rfl
        have c227_B_2 := B_221.out.at 2 (v := .int .i64 0) rfl
        have c227_B_3 := B_221.out.at 3 (v := .int .i64 0) rfl
        have c227_B_4 := B_221.out.at 4 (v := .string ⟨#[]⟩) rfl
        go_wp2_with fail
        obtain ⟨W228, hW228⟩ : ∃ W228, W228 = (W220.alloc (.cells #[.string s] 9)).alloc (.cells #[.slice a_p q1.length c_p, .slice (some ⟨W220.heap.size, 0, none⟩) 1 1] 24) := ⟨_, rfl⟩
        have l228 : Below W220.heap.size W220 W228 := by rw [hW228]; exact ((Below.refl _ _).alloc (Nat.le_refl _) _).alloc (by simp) _
        have X228_K : Hid (Bx W228 W220.heap.size #[.string s] 9) := Lib.hid (by rw [hW228]; exact (Bx.new2 _ _ _ _ _).1)
        have X228_L : Hid (Bx W228 (W220.heap.size + 1) #[.slice a_p q1.length c_p, .slice (some ⟨W220.heap.size, 0, none⟩) 1 1] 24) := Lib.hid (by rw [hW228]; exact (Bx.new2 _ _ _ _ _).2)
        rw [← hW228]
        clear hW228
        have BX_K_p : Hid (∀ k, (.slice a_p q1.length c_p : Value).ownBlock = some k → k ≠ W220.heap.size) := Lib.hid (fun k h1 h2 => absurd (p_221.out.lt k h1).2 (by omega))
        have HG_K : Hid (w.heap.size ≤ W220.heap.size) := Lib.hid (HB_221.out.size)
        have HN_K_T : Hid (R_T < W220.heap.size) := Lib.hid (X220_T.out.lt)
        have HN_K_A : Hid (R_A < W220.heap.size) := Lib.hid (A_221.out.lt)
        have HN_K_B : Hid (R_B < W220.heap.size) := Lib.hid (B_221.out.lt)
        have BX_L_p : Hid (∀ k, (.slice a_p q1.length c_p : Value).ownBlock = some k → k ≠ (W220.heap.size + 1)) := Lib.hid (fun k h1 h2 => absurd (p_221.out.lt k h1).2 (by omega))
        have HG_L : Hid (w.heap.size ≤ (W220.heap.size + 1)) := Lib.hid (Nat.le_succ_of_le HB_221.out.size)
        have HN_L_T : Hid (R_T < (W220.heap.size + 1)) := Lib.hid (Nat.lt_succ_of_lt X220_T.out.lt)
        have HN_L_A : Hid (R_A < (W220.heap.size + 1)) := Lib.hid (Nat.lt_succ_of_lt A_221.out.lt)
        have HN_L_B : Hid (R_B < (W220.heap.size + 1)) := Lib.hid (Nat.lt_succ_of_lt B_221.out.lt)
        have HN_L_K : Hid (W220.heap.size < W220.heap.size + 1) := Lib.hid (Nat.lt_succ_self _)
        obtain ⟨R_L, hR_L⟩ : ∃ X, X = W220.heap.size + 1 := ⟨_, rfl⟩
        rw [← hR_L] at X228_L HG_L HN_L_K BX_L_p HN_L_T HN_L_A HN_L_B ⊢
        clear hR_L
        obtain ⟨R_K, hR_K⟩ : ∃ X, X = W220.heap.size := ⟨_, rfl⟩
        rw [← hR_K] at X228_K HG_K HN_L_K BX_K_p HN_K_T HN_K_A HN_K_B X228_L ⊢
        clear hR_K
        clear c225_T_0 c225_T_1 c225_T_2
        clear c226_A_0 c226_A_1 c226_A_2
        clear c227_B_0 c227_B_1 c227_B_2 c227_B_3 c227_B_4
        have HB_229 := Lib.hid (HB_221.out.trans (l228.mono HB_221.out.size))
        have p_229 := Lib.hid (own_below p_221.out l228 (Nat.le_refl _))
        clear p_221
        have T_229 := Lib.hid (X220_T.out.below l228 X220_T.out.lt)
        clear X220_T
        have A_229 := Lib.hid (A_221.out.below l228 A_221.out.lt)
        clear A_221
        have B_229 := Lib.hid (B_221.out.below l228 B_221.out.lt)
        clear B_221
        clear l228
        have c230_T_0 := T_229.out.at 0 (v := .int .i64 t1) rfl
        have c230_T_1 := T_229.out.at 1 (v := .int .i64 z) rfl
        have c230_T_2 := T_229.out.at 2 (v := .slice a_p q1.length c_p) rfl
        have c231_A_0 := A_229.out.at 0 (v := .int .i64 0) rfl
        have c231_A_1 := A_229.out.at 1 (v := .int .i64 0) rfl
        have c231_A_2 := A_229.out.at 2 (v := .slice none 0 0) rfl
        have c232_B_0 := B_229.out.at 0 (v := .int .i64 0) rfl
        have c232_B_1 := B_229.out.at 1 (v := .int .i64 0) rfl
        have c232_B_2 := B_229.out.at 2 (v := .int .i64 0) rfl
        have c232_B_3 := B_229.out.at 3 (v := .int .i64 0) rfl
        have c232_B_4 := B_229.out.at 4 (v := .string ⟨#[]⟩) rfl
        have c233_K_0 := X228_K.out.at 0 (v := .string s) rfl
        have c234_L_0 := X228_L.out.at 0 (v := .slice a_p q1.length c_p) rfl
        have c234_L_1 := X228_L.out.at 1 (v := .slice (some ⟨R_K, 0, none⟩) 1 1) rfl
        have HCc := Lib.hid (concatS2_any (.slice a_p q1.length c_p) (.slice (some ⟨R_K, 0, none⟩) 1 1) q1 [s] R_L W228 (row_own p_229.out) (fitA_own p_229.out).fitS (by omega) (row_lit X228_K.out) (.inr ⟨_, _, rfl⟩) (by simp) X228_L.out)
        rw [← HQ2.out] at HCc
        refine (HCc.out).mono ?_
        rintro e W235 ⟨v_n, rfl, o_n, l235⟩
        obtain ⟨a_n, c_n, rfl, _, _⟩ := own_someS0 o_n
        have O_n := Lib.hid (own_base o_n HB_229.out.size)
        have BX_T_n : Hid (∀ k, ((.slice a_n q2.length c_n) : Value).ownBlock = some k → k ≠ R_T) := Lib.hid (fun k h1 h2 => absurd T_229.out.lt (Nat.not_lt.2 (by rw [← h2]; exact (o_n.lt k h1).1)))
        have BX_A_n : Hid (∀ k, ((.slice a_n q2.length c_n) : Value).ownBlock = some k → k ≠ R_A) := Lib.hid (fun k h1 h2 => absurd A_229.out.lt (Nat.not_lt.2 (by rw [← h2]; exact (o_n.lt k h1).1)))
        have BX_B_n : Hid (∀ k, ((.slice a_n q2.length c_n) : Value).ownBlock = some k → k ≠ R_B) := Lib.hid (fun k h1 h2 => absurd B_229.out.lt (Nat.not_lt.2 (by rw [← h2]; exact (o_n.lt k h1).1)))
        clear o_n
        clear c233_K_0
        clear X228_K
        clear c234_L_0 c234_L_1
        clear X228_L
        clear p_229
        clear c230_T_0 c230_T_1 c230_T_2
        clear c231_A_0 c231_A_1 c231_A_2
        clear c232_B_0 c232_B_1 c232_B_2 c232_B_3 c232_B_4
        have HB_236 := Lib.hid (HB_229.out.trans (l235.mono HB_229.out.size))
        have T_236 := Lib.hid (T_229.out.below l235 T_229.out.lt)
        clear T_229
        have A_236 := Lib.hid (A_229.out.below l235 A_229.out.lt)
        clear A_229
        have B_236 := Lib.hid (B_229.out.below l235 B_229.out.lt)
        clear B_229
        clear l235
        have c237_T_0 := T_236.out.at 0 (v := .int .i64 t1) rfl
        have c237_T_1 := T_236.out.at 1 (v := .int .i64 z) rfl
        have c237_T_2 := T_236.out.at 2 (v := .slice a_p q1.length c_p) rfl
        have c238_A_0 := A_236.out.at 0 (v := .int .i64 0) rfl
        have c238_A_1 := A_236.out.at 1 (v := .int .i64 0) rfl
        have c238_A_2 := A_236.out.at 2 (v := .slice none 0 0) rfl
        have c239_B_0 := B_236.out.at 0 (v := .int .i64 0) rfl
        have c239_B_1 := B_236.out.at 1 (v := .int .i64 0) rfl
        have c239_B_2 := B_236.out.at 2 (v := .int .i64 0) rfl
        have c239_B_3 := B_236.out.at 3 (v := .int .i64 0) rfl
        have c239_B_4 := B_236.out.at 4 (v := .string ⟨#[]⟩) rfl
        have fr240_T_0 := T_236.out.free 0
        have fr240_T_1 := T_236.out.free 1
        have fr240_T_2 := T_236.out.free 2
        go_upto_region 7 with fail
        clear c237_T_0 c237_T_1 c237_T_2
        clear fr240_T_0 fr240_T_1 fr240_T_2
        clear c238_A_0 c238_A_1 c238_A_2
        clear c239_B_0 c239_B_1 c239_B_2 c239_B_3 c239_B_4
        obtain ⟨p241, q241⟩ := T_236.out.set 2 (.slice a_n q2.length c_n)
        obtain ⟨W241, hW241⟩ : ∃ W241, W241 = (W235.setCell ⟨R_T, 2, none⟩ (.slice a_n q2.length c_n)) := ⟨_, rfl⟩
        rw [← hW241] at p241 q241 ⊢
        have X241_T : Hid (Bx W241 R_T #[.int .i64 t1, .int .i64 z, .slice a_n q2.length c_n] 26) := Lib.hid p241
        have HB_242 := Lib.hid (HB_236.out.grown q241 HB_236.out.size (fun k hk => by have e2 : R_T = k := Option.some.inj hk; have := HR_T.out; omega))
        have n_242 := Lib.hid (O_n.out.kept q241 (by
          cases hv : (.slice a_n q2.length c_n : Value).ownBlock with
          | none => exact .inl rfl
          | some k => exact .inr (fun e => BX_T_n.out k hv (Option.some.inj e))))
        clear O_n
        have A_242 := Lib.hid (A_236.out.grown q241 (by intro e; have e2 : R_A = R_T := Option.some.inj e; have h1 := HR_A.out; have h2 := HR_T.out; omega))
        clear A_236
        have B_242 := Lib.hid (B_236.out.grown q241 (by intro e; have e2 : R_B = R_T := Option.some.inj e; have h1 := HR_B.out; have h2 := HR_T.out; omega))
        clear B_236
        clear T_236
        clear hW241 p241 q241
        have c243_T_0 := X241_T.out.at 0 (v := .int .i64 t1) rfl
        have c243_T_1 := X241_T.out.at 1 (v := .int .i64 z) rfl
        have c243_T_2 := X241_T.out.at 2 (v := .slice a_n q2.length c_n) rfl
        have c244_A_0 := A_242.out.at 0 (v := .int .i64 0) rfl
        have c244_A_1 := A_242.out.at 1 (v := .int .i64 0) rfl
        have c244_A_2 := A_242.out.at 2 (v := .slice none 0 0) rfl
        have c245_B_0 := B_242.out.at 0 (v := .int .i64 0) rfl
        have c245_B_1 := B_242.out.at 1 (v := .int .i64 0) rfl
        have c245_B_2 := B_242.out.at 2 (v := .int .i64 0) rfl
        have c245_B_3 := B_242.out.at 3 (v := .int .i64 0) rfl
        have c245_B_4 := B_242.out.at 4 (v := .string ⟨#[]⟩) rfl
        have HK5 := Lib.hid (fun (w' : World) (hb : Below W241.heap.size W241 w') => (show w'.cell? ⟨R_T, 0, none⟩ = some (.int .i64 t1) ∧ w'.cell? ⟨R_T, 1, none⟩ = some (.int .i64 z) ∧ w'.cell? ⟨R_T, 2, none⟩ = some (.slice a_n q2.length c_n) ∧ Below w.heap.size w w' from ⟨(hb.cell (p := ⟨R_T, 0, none⟩) X241_T.out.lt).trans (X241_T.out.at 0 (v := .int .i64 t1) rfl), (hb.cell (p := ⟨R_T, 1, none⟩) X241_T.out.lt).trans (X241_T.out.at 1 (v := .int .i64 z) rfl), (hb.cell (p := ⟨R_T, 2, none⟩) X241_T.out.lt).trans (X241_T.out.at 2 (v := .slice a_n q2.length c_n) rfl), HB_242.out.trans (hb.mono HB_242.out.size)⟩))
        have HA5_A := Lib.hid (fun (w' : World) (hb : Below W241.heap.size W241 w') => A_242.out.below hb A_242.out.lt)
        have HK5_0 := Lib.hid (fun (w' : World) (y0_0 y0_1 y0_2 : Value) (hb : Below W241.heap.size W241 w') => (show ((((w'.setCell ⟨R_A, 0, none⟩ (y0_0)).setCell ⟨R_A, 1, none⟩ (y0_1)).setCell ⟨R_A, 2, none⟩ (y0_2))).cell? ⟨R_T, 0, none⟩ = some (.int .i64 t1) ∧ ((((w'.setCell ⟨R_A, 0, none⟩ (y0_0)).setCell ⟨R_A, 1, none⟩ (y0_1)).setCell ⟨R_A, 2, none⟩ (y0_2))).cell? ⟨R_T, 1, none⟩ = some (.int .i64 z) ∧ ((((w'.setCell ⟨R_A, 0, none⟩ (y0_0)).setCell ⟨R_A, 1, none⟩ (y0_1)).setCell ⟨R_A, 2, none⟩ (y0_2))).cell? ⟨R_T, 2, none⟩ = some (.slice a_n q2.length c_n) ∧ Below w.heap.size w ((((w'.setCell ⟨R_A, 0, none⟩ (y0_0)).setCell ⟨R_A, 1, none⟩ (y0_1)).setCell ⟨R_A, 2, none⟩ (y0_2))) by
          obtain ⟨z0, z1, z2, z3⟩ := HK5.out w' hb
          obtain ⟨_, q1⟩ := (HA5_A.out w' hb).store3 y0_0 y0_1 y0_2
          exact ⟨q1.cell z0 (by intro e; have e2 : R_T = R_A := Option.some.inj e; have h1 := HR_T.out; have h2 := HR_A.out; omega), q1.cell z1 (by intro e; have e2 : R_T = R_A := Option.some.inj e; have h1 := HR_T.out; have h2 := HR_A.out; omega), q1.cell z2 (by intro e; have e2 : R_T = R_A := Option.some.inj e; have h1 := HR_T.out; have h2 := HR_A.out; omega), z3.grown q1 z3.size (fun k hk => by have e2 : R_A = k := Option.some.inj hk; have := HR_A.out; omega)⟩))
        have HA5_B := Lib.hid (fun (w' : World) (hb : Below W241.heap.size W241 w') => B_242.out.below hb B_242.out.lt)
        have HK5_1 := Lib.hid (fun (w' : World) (y0_0 y0_1 y0_2 y1_0 y1_1 y1_2 y1_3 y1_4 : Value) (hb : Below W241.heap.size W241 w') => (show (((((((((w'.setCell ⟨R_A, 0, none⟩ (y0_0)).setCell ⟨R_A, 1, none⟩ (y0_1)).setCell ⟨R_A, 2, none⟩ (y0_2)).setCell ⟨R_B, 0, none⟩ (y1_0)).setCell ⟨R_B, 1, none⟩ (y1_1)).setCell ⟨R_B, 2, none⟩ (y1_2)).setCell ⟨R_B, 3, none⟩ (y1_3)).setCell ⟨R_B, 4, none⟩ (y1_4))).cell? ⟨R_T, 0, none⟩ = some (.int .i64 t1) ∧ (((((((((w'.setCell ⟨R_A, 0, none⟩ (y0_0)).setCell ⟨R_A, 1, none⟩ (y0_1)).setCell ⟨R_A, 2, none⟩ (y0_2)).setCell ⟨R_B, 0, none⟩ (y1_0)).setCell ⟨R_B, 1, none⟩ (y1_1)).setCell ⟨R_B, 2, none⟩ (y1_2)).setCell ⟨R_B, 3, none⟩ (y1_3)).setCell ⟨R_B, 4, none⟩ (y1_4))).cell? ⟨R_T, 1, none⟩ = some (.int .i64 z) ∧ (((((((((w'.setCell ⟨R_A, 0, none⟩ (y0_0)).setCell ⟨R_A, 1, none⟩ (y0_1)).setCell ⟨R_A, 2, none⟩ (y0_2)).setCell ⟨R_B, 0, none⟩ (y1_0)).setCell ⟨R_B, 1, none⟩ (y1_1)).setCell ⟨R_B, 2, none⟩ (y1_2)).setCell ⟨R_B, 3, none⟩ (y1_3)).setCell ⟨R_B, 4, none⟩ (y1_4))).cell? ⟨R_T, 2, none⟩ = some (.slice a_n q2.length c_n) ∧ Below w.heap.size w (((((((((w'.setCell ⟨R_A, 0, none⟩ (y0_0)).setCell ⟨R_A, 1, none⟩ (y0_1)).setCell ⟨R_A, 2, none⟩ (y0_2)).setCell ⟨R_B, 0, none⟩ (y1_0)).setCell ⟨R_B, 1, none⟩ (y1_1)).setCell ⟨R_B, 2, none⟩ (y1_2)).setCell ⟨R_B, 3, none⟩ (y1_3)).setCell ⟨R_B, 4, none⟩ (y1_4))) by
          obtain ⟨z0, z1, z2, z3⟩ := HK5_0.out w' y0_0 y0_1 y0_2 hb
          obtain ⟨_, g0⟩ := (HA5_A.out w' hb).store3 y0_0 y0_1 y0_2
          obtain ⟨_, q1⟩ := ((HA5_B.out w' hb).grown g0 (by intro e; have e2 : R_B = R_A := Option.some.inj e; have h1 := HR_B.out; have h2 := HR_A.out; omega)).store5 y1_0 y1_1 y1_2 y1_3 y1_4
          exact ⟨q1.cell z0 (by intro e; have e2 : R_T = R_B := Option.some.inj e; have h1 := HR_T.out; have h2 := HR_B.out; omega), q1.cell z1 (by intro e; have e2 : R_T = R_B := Option.some.inj e; have h1 := HR_T.out; have h2 := HR_B.out; omega), q1.cell z2 (by intro e; have e2 : R_T = R_B := Option.some.inj e; have h1 := HR_T.out; have h2 := HR_B.out; omega), z3.grown q1 z3.size (fun k hk => by have e2 : R_B = k := Option.some.inj hk; have := HR_B.out; omega)⟩))
        have hne_A_B : R_A ≠ R_B := fun e => absurd (congrArg some e) (by intro e; have e2 : R_A = R_B := Option.some.inj e; have h1 := HR_A.out; have h2 := HR_B.out; omega)
        have hne_B_A : R_B ≠ R_A := fun e => absurd (congrArg some e) (by intro e; have e2 : R_B = R_A := Option.some.inj e; have h1 := HR_B.out; have h2 := HR_A.out; omega)
        go_region_held3 (fun w' => w'.cell? ⟨R_T, 0, none⟩ = some (.int .i64 t1) ∧ w'.cell? ⟨R_T, 1, none⟩ = some (.int .i64 z) ∧ w'.cell? ⟨R_T, 2, none⟩ = some (.slice a_n q2.length c_n) ∧ Below w.heap.size w w')
          ((first | (with_reducible refine HK5_1.out _ _ _ _ _ _ _ _ _ ?_; (repeat (first | with_reducible assumption | with_reducible exact Below.refl _ _ | with_reducible refine Below.drew ?_ | with_reducible refine below_alloc' ?_)); done) | (with_reducible refine HK5_0.out _ _ _ _ ?_; (repeat (first | with_reducible assumption | with_reducible exact Below.refl _ _ | with_reducible refine Below.drew ?_ | with_reducible refine below_alloc' ?_)); done) | (with_reducible refine HK5.out _ ?_; (repeat (first | with_reducible assumption | with_reducible exact Below.refl _ _ | with_reducible refine Below.drew ?_ | with_reducible refine below_alloc' ?_)); done)))
          (first
            | (go_at_call 108; refine (HPk.out _ _ (row_own (own_below n_242.out (by repeat (first | with_reducible assumption | with_reducible exact Below.refl _ _ | with_reducible refine Below.drew ?_ | with_reducible refine below_alloc' ?_) : Below W241.heap.size W241 _) (Nat.le_refl _)))).mono ?_; rintro e w7 ⟨rfl, l7⟩; have hb7 := below_call7 (by repeat (first | with_reducible assumption | with_reducible exact Below.refl _ _ | with_reducible refine Below.drew ?_ | with_reducible refine below_alloc' ?_) : Below W241.heap.size W241 _) l7; have h7A := HA5_A.out w7 hb7; have yA0 := h7A.at 0 (v := .int .i64 0) rfl; have fA0 := h7A.free 0; have yA1 := h7A.at 1 (v := .int .i64 0) rfl; have fA1 := h7A.free 1; have yA2 := h7A.at 2 (v := .slice none 0 0) rfl; have fA2 := h7A.free 2; have h7B := HA5_B.out w7 hb7; have yB0 := h7B.at 0 (v := .int .i64 0) rfl; have fB0 := h7B.free 0; have yB1 := h7B.at 1 (v := .int .i64 0) rfl; have fB1 := h7B.free 1; have yB2 := h7B.at 2 (v := .int .i64 0) rfl; have fB2 := h7B.free 2; have yB3 := h7B.at 3 (v := .int .i64 0) rfl; have fB3 := h7B.free 3; have yB4 := h7B.at 4 (v := .string ⟨#[]⟩) rfl; have fB4 := h7B.free 4; clear l7))
        all_goals go_wp2_with fail
        all_goals
          obtain ⟨p1, q1⟩ := h7A.store3 (.int .i64 t1) (.int .i64 z) (.slice a_n q2.length c_n)
          obtain ⟨p2, q2'⟩ := (h7B.grown q1 (by intro e; have e2 : R_B = R_A := Option.some.inj e; have h1 := HR_B.out; have h2 := HR_A.out; omega)).store5 (.int .i64 1) (.int .i64 nu) (.int .i64 t1) (.int .i64 le) (.string s)
          have hB8 := (HB_242.out.trans (hb7.mono HB_242.out.size))
          have hB9 := hB8.grown q1 hB8.size (fun k hk => by have e2 : R_A = k := Option.some.inj hk; have := HR_A.out; omega)
          have hB10 := hB9.grown q2' hB9.size (fun k hk => by have e2 : R_B = k := Option.some.inj hk; have := HR_B.out; omega)
          refine bodyPost_ret (results_bxx1 rfl isSw isPk _ _ R_A R_B rfl rfl rfl rfl rfl (p1.grown q2' (by intro e; have e2 : R_A = R_B := Option.some.inj e; have h1 := HR_A.out; have h2 := HR_B.out; omega)) p2) rfl ⟨_, rfl, ?_, hB10⟩
          refine ((own_below n_242.out hb7 (Nat.le_refl _)).kept q1 ?_).kept q2' ?_
          · cases hv : (.slice a_n q2.length c_n : Value).ownBlock with
            | none => exact .inl rfl
            | some k => exact .inr (fun e => BX_A_n.out k hv (Option.some.inj e))
          · cases hv : (.slice a_n q2.length c_n : Value).ownBlock with
            | none => exact .inl rfl
            | some k => exact .inr (fun e => BX_B_n.out k hv (Option.some.inj e))
      · have hpw : pushW ⟨t, z, q⟩ s = ⟨t, z, q ++ [s]⟩ := by unfold pushW; rw [show roomW ⟨t, z, q⟩ = ⟨t, z, q⟩ from if_neg hf]
        rw [hpw]
        clear hpw hyes
        dsimp only
        obtain ⟨q2, hq2⟩ : ∃ q2, q2 = q ++ [s] := ⟨_, rfl⟩
        have hq7 : q2.length ≤ 7 := by rw [hq2, List.length_append]; show q.length + 1 ≤ 7; omega
        rw [← hq2]
        have HQ2 := Lib.hid hq2
        clear hq2
        have HPk := Lib.hid (fun (v' : Value) (W1 : World) (hr : Row W1 v' q2.length (q2.map Value.string)) => pktFrom_any v' ⟨t, z, q2⟩ 1 nu s W1 hr ht (by dsimp only; omega))
        dsimp only at HPk
        generalize leadI ⟨t, z, q2⟩ = le at HPk ⊢
        have hd : ((q.length : Int) == z) = false := by simp; exact hf
        clear hf hok hs
        have c246_T_0 := HX_T.out.at 0 (v := .int .i64 t) rfl
        have c246_T_1 := HX_T.out.at 1 (v := .int .i64 z) rfl
        have c246_T_2 := HX_T.out.at 2 (v := .slice a q.length cap) rfl
        have c247_A_0 := HX_A.out.at 0 (v := .int .i64 0) rfl
        have c247_A_1 := HX_A.out.at 1 (v := .int .i64 0) rfl
        have c247_A_2 := HX_A.out.at 2 (v := .slice none 0 0) rfl
        have c248_B_0 := HX_B.out.at 0 (v := .int .i64 0) rfl
        have c248_B_1 := HX_B.out.at 1 (v := .int .i64 0) rfl
        have c248_B_2 := HX_B.out.at 2 (v := .int .i64 0) rfl
        have c248_B_3 := HX_B.out.at 3 (v := .int .i64 0) rfl
        have c248_B_4 := HX_B.out.at 4 (v := .string ⟨#[]⟩) rfl
        go_enter Try.func80, Try.ntmps80
        go_upto_region 1 with fail
        rw [← HW0.out, ← HR_B.out, ← HR_A.out, ← HR_T.out]
        go_wp2_with fail
        refine (HG.out _ (HP.out.below HB0.out (Nat.le_refl _))).mono ?_
        rintro e W249 ⟨rfl, l249⟩
        clear c246_T_0 c246_T_1 c246_T_2
        clear c247_A_0 c247_A_1 c247_A_2
        clear c248_B_0 c248_B_1 c248_B_2 c248_B_3 c248_B_4
        have HB_250 := Lib.hid (HB0.out.trans (l249.mono HB0.out.size))
        have T_250 := Lib.hid (HX_T.out.below l249 HX_T.out.lt)
        have A_250 := Lib.hid (HX_A.out.below l249 HX_A.out.lt)
        have B_250 := Lib.hid (HX_B.out.below l249 HX_B.out.lt)
        clear l249
        have c251_T_0 := T_250.out.at 0 (v := .int .i64 t) rfl
        have c251_T_1 := T_250.out.at 1 (v := .int .i64 z) rfl
        have c251_T_2 := T_250.out.at 2 (v := .slice a q.length cap) rfl
        have c252_A_0 := A_250.out.at 0 (v := .int .i64 0) rfl
        have c252_A_1 := A_250.out.at 1 (v := .int .i64 0) rfl
        have c252_A_2 := A_250.out.at 2 (v := .slice none 0 0) rfl
        have c253_B_0 := B_250.out.at 0 (v := .int .i64 0) rfl
        have c253_B_1 := B_250.out.at 1 (v := .int .i64 0) rfl
        have c253_B_2 := B_250.out.at 2 (v := .int .i64 0) rfl
        have c253_B_3 := B_250.out.at 3 (v := .int .i64 0) rfl
        have c253_B_4 := B_250.out.at 4 (v := .string ⟨#[]⟩) rfl
        go_wp2_with fail
        refine (HI.out _).mono ?_
        rintro e _ ⟨rfl, rfl⟩
        go_wp2_with fail
        refine (HLd.out _ (HP.out.below HB_250.out (Nat.le_refl _))).mono ?_
        rintro e W254 ⟨rfl, l254⟩
        clear c251_T_0 c251_T_1 c251_T_2
        clear c252_A_0 c252_A_1 c252_A_2
        clear c253_B_0 c253_B_1 c253_B_2 c253_B_3 c253_B_4
        have HB_255 := Lib.hid (HB_250.out.trans (l254.mono HB_250.out.size))
        have T_255 := Lib.hid (T_250.out.below l254 T_250.out.lt)
        clear T_250
        have A_255 := Lib.hid (A_250.out.below l254 A_250.out.lt)
        clear A_250
        have B_255 := Lib.hid (B_250.out.below l254 B_250.out.lt)
        clear B_250
        clear l254
        have c256_T_0 := T_255.out.at 0 (v := .int .i64 t) rfl
        have c256_T_1 := T_255.out.at 1 (v := .int .i64 z) rfl
        have c256_T_2 := T_255.out.at 2 (v := .slice a q.length cap) rfl
        have c257_A_0 := A_255.out.at 0 (v := .int .i64 0) rfl
        have c257_A_1 := A_255.out.at 1 (v := .int .i64 0) rfl
        have c257_A_2 := A_255.out.at 2 (v := .slice none 0 0) rfl
        have c258_B_0 := B_255.out.at 0 (v := .int .i64 0) rfl
        have c258_B_1 := B_255.out.at 1 (v := .int .i64 0) rfl
        have c258_B_2 := B_255.out.at 2 (v := .int .i64 0) rfl
        have c258_B_3 := B_255.out.at 3 (v := .int .i64 0) rfl
        have c258_B_4 := B_255.out.at 4 (v := .string ⟨#[]⟩) rfl
        clear c256_T_0 c256_T_1 c256_T_2
        have c259_T_0 := T_255.out.at 0 (v := .int .i64 t) rfl
        have c259_T_1 := T_255.out.at 1 (v := .int .i64 z) rfl
        have c259_T_2 := T_255.out.at 2 (v := .slice a q.length cap) rfl
        clear c257_A_0 c257_A_1 c257_A_2
        have c260_A_0 := A_255.out.at 0 (v := .int .i64 0) rfl
        have c260_A_1 := A_255.out.at 1 (v := .int .i64 0) rfl
        have c260_A_2 := A_255.out.at 2 (v := .slice none 0 0) rfl
        clear c258_B_0 c258_B_1 c258_B_2 c258_B_3 c258_B_4
        have c261_B_0 := B_255.out.at 0 (v := .int .i64 0) rfl
        have c261_B_1 := B_255.out.at 1 (v := .int .i64 0) rfl
        have c261_B_2 := B_255.out.at 2 (v := .int .i64 0) rfl
        have c261_B_3 := B_255.out.at 3 (v := .int .i64 0) rfl
        have c261_B_4 := B_255.out.at 4 (v := .string ⟨#[]⟩) rfl
        go_wp2_with fail
        obtain ⟨W262, hW262⟩ : ∃ W262, W262 = (W254.alloc (.cells #[.string s] 9)).alloc (.cells #[.slice a q.length cap, .slice (some ⟨W254.heap.size, 0, none⟩) 1 1] 24) := ⟨_, rfl⟩
        have l262 : Below W254.heap.size W254 W262 := by rw [hW262]; exact ((Below.refl _ _).alloc (Nat.le_refl _) _).alloc (by simp) _
        have X262_K : Hid (Bx W262 W254.heap.size #[.string s] 9) := Lib.hid (by rw [hW262]; exact (Bx.new2 _ _ _ _ _).1)
        have X262_L : Hid (Bx W262 (W254.heap.size + 1) #[.slice a q.length cap, .slice (some ⟨W254.heap.size, 0, none⟩) 1 1] 24) := Lib.hid (by rw [hW262]; exact (Bx.new2 _ _ _ _ _).2)
        rw [← hW262]
        clear hW262
        have HG_K : Hid (w.heap.size ≤ W254.heap.size) := Lib.hid (HB_255.out.size)
        have HN_K_T : Hid (R_T < W254.heap.size) := Lib.hid (T_255.out.lt)
        have HN_K_A : Hid (R_A < W254.heap.size) := Lib.hid (A_255.out.lt)
        have HN_K_B : Hid (R_B < W254.heap.size) := Lib.hid (B_255.out.lt)
        have HG_L : Hid (w.heap.size ≤ (W254.heap.size + 1)) := Lib.hid (Nat.le_succ_of_le HB_255.out.size)
        have HN_L_T : Hid (R_T < (W254.heap.size + 1)) := Lib.hid (Nat.lt_succ_of_lt T_255.out.lt)
        have HN_L_A : Hid (R_A < (W254.heap.size + 1)) := Lib.hid (Nat.lt_succ_of_lt A_255.out.lt)
        have HN_L_B : Hid (R_B < (W254.heap.size + 1)) := Lib.hid (Nat.lt_succ_of_lt B_255.out.lt)
        have HN_L_K : Hid (W254.heap.size < W254.heap.size + 1) := Lib.hid (Nat.lt_succ_self _)
        obtain ⟨R_L, hR_L⟩ : ∃ X, X = W254.heap.size + 1 := ⟨_, rfl⟩
        rw [← hR_L] at X262_L HG_L HN_L_K HN_L_T HN_L_A HN_L_B ⊢
        clear hR_L
        obtain ⟨R_K, hR_K⟩ : ∃ X, X = W254.heap.size := ⟨_, rfl⟩
        rw [← hR_K] at X262_K HG_K HN_L_K HN_K_T HN_K_A HN_K_B X262_L ⊢
        clear hR_K
        clear c259_T_0 c259_T_1 c259_T_2
        clear c260_A_0 c260_A_1 c260_A_2
        clear c261_B_0 c261_B_1 c261_B_2 c261_B_3 c261_B_4
        have HB_263 := Lib.hid (HB_255.out.trans (l262.mono HB_255.out.size))
        have T_263 := Lib.hid (T_255.out.below l262 T_255.out.lt)
        clear T_255
        have A_263 := Lib.hid (A_255.out.below l262 A_255.out.lt)
        clear A_255
        have B_263 := Lib.hid (B_255.out.below l262 B_255.out.lt)
        clear B_255
        clear l262
        have c264_T_0 := T_263.out.at 0 (v := .int .i64 t) rfl
        have c264_T_1 := T_263.out.at 1 (v := .int .i64 z) rfl
        have c264_T_2 := T_263.out.at 2 (v := .slice a q.length cap) rfl
        have c265_A_0 := A_263.out.at 0 (v := .int .i64 0) rfl
        have c265_A_1 := A_263.out.at 1 (v := .int .i64 0) rfl
        have c265_A_2 := A_263.out.at 2 (v := .slice none 0 0) rfl
        have c266_B_0 := B_263.out.at 0 (v := .int .i64 0) rfl
        have c266_B_1 := B_263.out.at 1 (v := .int .i64 0) rfl
        have c266_B_2 := B_263.out.at 2 (v := .int .i64 0) rfl
        have c266_B_3 := B_263.out.at 3 (v := .int .i64 0) rfl
        have c266_B_4 := B_263.out.at 4 (v := .string ⟨#[]⟩) rfl
        have c267_K_0 := X262_K.out.at 0 (v := .string s) rfl
        have c268_L_0 := X262_L.out.at 0 (v := .slice a q.length cap) rfl
        have c268_L_1 := X262_L.out.at 1 (v := .slice (some ⟨R_K, 0, none⟩) 1 1) rfl
        have HCc := Lib.hid (concatS2_any (.slice a q.length cap) (.slice (some ⟨R_K, 0, none⟩) 1 1) q [s] R_L W262 (HP.out.below HB_263.out (Nat.le_refl _)) HFit.out.fitS (by omega) (row_lit X262_K.out) (.inr ⟨_, _, rfl⟩) (by simp) X262_L.out)
        rw [← HQ2.out] at HCc
        refine (HCc.out).mono ?_
        rintro e W269 ⟨v_n, rfl, o_n, l269⟩
        obtain ⟨a_n, c_n, rfl, _, _⟩ := own_someS0 o_n
        have O_n := Lib.hid (own_base o_n HB_263.out.size)
        have BX_T_n : Hid (∀ k, ((.slice a_n q2.length c_n) : Value).ownBlock = some k → k ≠ R_T) := Lib.hid (fun k h1 h2 => absurd T_263.out.lt (Nat.not_lt.2 (by rw [← h2]; exact (o_n.lt k h1).1)))
        have BX_A_n : Hid (∀ k, ((.slice a_n q2.length c_n) : Value).ownBlock = some k → k ≠ R_A) := Lib.hid (fun k h1 h2 => absurd A_263.out.lt (Nat.not_lt.2 (by rw [← h2]; exact (o_n.lt k h1).1)))
        have BX_B_n : Hid (∀ k, ((.slice a_n q2.length c_n) : Value).ownBlock = some k → k ≠ R_B) := Lib.hid (fun k h1 h2 => absurd B_263.out.lt (Nat.not_lt.2 (by rw [← h2]; exact (o_n.lt k h1).1)))
        clear o_n
        clear c267_K_0
        clear X262_K
        clear c268_L_0 c268_L_1
        clear X262_L
        clear c264_T_0 c264_T_1 c264_T_2
        clear c265_A_0 c265_A_1 c265_A_2
        clear c266_B_0 c266_B_1 c266_B_2 c266_B_3 c266_B_4
        have HB_270 := Lib.hid (HB_263.out.trans (l269.mono HB_263.out.size))
        have T_270 := Lib.hid (T_263.out.below l269 T_263.out.lt)
        clear T_263
        have A_270 := Lib.hid (A_263.out.below l269 A_263.out.lt)
        clear A_263
        have B_270 := Lib.hid (B_263.out.below l269 B_263.out.lt)
        clear B_263
        clear l269
        have c271_T_0 := T_270.out.at 0 (v := .int .i64 t) rfl
        have c271_T_1 := T_270.out.at 1 (v := .int .i64 z) rfl
        have c271_T_2 := T_270.out.at 2 (v := .slice a q.length cap) rfl
        have c272_A_0 := A_270.out.at 0 (v := .int .i64 0) rfl
        have c272_A_1 := A_270.out.at 1 (v := .int .i64 0) rfl
        have c272_A_2 := A_270.out.at 2 (v := .slice none 0 0) rfl
        have c273_B_0 := B_270.out.at 0 (v := .int .i64 0) rfl
        have c273_B_1 := B_270.out.at 1 (v := .int .i64 0) rfl
        have c273_B_2 := B_270.out.at 2 (v := .int .i64 0) rfl
        have c273_B_3 := B_270.out.at 3 (v := .int .i64 0) rfl
        have c273_B_4 := B_270.out.at 4 (v := .string ⟨#[]⟩) rfl
        have fr274_T_0 := T_270.out.free 0
        have fr274_T_1 := T_270.out.free 1
        have fr274_T_2 := T_270.out.free 2
        go_upto_region 7 with fail
        clear c271_T_0 c271_T_1 c271_T_2
        clear fr274_T_0 fr274_T_1 fr274_T_2
        clear c272_A_0 c272_A_1 c272_A_2
        clear c273_B_0 c273_B_1 c273_B_2 c273_B_3 c273_B_4
        obtain ⟨p275, q275⟩ := T_270.out.set 2 (.slice a_n q2.length c_n)
        obtain ⟨W275, hW275⟩ : ∃ W275, W275 = (W269.setCell ⟨R_T, 2, none⟩ (.slice a_n q2.length c_n)) := ⟨_, rfl⟩
        rw [← hW275] at p275 q275 ⊢
        have X275_T : Hid (Bx W275 R_T #[.int .i64 t, .int .i64 z, .slice a_n q2.length c_n] 26) := Lib.hid p275
        have HB_276 := Lib.hid (HB_270.out.grown q275 HB_270.out.size (fun k hk => by have e2 : R_T = k := Option.some.inj hk; have := HR_T.out; omega))
        have n_276 := Lib.hid (O_n.out.kept q275 (by
          cases hv : (.slice a_n q2.length c_n : Value).ownBlock with
          | none => exact .inl rfl
          | some k => exact .inr (fun e => BX_T_n.out k hv (Option.some.inj e))))
        clear O_n
        have A_276 := Lib.hid (A_270.out.grown q275 (by intro e; have e2 : R_A = R_T := Option.some.inj e; have h1 := HR_A.out; have h2 := HR_T.out; omega))
        clear A_270
        have B_276 := Lib.hid (B_270.out.grown q275 (by intro e; have e2 : R_B = R_T := Option.some.inj e; have h1 := HR_B.out; have h2 := HR_T.out; omega))
        clear B_270
        clear T_270
        clear hW275 p275 q275
        have c277_T_0 := X275_T.out.at 0 (v := .int .i64 t) rfl
        have c277_T_1 := X275_T.out.at 1 (v := .int .i64 z) rfl
        have c277_T_2 := X275_T.out.at 2 (v := .slice a_n q2.length c_n) rfl
        have c278_A_0 := A_276.out.at 0 (v := .int .i64 0) rfl
        have c278_A_1 := A_276.out.at 1 (v := .int .i64 0) rfl
        have c278_A_2 := A_276.out.at 2 (v := .slice none 0 0) rfl
        have c279_B_0 := B_276.out.at 0 (v := .int .i64 0) rfl
        have c279_B_1 := B_276.out.at 1 (v := .int .i64 0) rfl
        have c279_B_2 := B_276.out.at 2 (v := .int .i64 0) rfl
        have c279_B_3 := B_276.out.at 3 (v := .int .i64 0) rfl
        have c279_B_4 := B_276.out.at 4 (v := .string ⟨#[]⟩) rfl
        have HK6 := Lib.hid (fun (w' : World) (hb : Below W275.heap.size W275 w') => (show w'.cell? ⟨R_T, 0, none⟩ = some (.int .i64 t) ∧ w'.cell? ⟨R_T, 1, none⟩ = some (.int .i64 z) ∧ w'.cell? ⟨R_T, 2, none⟩ = some (.slice a_n q2.length c_n) ∧ Below w.heap.size w w' from ⟨(hb.cell (p := ⟨R_T, 0, none⟩) X275_T.out.lt).trans (X275_T.out.at 0 (v := .int .i64 t) rfl), (hb.cell (p := ⟨R_T, 1, none⟩) X275_T.out.lt).trans (X275_T.out.at 1 (v := .int .i64 z) rfl), (hb.cell (p := ⟨R_T, 2, none⟩) X275_T.out.lt).trans (X275_T.out.at 2 (v := .slice a_n q2.length c_n) rfl), HB_276.out.trans (hb.mono HB_276.out.size)⟩))
        have HA6_A := Lib.hid (fun (w' : World) (hb : Below W275.heap.size W275 w') => A_276.out.below hb A_276.out.lt)
        have HK6_0 := Lib.hid (fun (w' : World) (y0_0 y0_1 y0_2 : Value) (hb : Below W275.heap.size W275 w') => (show ((((w'.setCell ⟨R_A, 0, none⟩ (y0_0)).setCell ⟨R_A, 1, none⟩ (y0_1)).setCell ⟨R_A, 2, none⟩ (y0_2))).cell? ⟨R_T, 0, none⟩ = some (.int .i64 t) ∧ ((((w'.setCell ⟨R_A, 0, none⟩ (y0_0)).setCell ⟨R_A, 1, none⟩ (y0_1)).setCell ⟨R_A, 2, none⟩ (y0_2))).cell? ⟨R_T, 1, none⟩ = some (.int .i64 z) ∧ ((((w'.setCell ⟨R_A, 0, none⟩ (y0_0)).setCell ⟨R_A, 1, none⟩ (y0_1)).setCell ⟨R_A, 2, none⟩ (y0_2))).cell? ⟨R_T, 2, none⟩ = some (.slice a_n q2.length c_n) ∧ Below w.heap.size w ((((w'.setCell ⟨R_A, 0, none⟩ (y0_0)).setCell ⟨R_A, 1, none⟩ (y0_1)).setCell ⟨R_A, 2, none⟩ (y0_2))) by
          obtain ⟨z0, z1, z2, z3⟩ := HK6.out w' hb
          obtain ⟨_, q1⟩ := (HA6_A.out w' hb).store3 y0_0 y0_1 y0_2
          exact ⟨q1.cell z0 (by intro e; have e2 : R_T = R_A := Option.some.inj e; have h1 := HR_T.out; have h2 := HR_A.out; omega), q1.cell z1 (by intro e; have e2 : R_T = R_A := Option.some.inj e; have h1 := HR_T.out; have h2 := HR_A.out; omega), q1.cell z2 (by intro e; have e2 : R_T = R_A := Option.some.inj e; have h1 := HR_T.out; have h2 := HR_A.out; omega), z3.grown q1 z3.size (fun k hk => by have e2 : R_A = k := Option.some.inj hk; have := HR_A.out; omega)⟩))
        have HA6_B := Lib.hid (fun (w' : World) (hb : Below W275.heap.size W275 w') => B_276.out.below hb B_276.out.lt)
        have HK6_1 := Lib.hid (fun (w' : World) (y0_0 y0_1 y0_2 y1_0 y1_1 y1_2 y1_3 y1_4 : Value) (hb : Below W275.heap.size W275 w') => (show (((((((((w'.setCell ⟨R_A, 0, none⟩ (y0_0)).setCell ⟨R_A, 1, none⟩ (y0_1)).setCell ⟨R_A, 2, none⟩ (y0_2)).setCell ⟨R_B, 0, none⟩ (y1_0)).setCell ⟨R_B, 1, none⟩ (y1_1)).setCell ⟨R_B, 2, none⟩ (y1_2)).setCell ⟨R_B, 3, none⟩ (y1_3)).setCell ⟨R_B, 4, none⟩ (y1_4))).cell? ⟨R_T, 0, none⟩ = some (.int .i64 t) ∧ (((((((((w'.setCell ⟨R_A, 0, none⟩ (y0_0)).setCell ⟨R_A, 1, none⟩ (y0_1)).setCell ⟨R_A, 2, none⟩ (y0_2)).setCell ⟨R_B, 0, none⟩ (y1_0)).setCell ⟨R_B, 1, none⟩ (y1_1)).setCell ⟨R_B, 2, none⟩ (y1_2)).setCell ⟨R_B, 3, none⟩ (y1_3)).setCell ⟨R_B, 4, none⟩ (y1_4))).cell? ⟨R_T, 1, none⟩ = some (.int .i64 z) ∧ (((((((((w'.setCell ⟨R_A, 0, none⟩ (y0_0)).setCell ⟨R_A, 1, none⟩ (y0_1)).setCell ⟨R_A, 2, none⟩ (y0_2)).setCell ⟨R_B, 0, none⟩ (y1_0)).setCell ⟨R_B, 1, none⟩ (y1_1)).setCell ⟨R_B, 2, none⟩ (y1_2)).setCell ⟨R_B, 3, none⟩ (y1_3)).setCell ⟨R_B, 4, none⟩ (y1_4))).cell? ⟨R_T, 2, none⟩ = some (.slice a_n q2.length c_n) ∧ Below w.heap.size w (((((((((w'.setCell ⟨R_A, 0, none⟩ (y0_0)).setCell ⟨R_A, 1, none⟩ (y0_1)).setCell ⟨R_A, 2, none⟩ (y0_2)).setCell ⟨R_B, 0, none⟩ (y1_0)).setCell ⟨R_B, 1, none⟩ (y1_1)).setCell ⟨R_B, 2, none⟩ (y1_2)).setCell ⟨R_B, 3, none⟩ (y1_3)).setCell ⟨R_B, 4, none⟩ (y1_4))) by
          obtain ⟨z0, z1, z2, z3⟩ := HK6_0.out w' y0_0 y0_1 y0_2 hb
          obtain ⟨_, g0⟩ := (HA6_A.out w' hb).store3 y0_0 y0_1 y0_2
          obtain ⟨_, q1⟩ := ((HA6_B.out w' hb).grown g0 (by intro e; have e2 : R_B = R_A := Option.some.inj e; have h1 := HR_B.out; have h2 := HR_A.out; omega)).store5 y1_0 y1_1 y1_2 y1_3 y1_4
          exact ⟨q1.cell z0 (by intro e; have e2 : R_T = R_B := Option.some.inj e; have h1 := HR_T.out; have h2 := HR_B.out; omega), q1.cell z1 (by intro e; have e2 : R_T = R_B := Option.some.inj e; have h1 := HR_T.out; have h2 := HR_B.out; omega), q1.cell z2 (by intro e; have e2 : R_T = R_B := Option.some.inj e; have h1 := HR_T.out; have h2 := HR_B.out; omega), z3.grown q1 z3.size (fun k hk => by have e2 : R_B = k := Option.some.inj hk; have := HR_B.out; omega)⟩))
        have hne_A_B : R_A ≠ R_B := fun e => absurd (congrArg some e) (by intro e; have e2 : R_A = R_B := Option.some.inj e; have h1 := HR_A.out; have h2 := HR_B.out; omega)
        have hne_B_A : R_B ≠ R_A := fun e => absurd (congrArg some e) (by intro e; have e2 : R_B = R_A := Option.some.inj e; have h1 := HR_B.out; have h2 := HR_A.out; omega)
        go_region_held3 (fun w' => w'.cell? ⟨R_T, 0, none⟩ = some (.int .i64 t) ∧ w'.cell? ⟨R_T, 1, none⟩ = some (.int .i64 z) ∧ w'.cell? ⟨R_T, 2, none⟩ = some (.slice a_n q2.length c_n) ∧ Below w.heap.size w w')
          ((first | (with_reducible refine HK6_1.out _ _ _ _ _ _ _ _ _ ?_; (repeat (first | with_reducible assumption | with_reducible exact Below.refl _ _ | with_reducible refine Below.drew ?_ | with_reducible refine below_alloc' ?_)); done) | (with_reducible refine HK6_0.out _ _ _ _ ?_; (repeat (first | with_reducible assumption | with_reducible exact Below.refl _ _ | with_reducible refine Below.drew ?_ | with_reducible refine below_alloc' ?_)); done) | (with_reducible refine HK6.out _ ?_; (repeat (first | with_reducible assumption | with_reducible exact Below.refl _ _ | with_reducible refine Below.drew ?_ | with_reducible refine below_alloc' ?_)); done)))
          (first
            | (go_at_call 108; refine (HPk.out _ _ (row_own (own_below n_276.out (by repeat (first | with_reducible assumption | with_reducible exact Below.refl _ _ | with_reducible refine Below.drew ?_ | with_reducible refine below_alloc' ?_) : Below W275.heap.size W275 _) (Nat.le_refl _)))).mono ?_; rintro e w7 ⟨rfl, l7⟩; have hb7 := below_call7 (by repeat (first | with_reducible assumption | with_reducible exact Below.refl _ _ | with_reducible refine Below.drew ?_ | with_reducible refine below_alloc' ?_) : Below W275.heap.size W275 _) l7; have h7A := HA6_A.out w7 hb7; have yA0 := h7A.at 0 (v := .int .i64 0) rfl; have fA0 := h7A.free 0; have yA1 := h7A.at 1 (v := .int .i64 0) rfl; have fA1 := h7A.free 1; have yA2 := h7A.at 2 (v := .slice none 0 0) rfl; have fA2 := h7A.free 2; have h7B := HA6_B.out w7 hb7; have yB0 := h7B.at 0 (v := .int .i64 0) rfl; have fB0 := h7B.free 0; have yB1 := h7B.at 1 (v := .int .i64 0) rfl; have fB1 := h7B.free 1; have yB2 := h7B.at 2 (v := .int .i64 0) rfl; have fB2 := h7B.free 2; have yB3 := h7B.at 3 (v := .int .i64 0) rfl; have fB3 := h7B.free 3; have yB4 := h7B.at 4 (v := .string ⟨#[]⟩) rfl; have fB4 := h7B.free 4; clear l7))
        all_goals go_wp2_with fail
        all_goals
          obtain ⟨p1, q1⟩ := h7A.store3 (.int .i64 t) (.int .i64 z) (.slice a_n q2.length c_n)
          obtain ⟨p2, q2'⟩ := (h7B.grown q1 (by intro e; have e2 : R_B = R_A := Option.some.inj e; have h1 := HR_B.out; have h2 := HR_A.out; omega)).store5 (.int .i64 1) (.int .i64 nu) (.int .i64 t) (.int .i64 le) (.string s)
          have hB8 := (HB_276.out.trans (hb7.mono HB_276.out.size))
          have hB9 := hB8.grown q1 hB8.size (fun k hk => by have e2 : R_A = k := Option.some.inj hk; have := HR_A.out; omega)
          have hB10 := hB9.grown q2' hB9.size (fun k hk => by have e2 : R_B = k := Option.some.inj hk; have := HR_B.out; omega)
          refine bodyPost_ret (results_bxx1 rfl isSw isPk _ _ R_A R_B rfl rfl rfl rfl rfl (p1.grown q2' (by intro e; have e2 : R_A = R_B := Option.some.inj e; have h1 := HR_A.out; have h2 := HR_B.out; omega)) p2) rfl ⟨_, rfl, ?_, hB10⟩
          refine ((own_below n_276.out hb7 (Nat.le_refl _)).kept q1 ?_).kept q2' ?_
          · cases hv : (.slice a_n q2.length c_n : Value).ownBlock with
            | none => exact .inl rfl
            | some k => exact .inr (fun e => BX_A_n.out k hv (Option.some.inj e))
          · cases hv : (.slice a_n q2.length c_n : Value).ownBlock with
            | none => exact .inl rfl
            | some k => exact .inr (fun e => BX_B_n.out k hv (Option.some.inj e))
end Go.Proofs.Ytlendmiolhgecaa
