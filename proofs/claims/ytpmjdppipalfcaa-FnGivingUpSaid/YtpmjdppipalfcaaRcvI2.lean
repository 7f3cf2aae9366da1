/-
  Receive windows: the program's withItem.
-/
import Derived.Test.YtpmjdppipalfcaaRcvI
import Derived.Test.YtpmjdppipalfcaaRcvMath2
import Derived.Test.YtpmjdppipalfcaaCopyZ
import Derived.Test.YtpmjdppipalfcaaSltC
import Derived.Test.YtpmjdppipalfcaaSltS
import Derived.Deep.QuietTactic
import Derived.BigQuiet
import Derived.IntWalk
import Derived.Deep.CutRange
import Derived.WalkLawsBesides
import Derived.Lib.SmallJoins
import Derived.Deep.RegionHeld3
namespace Go.Proofs.Ytpmjdppipalfcaa
open Go.RowKit Go.Lib Go.Joins
set_option linter.unusedVariables false

theorem flat_replicate {α : Type} (f : α → List Value) (a : α) : ∀ n, flatZ f (List.replicate n a) = (List.replicate n (f a)).flatten
  | 0 => rfl
  | n + 1 => by rw [List.replicate_succ, flat_cons, flat_replicate f a n, List.replicate_succ, List.flatten_cons]
theorem made_slots (m : Nat) : (madeCells #[.bool false, .string ⟨#[]⟩] (m * 2)).toList = slF (List.replicate m sl0) := by
  apply List.ext_getElem?
  intro j
  by_cases hj : j < m * 2
  · have h1 : (slF (List.replicate m sl0)).length = m * 2 := by rw [slF_len, List.length_replicate]
    have hk : j / 2 < (List.replicate m sl0).length := by rw [List.length_replicate]; omega
    obtain ⟨e0, e1⟩ := slF_at hk
    rw [List.getElem_replicate] at e0 e1
    rcases (show j = j / 2 * 2 ∨ j = j / 2 * 2 + 1 by omega) with e | e
    · have h2 : j % 2 = 0 := by omega
      rw [e, e0]
      have h3 : j / 2 * 2 < m * 2 := by omega
      simp [madeCells, h3]
      rfl
    · have h2 : j % 2 = 1 := by omega
      rw [e, e1]
      have h3 : j / 2 * 2 + 1 < m * 2 := by omega
      have h4 : (j / 2 * 2 + 1) % 2 = 1 := by omega
      simp [madeCells, h3, h4]
      rfl
  · rw [List.getElem?_eq_none (by simp [madeCells]; omega), List.getElem?_eq_none (by rw [slF_len, List.length_replicate]; omega)]
theorem make_slots (m : Nat) (hm : m ≤ 8) (W : World) : (Instr.makeSlice 24 (.int .i64 (m : Int)) (.int .i64 (m : Int))).run Try.prog W = .ok (.slice (some ⟨W.heap.size, 0, none⟩) m m) (W.alloc (.cells (madeCells #[.bool false, .string ⟨#[]⟩] (m * 2)) 66)) ∧
    (W.alloc (.cells (madeCells #[.bool false, .string ⟨#[]⟩] (m * 2)) 66)).ownsRow W.heap.size 66 2 (.slice (some ⟨W.heap.size, 0, none⟩) m m) m (slF (List.replicate m sl0)) := by
  obtain ⟨i0, hi, hz0, hz1, hz2⟩ := info_parts infoSl
  have h := run_make (P := Try.prog) W 24 66 i0 (.agg #[.bool false, .string ⟨#[]⟩]) Try.underlying24 hi hz0 .i64 .i64 m m (by omega) (by omega) (by rw [hz2]; omega) (by omega)
  rw [hz1, Int.toNat_natCast] at h
  refine ⟨h, ?_⟩
  have h2 := ownz_made W (slF (List.replicate m sl0)) 66 m (z := 2) (by rw [slF_len, List.length_replicate]) (by unfold maxLen; omega)
  rw [← made_slots m, Array.toArray_toList] at h2
  rw [← made_slots m]
  exact h2
set_option maxRecDepth 100000 in
set_option maxHeartbeats 2000000 in
theorem withItem_any (v : Value) (l : Rw) (w : World) (hrow : Row w v l.q.length (slF l.q)) (i : Nat) (s : ByteArray) (hfit : Fit v l.q.length) (hi : i < 8) (hl : l.q.length ≤ 8) :
    Calls Try.prog 66 #[.agg #[.int .i64 l.x, v], .int .i64 i, .string s] w fun e w' => ∃ v', e = .returned (.agg #[.int .i64 l.x, v']) ∧ w'.ownsRow w.heap.size 66 2 v' (setQ l.q i ⟨true, s⟩).length (slF (setQ l.q i ⟨true, s⟩)) ∧ Below w.heap.size w w' := by
  obtain ⟨i0, hi0, hz0, hz1, hz2⟩ := info_parts infoSl
  have HFit := Lib.hid hfit
  clear hfit
  obtain ⟨x, q⟩ := l
  dsimp only at hrow HFit hl ⊢
  obtain ⟨a, cap, rfl, hc1, hm1, _⟩ := sl_open hrow
  unfold maxLen at hm1
  have HP := Lib.hid hrow
  clear hrow
  obtain ⟨m, hm⟩ : ∃ m, m = q.length + (i + 1 - q.length) := ⟨_, rfl⟩
  have hsl : (setQ q i ⟨true, s⟩).length = m := by rw [setQ_len, hm]
  have hqm : q.length ≤ m := by omega
  have him : i < m := by omega
  have hm9 : m ≤ 8 := by omega
  rw [hsl]
  have HSq : Hid ((q ++ (List.replicate m sl0).drop q.length).set i ⟨true, s⟩ = setQ q i ⟨true, s⟩) := Lib.hid (by rw [List.drop_replicate, show m - q.length = i + 1 - q.length by omega]; rfl)
  have HLn : Hid ((q ++ (List.replicate m sl0).drop q.length).length = m) := Lib.hid (by rw [List.length_append, List.length_drop, List.length_replicate]; omega)
  clear hsl
  have HMk := Lib.hid (fun (W : World) => make_slots m hm9 W)
  obtain ⟨W0, R_T, R_A, hW0, hR_T, hR_A, hX_T, hX_A, hB0⟩ := entry2 w #[.int .i64 x, .slice a q.length cap] #[.int .i64 0, .slice none 0 0] 26 26
  have HW0 := Lib.hid hW0
  have HB0 := Lib.hid hB0
  have HR_T := Lib.hid hR_T
  have HX_T := Lib.hid hX_T
  have HR_A := Lib.hid hR_A
  have HX_A := Lib.hid hX_A
  clear hW0 hB0 hR_T hX_T hR_A hX_A
  by_cases hlt : q.length < i + 1
  · have hlt2 : (q.length : Int) < (i : Int) + 1 := by omega
    have hmv : (m : Int) = ((i : Int) + 1) := by omega
    have HMV := Lib.hid hmv
    clear hmv hm hlt
    have c1_T_0 := HX_T.out.at 0 (v := .int .i64 x) rfl
    have c1_T_1 := HX_T.out.at 1 (v := .slice a q.length cap) rfl
    have c2_A_0 := HX_A.out.at 0 (v := .int .i64 0) rfl
    have c2_A_1 := HX_A.out.at 1 (v := .slice none 0 0) rfl
    go_enter Try.func66, Try.ntmps66
    go_upto_region 1 with fail
    rw [← HW0.out, ← HR_A.out, ← HR_T.out]
    have hmk : ∀ W : World, (Instr.makeSlice 24 (.int .i64 ((i : Int) + 1)) (.int .i64 ((i : Int) + 1))).run Try.prog W = .ok (.slice (some ⟨W.heap.size, 0, none⟩) m m) (W.alloc (.cells (madeCells #[.bool false, .string ⟨#[]⟩] (m * 2)) 66)) := fun W => by rw [← HMV.out]; exact (HMk.out W).1
    go_upto_region 2 with fail
    clear hmk
    have lM : Below W0.heap.size W0 (W0.alloc (.cells (madeCells #[.bool false, .string ⟨#[]⟩] (m * 2)) 66)) := (Below.refl _ _).alloc (Nat.le_refl _) _
    have HOm := Lib.hid (HMk.out W0).2
    obtain ⟨WM, hWM⟩ : ∃ W9, W9 = W0.alloc (.cells (madeCells #[.bool false, .string ⟨#[]⟩] (m * 2)) 66) := ⟨_, rfl⟩
    rw [← hWM] at lM HOm ⊢
    clear hWM
    obtain ⟨G, hG⟩ : ∃ G, G = W0.heap.size := ⟨_, rfl⟩
    have HG := Lib.hid hG
    rw [← hG] at HOm ⊢
    clear hG
    clear c1_T_0 c1_T_1
    clear c2_A_0 c2_A_1
    have HB_3 := Lib.hid (HB0.out.trans (lM.mono HB0.out.size))
    have T_3 := Lib.hid (HX_T.out.below lM HX_T.out.lt)
    have A_3 := Lib.hid (HX_A.out.below lM HX_A.out.lt)
    clear lM
    have c4_T_0 := T_3.out.at 0 (v := .int .i64 x) rfl
    have c4_T_1 := T_3.out.at 1 (v := .slice a q.length cap) rfl
    have c5_A_0 := A_3.out.at 0 (v := .int .i64 0) rfl
    have c5_A_1 := A_3.out.at 1 (v := .slice none 0 0) rfl
    go_upto_region 3 with (refine wpList_copy_ownz rfl (.tmp 15) (.tmp 17) 24 24 rfl 66 2 Try.underlying24 (by rw [hi0]; exact congrArg some hz1) G m G m (slF (List.replicate m sl0)) rfl HOm.out _ q.length (slF q) rfl HFit.out (HP.out.below HB_3.out (Nat.le_refl _)) (slF_len q) hqm (slF_one q) ?_; intro wC hownC hgrC; have HOc := Lib.hid hownC; have HgC := Lib.hid hgrC; clear hownC hgrC)
    have HO2 : Hid (wC.ownsRow G 66 2 (.slice (some ⟨G, 0, none⟩) m m) m (slF (q ++ (List.replicate m sl0).drop q.length))) := Lib.hid (by have h := HOc.out; rw [slF_len, slF_drop, ← slF_append] at h; exact h)
    clear HOc
    have lC : Below WM.heap.size WM WM := Below.refl _ _
    clear lC
    clear c4_T_0 c4_T_1
    clear c5_A_0 c5_A_1
    have HB_7 := Lib.hid (HB_3.out.grown HgC.out HB_3.out.size (fun k hk => by have e2 : G = k := Option.some.inj hk; have h1 := HG.out; have h2 := HB0.out.size; omega))
    have T_7 := Lib.hid (T_3.out.grown HgC.out (by intro e; have e2 : R_T = G := Option.some.inj e; have h1 := HG.out; have h3 := HX_T.out.lt; omega))
    clear T_3
    have A_7 := Lib.hid (A_3.out.grown HgC.out (by intro e; have e2 : R_A = G := Option.some.inj e; have h1 := HG.out; have h3 := HX_A.out.lt; omega))
    clear A_3
    have c8_T_0 := T_7.out.at 0 (v := .int .i64 x) rfl
    have c8_T_1 := T_7.out.at 1 (v := .slice a q.length cap) rfl
    have c9_A_0 := A_7.out.at 0 (v := .int .i64 0) rfl
    have c9_A_1 := A_7.out.at 1 (v := .slice none 0 0) rfl
    clear HgC
    obtain ⟨t, ht⟩ : ∃ t, (q ++ (List.replicate m sl0).drop q.length)[i]? = some t := ⟨_, List.getElem?_eq_getElem (by rw [HLn.out]; exact him)⟩
    obtain ⟨d0, d1, f0, f1, _⟩ := ownSl_facts HO2.out ht
    clear ht
    generalize t.h = th at d0
    generalize t.s = ts at d1
    have i1 : (i : Int) < (m : Int) := by omega
    have i3 : (0 : Int) ≤ (i : Int) := by omega
    go_upto_region 4 with fail
    obtain ⟨pS, qS⟩ := ownSl_set HO2.out ⟨true, s⟩ (k := i) (by rw [HLn.out]; exact him)
    rw [HSq.out] at pS
    dsimp only at pS qS
    have HOs := Lib.hid pS
    have HqS := Lib.hid qS
    clear pS qS d0 d1 f0 f1 HO2
    obtain ⟨WS, hWS⟩ : ∃ W9, W9 = (wC.setCell ⟨G, i * 2, none⟩ (.bool true)).setCell ⟨G, i * 2 + 1, none⟩ (.string s) := ⟨_, rfl⟩
    rw [← hWS] at HOs HqS ⊢
    clear hWS
    clear c8_T_0 c8_T_1
    clear c9_A_0 c9_A_1
    have HB_10 := Lib.hid (HB_7.out.grown HqS.out HB_7.out.size (fun k hk => by have e2 : G = k := Option.some.inj hk; have h1 := HG.out; have h2 := HB0.out.size; omega))
    have T_10 := Lib.hid (T_7.out.grown HqS.out (by intro e; have e2 : R_T = G := Option.some.inj e; have h1 := HG.out; have h3 := HX_T.out.lt; omega))
    clear T_7
    have A_10 := Lib.hid (A_7.out.grown HqS.out (by intro e; have e2 : R_A = G := Option.some.inj e; have h1 := HG.out; have h3 := HX_A.out.lt; omega))
    clear A_7
    have c11_T_0 := T_10.out.at 0 (v := .int .i64 x) rfl
    have c11_T_1 := T_10.out.at 1 (v := .slice a q.length cap) rfl
    have c12_A_0 := A_10.out.at 0 (v := .int .i64 0) rfl
    have c12_A_1 := A_10.out.at 1 (v := .slice none 0 0) rfl
    clear HqS
    have fr13_A_0 := A_10.out.free 0
    have fr13_A_1 := A_10.out.free 1
    go_wp2_with fail
    obtain ⟨p1, q1⟩ := A_10.out.store2 (.int .i64 x) (.slice (some ⟨G, 0, none⟩) m m)
    refine bodyPost_ret (results_bx rfl isRw _ _ R_A rfl rfl p1) rfl ⟨_, rfl, ?_, (HB_10.out.grown q1 HB_10.out.size (fun k hk => by have e2 : R_A = k := Option.some.inj hk; have := HR_A.out; omega))⟩
    exact ownz_base (HOs.out.kept q1 (.inr (fun e => by have e2 : G = R_A := Option.some.inj e; have h1 := HG.out; have h3 := HX_A.out.lt; omega))) (by rw [HG.out]; exact HB0.out.size)
  · have hlt2 : (i : Int) + 1 ≤ (q.length : Int) := by omega
    have hmv : (m : Int) = (q.length : Int) := by omega
    have HMV := Lib.hid hmv
    clear hmv hm hlt
    have c14_T_0 := HX_T.out.at 0 (v := .int .i64 x) rfl
    have c14_T_1 := HX_T.out.at 1 (v := .slice a q.length cap) rfl
    have c15_A_0 := HX_A.out.at 0 (v := .int .i64 0) rfl
    have c15_A_1 := HX_A.out.at 1 (v := .slice none 0 0) rfl
    go_enter Try.func66, Try.ntmps66
    go_upto_region 1 with fail
    rw [← HW0.out, ← HR_A.out, ← HR_T.out]
    have hmk : ∀ W : World, (Instr.makeSlice 24 (.int .i64 (q.length : Int)) (.int .i64 (q.length : Int))).run Try.prog W = .ok (.slice (some ⟨W.heap.size, 0, none⟩) m m) (W.alloc (.cells (madeCells #[.bool false, .string ⟨#[]⟩] (m * 2)) 66)) := fun W => by rw [← HMV.out]; exact (HMk.out W).1
    go_upto_region 2 with fail
    clear hmk
    have lM : Below W0.heap.size W0 (W0.alloc (.cells (madeCells #[.bool false, .string ⟨#[]⟩] (m * 2)) 66)) := (Below.refl _ _).alloc (Nat.le_refl _) _
    have HOm := Lib.hid (HMk.out W0).2
    obtain ⟨WM, hWM⟩ : ∃ W9, W9 = W0.alloc (.cells (madeCells #[.bool false, .string ⟨#[]⟩] (m * 2)) 66) := ⟨_, rfl⟩
    rw [← hWM] at lM HOm ⊢
    clear hWM
    obtain ⟨G, hG⟩ : ∃ G, G = W0.heap.size := ⟨_, rfl⟩
    have HG := Lib.hid hG
    rw [← hG] at HOm ⊢
    clear hG
    clear c14_T_0 c14_T_1
    clear c15_A_0 c15_A_1
    have HB_16 := Lib.hid (HB0.out.trans (lM.mono HB0.out.size))
    have T_16 := Lib.hid (HX_T.out.below lM HX_T.out.lt)
    have A_16 := Lib.hid (HX_A.out.below lM HX_A.out.lt)
    clear lM
    have c17_T_0 := T_16.out.at 0 (v := .int .i64 x) rfl
    have c17_T_1 := T_16.out.at 1 (v := .slice a q.length cap) rfl
    have c18_A_0 := A_16.out.at 0 (v := .int .i64 0) rfl
    have c18_A_1 := A_16.out.at 1 (v := .slice none 0 0) rfl
    go_upto_region 3 with (refine wpList_copy_ownz rfl (.tmp 15) (.tmp 17) 24 24 rfl 66 2 Try.underlying24 (by rw [hi0]; exact congrArg some hz1) G m G m (slF (List.replicate m sl0)) rfl HOm.out _ q.length (slF q) rfl HFit.out (HP.out.below HB_16.out (Nat.le_refl _)) (slF_len q) hqm (slF_one q) ?_; intro wC hownC hgrC; have HOc := Lib.hid hownC; have HgC := Lib.hid hgrC; clear hownC hgrC)
    have HO2 : Hid (wC.ownsRow G 66 2 (.slice (some ⟨G, 0, none⟩) m m) m (slF (q ++ (List.replicate m sl0).drop q.length))) := Lib.hid (by have h := HOc.out; rw [slF_len, slF_drop, ← slF_append] at h; exact h)
    clear HOc
    have lC : Below WM.heap.size WM WM := Below.refl _ _
    clear lC
    clear c17_T_0 c17_T_1
    clear c18_A_0 c18_A_1
    have HB_20 := Lib.hid (HB_16.out.grown HgC.out HB_16.out.size (fun k hk => by have e2 : G = k := Option.some.inj hk; have h1 := HG.out; have h2 := HB0.out.size; omega))
    have T_20 := Lib.hid (T_16.out.grown HgC.out (by intro e; have e2 : R_T = G := Option.some.inj e; have h1 := HG.out; have h3 := HX_T.out.lt; omega))
    clear T_16
    have A_20 := Lib.hid (A_16.out.grown HgC.out (by intro e; have e2 : R_A = G := Option.some.inj e; have h1 := HG.out; have h3 := HX_A.out.lt; omega))
    clear A_16
    have c21_T_0 := T_20.out.at 0 (v := .int .i64 x) rfl
    have c21_T_1 := T_20.out.at 1 (v := .slice a q.length cap) rfl
    have c22_A_0 := A_20.out.at 0 (v := .int .i64 0) rfl
    have c22_A_1 := A_20.out.at 1 (v := .slice none 0 0) rfl
    clear HgC
    obtain ⟨t, ht⟩ : ∃ t, (q ++ (List.replicate m sl0).drop q.length)[i]? = some t := ⟨_, List.getElem?_eq_getElem (by rw [HLn.out]; exact him)⟩
    obtain ⟨d0, d1, f0, f1, _⟩ := ownSl_facts HO2.out ht
    clear ht
    generalize t.h = th at d0
    generalize t.s = ts at d1
    have i1 : (i : Int) < (m : Int) := by omega
    have i3 : (0 : Int) ≤ (i : Int) := by omega
    go_upto_region 4 with fail
    obtain ⟨pS, qS⟩ := ownSl_set HO2.out ⟨true, s⟩ (k := i) (by rw [HLn.out]; exact him)
    rw [HSq.out] at pS
    dsimp only at pS qS
    have HOs := Lib.hid pS
    have HqS := Lib.hid qS
    clear pS qS d0 d1 f0 f1 HO2
    obtain ⟨WS, hWS⟩ : ∃ W9, W9 = (wC.setCell ⟨G, i * 2, none⟩ (.bool true)).setCell ⟨G, i * 2 + 1, none⟩ (.string s) := ⟨_, rfl⟩
    rw [← hWS] at HOs HqS ⊢
    clear hWS
    clear c21_T_0 c21_T_1
    clear c22_A_0 c22_A_1
    have HB_23 := Lib.hid (HB_20.out.grown HqS.out HB_20.out.size (fun k hk => by have e2 : G = k := Option.some.inj hk; have h1 := HG.out; have h2 := HB0.out.size; omega))
    have T_23 := Lib.hid (T_20.out.grown HqS.out (by intro e; have e2 : R_T = G := Option.some.inj e; have h1 := HG.out; have h3 := HX_T.out.lt; omega))
    clear T_20
    have A_23 := Lib.hid (A_20.out.grown HqS.out (by intro e; have e2 : R_A = G := Option.some.inj e; have h1 := HG.out; have h3 := HX_A.out.lt; omega))
    clear A_20
    have c24_T_0 := T_23.out.at 0 (v := .int .i64 x) rfl
    have c24_T_1 := T_23.out.at 1 (v := .slice a q.length cap) rfl
    have c25_A_0 := A_23.out.at 0 (v := .int .i64 0) rfl
    have c25_A_1 := A_23.out.at 1 (v := .slice none 0 0) rfl
    clear HqS
    have fr26_A_0 := A_23.out.free 0
    have fr26_A_1 := A_23.out.free 1
    go_wp2_with fail
    obtain ⟨p1, q1⟩ := A_23.out.store2 (.int .i64 x) (.slice (some ⟨G, 0, none⟩) m m)
    refine bodyPost_ret (results_bx rfl isRw _ _ R_A rfl rfl p1) rfl ⟨_, rfl, ?_, (HB_23.out.grown q1 HB_23.out.size (fun k hk => by have e2 : R_A = k := Option.some.inj hk; have := HR_A.out; omega))⟩
    exact ownz_base (HOs.out.kept q1 (.inr (fun e => by have e2 : G = R_A := Option.some.inj e; have h1 := HG.out; have h3 := HX_A.out.lt; omega))) (by rw [HG.out]; exact HB0.out.size)
end Go.Proofs.Ytpmjdppipalfcaa
