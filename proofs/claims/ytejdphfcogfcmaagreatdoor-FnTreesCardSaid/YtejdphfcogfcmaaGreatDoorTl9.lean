/-
  The law of trees: trees are recovered from their texts, and a new leaf is a child of its parent.
-/
import Derived.Test.YtejdphfcogfcmaaGreatDoorTreePI
import Derived.Test.YtejdphfcogfcmaaGreatDoorTreeI4
import Derived.Test.YtejdphfcogfcmaaGreatDoorTreeI2
import Derived.Test.YtejdphfcogfcmaaGreatDoorTreeMath2
import Derived.Test.YtejdphfcogfcmaaGreatDoorTl6
import Derived.Test.YtejdphfcogfcmaaGreatDoorTl7
import Derived.Test.YtejdphfcogfcmaaGreatDoorTl8
import Derived.Deep.CutRange
import Derived.BigQuiet
import Derived.WalkLawsBesides
namespace Go.Proofs.YtejdphfcogfcmaaGreatDoor
open Go.RowKit Go.Lib Go.Joins
set_option linter.unusedVariables false

theorem trees1 {p : List Int} (h : trOk p = true) : ptB (ttV p) = true ∧ ptL (ttV p) = p := by
  rw [ttV_yes h]
  exact pt_text h
theorem ttV_size (p : List Int) : (ttV p).size ≤ 1048576 := by
  cases h : trOk p with
  | false => rw [ttV_no h]; show 0 ≤ 1048576; omega
  | true => rw [ttV_yes h]; have := treeB_size14 h; omega
theorem trees2 {u : ByteArray} (h : ptB u = true) : trOk (ptL u) = true ∧ ttV (ptL u) = u := by
  obtain ⟨h1, h2⟩ := pt_is h
  exact ⟨h1, by rw [ttV_yes h1, h2]⟩
theorem trees3 {p : List Int} {n : Int} (h : leafOk p n = true) : ndOk (leafL p n) n = true ∧ leafN p n ∈ okL (ndOk (leafL p n) n) (chl (leafL p n) n) ∧ trOk (leafL p n) = true ∧
    leafN p n ∈ okL (trOk (leafL p n)) (lvs (leafL p n)) ∧ n ∉ okL (trOk (leafL p n)) (lvs (leafL p n)) := by
  have e1 : leafL p n = p ++ [n] := by unfold leafL; rw [h]; rfl
  have e2 : leafN p n = p.length := if_pos h
  rw [e1, e2]
  obtain ⟨a, b, c, d, e⟩ := leaf_law h
  rw [a, b]
  exact ⟨rfl, c, rfl, d, e⟩
theorem trees4 {p : List Int} (h : trOk p = true) : 0 < (okL (trOk p) (lvs p)).length := by
  rw [h]
  exact List.length_pos_of_mem (last_leaf h)
set_option maxRecDepth 100000 in
set_option maxHeartbeats 16000000 in
theorem fnTrees_walk (w : World) (v0 : Value) (z0 : List Int) (w0 : Row w v0 z0.length (z0.map (Value.int .u8))) (b0 : ∀ z ∈ z0, (Lit.int .u8 z).wf = true) (_hsh : w.ShapedOpen Tryz.prog) (hL : laidMetH Tryz.prog Rows.fnTreesRow.laid w) :
    Calls Tryz.prog 3 #[v0] w fun e w' => e = .returned (.bool true) ∧ Below w.heap.size w w' := by
  have HTab := Lib.hid (tab_of_laid hL rfl (by simp [Rows.fnTreesRow]))
  have HErr := Lib.hid (errs_of_laid hL rfl (by simp [Rows.fnTreesRow]) (by simp [Rows.fnTreesRow]))
  clear hL _hsh
  have hz : ∀ x ∈ z0, 0 ≤ x ∧ x < 256 := fun x hx => by have := bounds_u8 (b0 x hx); omega
  by_cases hbig : (65536 : Int) < z0.length
  · have HV := Lib.hid (vBig_row v0 _ _ true w0 (decide_eq_true hbig))
    clear w0 b0 hz
    go_enter Tryz.func3, Tryz.ntmps3
    go_wp2_with (go_at_call 4; refine (HV.out _).mono ?_; rintro e w' ⟨rfl, rfl⟩)
    go_ret
    exact ⟨rfl, Below.refl _ _⟩
  have HV := Lib.hid (vBig_row v0 _ _ false w0 (decide_eq_false hbig))
  have HR := Lib.hid w0
  have HD1 := Lib.hid (fun w hr => drawTrT_any v0 z0 w hr hz)
  have HD2 := Lib.hid (fun w hr => drawParseTree_any v0 z0 w hr hz)
  have HD3 := Lib.hid (fun w hr => drawTrA_any v0 z0 w hr hz)
  have HD4 := Lib.hid (fun w hr => drawTrL_any v0 z0 w hr hz)
  clear w0 b0 hz hbig
  go_enter Tryz.func3, Tryz.ntmps3
  go_wp2_with fail
  refine (HV.out _).mono ?_
  rintro e w' ⟨rfl, rfl⟩
  clear HV
  go_wp2_with fail
  refine (HD1.out _ HR.out).mono ?_
  rintro e W2 ⟨g, c, p, rfl, hp9, _, hs, l2⟩
  clear HD1
  go_upto_region 4 with fail
  obtain ⟨W3, hW3⟩ : ∃ W', W' = W2.alloc (.cells #[.slice (some ⟨g, 0, none⟩) p.length c] 26) := ⟨_, rfl⟩
  have ht3 : Tr W3 W2.heap.size (.slice (some ⟨g, 0, none⟩) p.length c) p := by rw [hW3]; exact Tr.new (row_own hs)
  have l3 : Below W2.heap.size W2 W3 := by rw [hW3]; exact (Below.refl _ _).alloc (Nat.le_refl _) _
  rw [← hW3]
  obtain ⟨XT3, hXT3⟩ : ∃ X, X = W2.heap.size := ⟨_, rfl⟩
  rw [← hXT3] at ht3 ⊢
  have T3_b := Lib.hid ht3
  have l4 : Below _ _ W3 := l2.trans (l3.mono l2.size)
  have HB_4 := Lib.hid l4
  clear hW3 ht3 hXT3 l2 l3 l4 hs
  have HT1 := Lib.hid (fun W h ht => implTreeText_any (.slice (some ⟨g, 0, none⟩) p.length c) p W h ht)
  have HTs := Lib.hid (fun W h => specTreeText_any (.slice (some ⟨g, 0, none⟩) p.length c) p W h)
  have HIs := Lib.hid (fun W h => implIsTree_any (.slice (some ⟨g, 0, none⟩) p.length c) p W h)
  have HPa := Lib.hid (fun W ht he => implParseTree_any (ttV p) W (ttV_size p) ht he)
  have HF := Lib.hid (@trees1 p)
  generalize ptL (ttV p) = back at HPa HF
  generalize ptB (ttV p) = fine at HPa HF
  generalize ttV p = s at HT1 HTs HPa
  generalize trOk p = ok at HT1 HTs HIs HF
  have hc5 := T3_b.out.cell
  go_wp2_with fail
  refine (HT1.out _ T3_b.out.row (HTab.out.below HB_4.out)).mono ?_
  rintro e W6 ⟨rfl, l6⟩
  clear hc5
  have T3_6 := Lib.hid (T3_b.out.below l6)
  clear T3_b
  have HB_6 := Lib.hid (HB_4.out.trans (l6.mono HB_4.out.size))
  clear HB_4
  clear l6 HT1
  go_wp2_with fail
  refine (HPa.out _ (HTab.out.below HB_6.out) (HErr.out.below HB_6.out)).mono ?_
  rintro e W7 ⟨vb, rfl, ob, l7⟩
  clear HPa
  obtain ⟨ab, cb, rfl, hb1, hb2⟩ := own_some6 ob
  unfold maxLen at hb2
  go_upto_region 6 with fail
  obtain ⟨W8, hW8⟩ : ∃ W', W' = W7.alloc (.cells #[.slice ab back.length cb] 26) := ⟨_, rfl⟩
  have ht8 : Tr W8 W7.heap.size (.slice ab back.length cb) back := by rw [hW8]; exact Tr.new (row_own ob)
  have l8 : Below W7.heap.size W7 W8 := by rw [hW8]; exact (Below.refl _ _).alloc (Nat.le_refl _) _
  rw [← hW8]
  obtain ⟨XT6, hXT6⟩ : ∃ X, X = W7.heap.size := ⟨_, rfl⟩
  rw [← hXT6] at ht8 ⊢
  have T6_b := Lib.hid ht8
  have l9 : Below _ _ W8 := l7.trans (l8.mono l7.size)
  have T3_9 := Lib.hid (T3_6.out.below l9)
  clear T3_6
  have HB_9 := Lib.hid (HB_6.out.trans (l9.mono HB_6.out.size))
  clear HB_6
  clear hW8 ht8 hXT6 l7 l8 l9 ob
  have hc10 := T3_9.out.cell
  go_wp2_with fail
  refine (HTs.out _ T3_9.out.row).mono ?_
  rintro e W11 ⟨rfl, l11⟩
  clear hc10
  have T3_11 := Lib.hid (T3_9.out.below l11)
  clear T3_9
  have T6_11 := Lib.hid (T6_b.out.below l11)
  clear T6_b
  have HB_11 := Lib.hid (HB_9.out.trans (l11.mono HB_9.out.size))
  clear HB_9
  clear l11 HTs
  go_upto_region 7 with fail
  go_cut [81] from 53 to 81 (fun b wx => b = .bool false ∧ Hid (Below W11.heap.size W11 wx))
  case first => as_aux_lemma =>
    have hc := T3_11.out.cell
    cases ok with
    | false =>
      go_wp2_with fail
      refine (HIs.out _ T3_11.out.row).mono ?_
      rintro e X1 ⟨rfl, lx⟩
      have HX1 := Lib.hid lx
      clear lx hc
      go_wp2_with fail
      go_meet
      case rel => exact ⟨by simp, HX1⟩
    | true =>
      obtain ⟨e1, e2⟩ := HF.out rfl
      subst e1
      have HE2 := Lib.hid e2
      clear e2
      go_wp2_with fail
      refine (HIs.out _ T3_11.out.row).mono ?_
      rintro e X1 ⟨rfl, lx⟩
      have HX1 := Lib.hid lx
      have hd := (T3_11.out.below lx).cell
      have he := (T6_11.out.below lx).cell
      have HVi := Lib.hid (vInts_any _ _ back p X1 (T6_11.out.below lx).row (T3_11.out.below lx).row)
      rw [decide_eq_true HE2.out] at HVi
      clear lx hc
      go_wp2_with fail
      refine HVi.out.mono ?_
      rintro e X2 ⟨rfl, k2, hk2⟩
      have HX2 : Hid (Below _ _ X2) := Lib.hid (HX1.out.trans ((show Below X1.heap.size X1 X2 by rw [hk2]; exact bdrew _ _).mono HX1.out.size))
      clear hk2 hd he
      go_wp2_with fail
      go_meet
      case rel => exact ⟨by simp, HX2⟩
  case rest => as_aux_lemma =>
    obtain ⟨rfl, HCut⟩ := hcut
    rename World => W100
    have l100 := HCut.out
    clear HCut HF HIs
    clear T3_11
    clear T6_11
    have HB_100 := Lib.hid (HB_11.out.trans (l100.mono HB_11.out.size))
    clear HB_11
    clear l100
    go_wp2_with fail
    refine (HD2.out _ (HR.out.below HB_100.out (Nat.le_refl _))).mono ?_
    rintro e W12 ⟨u, rfl, hu, l12⟩
    have HB_12 := Lib.hid (HB_100.out.trans (l12.mono HB_100.out.size))
    clear HB_100
    clear HD2 l12
    have HPu := Lib.hid (fun W ht he => implParseTree_any u W (by omega) ht he)
    have HPs := Lib.hid (fun W => specParseTree_any u W (by omega))
    have HTu := Lib.hid (fun v W h ht => implTreeText_any v (ptL u) W h ht)
    have HF := Lib.hid (@trees2 u)
    generalize ttV (ptL u) = vv at HTu HF
    generalize trOk (ptL u) = again at HTu HF
    generalize ptL u = r at HPu HPs HTu
    generalize ptB u = told at HPu HPs HF
    clear hu
    go_wp2_with fail
    refine (HPu.out _ (HTab.out.below HB_12.out) (HErr.out.below HB_12.out)).mono ?_
    rintro e W13 ⟨va, rfl, oa, l13⟩
    clear HPu
    obtain ⟨aa, ca, rfl, ha1, ha2⟩ := own_some6 oa
    unfold maxLen at ha2
    go_upto_region 11 with fail
    obtain ⟨W14, hW14⟩ : ∃ W', W' = W13.alloc (.cells #[.slice aa r.length ca] 26) := ⟨_, rfl⟩
    have ht14 : Tr W14 W13.heap.size (.slice aa r.length ca) r := by rw [hW14]; exact Tr.new (row_own oa)
    have l14 : Below W13.heap.size W13 W14 := by rw [hW14]; exact (Below.refl _ _).alloc (Nat.le_refl _) _
    rw [← hW14]
    obtain ⟨XT11, hXT11⟩ : ∃ X, X = W13.heap.size := ⟨_, rfl⟩
    rw [← hXT11] at ht14 ⊢
    have T11_b := Lib.hid ht14
    have l15 : Below _ _ W14 := l13.trans (l14.mono l13.size)
    have HB_15 := Lib.hid (HB_12.out.trans (l15.mono HB_12.out.size))
    clear HB_12
    clear hW14 ht14 hXT11 l13 l14 l15 oa
    have hc16 := T11_b.out.cell
    go_wp2_with fail
    refine (HTu.out _ _ T11_b.out.row (HTab.out.below HB_15.out)).mono ?_
    rintro e W17 ⟨rfl, l17⟩
    clear hc16
    have T11_17 := Lib.hid (T11_b.out.below l17)
    clear T11_b
    have HB_17 := Lib.hid (HB_15.out.trans (l17.mono HB_15.out.size))
    clear HB_15
    clear l17 HTu
    go_wp2_with fail
    refine (HPs.out _).mono ?_
    rintro e W18 ⟨vc, rfl, oc, l18⟩
    clear HPs
    obtain ⟨ac, cc, rfl, hc1, hc2⟩ := own_some6 oc
    unfold maxLen at hc2
    go_upto_region 13 with fail
    obtain ⟨W19, hW19⟩ : ∃ W', W' = W18.alloc (.cells #[.slice ac r.length cc] 26) := ⟨_, rfl⟩
    have ht19 : Tr W19 W18.heap.size (.slice ac r.length cc) r := by rw [hW19]; exact Tr.new (row_own oc)
    have l19 : Below W18.heap.size W18 W19 := by rw [hW19]; exact (Below.refl _ _).alloc (Nat.le_refl _) _
    rw [← hW19]
    obtain ⟨XT15, hXT15⟩ : ∃ X, X = W18.heap.size := ⟨_, rfl⟩
    rw [← hXT15] at ht19 ⊢
    have T15_b := Lib.hid ht19
    have l20 : Below _ _ W19 := l18.trans (l19.mono l18.size)
    have T11_20 := Lib.hid (T11_17.out.below l20)
    clear T11_17
    have HB_20 := Lib.hid (HB_17.out.trans (l20.mono HB_17.out.size))
    clear HB_17
    clear hW19 ht19 hXT15 l18 l19 l20 oc
    have HVi := Lib.hid (fun (W : World) h1 h2 => vInts_any (.slice aa r.length ca) (.slice ac r.length cc) r r W h1 h2)
    obtain ⟨WA, hWA⟩ : ∃ W, W = W19 := ⟨_, rfl⟩
    rw [← hWA] at T11_20 T15_b HB_20 ⊢
    clear hWA
    go_cut [121] from 99 to 121 (fun b wx => b = .bool false ∧ Hid (Below WA.heap.size WA wx))
    case first => as_aux_lemma =>
      have hc := T11_20.out.cell
      have hd := T15_b.out.cell
      cases told with
      | false =>
        go_wp2_with fail
        refine (HVi.out _ T11_20.out.row T15_b.out.row).mono ?_
        rintro e X2 ⟨rfl, k2, hk2⟩
        have HX2 : Hid (Below WA.heap.size WA X2) := Lib.hid (by rw [hk2]; exact bdrew _ _)
        clear hk2 hc hd
        go_wp2_with fail
        go_meet
        case rel => exact ⟨by simp, HX2⟩
      | true =>
        obtain ⟨e1, e2⟩ := HF.out rfl
        subst e1
        subst e2
        go_wp2_with fail
        refine (HVi.out _ T11_20.out.row T15_b.out.row).mono ?_
        rintro e X2 ⟨rfl, k2, hk2⟩
        have HX2 : Hid (Below WA.heap.size WA X2) := Lib.hid (by rw [hk2]; exact bdrew _ _)
        clear hk2 hc hd
        go_wp2_with fail
        go_meet
        case rel => exact ⟨by simp, HX2⟩
    case rest => as_aux_lemma =>
      obtain ⟨rfl, HCut⟩ := hcut
      rename World => W101
      have l101 := HCut.out
      clear HCut HF HVi
      clear T11_20
      clear T15_b
      have HB_101 := Lib.hid (HB_20.out.trans (l101.mono HB_20.out.size))
      clear HB_20
      clear l101
      go_wp2_with fail
      refine (HD3.out _ (HR.out.below HB_101.out (Nat.le_refl _))).mono ?_
      rintro e W21 ⟨g2, c2, y, pa, rfl, hy9, _, _, _, hs, l21⟩
      clear HD3
      go_upto_region 16 with fail
      obtain ⟨W22, hW22⟩ : ∃ W', W' = W21.alloc (.cells #[.slice (some ⟨g2, 0, none⟩) y.length c2] 26) := ⟨_, rfl⟩
      have ht22 : Tr W22 W21.heap.size (.slice (some ⟨g2, 0, none⟩) y.length c2) y := by rw [hW22]; exact Tr.new (row_own hs)
      have l22 : Below W21.heap.size W21 W22 := by rw [hW22]; exact (Below.refl _ _).alloc (Nat.le_refl _) _
      rw [← hW22]
      obtain ⟨XT17, hXT17⟩ : ∃ X, X = W21.heap.size := ⟨_, rfl⟩
      rw [← hXT17] at ht22 ⊢
      have T17_b := Lib.hid ht22
      have l23 : Below _ _ W22 := l21.trans (l22.mono l21.size)
      have HB_23 := Lib.hid (HB_101.out.trans (l23.mono HB_101.out.size))
      clear HB_101
      clear hW22 ht22 hXT17 l21 l22 l23 hs
      have HAi := Lib.hid (fun W h => implLeaf_any (.slice (some ⟨g2, 0, none⟩) y.length c2) y pa W h)
      have HAs := Lib.hid (fun W h => specLeaf_any (.slice (some ⟨g2, 0, none⟩) y.length c2) y pa W h)
      have HF := Lib.hid (@trees3 y pa)
      have HCh := Lib.hid (fun (v : Value) W h => (implChildren_any v (leafL y pa) pa W h).mono (fun _ _ h => outI_form h))
      have HLv := Lib.hid (fun (v : Value) W h => (implLeaves_any v (leafL y pa) W h).mono (fun _ _ h => outI_form h))
      generalize okL (ndOk (leafL y pa) pa) (chl (leafL y pa) pa) = ch at HF HCh
      generalize ndOk (leafL y pa) pa = one at HF HCh
      generalize okL (trOk (leafL y pa)) (lvs (leafL y pa)) = lv at HF HLv
      generalize trOk (leafL y pa) = two at HF HLv
      generalize leafL y pa = L at HAi HAs HCh HLv
      generalize leafN y pa = node at HAi HAs HF
      generalize leafOk y pa = added at HAi HAs HF
      have hc24 := T17_b.out.cell
      go_wp2_with fail
      refine (HAi.out _ T17_b.out.row).mono ?_
      rintro e W25 ⟨vd, rfl, od, l25⟩
      clear HAi hc24
      obtain ⟨ad, cd, rfl, hd1, hd2⟩ := own_some6 od
      unfold maxLen at hd2
      go_upto_region 17 with fail
      obtain ⟨W26, hW26⟩ : ∃ W', W' = W25.alloc (.cells #[.slice ad L.length cd] 26) := ⟨_, rfl⟩
      have ht26 : Tr W26 W25.heap.size (.slice ad L.length cd) L := by rw [hW26]; exact Tr.new (row_own od)
      have l26 : Below W25.heap.size W25 W26 := by rw [hW26]; exact (Below.refl _ _).alloc (Nat.le_refl _) _
      rw [← hW26]
      obtain ⟨XT19, hXT19⟩ : ∃ X, X = W25.heap.size := ⟨_, rfl⟩
      rw [← hXT19] at ht26 ⊢
      have T19_b := Lib.hid ht26
      have l27 : Below _ _ W26 := l25.trans (l26.mono l25.size)
      have T17_27 := Lib.hid (T17_b.out.below l27)
      clear T17_b
      have HB_27 := Lib.hid (HB_23.out.trans (l27.mono HB_23.out.size))
      clear HB_23
      clear hW26 ht26 hXT19 l25 l26 l27 od
      have hc28 := T17_27.out.cell
      go_wp2_with fail
      refine (HAs.out _ T17_27.out.row).mono ?_
      rintro e W29 ⟨ve, rfl, oe, l29⟩
      clear HAs hc28
      clear T17_27
      obtain ⟨ae, ce, rfl, he1, he2⟩ := own_some6 oe
      unfold maxLen at he2
      go_upto_region 18 with fail
      obtain ⟨W30, hW30⟩ : ∃ W', W' = W29.alloc (.cells #[.slice ae L.length ce] 26) := ⟨_, rfl⟩
      have ht30 : Tr W30 W29.heap.size (.slice ae L.length ce) L := by rw [hW30]; exact Tr.new (row_own oe)
      have l30 : Below W29.heap.size W29 W30 := by rw [hW30]; exact (Below.refl _ _).alloc (Nat.le_refl _) _
      rw [← hW30]
      obtain ⟨XT22, hXT22⟩ : ∃ X, X = W29.heap.size := ⟨_, rfl⟩
      rw [← hXT22] at ht30 ⊢
      have T22_b := Lib.hid ht30
      have l31 : Below _ _ W30 := l29.trans (l30.mono l29.size)
      have T19_31 := Lib.hid (T19_b.out.below l31)
      clear T19_b
      have HB_31 := Lib.hid (HB_27.out.trans (l31.mono HB_27.out.size))
      clear HB_27
      clear hW30 ht30 hXT22 l29 l30 l31 oe
      obtain ⟨WA, hWA⟩ : ∃ W, W = W30 := ⟨_, rfl⟩
      rw [← hWA] at T19_31 T22_b HB_31 ⊢
      clear hWA
      have hc32 := T19_31.out.cell
      have hc33 := T22_b.out.cell
      go_wp2_with fail
      refine (vInts_any _ _ L L _ T19_31.out.row T22_b.out.row).mono ?_
      rintro e W102 ⟨rfl, k2, hk2⟩
      have l102 : Below WA.heap.size WA W102 := by rw [hk2]; exact bdrew _ _
      clear hk2 hc32 hc33
      clear T22_b
      have T19_102 := Lib.hid (T19_31.out.below l102)
      clear T19_31
      have HB_102 := Lib.hid (HB_31.out.trans (l102.mono HB_31.out.size))
      clear HB_31
      clear l102
      go_upto_if 157 with fail
      go_cut [] from 25 to 191 (fun wx => Hid (Below W102.heap.size W102 wx))
      case first => as_aux_lemma =>
        cases added with
        | false =>
          have HZ := Lib.hid (Below.refl W102.heap.size W102)
          go_wp2_with fail
          go_meet
          case rel => exact HZ
        | true =>
          obtain ⟨e1, e2, e3, e4, e5⟩ := HF.out rfl
          subst e1
          subst e3
          have HM1 := Lib.hid e2
          have HM2 := Lib.hid e4
          have HM3 := Lib.hid e5
          clear e2 e4 e5 HF
          have hc := T19_102.out.cell
          go_wp2_with fail
          refine (HCh.out _ _ T19_102.out.row).mono ?_
          rintro e X1 ⟨v1, rfl, o1, l1⟩
          have HX1 := Lib.hid l1
          have HT1 := Lib.hid (T19_102.out.below l1)
          have HO1 := Lib.hid o1
          clear hc o1 l1
          have hc := HT1.out.cell
          go_wp2_with fail
          refine (HLv.out _ _ HT1.out.row).mono ?_
          rintro e X2 ⟨v2, rfl, o2, l2⟩
          have HX2 := Lib.hid (HX1.out.trans (l2.mono HX1.out.size))
          have HO2 := Lib.hid (own_below HO1.out l2 (Nat.le_refl _))
          have HP2 := Lib.hid o2
          clear hc o2 l2 HX1 HO1 HT1
          have HV1 := Lib.hid (vHas_any v1 ch node X2 (row_own HO2.out))
          have HV2 := Lib.hid (vHas_any v2 lv node X2 (row_own HP2.out))
          have HV3 := Lib.hid (vHas_any v2 lv pa X2 (row_own HP2.out))
          rw [decide_eq_true HM1.out] at HV1
          rw [decide_eq_true HM2.out] at HV2
          rw [decide_eq_false HM3.out] at HV3
          clear HO2 HP2 HM1 HM2 HM3
          go_wp2_with fail
          refine HV1.out.mono ?_
          rintro e Y1 ⟨rfl, rfl⟩
          go_wp2_with fail
          refine HV2.out.mono ?_
          rintro e Y2 ⟨rfl, rfl⟩
          go_wp2_with fail
          refine HV3.out.mono ?_
          rintro e Y3 ⟨rfl, rfl⟩
          go_wp2_with fail
          go_meet
          case rel => exact HX2
      case rest => as_aux_lemma =>
        rename World => W103
        have l103 := hcut.out
        clear hcut HF HCh HLv
        clear T19_102
        have HB_103 := Lib.hid (HB_102.out.trans (l103.mono HB_102.out.size))
        clear HB_102
        clear l103
        go_wp2_with fail
        refine (HD4.out _ (HR.out.below HB_103.out (Nat.le_refl _))).mono ?_
        rintro e W34 ⟨g3, c3, t, rfl, ht9, _, hs, l34⟩
        clear HD4
        go_upto_region 26 with fail
        obtain ⟨W35, hW35⟩ : ∃ W', W' = W34.alloc (.cells #[.slice (some ⟨g3, 0, none⟩) t.length c3] 26) := ⟨_, rfl⟩
        have ht35 : Tr W35 W34.heap.size (.slice (some ⟨g3, 0, none⟩) t.length c3) t := by rw [hW35]; exact Tr.new (row_own hs)
        have l35 : Below W34.heap.size W34 W35 := by rw [hW35]; exact (Below.refl _ _).alloc (Nat.le_refl _) _
        rw [← hW35]
        obtain ⟨XT29, hXT29⟩ : ∃ X, X = W34.heap.size := ⟨_, rfl⟩
        rw [← hXT29] at ht35 ⊢
        have T29_b := Lib.hid ht35
        have l36 : Below _ _ W35 := l34.trans (l35.mono l34.size)
        have HB_36 := Lib.hid (HB_103.out.trans (l36.mono HB_103.out.size))
        clear HB_103
        clear hW35 ht35 hXT29 l34 l35 l36 hs
        have HLi := Lib.hid (fun W h => implLeaves_any (.slice (some ⟨g3, 0, none⟩) t.length c3) t W h)
        have HLs := Lib.hid (fun W h => (specLeaves_any (.slice (some ⟨g3, 0, none⟩) t.length c3) t W h).mono (fun _ _ h => outI_form h))
        have HF := Lib.hid (@trees4 t)
        generalize okL (trOk t) (lvs t) = lz at HLi HLs HF
        generalize trOk t = known at HLi HLs HF
        have hc37 := T29_b.out.cell
        go_wp2_with fail
        refine (HLi.out _ T29_b.out.row).mono ?_
        rintro e W38 ⟨g4, c4, rfl, o4⟩
        clear hc37
        have l38 := o4.bel
        have HO4 := Lib.hid o4.own
        have T29_38 := Lib.hid (T29_b.out.below l38)
        clear T29_b
        have HB_38 := Lib.hid (HB_36.out.trans (l38.mono HB_36.out.size))
        clear HB_36
        clear l38 o4 HLi
        have hc39 := T29_38.out.cell
        go_wp2_with fail
        refine (HLs.out _ T29_38.out.row).mono ?_
        rintro e W40 ⟨v5, rfl, o5, l40⟩
        clear hc39
        clear T29_38
        have R4_40 := Lib.hid (own_below HO4.out l40 (Nat.le_refl _))
        clear HO4
        have HB_40 := Lib.hid (HB_38.out.trans (l40.mono HB_38.out.size))
        clear HB_38
        have HVi := Lib.hid (vInts_any _ v5 lz lz W40 (row_own R4_40.out) (row_own o5))
        clear l40 o5 HLs
        obtain ⟨m, hm⟩ : ∃ m, m = lz.length := ⟨_, rfl⟩
        rw [← hm] at HVi HF ⊢
        clear hm
        clear R4_40
        cases known with
        | false =>
          clear HF
          go_wp2_with fail
          refine HVi.out.mono ?_
          rintro e W105 ⟨rfl, k5, hk5⟩
          have HBz := Lib.hid (HB_40.out.trans ((show Below W40.heap.size W40 W105 by rw [hk5]; exact bdrew _ _).mono HB_40.out.size))
          clear hk5
          go_wp2_with fail
          go_ret
          exact ⟨by simp, HBz.out⟩
        | true =>
          have hpos := HF.out rfl
          have hd : decide ((0 : Int) < (m : Int)) = true := decide_eq_true (by omega)
          clear HF
          go_wp2_with fail
          refine HVi.out.mono ?_
          rintro e W105 ⟨rfl, k5, hk5⟩
          have HBz := Lib.hid (HB_40.out.trans ((show Below W40.heap.size W40 W105 by rw [hk5]; exact bdrew _ _).mono HB_40.out.size))
          clear hk5
          go_wp2_with fail
          go_ret
          exact ⟨by simp, HBz.out⟩
end Go.Proofs.YtejdphfcogfcmaaGreatDoor
