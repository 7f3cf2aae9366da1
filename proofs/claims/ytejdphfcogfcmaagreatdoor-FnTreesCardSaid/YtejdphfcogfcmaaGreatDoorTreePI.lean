/-
  Trees: the program's reading of a tree's text.
-/
import Derived.Test.YtejdphfcogfcmaaGreatDoorTreeTI
import Derived.Test.YtejdphfcogfcmaaGreatDoorTree7
import Derived.Test.YtejdphfcogfcmaaGreatDoorRdI
import Derived.Test.YtejdphfcogfcmaaGreatDoorImplSplit
import Derived.Deep.AppendLies
namespace Go.Proofs.YtejdphfcogfcmaaGreatDoor
open Go.RowKit Go.Lib Go.Joins
set_option linter.unusedVariables false

/-- The words of a text, as the program splits it. -/
def tP (s : ByteArray) : List (List UInt8) := if s.size ≤ 4000 then M.parts 32 s.data.toList else []
/-- What the program reads of a text. -/
noncomputable def tL (s : ByteArray) : List Int := [-1] ++ (tP s).map rN6
theorem split_tP (s : ByteArray) : (splitPs s ⟨#[32]⟩).length = (tP s).length ∧ (splitPs s ⟨#[32]⟩).map Value.string = (tP s).map strV := by
  unfold tP
  by_cases h : s.size ≤ 4000
  · rw [(splitOk_yes h).2, if_pos h]
    unfold partS
    exact ⟨by rw [List.length_map], by rw [List.map_map]; rfl⟩
  · rw [(splitOk_no (fun hx => h hx.1)).2, if_neg h]
    exact ⟨rfl, rfl⟩
theorem tP_len (s : ByteArray) : (tP s).length ≤ 4001 := by
  unfold tP
  split
  · rename_i h
    have := M.parts_len 32 s.data.toList
    have e : s.data.toList.length = s.size := by simp
    omega
  · simp
theorem tP_size (s : ByteArray) (k : Nat) : ((tP s).getD k []).length ≤ 4000 := by
  unfold tP
  split
  · rename_i h
    have := parts_size 32 s.data.toList k
    have e : s.data.toList.length = s.size := by simp
    omega
  · simp
theorem t_end (s : ByteArray) :
    (trOk (tL s) = true → treeB (tL s) = s → ptB s = true ∧ ptL s = tL s) ∧ (trOk (tL s) = false → ptB s = false ∧ ptL s = []) ∧ (treeB (tL s) ≠ s → ptB s = false ∧ ptL s = []) := by
  by_cases h : s.size ≤ 4000
  · have e : tL s = [-1] ++ (M.parts 32 s.data.toList).map rN6 := by unfold tL tP; rw [if_pos h]
    exact pt_end e
  · have e : tL s = [-1] := by unfold tL tP; rw [if_neg h]; rfl
    have hl := pt_long (s := s) (by omega)
    refine ⟨fun ht => ?_, fun _ => hl, fun _ => hl⟩
    rw [e, trOk_len (by simp)] at ht
    cases ht
theorem ptL_len8 (s : ByteArray) : (ptL s).length ≤ 1048576 := by
  by_cases h : ptB s = true
  · have := (trOk_parts (pt_is h).1).2.1
    omega
  · have := (pt_no (s := s) (fun p hp => h (pt_yes hp).1)).2
    rw [this]; simp
set_option maxRecDepth 100000 in
set_option maxHeartbeats 4000000 in
theorem treeIn_any (s : ByteArray) (w : World) (hs : s.size ≤ 1048576) (htab : Tab w) (he : Errs w) :
    Calls Tryz.prog 24 #[.string s] w fun e w' => ∃ v', e = .returned (.agg #[v']) ∧ w'.ownsRow w.heap.size 3 1 v' (tL s).length ((tL s).map (Value.int .i64)) ∧ Below w.heap.size w w' := by
  obtain ⟨i0, hi, hz0, hz1, hz2⟩ := info_parts infoInt
  obtain ⟨W3, hW3⟩ : ∃ W, W = ((w.alloc (.cells #[.slice none 0 0] 26)).alloc (.cells #[.int .i64 (-1)] 3)).alloc (.cells #[.slice (some ⟨w.heap.size + 1, 0, none⟩) 1 1] 26) := ⟨_, rfl⟩
  have HSp : Hid (∀ W : World, Calls Tryz.prog 42 #[.string s, .string ⟨#[32]⟩] W fun e w' => ∃ v b, e = .returned (.tuple #[v, .bool b]) ∧ w'.ownsRow W.heap.size 9 1 v (tP s).length ((tP s).map strV) ∧ Below W.heap.size W w') := Lib.hid (fun W => (implSplit_any s ⟨#[32]⟩ hs (by show 1 ≤ 1048576; omega) W).mono (fun e w' h => by
    obtain ⟨v, h1, h2, h3⟩ := h
    rw [(split_tP s).1, (split_tP s).2] at h2
    exact ⟨v, _, h1, h2, h3⟩))
  have HS3 : Hid (∀ (W4 : World) (u : Value) (P : List (List UInt8)), Below W3.heap.size W3 W4 → W4.ownsRow W3.heap.size 9 1 u P.length (P.map strV) → PtS w W4 w.heap.size (w.heap.size + 1 + 1) (w.heap.size + 1) 1 [-1] u P) := Lib.hid (by
    intro W4 u P l4 ou
    have hs3 : W3.heap.size = w.heap.size + 3 := by rw [hW3]; simp
    have h1 : Bx W3 w.heap.size (.slice none 0 0) 26 := by
      rw [hW3]
      exact ((Bx.new w (.slice none 0 0) 26).grown (World.grownBy_alloc _ _ none) (by simp)).grown (World.grownBy_alloc _ _ none) (by simp)
    have h2 : Bx W3 (w.heap.size + 1 + 1) (.slice (some ⟨w.heap.size + 1, 0, none⟩) ([-1] : List Int).length 1) 26 := by
      rw [hW3]
      have := Bx.new ((w.alloc (.cells #[.slice none 0 0] 26)).alloc (.cells #[.int .i64 (-1)] 3)) (.slice (some ⟨w.heap.size + 1, 0, none⟩) 1 1) 26
      rw [World.size_alloc, World.size_alloc] at this
      exact this
    have h3 : W3.ownsRow w.heap.size 3 1 (.slice (some ⟨w.heap.size + 1, 0, none⟩) ([-1] : List Int).length 1) ([-1] : List Int).length (([-1] : List Int).map (Value.int .i64)) := by
      rw [hW3]
      have h := own_made (w.alloc (.cells #[.slice none 0 0] 26)) [.int .i64 (-1)] 3 1 rfl (by decide)
      rw [World.size_alloc] at h
      exact own_base (own_grown h (World.grownBy_alloc _ _ none)) (by omega)
    have h4 : Below w.heap.size w W3 := by
      rw [hW3]
      exact (((Below.refl w.heap.size w).alloc (Nat.le_refl _) _).alloc (by simp) _).alloc (by simp; omega) _
    refine ⟨h1.below l4 (by omega), h2.below l4 (by omega), own_below h3 l4 (Nat.le_refl _), own_base ou (by omega), fun k hk => ?_, ⟨by omega, by omega, by omega⟩, ⟨Nat.le_refl _, by omega⟩, h4.trans (l4.mono h4.size)⟩
    have := (ou.lt k hk).1
    omega)
  have HW3 := Lib.hid hW3
  clear hW3
  have hPl := tP_len s
  have HPs := Lib.hid (tP_size s)
  have HT := Lib.hid htab
  have HE := Lib.hid he
  have HL : Hid (tL s = [-1] ++ (tP s).map rN6) := Lib.hid rfl
  have HRd : Hid (∀ (x : ByteArray) (W : World), x.size ≤ 4000 → Tab W → Errs W → Calls Tryz.prog 43 #[.string x] W fun e w' => e = .returned (.int .i64 (rdN x)) ∧ Below W.heap.size W w') := Lib.hid (fun x W hl h1 h2 => numberIn_any x (by omega) W h1 h2)
  generalize tL s = goal at HL ⊢
  generalize tP s = P at HSp hPl HPs HL
  clear hs htab he
  go_enter Tryz.func24, Tryz.ntmps24
  go_upto_region 2 with fail
  rw [← HW3.out]
  go_wp2_with fail
  refine (HSp.out _).mono ?_
  rintro e W4 ⟨u, b5, rfl, ou, l4⟩
  have HP4 := Lib.hid (HS3.out W4 u _ l4 ou)
  obtain ⟨au, cu, rfl, hcu, hcm⟩ := own_some6 ou
  unfold maxLen at hcm
  clear ou l4 HS3 HW3 HSp
  obtain ⟨R2, hR2⟩ : ∃ R, R = w.heap.size := ⟨_, rfl⟩
  obtain ⟨Rt, hRt⟩ : ∃ R, R = w.heap.size + 1 + 1 := ⟨_, rfl⟩
  rw [← hRt, ← hR2] at HP4
  have HR2 := Lib.hid hR2
  have HRt := Lib.hid hRt
  rw [← hRt, ← hR2]
  obtain ⟨n, hN⟩ : ∃ n, n = P.length := ⟨_, rfl⟩
  rw [← hN] at hPl hcu HP4 ⊢
  have HN := Lib.hid hN
  clear hN hR2 hRt
  go_wp2_with fail
  go_loopw [17] (fun i wr => ∃ (k g c : Nat) (zs : List Int), k ≤ n ∧ i = .int .i64 k ∧ zs.length = k + 1 ∧ Hid (zs = [-1] ++ (P.take k).map rN6) ∧ Hid (PtS w wr R2 Rt g c zs (.slice au n cu) P)) (fun i _ => n - (RowKit.intOf i).toNat)
  case atStart => exact ⟨0, _, _, [-1], Nat.zero_le _, rfl, rfl, Lib.hid rfl, HP4⟩
  case round =>
    clear HP4
    obtain ⟨k, g, c, zs, hk, rfl, hzl, HZ, HPS⟩ := hrel
    have HZL := Lib.hid hzl
    have hzl2 : zs.length ≤ 4002 := by omega
    clear hzl
    by_cases hkn : k < n
    · have hsrc := HPS.out.src
      rw [← HN.out] at hsrc
      obtain ⟨gp, cp, e9⟩ := own_form hsrc (by omega)
      injection e9 with e9 _ e11
      subst e9
      subst e11
      have hc1 := strs_cell hsrc hkn
      have hpl := HPs.out k
      have HTk : Hid (P.take (k + 1) = P.take k ++ [P.getD k []]) := Lib.hid (by
        have hkP : k < P.length := by rw [← HN.out]; exact hkn
        rw [List.take_succ_eq_append_getElem hkP, List.getD_eq_getElem?_getD, List.getElem?_eq_getElem hkP]; rfl)
      clear hsrc
      generalize P.getD k [] = q at hc1 hpl HTk
      have HRA := Lib.hid (fun (W : World) => HRd.out (txt q) W (by rw [txt_size]; exact hpl))
      have HFq : Hid (rN6 q = rdN (txt q)) := Lib.hid rfl
      generalize rdN (txt q) = na at HRA HFq
      go_upto_region 6 with fail
      have HPd := Lib.hid (HPS.out.below ((Below.refl _ wr).drew))
      have hx := HPS.out.box.cell
      have fx := HPS.out.box.free
      have hxd := HPd.out.box.cell
      have HTb : Hid (Tab wr.drew) := Lib.hid (HT.out.below HPd.out.bel)
      have HEb : Hid (Errs wr.drew) := Lib.hid (HE.out.below HPd.out.bel)
      have tokA : True := trivial
      go_region_law (first
        | (go_simp; go_at_call 43; refine (HRA.out _ HTb.out HEb.out).mono ?_; rintro e w2 ⟨rfl, l2⟩; have H2 := Lib.hid (HPd.out.below l2); have hx2 := H2.out.box.cell; have hx3 := (H2.out.below ((Below.refl _ w2).alloc (Nat.le_refl _) (.cells #[.int .i64 na] 3))).box.cell; clear l2; dsimp only)
        | (have _t := tokA; refine step_append_row (by rfl) _ _ _ (by rfl) w.heap.size 3 i0 (.int .i64 0) 8 Tryz.underlying24 hi hz0 hz1 hz2 rfl _ zs.length (zs.map (Value.int .i64)) (by rfl) (H2.out.own.alloc _) _ 1 1 [.int .i64 na] (by rfl) (row_lit (heap_alloc_new _ _)) rfl (by intro q hq; simp at hq; subst hq; rfl) (by unfold maxLen; omega) (by omega) (by have := H2.out.bel.size; simp; omega) ?_; intro v2 w6 hown2 hgrow2 hat2; obtain ⟨zs5, hz5⟩ : ∃ z, z = zs ++ [na] := ⟨_, rfl⟩; obtain ⟨g5, c5, rfl, hbx, hs5⟩ := H2.out.app hz5 hown2 hgrow2 hat2; have hy := hbx.cell; have fy := hbx.free; have HS5 := Lib.hid hs5; have HZ5 := Lib.hid hz5; clear hs5 hz5 hbx hown2 hgrow2 hat2 tokA _t))
      all_goals go_wp2_with fail
      all_goals
        go_roundw
        case rel => exact ⟨k + 1, g5, c5, zs5, by omega, by go_num, by rw [HZ5.out, List.length_append, HZL.out]; rfl, Lib.hid (by rw [HTk.out, List.map_append, List.map_singleton, HFq.out, HZ5.out, HZ.out]; simp), HS5⟩
        case measure => (simp [RowKit.intOf]; omega)
    · obtain rfl : k = n := by omega
      have hzz : zs = goal := by rw [HZ.out, HL.out, List.take_of_length_le (by rw [← HN.out]; exact Nat.le_refl _)]
      have HZZ := Lib.hid hzz
      have hx := HPS.out.box.cell
      have hy := HPS.out.res.cell
      have fy := HPS.out.res.free
      clear hzz HZ HL HRd
      go_wp2_with fail
      obtain ⟨p1, p2, p3⟩ := HPS.out.ret (.slice (some ⟨g, 0, none⟩) zs.length c)
      refine bodyPost_ret (results_tr1 rfl _ _ R2 rfl p1) rfl ⟨_, rfl, ?_, p2⟩
      rw [← HZZ.out]
      exact p3
set_option maxRecDepth 100000 in
set_option maxHeartbeats 4000000 in
theorem implParseTree_any (s : ByteArray) (w : World) (hs : s.size ≤ 1048576) (htab : Tab w) (he : Errs w) :
    Calls Tryz.prog 7 #[.string s] w fun e w' => ∃ v', e = .returned (.tuple #[.agg #[v'], .bool (ptB s)]) ∧ w'.ownsRow w.heap.size 3 1 v' (ptL s).length ((ptL s).map (Value.int .i64)) ∧ Below w.heap.size w w' := by
  obtain ⟨W0, hW0⟩ : ∃ W0, W0 = w.alloc (.cells #[.slice none 0 0] 26) := ⟨_, rfl⟩
  have HA0 : Hid (Bx W0 w.heap.size (.slice none 0 0) 26) := Lib.hid (by rw [hW0]; exact Bx.new w _ _)
  have HB0 : Hid (Below w.heap.size w W0) := Lib.hid (by rw [hW0]; exact (Below.refl w.heap.size w).alloc (Nat.le_refl _) _)
  have HW0 := Lib.hid hW0
  have HC := Lib.hid (treeIn_any s W0 hs (htab.below HB0.out) (he.below HB0.out))
  have HT := Lib.hid (htab.below HB0.out)
  clear hW0
  obtain ⟨R, hR⟩ : ∃ R, R = w.heap.size := ⟨_, rfl⟩
  rw [← hR] at HA0
  have HR := Lib.hid hR
  obtain ⟨e1, e2, e3⟩ := t_end s
  have HE1 := Lib.hid e1
  have HE2 := Lib.hid e2
  have HE3 := Lib.hid e3
  have HS := Lib.hid (fun (h : trOk (tL s) = true) => (ttV_yes h))
  have HX := Lib.hid (fun (v : Value) (W : World) h1 h2 => implTreeText_any v (tL s) W h1 h2)
  generalize tL s = L at HC HE1 HE2 HE3 HX HS
  generalize ttV L = tx at HX HS
  generalize trOk L = ok at HX HE1 HE2 HS
  clear hs htab he e1 e2 e3 hR
  go_enter Tryz.func7, Tryz.ntmps7
  go_upto_region 1 with fail
  rw [← HW0.out, ← HR.out]
  go_wp2_with fail
  refine HC.out.mono ?_
  rintro e W1 ⟨v1, rfl, o1, l1⟩
  obtain ⟨a1, c1, rfl, hc1, hm1⟩ := own_some6 o1
  unfold maxLen at hm1
  go_upto_region 2 with fail
  obtain ⟨W2, hW2⟩ : ∃ W2, W2 = W1.alloc (.cells #[.slice a1 L.length c1] 26) := ⟨_, rfl⟩
  have ht2 : Tr W2 W1.heap.size (.slice a1 L.length c1) L := by rw [hW2]; exact Tr.new (row_own o1)
  have l2 : Below W1.heap.size W1 W2 := by rw [hW2]; exact (Below.refl _ _).alloc (Nat.le_refl _) _
  have hown2 := own_base (own_below o1 l2 (Nat.le_refl _)) HB0.out.size
  have HneA : Hid (∀ k, (.slice a1 L.length c1 : Value).ownBlock = some k → k ≠ R) := Lib.hid (fun k hk e => by have h1 := (o1.lt k hk).1; have h2 := HA0.out.lt; omega)
  have HXR : Hid (R ≠ W1.heap.size) := Lib.hid (by have h2 := HA0.out.lt; have := l1.size; omega)
  have HO2 := Lib.hid hown2
  have HA2 := Lib.hid (HA0.out.below (l1.trans (l2.mono l1.size)) HA0.out.lt)
  have HB2 := Lib.hid (HB0.out.trans ((l1.trans (l2.mono l1.size)).mono HB0.out.size))
  have HT2 := Lib.hid (HT.out.below (l1.trans (l2.mono l1.size)))
  rw [← hW2]
  obtain ⟨X, hX⟩ : ∃ X, X = W1.heap.size := ⟨_, rfl⟩
  rw [← hX] at ht2 HXR ⊢
  have HQ2 := Lib.hid ht2
  clear hW2 ht2 hX hown2 o1 l1 l2 HA0 HB0 HT HC
  obtain ⟨n, hN⟩ : ∃ n, n = L.length := ⟨_, rfl⟩
  have HN := Lib.hid hN
  rw [← hN] at hc1 HneA HO2 HQ2 ⊢
  clear hN
  have hx := HQ2.out.cell
  go_wp2_with fail
  refine (HX.out _ W2 (by have := HQ2.out.row; rw [← HN.out] at this ⊢; exact this) HT2.out).mono ?_
  rintro e W3 ⟨rfl, l3⟩
  have HO3 := Lib.hid (own_below HO2.out l3 (Nat.le_refl _))
  have HA3 := Lib.hid (HA2.out.below l3 HA2.out.lt)
  have HQ3 := Lib.hid (HQ2.out.below l3)
  have HB3 := Lib.hid (HB2.out.trans (l3.mono HB2.out.size))
  clear l3 HO2 HA2 HQ2 HB2 HT2 hx HX
  have hx := HQ3.out.cell
  have hy := HA3.out.cell
  have fy := HA3.out.free
  cases ok with
  | false =>
    obtain ⟨h1, h2⟩ := HE2.out rfl
    have HF1 := Lib.hid h1
    have HF2 := Lib.hid h2
    clear h1 h2 HE1 HE2 HE3 HS
    go_wp2_with fail
    obtain ⟨p1, q1⟩ := HA3.out.put (.slice none 0 0)
    refine bodyPost_ret (results_tr2 rfl _ _ R rfl rfl p1) rfl ⟨_, ret_tr HF1.out.symm, by rw [HF2.out]; exact own_nil6 _ _, HB3.out.grown q1 HB3.out.size (fun k hk => by have e2 : R = k := Option.some.inj hk; have := HR.out; omega)⟩
  | true =>
    have hst := HS.out rfl
    by_cases ht : tx = s
    · obtain ⟨h1, h2⟩ := HE1.out rfl (by rw [← hst]; exact ht)
      have HF1 := Lib.hid h1
      have HF2 := Lib.hid h2
      clear h1 h2 HE1 HE2 HE3 HS hst
      subst ht
      go_wp2_with fail
      obtain ⟨p1, q1⟩ := HA3.out.put (.slice a1 n c1)
      refine bodyPost_ret (results_tr2 rfl _ _ R rfl rfl p1) rfl ⟨_, ret_tr HF1.out.symm, ?_, HB3.out.grown q1 HB3.out.size (fun k hk => by have e2 : R = k := Option.some.inj hk; have := HR.out; omega)⟩
      rw [HF2.out, ← HN.out]
      refine HO3.out.kept q1 ?_
      cases hv : (Value.slice a1 n c1).ownBlock with
      | none => exact .inl rfl
      | some k => exact .inr (fun e2 => HneA.out k hv (Option.some.inj e2))
    · obtain ⟨h1, h2⟩ := HE3.out (by rw [← hst]; exact ht)
      have hts : (tx.toList == s.toList) = false := list_ne6 ht
      have HF1 := Lib.hid h1
      have HF2 := Lib.hid h2
      clear h1 h2 HE1 HE2 HE3 HS hst ht
      go_wp2_with fail
      obtain ⟨p1, q1⟩ := HA3.out.put (.slice none 0 0)
      refine bodyPost_ret (results_tr2 rfl _ _ R rfl rfl p1) rfl ⟨_, ret_tr HF1.out.symm, by rw [HF2.out]; exact own_nil6 _ _, HB3.out.grown q1 HB3.out.size (fun k hk => by have e2 : R = k := Option.some.inj hk; have := HR.out; omega)⟩
end Go.Proofs.YtejdphfcogfcmaaGreatDoor
