/-
  Sets as ranges: the program's reading of a set's text.
-/
import Derived.Test.YtneimcacpbepfaaGreatDoorRngP
import Derived.Test.YtneimcacpbepfaaGreatDoorRngTI
import Derived.Test.YtneimcacpbepfaaGreatDoorZ2
import Derived.Test.YtneimcacpbepfaaGreatDoorImplSplit
namespace Go.Proofs.YtneimcacpbepfaaGreatDoor
open Go.RowKit Go.Lib Go.Joins
set_option linter.unusedVariables false

/-- What the program reads of a part. -/
noncomputable def qF (p : ByteArray) : Rg := (rdN (preB p), if cutB p = true then rdN (posB p) else rdN (preB p))
theorem qF_rgT {r : Rg} (h0 : 0 ≤ r.1) (h1 : r.1 ≤ r.2) (h2 : r.2 ≤ 65535) : qF (rgB r) = r := by
  obtain ⟨f, t⟩ := r
  simp only at h0 h1 h2
  have hl := rgB_list (f, t)
  by_cases h : f < t
  · rw [rgT_two h] at hl
    have hc : Lib.cut (rgB (f, t)).data.toList [45] = (Lib.itoa f, Lib.itoa t, true) := by rw [hl]; exact cut_hit 45 _ _ (itoa_clean5 h0 45 (.inr rfl))
    have r1 := rd_yes (s := preB (rgB (f, t))) (m := f) ⟨by omega, by omega⟩ (by unfold preB; rw [hc])
    have r2 := rd_yes (s := posB (rgB (f, t))) (m := t) ⟨by omega, by omega⟩ (by unfold posB; rw [hc])
    have r3 : cutB (rgB (f, t)) = true := by unfold cutB; rw [hc]
    unfold qF
    rw [r1.2, r2.2, if_pos r3]
  · obtain rfl : f = t := by omega
    rw [rgT_one h] at hl
    have hc : Lib.cut (rgB (f, f)).data.toList [45] = (Lib.itoa f, [], false) := by rw [hl]; exact cut_miss 45 _ (itoa_clean5 h0 45 (.inr rfl))
    have r1 := rd_yes (s := preB (rgB (f, f))) (m := f) ⟨by omega, by omega⟩ (by unfold preB; rw [hc])
    have r3 : ¬ cutB (rgB (f, f)) = true := by unfold cutB; rw [hc]; simp
    unfold qF
    rw [r1.2, if_neg r3]
/-- The parts of a text, as the program splits it. -/
noncomputable def qP (s : ByteArray) : List ByteArray := splitPs s ⟨#[44]⟩
noncomputable def qL (s : ByteArray) : List Rg := if s = noneS then [] else (qP s).map qF
theorem qP_set {s : ByteArray} {l : List Rg} (h : IsSet s l) (hl : l ≠ []) : qP s = l.map rgB := by
  have hs : s.size ≤ 4000 := by have := textB_size h.1; rw [h.2] at this; omega
  unfold qP
  rw [(splitOk_yes hs).2]
  unfold partS
  rw [(set_words h hl).2, List.map_map]
  rfl
theorem qL_set {s : ByteArray} {l : List Rg} (h : IsSet s l) : qL s = l := by
  unfold qL
  by_cases hs : s = noneS
  · rw [if_pos hs]
    subst hs
    have e1 := (ps_yes h).2
    have e2 := (ps_yes ps_none).2
    rw [← e1, e2]
  · rw [if_neg hs, qP_set h (ps_ne h hs), List.map_map]
    have hv := (rgOk_parts h.1).1.2
    have : ∀ l : List Rg, (∀ r ∈ l, 0 ≤ r.1 ∧ r.1 ≤ r.2 ∧ r.2 ≤ 65535) → l.map (qF ∘ rgB) = l := by
      intro l
      induction l with
      | nil => intro _; rfl
      | cons r l ih =>
        intro hv
        obtain ⟨h1, h2, h3⟩ := hv r (List.mem_cons_self ..)
        rw [List.map_cons, ih (fun q hq => hv q (List.mem_cons_of_mem _ hq))]
        show qF (rgB r) :: l = _
        rw [qF_rgT h1 h2 h3]
    exact this l hv
theorem q_end (s : ByteArray) : (rgOk (qL s) = true → textB (qL s) = s → psB s = true ∧ psL s = qL s) ∧ (rgOk (qL s) = false → psB s = false ∧ psL s = []) ∧ (textB (qL s) ≠ s → psB s = false ∧ psL s = []) := by
  refine ⟨fun h1 h2 => ps_yes ⟨h1, h2⟩, fun h => ps_no (fun l hl => ?_), fun h => ps_no (fun l hl => ?_)⟩
  · rw [qL_set hl, hl.1] at h; cases h
  · rw [qL_set hl] at h; exact h hl.2
theorem qP_len (s : ByteArray) : (qP s).length ≤ 4001 := by
  unfold qP
  by_cases h : s.size ≤ 4000
  · rw [(splitOk_yes h).2]; exact parts_count s 44 h
  · rw [(splitOk_no (fun hx => h hx.1)).2]; simp
theorem qP_size {s : ByteArray} (hs : s.size ≤ 1048576) : ∀ p ∈ qP s, p.size ≤ 4000 := by
  intro p hp
  unfold qP at hp
  by_cases h : s.size ≤ 4000
  · rw [(splitOk_yes h).2] at hp
    unfold partS at hp
    obtain ⟨l, hl, rfl⟩ := List.mem_map.1 hp
    obtain ⟨i, hi, rfl⟩ := List.getElem_of_mem hl
    have h1 := parts_size 44 s.data.toList i
    rw [List.getD_eq_getElem?_getD, List.getElem?_eq_getElem hi] at h1
    have e : s.data.toList.length = s.size := by simp
    show (List.toArray _).size ≤ 4000
    rw [List.size_toArray]
    have h2 : ((M.parts 44 s.data.toList)[i]).length ≤ s.data.toList.length := h1
    omega
  · rw [(splitOk_no (fun hx => h hx.1)).2] at hp; cases hp
/-- What the walk that reads has: the list drawn up, the parts apart from it. -/
structure QsS (W0 wr : World) (g c : Nat) (zs : List Rg) (u : Value) (P : List ByteArray) : Prop where
  own : wr.ownsRow W0.heap.size 47 2 (.slice (some ⟨g, 0, none⟩) zs.length c) zs.length (rgF zs)
  src : wr.ownsRow W0.heap.size 9 1 u P.length (P.map Value.string)
  ne : ∀ k, u.ownBlock = some k → k ≠ g
  bel : Below W0.heap.size W0 wr
theorem QsS.below {W0 wr w1 : World} {g c : Nat} {zs : List Rg} {u : Value} {P : List ByteArray} (h : QsS W0 wr g c zs u P) (l : Below wr.heap.size wr w1) : QsS W0 w1 g c zs u P :=
  ⟨ownz_below h.own l (Nat.le_refl _), own_below h.src l (Nat.le_refl _), h.ne, h.bel.trans (l.mono h.bel.size)⟩
theorem QsS.app {W0 wr w1 : World} {g c : Nat} {zs zs5 : List Rg} {u v' : Value} {P : List ByteArray} {p q : Int} (h : QsS W0 wr g c zs u P) (hz : zs5 = zs ++ [(p, q)])
    (ho : w1.ownsRow W0.heap.size 47 2 v' (zs.length + 1) (rgF zs ++ [.int .i64 p, .int .i64 q])) (hg : wr.grownBy w1 (some g)) (hb : v'.ownBlock = some g ∨ v'.ownBlock = some wr.heap.size) :
    ∃ g' c', v' = .slice (some ⟨g', 0, none⟩) zs5.length c' ∧ QsS W0 w1 g' c' zs5 u P := by
  subst hz
  obtain ⟨g', c', rfl⟩ := ownz_form ho (by omega)
  have hgk : W0.heap.size ≤ g := (h.own.lt g rfl).1
  have e : (zs ++ [(p, q)]).length = zs.length + 1 := by simp
  refine ⟨g', c', by rw [e], ⟨?_, ?_, ?_, ?_⟩⟩
  · rw [e, rgF_snoc]; exact ho
  · refine h.src.kept hg ?_
    cases hv : u.ownBlock with
    | none => exact .inl rfl
    | some k => exact .inr (fun e2 => h.ne k hv (Option.some.inj e2))
  · intro k hk
    rcases hb with hb | hb
    · have : g' = g := Option.some.inj hb
      rw [this]; exact h.ne k hk
    · have e2 : g' = wr.heap.size := Option.some.inj hb
      have := (h.src.lt k hk).2
      omega
  · exact h.bel.grown hg h.bel.size (fun k hk => by have e2 : g = k := Option.some.inj hk; omega)
theorem rb_set1b {w : World} {R : Nat} {x y : Int} (h : Rb w R x y) (y' : Int) : Rb (w.setCell ⟨R, 1, none⟩ (.int .i64 y')) R x y' ∧ w.grownBy (w.setCell ⟨R, 1, none⟩ (.int .i64 y')) (some R) := by
  obtain ⟨h1, h2⟩ := blk_set (i := 1) h (.int .i64 y')
  exact ⟨h1, h2⟩
set_option maxRecDepth 100000 in
set_option maxHeartbeats 4000000 in
theorem rangesIn_any (s : ByteArray) (w : World) (hs : s.size ≤ 1048576) (hm : MLOk w) (htab : Tab w) (he : Errs w) :
    Calls Tryz.prog 36 #[.string s] w fun e w' => ∃ v', e = .returned v' ∧ w'.ownsRow w.heap.size 47 2 v' (qL s).length (rgF (qL s)) ∧ Below w.heap.size w w' := by
  obtain ⟨i0, hi, hz0, hz1, hz2⟩ := info_parts infoRg
  have HL0 := Lib.hid (lit_none w w.heap.size (Nat.le_refl _))
  have HB0 := Lib.hid ((Below.refl w.heap.size w).alloc (Nat.le_refl _) (.cells #[] 47))
  by_cases hsn : s = noneS
  · have e1 : qL s = [] := if_pos hsn
    rw [e1]
    subst hsn
    clear e1 hs hm htab he
    unfold noneS
    go_enter Tryz.func36, Tryz.ntmps36
    go_wp2_with fail
    go_ret
    exact ⟨_, rfl, HL0.out, HB0.out⟩
  have hne : (s.toList == [110, 111, 110, 101]) = false := by
    have h := list_ne5 hsn
    rw [ByteArray.toList_eq noneS] at h
    exact h
  have HQ : Hid (qL s = (qP s).map qF) := Lib.hid (if_neg hsn)
  have HSp := Lib.hid (implSplit_any s ⟨#[44]⟩ hs (by show 1 ≤ 1048576; omega) (w.alloc (.cells #[] 47)))
  have HM := Lib.hid hm
  have HT := Lib.hid htab
  have HE := Lib.hid he
  have hPl := qP_len s
  have HPs := Lib.hid (qP_size hs)
  rw [HQ.out]
  have e0 : splitPs s ⟨#[44]⟩ = qP s := rfl
  rw [e0] at HSp
  generalize splitOk s ⟨#[44]⟩ = ok at HSp
  generalize qP s = P at HSp hPl HPs ⊢
  clear hsn HQ hs hm htab he e0
  go_enter Tryz.func36, Tryz.ntmps36
  go_wp2_with fail
  refine HSp.out.mono ?_
  rintro e w2 ⟨u, rfl, ou, lu⟩
  have hps : QsS w w2 w.heap.size 0 [] u P := ⟨ownz_below HL0.out lu (Nat.le_refl _), own_base ou HB0.out.size, fun k hk e => by
    have h1 := (ou.lt k hk).1
    have h2 := HL0.out.lt w.heap.size rfl
    omega, HB0.out.trans (lu.mono HB0.out.size)⟩
  have HPS := Lib.hid hps
  obtain ⟨au, cu, rfl, hcu, hcm⟩ := ownz_slice ou
  unfold maxLen at hcm
  clear ou lu hps HSp HB0 HL0
  obtain ⟨n, hN⟩ : ∃ n, n = P.length := ⟨_, rfl⟩
  rw [← hN] at hPl hcu HPS ⊢
  have HN := Lib.hid hN
  clear hN
  go_wp2_with fail
  go_loopw [3, 23] (fun o i wr => ∃ (k g c : Nat) (zs : List Rg), k ≤ n ∧ i = .int .i64 k ∧ o = .slice (some ⟨g, 0, none⟩) zs.length c ∧ zs.length = k ∧ Hid (zs = (P.take k).map qF) ∧ Hid (QsS w wr g c zs (.slice au n cu) P)) (fun _ i _ => n - (RowKit.intOf i).toNat)
  case atStart => exact ⟨0, _, _, [], Nat.zero_le _, rfl, rfl, rfl, Lib.hid rfl, HPS⟩
  case round =>
    clear HPS
    obtain ⟨k, g, c, zs, hk, rfl, rfl, hzl, HZ, HPS⟩ := hrel
    have HZL := Lib.hid hzl
    have hzl2 : zs.length ≤ 4001 := by omega
    clear hzl
    by_cases hkn : k < n
    · have hkP : k < P.length := by rw [← HN.out]; exact hkn
      have hrow := row_own HPS.out.src
      obtain ⟨a9, c9, e9, _, _, hcell⟩ := row_open hrow
      obtain ⟨b, off, rfl, hb, hc1⟩ := hcell k hkP
      rw [← HN.out] at e9
      injection e9 with e9 e10 e11
      subst e9
      clear e10 e11
      have hsz := HPs.out P[k] (List.getElem_mem hkP)
      have HTk : Hid (P.take (k + 1) = P.take k ++ [P[k]]) := Lib.hid (List.take_succ_eq_append_getElem hkP)
      generalize P[k] = p at hc1 hsz HTk
      have HFp : Hid (qF p = (rdN (preB p), if cutB p = true then rdN (posB p) else rdN (preB p))) := Lib.hid rfl
      have zA := preB_size p
      have zZ := posB_size p
      have HCt := Lib.hid (fun (W : World) (h : MLOk W) => cut5_any p (by omega) W h)
      have HNA := Lib.hid (fun (W : World) (h1 : Tab W) (h2 : Errs W) => numberIn_any (preB p) (by omega) W h1 h2)
      have HNZ := Lib.hid (fun (W : World) (h1 : Tab W) (h2 : Errs W) => numberIn_any (posB p) (by omega) W h1 h2)
      generalize rdN (preB p) = na at HNA HFp
      generalize rdN (posB p) = nz at HNZ HFp
      generalize cutB p = isS at HCt HFp
      generalize preB p = pa at HCt HNA
      generalize posB p = pz at HCt HNZ
      clear zA zZ hcell hrow hkP
      go_wp2_with fail
      refine (HCt.out _ (HM.out.below HPS.out.bel)).mono ?_
      rintro e w3 ⟨rfl, l3⟩
      have HP3 := Lib.hid (HPS.out.below l3)
      clear l3 hc1 HCt HPS
      go_wp2_with fail
      refine (HNA.out _ (HT.out.below HP3.out.bel) (HE.out.below HP3.out.bel)).mono ?_
      rintro e w4 ⟨rfl, l4⟩
      have HP4 := Lib.hid (HP3.out.below l4)
      clear l4 HP3 HNA
      go_wp2_with fail
      refine (HNZ.out _ (HT.out.below HP4.out.bel) (HE.out.below HP4.out.bel)).mono ?_
      rintro e w5 ⟨rfl, l5⟩
      have HP5 := Lib.hid (HP4.out.below l5)
      clear l5 HP4 HNZ
      go_upto_region 10 with fail
      obtain ⟨W6, hW6⟩ : ∃ W6, W6 = w5.alloc (.cells #[.int .i64 na, .int .i64 nz] 47) := ⟨_, rfl⟩
      have hb6 : Below w5.heap.size w5 W6 := by rw [hW6]; exact (Below.refl _ _).alloc (Nat.le_refl _) _
      have HB6 := Lib.hid hb6
      have HR6 : Hid (Rb W6 w5.heap.size na nz) := Lib.hid (by rw [hW6]; exact heap_alloc_new w5 _)
      rw [← hW6]
      clear hW6 hb6
      cases isS with
      | true =>
        have HFq : Hid (qF p = (na, nz)) := Lib.hid (by rw [HFp.out]; rfl)
        clear HFp
        obtain ⟨W7, hW7⟩ : ∃ W7, W7 = W6 := ⟨_, rfl⟩
        rw [← hW7] at HR6 HB6 ⊢
        clear hW7
        have HP7 := Lib.hid (HP5.out.below HB6.out)
        have HM8 := Lib.hid (HP7.out.below ((Below.refl _ _).alloc (Nat.le_refl _) (.cells #[.int .i64 na, .int .i64 nz] 47)))
        have HW := Lib.hid (row_lit2 (heap_alloc_new W7 (.cells #[.int .i64 na, .int .i64 nz] 47)))
        obtain ⟨x0, x1⟩ := HR6.out.cells
        go_wp2_with (at_builtin; refine wpList_append_own_at _ rfl _ _ 24 rfl w.heap.size 47 i0 (.agg #[.int .i64 0, .int .i64 0]) 2 16 Tryz.underlying24 hi hz0 hz1 hz2 rfl (by decide) _ zs.length (rgF zs) rfl HM8.out.own ⟨W7.heap.size, 0, none⟩ 1 1 [.int .i64 na, .int .i64 nz] (by first | rfl | simp) rfl (row_news HW.out) (two_one5 _ _) (by unfold maxLen; omega) (by omega) HM8.out.bel.size ?_; intro v' w9 hown' hgrow hiff hblk; obtain ⟨zs5, hz5⟩ : ∃ z, z = zs ++ [(na, nz)] := ⟨_, rfl⟩; obtain ⟨g5, c5, rfl, hs5⟩ := HM8.out.app hz5 hown' hgrow hblk; have HS5 := Lib.hid hs5; have HZ5 := Lib.hid hz5; clear hown' hgrow hs5 hz5 hiff hblk)
        go_roundw
        case rel => exact ⟨k + 1, g5, c5, zs5, by omega, by go_num, rfl, by rw [HZ5.out, List.length_append, HZL.out]; rfl, Lib.hid (by rw [HTk.out, List.map_append, List.map_singleton, ← HZ.out, HFq.out]; exact HZ5.out), HS5⟩
        case measure => (simp [RowKit.intOf]; omega)
      | false =>
        have HFq : Hid (qF p = (na, na)) := Lib.hid (by rw [HFp.out]; rfl)
        clear HFp
        obtain ⟨x0, x1⟩ := HR6.out.cells
        have f1 := HR6.out.free 1
        go_upto_region 12 with fail
        obtain ⟨b1, b2⟩ := rb_set1b HR6.out na
        obtain ⟨W7, hW7⟩ : ∃ W7, W7 = W6.setCell ⟨w5.heap.size, 1, none⟩ (.int .i64 na) := ⟨_, rfl⟩
        rw [← hW7] at b1 b2 ⊢
        have HP7 := Lib.hid (HP5.out.below (HB6.out.grown b2 HB6.out.size (fun k hk => by have e2 : w5.heap.size = k := Option.some.inj hk; omega)))
        have HR7 := Lib.hid b1
        clear hW7 b1 b2 x0 x1 f1 HR6 HB6
        have HM8 := Lib.hid (HP7.out.below ((Below.refl _ _).alloc (Nat.le_refl _) (.cells #[.int .i64 na, .int .i64 na] 47)))
        have HW := Lib.hid (row_lit2 (heap_alloc_new W7 (.cells #[.int .i64 na, .int .i64 na] 47)))
        obtain ⟨x0, x1⟩ := HR7.out.cells
        go_wp2_with (at_builtin; refine wpList_append_own_at _ rfl _ _ 24 rfl w.heap.size 47 i0 (.agg #[.int .i64 0, .int .i64 0]) 2 16 Tryz.underlying24 hi hz0 hz1 hz2 rfl (by decide) _ zs.length (rgF zs) rfl HM8.out.own ⟨W7.heap.size, 0, none⟩ 1 1 [.int .i64 na, .int .i64 na] (by first | rfl | simp) rfl (row_news HW.out) (two_one5 _ _) (by unfold maxLen; omega) (by omega) HM8.out.bel.size ?_; intro v' w9 hown' hgrow hiff hblk; obtain ⟨zs5, hz5⟩ : ∃ z, z = zs ++ [(na, na)] := ⟨_, rfl⟩; obtain ⟨g5, c5, rfl, hs5⟩ := HM8.out.app hz5 hown' hgrow hblk; have HS5 := Lib.hid hs5; have HZ5 := Lib.hid hz5; clear hown' hgrow hs5 hz5 hiff hblk)
        go_roundw
        case rel => exact ⟨k + 1, g5, c5, zs5, by omega, by go_num, rfl, by rw [HZ5.out, List.length_append, HZL.out]; rfl, Lib.hid (by rw [HTk.out, List.map_append, List.map_singleton, ← HZ.out, HFq.out]; exact HZ5.out), HS5⟩
        case measure => (simp [RowKit.intOf]; omega)
    · obtain rfl : k = n := by omega
      have hzz : zs = P.map qF := by rw [HZ.out, List.take_of_length_le (by rw [← HN.out]; exact Nat.le_refl _)]
      have HZZ := Lib.hid hzz
      clear hzz HZ
      go_wp2_with fail
      go_ret
      exact ⟨_, rfl, by rw [← HZZ.out]; exact HPS.out.own, HPS.out.bel⟩
set_option maxRecDepth 100000 in
set_option maxHeartbeats 2000000 in
theorem implParseSet_any (s : ByteArray) (w : World) (hs : s.size ≤ 1048576) (hm : MLOk w) (htab : Tab w) (he : Errs w) :
    Calls Tryz.prog 18 #[.string s] w fun e w' => ∃ v', e = .returned (.tuple #[v', .bool (psB s)]) ∧ w'.ownsRow w.heap.size 47 2 v' (psL s).length (rgF (psL s)) ∧ Below w.heap.size w w' := by
  have HC := Lib.hid (rangesIn_any s w hs hm htab he)
  have HT := Lib.hid htab
  obtain ⟨e1, e2, e3⟩ := q_end s
  have HE1 := Lib.hid e1
  have HE2 := Lib.hid e2
  have HE3 := Lib.hid e3
  have HS := Lib.hid (fun (h : rgOk (qL s) = true) => (stV_yes h))
  have HX := Lib.hid (fun (v : Value) (W : World) h1 h2 => implSetText_any v (qL s) W h1 h2)
  generalize qL s = L at HC HE1 HE2 HE3 HX HS
  generalize stV L = tx at HX HS
  generalize rgOk L = ok at HX HE1 HE2 HS
  clear hs hm htab he e1 e2 e3
  go_enter Tryz.func18, Tryz.ntmps18
  go_wp2_with fail
  refine HC.out.mono ?_
  rintro e w1 ⟨v1, rfl, o1, l1⟩
  have HO1 := Lib.hid o1
  have HB1 := Lib.hid l1
  clear o1 l1 HC
  go_wp2_with fail
  refine (HX.out _ _ (rowz_own HO1.out) (HT.out.below HB1.out)).mono ?_
  rintro e w2 ⟨rfl, l2⟩
  have HO2 := Lib.hid (ownz_below HO1.out l2 (Nat.le_refl _))
  have HB2 := Lib.hid (HB1.out.trans (l2.mono HB1.out.size))
  clear l2 HO1 HB1 HX HT
  cases ok with
  | false =>
    obtain ⟨h1, h2⟩ := HE2.out rfl
    have HF1 := Lib.hid h1
    have HF2 := Lib.hid h2
    clear h1 h2 HE1 HE2 HE3 HS
    go_wp2_with fail
    go_ret2
    exact ⟨_, ret_vb5 rfl HF1.out.symm, by rw [HF2.out]; exact lit_none w2 w.heap.size HB2.out.size, HB2.out.alloc HB2.out.size _⟩
  | true =>
    have hst := HS.out rfl
    by_cases ht : tx = s
    · obtain ⟨h1, h2⟩ := HE1.out rfl (by rw [← hst]; exact ht)
      have HF1 := Lib.hid h1
      have HF2 := Lib.hid h2
      clear h1 h2 HE1 HE2 HE3 HS hst
      subst ht
      go_wp2_with fail
      go_ret2
      exact ⟨_, ret_vb5 rfl HF1.out.symm, by rw [HF2.out]; exact HO2.out, HB2.out⟩
    · obtain ⟨h1, h2⟩ := HE3.out (by rw [← hst]; exact ht)
      have hts : (tx.toList == s.toList) = false := list_ne5 ht
      have HF1 := Lib.hid h1
      have HF2 := Lib.hid h2
      clear h1 h2 HE1 HE2 HE3 HS hst ht
      go_wp2_with fail
      go_ret2
      exact ⟨_, ret_vb5 rfl HF1.out.symm, by rw [HF2.out]; exact lit_none w2 w.heap.size HB2.out.size, HB2.out.alloc HB2.out.size _⟩
end Go.Proofs.YtneimcacpbepfaaGreatDoor
