/-
  Sets as ranges: the specification's reading of a set's text.
-/
import Derived.Test.YtneimcacpbepfaaGreatDoorRngT
import Derived.Test.YtneimcacpbepfaaGreatDoorRdV
import Derived.Deep.CutRange
namespace Go.Proofs.YtneimcacpbepfaaGreatDoor
open Go.RowKit Go.Lib Go.Joins
set_option linter.unusedVariables false

theorem list_ne5 {a b : ByteArray} (h : a ≠ b) : (a.toList == b.toList) = false := by
  rw [beq_eq_false_iff_ne, ByteArray.toList_eq, ByteArray.toList_eq]
  intro e
  exact h (ByteArray.ext (Array.toList_inj.1 e))
def noneS : ByteArray := ⟨#[110, 111, 110, 101]⟩
def pE (p : List UInt8) : List (List UInt8) := M.parts 45 p
def pA (p : List UInt8) : List UInt8 := (pE p).getD 0 []
def pZ (p : List UInt8) : List UInt8 := (pE p).getD ((pE p).length - 1) []
noncomputable def pF (p : List UInt8) : Rg := (rdN (txt (pA p)), rdN (txt (pZ p)))
theorem pE_pos (p : List UInt8) : 0 < (pE p).length := List.length_pos_iff.2 (M.parts_ne 45 _)
theorem pA_size (p : List UInt8) : (txt (pA p)).size ≤ p.length := by rw [txt_size]; exact parts_size 45 p 0
theorem pZ_size (p : List UInt8) : (txt (pZ p)).size ≤ p.length := by rw [txt_size]; exact parts_size 45 p _
theorem pF_rgT {r : Rg} (h0 : 0 ≤ r.1) (h1 : r.1 ≤ r.2) (h2 : r.2 ≤ 65535) : rdB (txt (pA (rgT r))) = true ∧ rdB (txt (pZ (rgT r))) = true ∧ pF (rgT r) = r := by
  obtain ⟨e1, e2, _, _⟩ := rgT_ends h0 h1
  have a := rd_yes (s := txt (pA (rgT r))) (m := r.1) ⟨by omega, by omega⟩ (by rw [txt_data]; exact e1.symm)
  have b := rd_yes (s := txt (pZ (rgT r))) (m := r.2) ⟨by omega, by omega⟩ (by rw [txt_data]; exact e2.symm)
  exact ⟨a.1, b.1, by unfold pF; rw [a.2, b.2]⟩
theorem ps_comp {s : ByteArray} {l : List Rg} (h : IsSet s l) (hl : l ≠ []) : (∀ p ∈ M.parts 44 s.data.toList, rdB (txt (pA p)) = true ∧ rdB (txt (pZ p)) = true) ∧ (M.parts 44 s.data.toList).map pF = l := by
  have hv := (rgOk_parts h.1).1.2
  rw [(set_words h hl).2]
  refine ⟨fun p hp => ?_, ?_⟩
  · obtain ⟨r, hr, rfl⟩ := List.mem_map.1 hp
    obtain ⟨a, b, _⟩ := pF_rgT (hv r hr).1 (hv r hr).2.1 (hv r hr).2.2
    exact ⟨a, b⟩
  · rw [List.map_map]
    have : ∀ l : List Rg, (∀ r ∈ l, 0 ≤ r.1 ∧ r.1 ≤ r.2 ∧ r.2 ≤ 65535) → l.map (pF ∘ rgT) = l := by
      intro l
      induction l with
      | nil => intro _; rfl
      | cons r l ih =>
        intro hv
        obtain ⟨h1, h2, h3⟩ := hv r (List.mem_cons_self ..)
        rw [List.map_cons, ih (fun q hq => hv q (List.mem_cons_of_mem _ hq))]
        show pF (rgT r) :: l = _
        rw [(pF_rgT h1 h2 h3).2.2]
    exact this l hv
theorem ps_none : IsSet noneS [] := ⟨rfl, rfl⟩
theorem ps_ne {s : ByteArray} {l : List Rg} (h : IsSet s l) (hs : s ≠ noneS) : l ≠ [] := fun e => hs (by rw [← h.2, e]; rfl)
theorem ps_long {s : ByteArray} (h : 120 < s.size) : psB s = false ∧ psL s = [] := ps_no (fun l hl => by
  have := textB_size hl.1
  rw [hl.2] at this
  omega)
theorem ps_bad {s : ByteArray} (hs : s ≠ noneS) {p : List UInt8} (hp : p ∈ M.parts 44 s.data.toList) (h : ¬ (rdB (txt (pA p)) = true ∧ rdB (txt (pZ p)) = true)) : psB s = false ∧ psL s = [] :=
  ps_no (fun l hl => h ((ps_comp hl (ps_ne hl hs)).1 p hp))
theorem ps_end {s : ByteArray} (hs : s ≠ noneS) {zs : List Rg} (hz : zs = (M.parts 44 s.data.toList).map pF) :
    (rgOk zs = true → textB zs = s → psB s = true ∧ psL s = zs) ∧ (rgOk zs = false → psB s = false ∧ psL s = []) ∧ (textB zs ≠ s → psB s = false ∧ psL s = []) := by
  have hc : ∀ l, IsSet s l → l = zs := fun l hl => by rw [hz, (ps_comp hl (ps_ne hl hs)).2]
  exact ⟨fun h1 h2 => ps_yes ⟨h1, h2⟩, fun h => ps_no (fun l hl => by have e := hc l hl; subst e; rw [hl.1] at h; cases h), fun h => ps_no (fun l hl => by have e := hc l hl; subst e; exact h hl.2)⟩
theorem two_one5 (p q : Int) : ∀ u ∈ [Value.int .i64 p, .int .i64 q], u.oneCell' = true := by
  intro u hu
  simp only [List.mem_cons, List.not_mem_nil, or_false] at hu
  rcases hu with rfl | rfl <;> rfl
/-- What the walk that reads has: the list drawn up, the parts apart from it. -/
structure PsS (W0 wr : World) (g c : Nat) (zs : List Rg) (u : Value) (P : List (List UInt8)) : Prop where
  own : wr.ownsRow W0.heap.size 47 2 (.slice (some ⟨g, 0, none⟩) zs.length c) zs.length (rgF zs)
  src : wr.ownsRow W0.heap.size 9 1 u P.length (P.map strV)
  ne : ∀ k, u.ownBlock = some k → k ≠ g
  bel : Below W0.heap.size W0 wr
theorem PsS.below {W0 wr w1 : World} {g c : Nat} {zs : List Rg} {u : Value} {P : List (List UInt8)} (h : PsS W0 wr g c zs u P) (l : Below wr.heap.size wr w1) : PsS W0 w1 g c zs u P :=
  ⟨ownz_below h.own l (Nat.le_refl _), own_below h.src l (Nat.le_refl _), h.ne, h.bel.trans (l.mono h.bel.size)⟩
theorem PsS.app {W0 wr w1 : World} {g c : Nat} {zs zs5 : List Rg} {u v' : Value} {P : List (List UInt8)} {p q : Int} (h : PsS W0 wr g c zs u P) (hz : zs5 = zs ++ [(p, q)])
    (ho : w1.ownsRow W0.heap.size 47 2 v' (zs.length + 1) (rgF zs ++ [.int .i64 p, .int .i64 q])) (hg : wr.grownBy w1 (some g)) (hb : v'.ownBlock = some g ∨ v'.ownBlock = some wr.heap.size) :
    ∃ g' c', v' = .slice (some ⟨g', 0, none⟩) zs5.length c' ∧ PsS W0 w1 g' c' zs5 u P := by
  subst hz
  obtain ⟨g', c', rfl⟩ := ownz_form ho (by omega)
  have hgk : W0.heap.size ≤ g := (h.own.lt g rfl).1
  have e : (zs ++ [(p, q)]).length = zs.length + 1 := by simp
  refine ⟨g', c', by rw [e], ⟨?_, ?_, ?_, ?_⟩⟩
  · rw [e, rgF_snoc]; exact ho
  · refine h.src.kept hg ?_
    cases hv : u.ownBlock with
    | none => exact .inl rfl
    | some k => exact .inr (fun e2 => h.ne k hv (Option.some.inj e2))
  · intro k hk
    rcases hb with hb | hb
    · have : g' = g := Option.some.inj hb
      rw [this]; exact h.ne k hk
    · have e2 : g' = wr.heap.size := Option.some.inj hb
      have := (h.src.lt k hk).2
      omega
  · exact h.bel.grown hg h.bel.size (fun k hk => by have e2 : g = k := Option.some.inj hk; omega)
set_option maxRecDepth 100000 in
set_option maxHeartbeats 4000000 in
theorem specParseSet_any (s : ByteArray) (w : World) (hs : s.size ≤ 1048576) :
    Calls Tryz.prog 20 #[.string s] w fun e w' => ∃ v', e = .returned (.tuple #[v', .bool (psB s)]) ∧ w'.ownsRow w.heap.size 47 2 v' (psL s).length (rgF (psL s)) ∧ Below w.heap.size w w' := by
  obtain ⟨i0, hi, hz0, hz1, hz2⟩ := info_parts infoRg
  have HL0 := Lib.hid (lit_none w w.heap.size (Nat.le_refl _))
  have HB0 := Lib.hid ((Below.refl w.heap.size w).alloc (Nat.le_refl _) (.cells #[] 47))
  have HX0 := Lib.hid (l5Text_any (.slice (some ⟨w.heap.size, 0, none⟩) 0 0) [] (w.alloc (.cells #[] 47)) (rowz_own (lit_none w w.heap.size (Nat.le_refl _))) (by simp) (by simp))
  rw [textB_nil] at HX0
  by_cases hsn : s = noneS
  · subst hsn
    obtain ⟨e1, e2⟩ := ps_yes ps_none
    rw [e1, e2]
    clear e1 e2 hs
    unfold noneS
    go_enter Tryz.func20, Tryz.ntmps20
    go_wp2_with fail
    refine HX0.out.mono ?_
    rintro e w1 ⟨rfl, q, hq⟩
    have hb : Below (w.alloc (.cells #[] 47)).heap.size (w.alloc (.cells #[] 47)) w1 := by rw [hq]; exact bdrew _ _
    have HB1 := Lib.hid (HB0.out.trans (hb.mono HB0.out.size))
    have HL1 := Lib.hid (ownz_below HL0.out hb (Nat.le_refl _))
    clear hq hb
    go_wp2_with fail
    go_ret2
    exact ⟨_, rfl, HL1.out, HB1.out⟩
  have HNe := Lib.hid hsn
  have hne : (s.toList == [110, 111, 110, 101]) = false := by
    have h := list_ne5 hsn
    rw [ByteArray.toList_eq noneS] at h
    exact h
  clear hsn
  by_cases h120 : 120 < s.size
  · have h120' : (120 : Int) < (s.size : Int) := by omega
    obtain ⟨e1, e2⟩ := ps_long h120
    have HE1 := Lib.hid e1
    have HE2 := Lib.hid e2
    clear e1 e2
    go_enter Tryz.func20, Tryz.ntmps20
    go_wp2_with fail
    refine HX0.out.mono ?_
    rintro e w1 ⟨rfl, q, hq⟩
    have hb : Below (w.alloc (.cells #[] 47)).heap.size (w.alloc (.cells #[] 47)) w1 := by rw [hq]; exact bdrew _ _
    have HB1 := Lib.hid (HB0.out.trans (hb.mono HB0.out.size))
    have HL1 := Lib.hid (ownz_below HL0.out hb (Nat.le_refl _))
    clear hq hb
    go_wp2_with fail
    go_ret2
    exact ⟨_, ret_vb5 rfl HE1.out.symm, by rw [HE2.out]; exact HL1.out, HB1.out⟩
  have h120' : ¬ (120 : Int) < (s.size : Int) := by omega
  have HSp : Hid (∀ w : World, Calls Tryz.prog 39 #[.string s, .int .u8 44] w fun e w' => ∃ v, e = .returned v ∧ w'.ownsRow w.heap.size 9 1 v (M.parts 44 s.data.toList).length ((M.parts 44 s.data.toList).map strV) ∧ Below w.heap.size w w') := Lib.hid (fun w => l1Split_any s 44 hs w)
  have hPl : (M.parts 44 s.data.toList).length ≤ 121 := by
    have := M.parts_len 44 s.data.toList
    have e : s.data.toList.length = s.size := by simp
    omega
  have HPs := Lib.hid (fun (k : Nat) => (show ((M.parts 44 s.data.toList).getD k []).length ≤ 120 by
    have := parts_size 44 s.data.toList k
    have e : s.data.toList.length = s.size := by simp
    omega))
  have HPp : Hid (0 < (M.parts 44 s.data.toList).length) := Lib.hid (List.length_pos_iff.2 (M.parts_ne 44 _))
  have HBad := Lib.hid (fun (p : List UInt8) hp h => ps_bad (s := s) (p := p) HNe.out hp h)
  have HEnd := Lib.hid (fun (zs : List Rg) hz => ps_end (s := s) (zs := zs) HNe.out hz)
  generalize M.parts 44 s.data.toList = P at HSp hPl HPs HPp HBad HEnd
  have HS2 : Hid (∀ (p : List UInt8) (w : World), p.length ≤ 120 → Calls Tryz.prog 39 #[.string (txt p), .int .u8 45] w fun e w' => ∃ v, e = .returned v ∧ w'.ownsRow w.heap.size 9 1 v (pE p).length ((pE p).map strV) ∧ Below w.heap.size w w') := Lib.hid (fun p w hp => by
    have h := l1Split_any (txt p) 45 (by rw [txt_size]; omega) w
    rw [txt_data] at h
    exact h)
  have HRd : Hid (∀ (x : ByteArray) (w : World), x.size ≤ 120 → Calls Tryz.prog 40 #[.string x] w fun e w' => e = .returned (.tuple #[.int .i64 (rdN x), .bool (rdB x)]) ∧ ∃ k, w' = w.drewN k) := Lib.hid (fun x w hl => l1ReadV_any x (by unfold maxLen; omega) w)
  clear hs h120
  go_enter Tryz.func20, Tryz.ntmps20
  go_wp2_with fail
  refine HX0.out.mono ?_
  rintro e w1 ⟨rfl, q, hq⟩
  have hb : Below (w.alloc (.cells #[] 47)).heap.size (w.alloc (.cells #[] 47)) w1 := by rw [hq]; exact bdrew _ _
  have HB1 := Lib.hid (HB0.out.trans (hb.mono HB0.out.size))
  have HL1 := Lib.hid (ownz_below HL0.out hb (Nat.le_refl _))
  clear hq hb HX0 HL0 HB0
  go_wp2_with fail
  refine (HSp.out _).mono ?_
  rintro e w2 ⟨u, rfl, ou, lu⟩
  have hps : PsS w w2 w.heap.size 0 [] u P := ⟨ownz_below HL1.out lu (Nat.le_refl _), own_base ou HB1.out.size, fun k hk e => by
    have h1 := (ou.lt k hk).1
    have h2 := HL1.out.lt w.heap.size rfl
    omega, HB1.out.trans (lu.mono HB1.out.size)⟩
  have HPS := Lib.hid hps
  obtain ⟨gp, cp, rfl⟩ := own_form ou HPp.out
  obtain ⟨hcp, hcm⟩ := row_some4 (row_own ou)
  clear ou lu hps HSp HB1 HL1
  obtain ⟨n, hN⟩ : ∃ n, n = P.length := ⟨_, rfl⟩
  rw [← hN] at hPl hcp HPS ⊢
  have HN := Lib.hid hN
  clear hN
  go_wp2_with fail
  go_loopw [4, 6] (fun o i wr => ∃ (k g c : Nat) (zs : List Rg), k ≤ n ∧ i = .int .i64 k ∧ o = .slice (some ⟨g, 0, none⟩) zs.length c ∧ zs.length = k ∧ Hid (zs = (P.take k).map pF) ∧ Hid (PsS w wr g c zs (.slice (some ⟨gp, 0, none⟩) n cp) P)) (fun _ i _ => n - (RowKit.intOf i).toNat)
  case atStart => exact ⟨0, _, _, [], Nat.zero_le _, rfl, rfl, rfl, Lib.hid rfl, HPS⟩
  case round =>
    clear HPS
    obtain ⟨k, g, c, zs, hk, rfl, rfl, hzl, HZ, HPS⟩ := hrel
    have HZL := Lib.hid hzl
    have hzl2 : zs.length ≤ 121 := by omega
    clear hzl
    by_cases hkn : k < n
    · have hsrc := HPS.out.src
      rw [← HN.out] at hsrc
      have hc1 := strs_cell hsrc hkn
      clear hsrc
      have hmem : P.getD k [] ∈ P := by
        rw [List.getD_eq_getElem?_getD, List.getElem?_eq_getElem (show k < P.length by rw [← HN.out]; exact hkn)]
        exact List.getElem_mem _
      have HMem := Lib.hid hmem
      have hpl := HPs.out k
      have HTk : Hid (P.take (k + 1) = P.take k ++ [P.getD k []]) := Lib.hid (by
        have hkP : k < P.length := by rw [← HN.out]; exact hkn
        rw [List.take_succ_eq_append_getElem hkP, List.getD_eq_getElem?_getD, List.getElem?_eq_getElem hkP]; rfl)
      generalize P.getD k [] = p at hc1 HMem hpl HTk
      clear hmem
      have HSpl := Lib.hid (HS2.out p)
      have hEp := pE_pos p
      have hA := pA_size p
      have hZ := pZ_size p
      have HcA := Lib.hid (fun (W : World) (B g c : Nat) (h : W.ownsRow B 9 1 (.slice (some ⟨g, 0, none⟩) (pE p).length c) (pE p).length ((pE p).map strV)) => (show W.cell? ⟨g, 0, none⟩ = some (.string (txt (pA p))) from strs_cell h hEp))
      have HcZ := Lib.hid (fun (W : World) (B g c : Nat) (h : W.ownsRow B 9 1 (.slice (some ⟨g, 0, none⟩) (pE p).length c) (pE p).length ((pE p).map strV)) => (show W.cell? ⟨g, (pE p).length - 1, none⟩ = some (.string (txt (pZ p))) from strs_cell h (show (pE p).length - 1 < (pE p).length by omega)))
      have HFp : Hid (pF p = (rdN (txt (pA p)), rdN (txt (pZ p)))) := Lib.hid rfl
      have HBp := Lib.hid (HBad.out p HMem.out)
      have HRA := Lib.hid (fun (W : World) => HRd.out (txt (pA p)) W (by omega))
      have HRZ := Lib.hid (fun (W : World) => HRd.out (txt (pZ p)) W (by omega))
      obtain ⟨m, hm⟩ : ∃ m, (pE p).length = m + 1 := ⟨(pE p).length - 1, by omega⟩
      have hm121 : m ≤ 121 := by have := M.parts_len 45 p; have e : (pE p).length = (M.parts 45 p).length := rfl; omega
      rw [hm] at HSpl HcA HcZ
      rw [Nat.add_sub_cancel] at HcZ
      generalize rdN (txt (pA p)) = na at HRA HFp
      generalize rdN (txt (pZ p)) = nz at HRZ HFp
      generalize rdB (txt (pA p)) = ba at HRA HBp
      generalize rdB (txt (pZ p)) = bz at HRZ HBp
      clear hm hEp HMem
      go_wp2_with fail
      refine (HSpl.out _ hpl).mono ?_
      rintro e w3 ⟨ve, rfl, oe, l3⟩
      obtain ⟨ge, ce, rfl⟩ := own_form oe (by omega)
      have hce := (row_some4 (row_own oe)).1
      have HO3 := Lib.hid oe
      have HP3 := Lib.hid (HPS.out.below l3)
      have x0 := HcA.out _ _ _ _ oe
      clear oe l3 HPS hc1 HSpl
      go_wp2_with fail
      refine (HRA.out _).mono ?_
      rintro e w4 ⟨rfl, q4, hq4⟩
      have l4 : Below w3.heap.size w3 w4 := by rw [hq4]; exact bdrew _ _
      have HO4 := Lib.hid (own_below HO3.out l4 (Nat.le_refl _))
      have HP4 := Lib.hid (HP3.out.below l4)
      have x1 := HcZ.out _ _ _ _ HO4.out
      clear hq4 l4 HO3 HP3 x0 HRA
      go_wp2_with fail
      refine (HRZ.out _).mono ?_
      rintro e w5 ⟨rfl, q5, hq5⟩
      have l5 : Below w4.heap.size w4 w5 := by rw [hq5]; exact bdrew _ _
      have HP5 := Lib.hid (HP4.out.below l5)
      clear hq5 l5 HO4 HP4 x1 HRZ
      cases ba with
      | false =>
        obtain ⟨e1, e2⟩ := HBp.out (by simp)
        have HE1 := Lib.hid e1
        have HE2 := Lib.hid e2
        clear e1 e2 HBp
        go_wp2_with fail
        go_ret2
        exact ⟨_, ret_vb5 rfl HE1.out.symm, by rw [HE2.out]; exact lit_none w5 w.heap.size HP5.out.bel.size, HP5.out.bel.alloc HP5.out.bel.size _⟩
      | true =>
        cases bz with
        | false =>
          obtain ⟨e1, e2⟩ := HBp.out (by simp)
          have HE1 := Lib.hid e1
          have HE2 := Lib.hid e2
          clear e1 e2 HBp
          go_wp2_with fail
          go_ret2
          exact ⟨_, ret_vb5 rfl HE1.out.symm, by rw [HE2.out]; exact lit_none w5 w.heap.size HP5.out.bel.size, HP5.out.bel.alloc HP5.out.bel.size _⟩
        | true =>
          have HM7 := Lib.hid (HP5.out.below ((Below.refl _ _).alloc (Nat.le_refl _) (.cells #[.int .i64 na, .int .i64 nz] 47)))
          have HW := Lib.hid (row_lit2 (heap_alloc_new w5 (.cells #[.int .i64 na, .int .i64 nz] 47)))
          go_wp2_with (at_builtin; refine wpList_append_own_at _ rfl _ _ 24 rfl w.heap.size 47 i0 (.agg #[.int .i64 0, .int .i64 0]) 2 16 Tryz.underlying24 hi hz0 hz1 hz2 rfl (by decide) _ zs.length (rgF zs) rfl HM7.out.own ⟨w5.heap.size, 0, none⟩ 1 1 [.int .i64 na, .int .i64 nz] (by first | rfl | simp) rfl (row_news HW.out) (two_one5 _ _) (by unfold maxLen; omega) (by omega) HM7.out.bel.size ?_; intro v' w6 hown' hgrow hiff hblk; obtain ⟨zs5, hz5⟩ : ∃ z, z = zs ++ [(na, nz)] := ⟨_, rfl⟩; obtain ⟨g5, c5, rfl, hs5⟩ := HM7.out.app hz5 hown' hgrow hblk; have HS5 := Lib.hid hs5; have HZ5 := Lib.hid hz5; clear hown' hgrow hs5 hz5 hiff hblk)
          go_roundw
          case rel => exact ⟨k + 1, g5, c5, zs5, by omega, by go_num, rfl, by rw [HZ5.out, List.length_append, HZL.out]; rfl, Lib.hid (by rw [HTk.out, List.map_append, List.map_singleton, ← HZ.out, HFp.out]; exact HZ5.out), HS5⟩
          case measure => (simp [RowKit.intOf]; omega)
    · obtain rfl : k = n := by omega
      have hzz : zs = P.map pF := by rw [HZ.out, List.take_of_length_le (by rw [← HN.out]; exact Nat.le_refl _)]
      obtain ⟨e1, e2, e3⟩ := HEnd.out zs hzz
      have HE1 := Lib.hid e1
      have HE2 := Lib.hid e2
      have HE3 := Lib.hid e3
      have HG := Lib.hid (l5Good_any (.slice (some ⟨g, 0, none⟩) zs.length c) zs wr (rowz_own HPS.out.own))
      have HX := Lib.hid (fun (h : rgOk zs = true) (W : World) hr => l5Text_any (.slice (some ⟨g, 0, none⟩) zs.length c) zs W hr (rgOk_parts h).2 (rgOk_parts h).1.2)
      clear hzz e1 e2 e3 HEnd HZ
      generalize rgOk zs = b at HG HE1 HE2 HX
      cases b with
      | false =>
        obtain ⟨e1, e2⟩ := HE2.out rfl
        have HF1 := Lib.hid e1
        have HF2 := Lib.hid e2
        clear e1 e2 HE1 HE2 HE3 HX
        go_wp2_with fail
        refine HG.out.mono ?_
        rintro e w8 ⟨rfl, q8, hq8⟩
        have HP8 : Hid (Below w.heap.size w w8) := Lib.hid (by rw [hq8]; exact HPS.out.bel.trans ((bdrew _ _).mono HPS.out.bel.size))
        clear hq8 HG
        go_wp2_with fail
        go_ret2
        exact ⟨_, ret_vb5 rfl HF1.out.symm, by rw [HF2.out]; exact lit_none w8 w.heap.size HP8.out.size, HP8.out.alloc HP8.out.size _⟩
      | true =>
        have HX2 := Lib.hid (HX.out rfl)
        by_cases ht : textB zs = s
        · obtain ⟨e1, e2⟩ := HE1.out rfl ht
          rw [ht] at HX2
          have HF1 := Lib.hid e1
          have HF2 := Lib.hid e2
          clear e1 e2 HE1 HE2 HE3 HX ht
          go_wp2_with fail
          refine HG.out.mono ?_
          rintro e w8 ⟨rfl, q8, hq8⟩
          have l8 : Below wr.heap.size wr w8 := by rw [hq8]; exact bdrew _ _
          have HP8 := Lib.hid (HPS.out.below l8)
          clear hq8 HG l8
          go_wp2_with fail
          refine (HX2.out _ (rowz_own HP8.out.own)).mono ?_
          rintro e w9 ⟨rfl, q9, hq9⟩
          have l9 : Below w8.heap.size w8 w9 := by rw [hq9]; exact bdrew _ _
          have HP9 := Lib.hid (HP8.out.below l9)
          clear hq9 l9 HX2
          go_wp2_with fail
          go_ret2
          exact ⟨_, ret_vb5 rfl HF1.out.symm, by rw [HF2.out]; exact HP9.out.own, HP9.out.bel⟩
        · obtain ⟨e1, e2⟩ := HE3.out ht
          have hts : ((textB zs).toList == s.toList) = false := list_ne5 ht
          have HF1 := Lib.hid e1
          have HF2 := Lib.hid e2
          clear e1 e2 HE1 HE2 HE3 HX ht
          go_wp2_with fail
          refine HG.out.mono ?_
          rintro e w8 ⟨rfl, q8, hq8⟩
          have l8 : Below wr.heap.size wr w8 := by rw [hq8]; exact bdrew _ _
          have HP8 := Lib.hid (HPS.out.below l8)
          clear hq8 HG l8
          go_wp2_with fail
          refine (HX2.out _ (rowz_own HP8.out.own)).mono ?_
          rintro e w9 ⟨rfl, q9, hq9⟩
          have l9 : Below w8.heap.size w8 w9 := by rw [hq9]; exact bdrew _ _
          have HP9 := Lib.hid (HP8.out.below l9)
          clear hq9 l9 HX2
          go_wp2_with fail
          go_ret2
          exact ⟨_, ret_vb5 rfl HF1.out.symm, by rw [HF2.out]; exact lit_none w9 w.heap.size HP9.out.bel.size, HP9.out.bel.alloc HP9.out.bel.size _⟩
end Go.Proofs.YtneimcacpbepfaaGreatDoor
