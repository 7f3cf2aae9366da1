/-
  Trees: the specification's reading of a tree's text.
-/
import Derived.Test.YtejdphfcogfcmaaGreatDoorTree6
import Derived.Test.YtejdphfcogfcmaaGreatDoorTreeS
import Derived.Test.YtejdphfcogfcmaaGreatDoorRdV
namespace Go.Proofs.YtejdphfcogfcmaaGreatDoor
open Go.RowKit Go.Lib Go.Joins
set_option linter.unusedVariables false

theorem list_ne6 {a b : ByteArray} (h : a ≠ b) : (a.toList == b.toList) = false := by
  rw [beq_eq_false_iff_ne, ByteArray.toList_eq, ByteArray.toList_eq]
  intro e
  exact h (ByteArray.ext (Array.toList_inj.1 e))
/-- The number of a word. -/
noncomputable def rN6 (l : List UInt8) : Int := rdN (txt l)
theorem rN6_itoa {x : Int} (h0 : 0 ≤ x) (h1 : x ≤ 6) : rdB (txt (Lib.itoa x)) = true ∧ rN6 (Lib.itoa x) = x := by
  have := rd_yes (s := txt (Lib.itoa x)) (m := x) ⟨by omega, by omega⟩ (by rw [txt_data])
  exact ⟨this.1, this.2⟩
theorem pt_comp {s : ByteArray} {p : List Int} (h : IsTree s p) : (∀ q ∈ M.parts 32 s.data.toList, rdB (txt q) = true) ∧ [-1] ++ (M.parts 32 s.data.toList).map rN6 = p := by
  obtain ⟨hw, hp⟩ := tree_words h
  obtain ⟨q, rfl, _, _, vq⟩ := tree_form h.1
  rw [hw]
  refine ⟨fun r hr => ?_, ?_⟩
  · obtain ⟨x, hx, rfl⟩ := List.mem_map.1 hr
    exact (rN6_itoa (vq x hx).1 (vq x hx).2).1
  · rw [List.map_map]
    have : ∀ l : List Int, (∀ x ∈ l, 0 ≤ x ∧ x ≤ 6) → l.map (rN6 ∘ Lib.itoa) = l := by
      intro l
      induction l with
      | nil => intro _; rfl
      | cons r l ih =>
        intro hv
        obtain ⟨h1, h2⟩ := hv r (List.mem_cons_self ..)
        rw [List.map_cons, ih (fun q hq => hv q (List.mem_cons_of_mem _ hq))]
        show rN6 (Lib.itoa r) :: l = _
        rw [(rN6_itoa h1 h2).2]
    show -1 :: ((-1 :: q).tail.map (rN6 ∘ Lib.itoa)) = -1 :: q
    rw [show (-1 :: q).tail = q from rfl, this q vq]
theorem pt_long {s : ByteArray} (h : 40 < s.size) : ptB s = false ∧ ptL s = [] := pt_no (fun p hp => by
  have := treeB_size14 hp.1
  rw [hp.2] at this
  omega)
theorem pt_bad {s : ByteArray} {q : List UInt8} (hq : q ∈ M.parts 32 s.data.toList) (h : rdB (txt q) = false) : ptB s = false ∧ ptL s = [] :=
  pt_no (fun p hp => by rw [(pt_comp hp).1 q hq] at h; cases h)
theorem pt_end {s : ByteArray} {zs : List Int} (hz : zs = [-1] ++ (M.parts 32 s.data.toList).map rN6) :
    (trOk zs = true → treeB zs = s → ptB s = true ∧ ptL s = zs) ∧ (trOk zs = false → ptB s = false ∧ ptL s = []) ∧ (treeB zs ≠ s → ptB s = false ∧ ptL s = []) := by
  have hc : ∀ p, IsTree s p → p = zs := fun p hp => by rw [hz, (pt_comp hp).2]
  exact ⟨fun h1 h2 => pt_yes ⟨h1, h2⟩, fun h => pt_no (fun p hp => by have e := hc p hp; subst e; rw [hp.1] at h; cases h), fun h => pt_no (fun p hp => by have e := hc p hp; subst e; exact h hp.2)⟩
theorem results_tr2 {fn : Func} {p u : Tmp} (h : fn.results = #[.cell p 26, .tmp u]) (tmps : Array Value) (w : World) (g : Nat) {v : Value} (hp : tmps.getD p undef = .pointer (some ⟨g, 0, none⟩)) {b : Bool} (hu : tmps.getD u undef = .bool b) (hg : Bx w g v 26) :
    (results fn tmps).run Tryz.prog w = .ok (.tuple #[.agg #[v], .bool b]) w := by
  rw [results_cell_tmp h, hu]
  have hp' : tmps[p]?.getD undef = .pointer (some ⟨g, 0, none⟩) := by simpa using hp
  simp [asAddr, hp', Result.andThen, run_loadVar_row w g 26 26 _ _ _ hg Tryz.underlying26 (by rfl) (by kernel_rfl)]
/-- What the walk that reads has: the result's box, the tree's box and list, the words. -/
structure PtS (W0 wr : World) (R2 Rt g c : Nat) (zs : List Int) (u : Value) (P : List (List UInt8)) : Prop where
  res : Bx wr R2 (.slice none 0 0) 26
  box : Bx wr Rt (.slice (some ⟨g, 0, none⟩) zs.length c) 26
  own : wr.ownsRow W0.heap.size 3 1 (.slice (some ⟨g, 0, none⟩) zs.length c) zs.length (zs.map (Value.int .i64))
  src : wr.ownsRow W0.heap.size 9 1 u P.length (P.map strV)
  ne : ∀ k, u.ownBlock = some k → k ≠ g ∧ k ≠ R2 ∧ k ≠ Rt
  g2 : g ≠ R2 ∧ g ≠ Rt ∧ R2 ≠ Rt
  lo : W0.heap.size ≤ R2 ∧ W0.heap.size ≤ Rt
  bel : Below W0.heap.size W0 wr
theorem PtS.below {W0 wr w1 : World} {R2 Rt g c : Nat} {zs : List Int} {u : Value} {P : List (List UInt8)} (h : PtS W0 wr R2 Rt g c zs u P) (l : Below wr.heap.size wr w1) : PtS W0 w1 R2 Rt g c zs u P :=
  ⟨h.res.below l h.res.lt, h.box.below l h.box.lt, own_below h.own l (Nat.le_refl _), own_below h.src l (Nat.le_refl _), h.ne, h.g2, h.lo, h.bel.trans (l.mono h.bel.size)⟩
theorem PtS.app {W0 wr w1 : World} {R2 Rt g c : Nat} {zs zs5 : List Int} {u v' : Value} {P : List (List UInt8)} {x : Int} {o : Obj} (h : PtS W0 wr R2 Rt g c zs u P) (hz : zs5 = zs ++ [x])
    (ho : w1.ownsRow W0.heap.size 3 1 v' (zs.length + 1) (zs.map (Value.int .i64) ++ [.int .i64 x])) (hg : (wr.alloc o).grownBy w1 (some g)) (hb : v'.ownBlock = some g ∨ v'.ownBlock = some (wr.alloc o).heap.size) :
    ∃ g' c', v' = .slice (some ⟨g', 0, none⟩) zs5.length c' ∧ Bx w1 Rt (.slice (some ⟨g, 0, none⟩) zs.length c) 26 ∧ PtS W0 (w1.setCell ⟨Rt, 0, none⟩ (.slice (some ⟨g', 0, none⟩) zs5.length c')) R2 Rt g' c' zs5 u P := by
  subst hz
  obtain ⟨g', c', rfl⟩ := own_form ho (by omega)
  have e : (zs ++ [x]).length = zs.length + 1 := by simp
  have hgr : wr.grownBy w1 (some g) := grown_trans (World.grownBy_alloc wr o _) hg
  have hbx := h.box.grown hgr (fun e => h.g2.2.1 (Option.some.inj e).symm)
  have hrs := h.res.grown hgr (fun e => h.g2.1 (Option.some.inj e).symm)
  have hsz : (wr.alloc o).heap.size = wr.heap.size + 1 := by simp
  have hgk : W0.heap.size ≤ g := (h.own.lt g rfl).1
  have hne : ∀ k, u.ownBlock = some k → k ≠ g' := fun k hk => by
    rcases hb with hb | hb
    · have : g' = g := Option.some.inj hb
      rw [this]; exact (h.ne k hk).1
    · have e2 : g' = (wr.alloc o).heap.size := Option.some.inj hb
      have := (h.src.lt k hk).2
      omega
  have hg2 : g' ≠ R2 ∧ g' ≠ Rt := by
    rcases hb with hb | hb
    · have : g' = g := Option.some.inj hb
      rw [this]; exact ⟨h.g2.1, h.g2.2.1⟩
    · have e2 : g' = (wr.alloc o).heap.size := Option.some.inj hb
      have := h.res.lt
      have := h.box.lt
      omega
  obtain ⟨p1, q1⟩ := hbx.put (.slice (some ⟨g', 0, none⟩) (zs ++ [x]).length c')
  refine ⟨g', c', by rw [e], hbx, ⟨hrs.grown q1 (fun e => h.g2.2.2 (Option.some.inj e)), p1, ?_, ?_, fun k hk => ⟨hne k hk, (h.ne k hk).2⟩, ⟨hg2.1, hg2.2, h.g2.2.2⟩, h.lo, ?_⟩⟩
  · have h2 := ho.kept q1 (.inr (fun e => hg2.2 (Option.some.inj e)))
    rw [← e] at h2
    rw [List.map_append, List.map_singleton]
    exact h2
  · have h1 : w1.ownsRow W0.heap.size 9 1 u P.length (P.map strV) := by
      refine h.src.kept hgr ?_
      cases hv : u.ownBlock with
      | none => exact .inl rfl
      | some k => exact .inr (fun e2 => (h.ne k hv).1 (Option.some.inj e2))
    refine h1.kept q1 ?_
    cases hv : u.ownBlock with
    | none => exact .inl rfl
    | some k => exact .inr (fun e2 => (h.ne k hv).2.2 (Option.some.inj e2))
  · have hb1 := h.bel.grown hgr h.bel.size (fun k hk => by have e2 : g = k := Option.some.inj hk; omega)
    exact hb1.grown q1 hb1.size (fun k hk => by have e2 : Rt = k := Option.some.inj hk; have := h.lo.2; omega)
/-- The result's box, stored into at the end. -/
theorem PtS.ret {W0 wr : World} {R2 Rt g c : Nat} {zs : List Int} {u : Value} {P : List (List UInt8)} (h : PtS W0 wr R2 Rt g c zs u P) (v : Value) :
    Bx (wr.setCell ⟨R2, 0, none⟩ v) R2 v 26 ∧ Below W0.heap.size W0 (wr.setCell ⟨R2, 0, none⟩ v) ∧ (wr.setCell ⟨R2, 0, none⟩ v).ownsRow W0.heap.size 3 1 (.slice (some ⟨g, 0, none⟩) zs.length c) zs.length (zs.map (Value.int .i64)) := by
  obtain ⟨p1, q1⟩ := h.res.put v
  exact ⟨p1, h.bel.grown q1 h.bel.size (fun k hk => by have e2 : R2 = k := Option.some.inj hk; have := h.lo.1; omega), h.own.kept q1 (.inr (fun e => h.g2.1 (Option.some.inj e)))⟩
theorem own_nil6 (w : World) (B : Nat) : w.ownsRow B 3 1 (.slice none 0 0) ([] : List Int).length (([] : List Int).map (Value.int .i64)) := ⟨by simp, .inl ⟨rfl, rfl⟩⟩
theorem ret_tr {v : Value} {a b : Bool} (h : a = b) : Ending.returned (.tuple #[.agg #[v], .bool a]) = .returned (.tuple #[.agg #[v], .bool b]) := by rw [h]
theorem own_some6 {w : World} {base n : Nat} {e : TypeId} {v : Value} {xs : List Value} (h : w.ownsRow base e 1 v n xs) : ∃ a cap, v = .slice a n cap ∧ n ≤ cap ∧ cap ≤ maxLen := by
  obtain ⟨a, cap, rfl, h1, h2, _⟩ := row_own h
  exact ⟨a, cap, rfl, h1, h2⟩
set_option maxRecDepth 100000 in
set_option maxHeartbeats 4000000 in
theorem l6Parse_any (s : ByteArray) (w : World) (hs : s.size ≤ 1048576) :
    Calls Tryz.prog 30 #[.string s] w fun e w' => ∃ v', e = .returned (.tuple #[.agg #[v'], .bool (ptB s)]) ∧ w'.ownsRow w.heap.size 3 1 v' (ptL s).length ((ptL s).map (Value.int .i64)) ∧ Below w.heap.size w w' := by
  obtain ⟨i0, hi, hz0, hz1, hz2⟩ := info_parts infoInt
  obtain ⟨W3, hW3⟩ : ∃ W, W = ((w.alloc (.cells #[.slice none 0 0] 26)).alloc (.cells #[.int .i64 (-1)] 3)).alloc (.cells #[.slice (some ⟨w.heap.size + 1, 0, none⟩) 1 1] 26) := ⟨_, rfl⟩
  have HSp : Hid (∀ W : World, Calls Tryz.prog 47 #[.string s, .int .u8 32] W fun e w' => ∃ v, e = .returned v ∧ w'.ownsRow W.heap.size 9 1 v (M.parts 32 s.data.toList).length ((M.parts 32 s.data.toList).map strV) ∧ Below W.heap.size W w') := Lib.hid (fun W => l1Split_any s 32 hs W)
  have HS3 : Hid (∀ (W4 : World) (u : Value) (P : List (List UInt8)), Below W3.heap.size W3 W4 → W4.ownsRow W3.heap.size 9 1 u P.length (P.map strV) → PtS w W4 w.heap.size (w.heap.size + 1 + 1) (w.heap.size + 1) 1 [-1] u P) := Lib.hid (by
    intro W4 u P l4 ou
    have hs3 : W3.heap.size = w.heap.size + 3 := by rw [hW3]; simp
    have h1 : Bx W3 w.heap.size (.slice none 0 0) 26 := by
      rw [hW3]
      exact ((Bx.new w (.slice none 0 0) 26).grown (World.grownBy_alloc _ _ none) (by simp)).grown (World.grownBy_alloc _ _ none) (by simp)
    have h2 : Bx W3 (w.heap.size + 1 + 1) (.slice (some ⟨w.heap.size + 1, 0, none⟩) ([-1] : List Int).length 1) 26 := by
      rw [hW3]
      have := Bx.new ((w.alloc (.cells #[.slice none 0 0] 26)).alloc (.cells #[.int .i64 (-1)] 3)) (.slice (some ⟨w.heap.size + 1, 0, none⟩) 1 1) 26
      rw [World.size_alloc, World.size_alloc] at this
      exact this
    have h3 : W3.ownsRow w.heap.size 3 1 (.slice (some ⟨w.heap.size + 1, 0, none⟩) ([-1] : List Int).length 1) ([-1] : List Int).length (([-1] : List Int).map (Value.int .i64)) := by
      rw [hW3]
      have h := own_made (w.alloc (.cells #[.slice none 0 0] 26)) [.int .i64 (-1)] 3 1 rfl (by decide)
      rw [World.size_alloc] at h
      exact own_base (own_grown h (World.grownBy_alloc _ _ none)) (by omega)
    have h4 : Below w.heap.size w W3 := by
      rw [hW3]
      exact (((Below.refl w.heap.size w).alloc (Nat.le_refl _) _).alloc (by simp) _).alloc (by simp; omega) _
    refine ⟨h1.below l4 (by omega), h2.below l4 (by omega), own_below h3 l4 (Nat.le_refl _), own_base ou (by omega), fun k hk => ?_, ⟨by omega, by omega, by omega⟩, ⟨Nat.le_refl _, by omega⟩, h4.trans (l4.mono h4.size)⟩
    have := (ou.lt k hk).1
    omega)
  have HW3 := Lib.hid hW3
  clear hW3
  by_cases h40 : 40 < s.size
  · have h40' : (40 : Int) < (s.size : Int) := by omega
    obtain ⟨e1, e2⟩ := pt_long h40
    have HE1 := Lib.hid e1
    have HE2 := Lib.hid e2
    clear e1 e2
    go_enter Tryz.func30, Tryz.ntmps30
    go_upto_region 2 with fail
    rw [← HW3.out]
    go_wp2_with fail
    refine (HSp.out _).mono ?_
    rintro e W4 ⟨u, rfl, ou, l4⟩
    have HP := Lib.hid (HS3.out W4 u _ l4 ou)
    clear ou l4 HS3
    have hx := HP.out.res.cell
    have fx := HP.out.res.free
    go_wp2_with fail
    obtain ⟨p1, p2, _⟩ := HP.out.ret (.slice none 0 0)
    refine bodyPost_ret (results_tr2 rfl _ _ w.heap.size rfl rfl p1) rfl ⟨_, ret_tr HE1.out.symm, by rw [HE2.out]; exact own_nil6 _ _, p2⟩
  have h40' : ¬ (40 : Int) < (s.size : Int) := by omega
  have hPl : (M.parts 32 s.data.toList).length ≤ 41 := by
    have := M.parts_len 32 s.data.toList
    have e : s.data.toList.length = s.size := by simp
    omega
  have HPs := Lib.hid (fun (k : Nat) => (show ((M.parts 32 s.data.toList).getD k []).length ≤ 40 by
    have := parts_size 32 s.data.toList k
    have e : s.data.toList.length = s.size := by simp
    omega))
  have HPp : Hid (0 < (M.parts 32 s.data.toList).length) := Lib.hid (List.length_pos_iff.2 (M.parts_ne 32 _))
  have HBad := Lib.hid (fun (q : List UInt8) hq h => pt_bad (s := s) (q := q) hq h)
  have HEnd := Lib.hid (fun (zs : List Int) hz => pt_end (s := s) (zs := zs) hz)
  have HRd : Hid (∀ (x : ByteArray) (w : World), x.size ≤ 40 → Calls Tryz.prog 48 #[.string x] w fun e w' => e = .returned (.tuple #[.int .i64 (rdN x), .bool (rdB x)]) ∧ ∃ k, w' = w.drewN k) := Lib.hid (fun x w hl => l1ReadV_any x (by unfold maxLen; omega) w)
  generalize M.parts 32 s.data.toList = P at HSp hPl HPs HPp HBad HEnd
  clear hs h40
  go_enter Tryz.func30, Tryz.ntmps30
  go_upto_region 2 with fail
  rw [← HW3.out]
  go_wp2_with fail
  refine (HSp.out _).mono ?_
  rintro e W4 ⟨u, rfl, ou, l4⟩
  have HP4 := Lib.hid (HS3.out W4 u _ l4 ou)
  obtain ⟨gp, cp, rfl⟩ := own_form ou HPp.out
  obtain ⟨hcp, hcm⟩ := row_some4 (row_own ou)
  unfold maxLen at hcm
  clear ou l4 HS3 HW3 HSp
  obtain ⟨R2, hR2⟩ : ∃ R, R = w.heap.size := ⟨_, rfl⟩
  obtain ⟨Rt, hRt⟩ : ∃ R, R = w.heap.size + 1 + 1 := ⟨_, rfl⟩
  rw [← hRt, ← hR2] at HP4
  have HR2 := Lib.hid hR2
  have HRt := Lib.hid hRt
  rw [← hRt, ← hR2]
  obtain ⟨n, hN⟩ : ∃ n, n = P.length := ⟨_, rfl⟩
  rw [← hN] at hPl hcp HP4 ⊢
  have HN := Lib.hid hN
  clear hN hR2 hRt
  go_wp2_with fail
  go_loopw [6] (fun i wr => ∃ (k g c : Nat) (zs : List Int), k ≤ n ∧ i = .int .i64 k ∧ zs.length = k + 1 ∧ Hid (zs = [-1] ++ (P.take k).map rN6) ∧ Hid (PtS w wr R2 Rt g c zs (.slice (some ⟨gp, 0, none⟩) n cp) P)) (fun i _ => n - (RowKit.intOf i).toNat)
  case atStart => exact ⟨0, _, _, [-1], Nat.zero_le _, rfl, rfl, Lib.hid rfl, HP4⟩
  case round =>
    clear HP4
    obtain ⟨k, g, c, zs, hk, rfl, hzl, HZ, HPS⟩ := hrel
    have HZL := Lib.hid hzl
    have hzl2 : zs.length ≤ 42 := by omega
    clear hzl
    by_cases hkn : k < n
    · have hsrc := HPS.out.src
      rw [← HN.out] at hsrc
      have hc1 := strs_cell hsrc hkn
      have hmem : P.getD k [] ∈ P := by
        rw [List.getD_eq_getElem?_getD, List.getElem?_eq_getElem (show k < P.length by rw [← HN.out]; exact hkn)]
        exact List.getElem_mem _
      have hpl := HPs.out k
      have HTk : Hid (P.take (k + 1) = P.take k ++ [P.getD k []]) := Lib.hid (by
        have hkP : k < P.length := by rw [← HN.out]; exact hkn
        rw [List.take_succ_eq_append_getElem hkP, List.getD_eq_getElem?_getD, List.getElem?_eq_getElem hkP]; rfl)
      have HBq := Lib.hid (HBad.out (P.getD k []) hmem)
      clear hsrc hmem
      generalize P.getD k [] = q at hc1 HBq hpl HTk
      have HRA := Lib.hid (fun (W : World) => HRd.out (txt q) W (by rw [txt_size]; exact hpl))
      have HFq : Hid (rN6 q = rdN (txt q)) := Lib.hid rfl
      generalize rdN (txt q) = na at HRA HFq
      generalize rdB (txt q) = ba at HRA HBq
      go_wp2_with fail
      refine (HRA.out _).mono ?_
      rintro e w5 ⟨rfl, q5, hq5⟩
      have l5 : Below wr.heap.size wr w5 := by rw [hq5]; exact bdrew _ _
      have HP5 := Lib.hid (HPS.out.below l5)
      clear hq5 l5 HPS HRA hc1
      cases ba with
      | false =>
        obtain ⟨e1, e2⟩ := HBq.out rfl
        have HE1 := Lib.hid e1
        have HE2 := Lib.hid e2
        clear e1 e2 HBq
        have hx := HP5.out.res.cell
        have fx := HP5.out.res.free
        go_wp2_with fail
        obtain ⟨p1, p2, _⟩ := HP5.out.ret (.slice none 0 0)
        refine bodyPost_ret (results_tr2 rfl _ _ R2 rfl rfl p1) rfl ⟨_, ret_tr HE1.out.symm, by rw [HE2.out]; exact own_nil6 _ _, p2⟩
      | true =>
        clear HBq
        have hx := HP5.out.box.cell
        have hws := HP5.out.bel.size
        go_wp2_with (at_builtin; refine wpList_append_own_at _ rfl _ _ 24 rfl w.heap.size 3 i0 (.int .i64 0) 1 8 Tryz.underlying24 hi hz0 hz1 hz2 rfl (by decide) _ zs.length (zs.map (Value.int .i64)) rfl (HP5.out.own.alloc _) ⟨w5.heap.size, 0, none⟩ 1 1 [.int .i64 na] rfl rfl (cell_one_new _ _ _) (by intro u hu; simp at hu; subst hu; rfl) (by unfold maxLen; omega) (by omega) (by simp; omega) ?_; intro v' w6 hown' hgrow hiff hblk; obtain ⟨zs5, hz5⟩ : ∃ z, z = zs ++ [na] := ⟨_, rfl⟩; obtain ⟨g5, c5, rfl, hbx, hs5⟩ := HP5.out.app hz5 hown' hgrow hblk; have hy := hbx.cell; have fy := hbx.free; have HS5 := Lib.hid hs5; have HZ5 := Lib.hid hz5; clear hown' hgrow hs5 hz5 hiff hblk hbx)
        go_roundw
        case rel => exact ⟨k + 1, g5, c5, zs5, by omega, by go_num, by rw [HZ5.out, List.length_append, HZL.out]; rfl, Lib.hid (by rw [HTk.out, List.map_append, List.map_singleton, HFq.out, HZ5.out, HZ.out]; simp), HS5⟩
        case measure => (simp [RowKit.intOf]; omega)
    · obtain rfl : k = n := by omega
      have hzz : zs = [-1] ++ P.map rN6 := by rw [HZ.out, List.take_of_length_le (by rw [← HN.out]; exact Nat.le_refl _)]
      obtain ⟨e1, e2, e3⟩ := HEnd.out zs hzz
      have HE1 := Lib.hid e1
      have HE2 := Lib.hid e2
      have HE3 := Lib.hid e3
      have HG := Lib.hid (l6Good_any (.slice (some ⟨g, 0, none⟩) zs.length c) zs wr (row_own HPS.out.own))
      have HX := Lib.hid (fun (h : trOk zs = true) (W : World) hr => l6Text_any (.slice (some ⟨g, 0, none⟩) zs.length c) zs W hr h)
      have hx := HPS.out.box.cell
      clear hzz e1 e2 e3 HEnd HZ
      generalize trOk zs = b at HG HE1 HE2 HX
      cases b with
      | false =>
        obtain ⟨e1, e2⟩ := HE2.out rfl
        have HF1 := Lib.hid e1
        have HF2 := Lib.hid e2
        clear e1 e2 HE1 HE2 HE3 HX
        go_wp2_with fail
        refine HG.out.mono ?_
        rintro e w8 ⟨rfl, l8⟩
        have HP8 := Lib.hid (HPS.out.below l8)
        clear l8 HG hx
        have hx := HP8.out.res.cell
        have fx := HP8.out.res.free
        go_wp2_with fail
        obtain ⟨p1, p2, _⟩ := HP8.out.ret (.slice none 0 0)
        refine bodyPost_ret (results_tr2 rfl _ _ R2 rfl rfl p1) rfl ⟨_, ret_tr HF1.out.symm, by rw [HF2.out]; exact own_nil6 _ _, p2⟩
      | true =>
        have HX2 := Lib.hid (HX.out rfl)
        by_cases ht : treeB zs = s
        · obtain ⟨e1, e2⟩ := HE1.out rfl ht
          rw [ht] at HX2
          have HF1 := Lib.hid e1
          have HF2 := Lib.hid e2
          clear e1 e2 HE1 HE2 HE3 HX ht
          go_wp2_with fail
          refine HG.out.mono ?_
          rintro e w8 ⟨rfl, l8⟩
          have HP8 := Lib.hid (HPS.out.below l8)
          clear l8 HG hx
          have hx := HP8.out.box.cell
          go_wp2_with fail
          refine (HX2.out _ (row_own HP8.out.own)).mono ?_
          rintro e w9 ⟨rfl, l9⟩
          have HP9 := Lib.hid (HP8.out.below l9)
          clear l9 HX2 hx
          have hx := HP9.out.box.cell
          have hy := HP9.out.res.cell
          have fy := HP9.out.res.free
          go_wp2_with fail
          obtain ⟨p1, p2, p3⟩ := HP9.out.ret (.slice (some ⟨g, 0, none⟩) zs.length c)
          refine bodyPost_ret (results_tr2 rfl _ _ R2 rfl rfl p1) rfl ⟨_, ret_tr HF1.out.symm, by rw [HF2.out]; exact p3, p2⟩
        · obtain ⟨e1, e2⟩ := HE3.out ht
          have hts : ((treeB zs).toList == s.toList) = false := list_ne6 ht
          have HF1 := Lib.hid e1
          have HF2 := Lib.hid e2
          clear e1 e2 HE1 HE2 HE3 HX ht
          go_wp2_with fail
          refine HG.out.mono ?_
          rintro e w8 ⟨rfl, l8⟩
          have HP8 := Lib.hid (HPS.out.below l8)
          clear l8 HG hx
          have hx := HP8.out.box.cell
          go_wp2_with fail
          refine (HX2.out _ (row_own HP8.out.own)).mono ?_
          rintro e w9 ⟨rfl, l9⟩
          have HP9 := Lib.hid (HP8.out.below l9)
          clear l9 HX2 hx
          have hy := HP9.out.res.cell
          have fy := HP9.out.res.free
          go_wp2_with fail
          obtain ⟨p1, p2, _⟩ := HP9.out.ret (.slice none 0 0)
          refine bodyPost_ret (results_tr2 rfl _ _ R2 rfl rfl p1) rfl ⟨_, ret_tr HF1.out.symm, by rw [HF2.out]; exact own_nil6 _ _, p2⟩
set_option maxHeartbeats 1000000 in
theorem specParseTree_any (s : ByteArray) (w : World) (hs : s.size ≤ 1048576) :
    Calls Tryz.prog 12 #[.string s] w fun e w' => ∃ v', e = .returned (.tuple #[.agg #[v'], .bool (ptB s)]) ∧ w'.ownsRow w.heap.size 3 1 v' (ptL s).length ((ptL s).map (Value.int .i64)) ∧ Below w.heap.size w w' := by
  obtain ⟨W1, hW1⟩ : ∃ W, W = w.alloc (.cells #[.slice none 0 0] 26) := ⟨_, rfl⟩
  have HA : Hid (Bx W1 w.heap.size (.slice none 0 0) 26) := Lib.hid (by rw [hW1]; exact Bx.new w _ _)
  have HB : Hid (Below w.heap.size w W1) := Lib.hid (by rw [hW1]; exact (Below.refl w.heap.size w).alloc (Nat.le_refl _) _)
  have hs1 : W1.heap.size = w.heap.size + 1 := by rw [hW1]; simp
  have HS1 := Lib.hid hs1
  have HW := Lib.hid hW1
  have HC := Lib.hid (l6Parse_any s W1 hs)
  generalize ptB s = ok at HC ⊢
  generalize ptL s = L at HC ⊢
  clear hW1 hs1 hs
  go_enter Tryz.func12, Tryz.ntmps12
  go_upto_region 1 with fail
  rw [← HW.out]
  go_wp2_with fail
  refine HC.out.mono ?_
  rintro e W2 ⟨v2, rfl, o2, l2⟩
  have HA2 := Lib.hid (HA.out.below l2 HA.out.lt)
  have HO2 := Lib.hid o2
  have HB2 := Lib.hid (HB.out.trans (l2.mono HB.out.size))
  obtain ⟨a2, c2, rfl, _, _⟩ := own_some6 o2
  clear o2 l2 HC HA HB HW
  have hx := HA2.out.cell
  have fx := HA2.out.free
  go_wp2_with fail
  obtain ⟨p1, q1⟩ := HA2.out.put (.slice a2 L.length c2)
  have hsz := HS1.out
  refine bodyPost_ret (results_tr2 rfl _ _ w.heap.size rfl rfl p1) rfl ⟨_, rfl, ?_, ?_⟩
  · refine own_base (HO2.out.kept q1 ?_) (by omega)
    cases hv : (Value.slice a2 L.length c2).ownBlock with
    | none => exact .inl rfl
    | some k => exact .inr (fun e => by have := (HO2.out.lt k hv).1; have e2 : k = w.heap.size := Option.some.inj e; omega)
  · exact HB2.out.grown q1 HB2.out.size (fun k hk => by have e2 : w.heap.size = k := Option.some.inj hk; omega)
end Go.Proofs.YtejdphfcogfcmaaGreatDoor
