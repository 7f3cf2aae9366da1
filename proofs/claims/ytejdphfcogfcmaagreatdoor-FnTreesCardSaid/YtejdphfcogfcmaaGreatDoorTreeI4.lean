/-
  Trees: the program's AddLeaf.
-/
import Derived.Test.YtejdphfcogfcmaaGreatDoorTreeI2
import Derived.Test.YtejdphfcogfcmaaGreatDoorTree8
import Derived.Lib.SliceRun
namespace Go.Proofs.YtejdphfcogfcmaaGreatDoor
open Go.RowKit Go.Lib Go.Joins
set_option linter.unusedVariables false

theorem leafL_len8 (p : List Int) (x : Int) (h : p.length ≤ 1048576) : (leafL p x).length ≤ 2000000 := by
  unfold leafL okL
  split
  · simp; omega
  · simp
set_option maxRecDepth 100000 in
set_option maxHeartbeats 1000000 in
theorem clone_any (ad : Addr) (cap : Nat) (xs : List Int) (w : World) (hrow : Row w (.slice (some ad) xs.length cap) xs.length (xs.map (Value.int .i64))) (hl : xs.length ≤ 1000) (h0 : 0 < xs.length) :
    Calls Tryz.prog 33 #[.slice (some ad) xs.length cap] w fun e w' => ∃ g c, e = .returned (.slice (some ⟨g, 0, none⟩) xs.length c) ∧ OutI w w' g c xs := by
  obtain ⟨i0, hi, hz0, hz1, hz2⟩ := info_parts infoInt
  have HR := Lib.hid (hrow.below ((Below.refl w.heap.size w).alloc (Nat.le_refl _) (.cells #[] 3)) (Nat.le_refl _))
  clear hrow
  have hnil : ∀ W : World, (binOp .eql 24 (.slice (some ad) xs.length cap) (.slice none 0 0)).run Tryz.prog W = .ok (.bool false) W := fun W => Go.Lib.run_eql_slice_nil (P := Tryz.prog) W 24 3 (some ad) xs.length cap 0 0 Tryz.underlying24
  go_enter Tryz.func33, Tryz.ntmps33
  go_wp2_with (at_builtin; refine wpList_append_own_at _ rfl _ _ 24 rfl w.heap.size 3 i0 (.int .i64 0) 1 8 Tryz.underlying24 hi hz0 hz1 hz2 rfl (by decide) _ 0 [] rfl (own_lit (heap_alloc_new w _) (Nat.le_refl _)) ad xs.length cap (xs.map (Value.int .i64)) rfl (by rw [List.length_map, Nat.mul_one]) (row_news HR.out) (one_ints xs) (by unfold maxLen; omega) (by omega) (by simp) ?_; intro v1 w1 hown hgrow hnil hat; rw [Nat.zero_add, List.nil_append] at hown; obtain ⟨g1, c1, rfl⟩ := own_form hown h0; have HO := Lib.hid hown; have HB := Lib.hid (below_lit6 hgrow); clear hown hgrow hnil hat)
  go_ret
  exact ⟨g1, c1, rfl, HO.out, HB.out⟩
set_option maxRecDepth 100000 in
set_option maxHeartbeats 4000000 in
theorem implLeaf_any (v : Value) (p : List Int) (x : Int) (w : World) (hrow : Row w v p.length (p.map (Value.int .i64))) :
    Calls Tryz.prog 14 #[.agg #[v], .int .i64 x] w fun e w' => ∃ v', e = .returned (.tuple #[.agg #[v'], .int .i64 (leafN p x), .bool (leafOk p x)]) ∧ w'.ownsRow w.heap.size 3 1 v' (leafL p x).length ((leafL p x).map (Value.int .i64)) ∧ Below w.heap.size w w' := by
  obtain ⟨i0, hi, hz0, hz1, hz2⟩ := info_parts infoInt
  obtain ⟨W, hW⟩ : ∃ W, W = (w.alloc (.cells #[v] 26)).alloc (.cells #[.slice none 0 0] 26) := ⟨_, rfl⟩
  have HA : Hid (Bx W (w.heap.size + 1) (.slice none 0 0) 26) := Lib.hid (by
    rw [hW]
    have := Bx.new (w.alloc (.cells #[v] 26)) (.slice none 0 0) 26
    rw [World.size_alloc] at this
    exact this)
  have HT : Hid (Tr W w.heap.size v p) := Lib.hid (by rw [hW]; exact (Tr.new hrow).below ((Below.refl _ _).alloc (Nat.le_refl _) _))
  have HB : Hid (Below w.heap.size w W) := Lib.hid (by rw [hW]; exact ((Below.refl w.heap.size w).alloc (Nat.le_refl _) _).alloc (by simp) _)
  have HW := Lib.hid hW
  have HG := Lib.hid (hasNode1_any v p x W HT.out.row)
  obtain ⟨a, cap, rfl, hc1, hm1, _⟩ := row_open hrow
  unfold maxLen at hm1
  have hx := HT.out.cell
  obtain ⟨R, hR⟩ : ∃ R, R = w.heap.size := ⟨_, rfl⟩
  obtain ⟨R4, hR4⟩ : ∃ R4, R4 = w.heap.size + 1 := ⟨_, rfl⟩
  rw [← hR] at HT hx
  rw [← hR4] at HA
  have HR := Lib.hid hR
  have HR4 := Lib.hid hR4
  clear hW hrow hR hR4
  have HNo := Lib.hid (fun (h : leafOk p x = false) => (show leafN p x = 0 ∧ leafL p x = [] from ⟨by unfold leafN; rw [h]; rfl, by unfold leafL; rw [h]; rfl⟩))
  have HYes := Lib.hid (fun (h : leafOk p x = true) => (show leafN p x = p.length ∧ leafL p x = p ++ [x] from ⟨by unfold leafN; rw [if_pos h], by unfold leafL; rw [h]; rfl⟩))
  have HLn := Lib.hid (fun (h : ndOk p x = false) => (show leafOk p x = false by unfold leafOk; rw [h]; rfl))
  have HLt := Lib.hid (fun (h : ndOk p x = true) => @leaf_ok p x h)
  have HOk := Lib.hid (fun (h : ndOk p x = true) => (trOk_parts (ndOk_parts h).1).2.1)
  have HOk2 := Lib.hid (fun (h : ndOk p x = true) => (trOk_parts (ndOk_parts h).1).1)
  cases ok : ndOk p x with
  | false =>
    rw [ok] at HG
    have e0 := HLn.out ok
    obtain ⟨e1, e2⟩ := HNo.out e0
    rw [e0, e1, e2]
    clear HNo HYes HLn HLt HOk HOk2 ok e0 e1 e2
    go_enter Tryz.func14, Tryz.ntmps14
    go_upto_region 1 with fail
    rw [← HW.out, ← HR4.out, ← HR.out]
    go_wp2_with fail
    refine HG.out.mono ?_
    rintro e W2 ⟨rfl, l2⟩
    have HB2 := Lib.hid (HB.out.trans (l2.mono HB.out.size))
    have HA2 := Lib.hid (HA.out.below l2 HA.out.lt)
    clear l2
    have hy := HA2.out.cell
    have fy := HA2.out.free
    go_wp2_with fail
    obtain ⟨p1, q1⟩ := HA2.out.put (.slice none 0 0)
    refine bodyPost_ret (results_tr3 rfl _ _ R4 rfl rfl rfl p1) rfl ⟨_, rfl, own_nil8 _ _, HB2.out.grown q1 HB2.out.size (fun k hk => by have e2 : R4 = k := Option.some.inj hk; have := HR4.out; omega)⟩
  | true =>
    rw [ok] at HG
    have h8 := HOk.out ok
    have h2 := HOk2.out ok
    have HLo := Lib.hid (HLt.out ok)
    clear HLn HLt HOk HOk2 ok
    obtain ⟨ab, ao, rfl, _⟩ := HT.out.get (k := 0) (by omega)
    have HCl := Lib.hid (fun (W1 : World) hr => clone_any ⟨ab, ao, none⟩ cap p W1 hr (by omega) (by omega))
    obtain ⟨q5, hq5⟩ : ∃ q5, q5 = p ++ [x] := ⟨_, rfl⟩
    have HQ5 := Lib.hid hq5
    have hql : q5.length = p.length + 1 := by rw [hq5]; simp
    have HQL := Lib.hid hql
    have HIs := Lib.hid (fun (u : Value) (W1 : World) hr => implIsTree_any u q5 W1 hr)
    rw [← hq5] at HLo
    rw [← hq5] at HYes
    rw [HLo.out] at HIs
    clear hq5 hql HLo
    go_enter Tryz.func14, Tryz.ntmps14
    go_upto_region 1 with fail
    rw [← HW.out, ← HR4.out, ← HR.out]
    go_wp2_with fail
    refine HG.out.mono ?_
    rintro e W2 ⟨rfl, l2⟩
    have HB2 := Lib.hid (HB.out.trans (l2.mono HB.out.size))
    have HA2 := Lib.hid (HA.out.below l2 HA.out.lt)
    have HT2 := Lib.hid (HT.out.below l2)
    clear l2 hx HA HT HB
    have hx := HT2.out.cell
    go_wp2_with fail
    refine (HCl.out _ HT2.out.row).mono ?_
    rintro e W3 ⟨g3, c3, rfl, o3⟩
    have HO3 := Lib.hid o3.own
    have HB3 := Lib.hid (HB2.out.trans (o3.bel.mono HB2.out.size))
    have HA3 := Lib.hid (HA2.out.below o3.bel HA2.out.lt)
    have HT3 := Lib.hid (HT2.out.below o3.bel)
    have hne3 : g3 ≠ R4 := fun e => by have h1 := (o3.own.lt g3 rfl).1; have h2 := HA2.out.lt; omega
    have hneR : g3 ≠ R := fun e => by have h1 := (o3.own.lt g3 rfl).1; have h2 := HT2.out.lt; omega
    have hws := o3.bel.size
    have hwb := HB2.out.size
    have hr2 := HA2.out.lt
    clear o3 hx HA2 HT2 HCl
    go_upto_region 4 with (at_builtin; refine wpList_append_own _ rfl _ _ 24 rfl W2.heap.size 3 i0 (.int .i64 0) 1 8 Tryz.underlying24 hi hz0 hz1 hz2 rfl (by decide) _ _ _ rfl (HO3.out.alloc _) ⟨W3.heap.size, 0, none⟩ 1 1 [.int .i64 x] rfl rfl (cell_one_new _ _ _) (by intro u hu; simp at hu; subst hu; rfl) (by unfold maxLen; omega) (by omega) (by simp; omega) ?_; intro v4 w4 hown4 hgrow4 hiff4; obtain ⟨g4, c4, rfl⟩ := own_form hown4 (by omega))
    have hgr : (W3.alloc (.cells #[.int .i64 x] 3)).grownBy w4 (some g3) := hgrow4
    have ho4 : w4.ownsRow W2.heap.size 3 1 (.slice (some ⟨g4, 0, none⟩) (p.length + 1) c4) q5.length (q5.map (Value.int .i64)) := by rw [HQL.out, HQ5.out, List.map_append]; exact hown4
    have hb4 : Below w.heap.size w w4 := (HB3.out.alloc HB3.out.size _).grown hgr (by simp; omega) (fun k hk => by have e : g3 = k := Option.some.inj hk; have h1 := (HO3.out.lt g3 rfl).1; omega)
    have a4 : Bx w4 R4 (.slice none 0 0) 26 := (HA3.out.grown (World.grownBy_alloc W3 _ none) (by simp)).grown hgr (fun e => hne3 (Option.some.inj e).symm)
    have t4 : Bx w4 R (.slice (some ⟨ab, ao, none⟩) p.length cap) 26 := ((show Bx W3 R _ _ from HT3.out.box).grown (World.grownBy_alloc W3 _ none) (by simp)).grown hgr (fun e => hneR (Option.some.inj e).symm)
    clear hgrow4 hiff4 hown4 hgr hne3 hneR
    obtain ⟨W5, hW5⟩ : ∃ W5, W5 = w4.alloc (.cells #[.slice (some ⟨g4, 0, none⟩) (p.length + 1) c4] 26) := ⟨_, rfl⟩
    have l5 : Below w4.heap.size w4 W5 := by rw [hW5]; exact (Below.refl _ _).alloc (Nat.le_refl _) _
    have HX5 : Hid (Bx W5 w4.heap.size (.slice (some ⟨g4, 0, none⟩) (p.length + 1) c4) 26) := Lib.hid (by rw [hW5]; exact Bx.new _ _ _)
    have HA5 := Lib.hid (a4.below l5 a4.lt)
    have HT5 := Lib.hid (t4.below l5 t4.lt)
    have HB5 := Lib.hid (hb4.trans (l5.mono hb4.size))
    have HO5 := Lib.hid (own_base (own_below ho4 l5 (Nat.le_refl _)) hwb)
    have hXR : R4 < w4.heap.size := a4.lt
    have hg4R : g4 ≠ R4 := fun e => by have h1 := (ho4.lt g4 rfl).1; omega
    rw [← hW5]
    obtain ⟨X, hX⟩ : ∃ X, X = w4.heap.size := ⟨_, rfl⟩
    rw [← hX] at HX5 hXR ⊢
    clear hW5 l5 a4 t4 ho4 hb4 hX
    have hx := HX5.out.cell
    go_wp2_with fail
    refine (HIs.out _ _ (row_own HO5.out)).mono ?_
    rintro e W6 ⟨rfl, l6⟩
    have HB6 := Lib.hid (HB5.out.trans (l6.mono HB5.out.size))
    have HA6 := Lib.hid (HA5.out.below l6 HA5.out.lt)
    have HT6 := Lib.hid (HT5.out.below l6 HT5.out.lt)
    have HX6 := Lib.hid (HX5.out.below l6 HX5.out.lt)
    have HO6 := Lib.hid (own_below HO5.out l6 (Nat.le_refl _))
    clear l6 hx HB5 HA5 HT5 HX5 HO5 HIs
    have hy := HA6.out.cell
    have fy := HA6.out.free
    cases lo : leafOk p x with
    | false =>
      obtain ⟨e1, e2⟩ := HNo.out lo
      have HE1 := Lib.hid e1
      have HE2 := Lib.hid e2
      clear HNo HYes e1 e2
      go_wp2_with fail
      obtain ⟨p1, q1⟩ := HA6.out.put (.slice none 0 0)
      refine bodyPost_ret (results_tr3 rfl _ _ R4 rfl rfl rfl p1) rfl ⟨_, by rw [HE1.out, lo], by rw [HE2.out]; exact own_nil8 _ _, HB6.out.grown q1 HB6.out.size (fun k hk => by have e2 : R4 = k := Option.some.inj hk; have := HR4.out; omega)⟩
    | true =>
      obtain ⟨e1, e2⟩ := HYes.out lo
      have HE1 := Lib.hid e1
      have HE2 := Lib.hid e2
      clear HNo HYes e1 e2
      have hx := HX6.out.cell
      have hz := HT6.out.cell
      obtain ⟨p1, q1⟩ := HA6.out.put (.slice (some ⟨g4, 0, none⟩) (p.length + 1) c4)
      have hz2 := (HT6.out.grown q1 (fun e => by have e2 : R = R4 := Option.some.inj e; have h1 := HR.out; have h2 := HR4.out; omega)).cell
      have HP1 := Lib.hid p1
      have HQ1 := Lib.hid q1
      clear p1 q1
      go_wp2_with fail
      go_big_region
      go_wp2_with fail
      have hne : (Value.slice (some ⟨g4, 0, none⟩) (p.length + 1) c4).ownBlock ≠ some R4 := fun e => hg4R (Option.some.inj e)
      refine bodyPost_ret (results_tr3 rfl _ _ R4 rfl rfl rfl (show Bx (W6.setCell ⟨R4, 0, none⟩ (.slice (some ⟨g4, 0, none⟩) (p.length + 1) c4)).drew R4 (.slice (some ⟨g4, 0, none⟩) (p.length + 1) c4) 26 from HP1.out)) rfl ⟨_, by rw [HE1.out, lo], ?_, ?_⟩
      · rw [HE2.out]
        exact own_grown (HO6.out.kept HQ1.out (.inr hne)) (grown_drew1 _)
      · exact (HB6.out.grown HQ1.out HB6.out.size (fun k hk => by have e2 : R4 = k := Option.some.inj hk; have := HR4.out; omega)).drew
end Go.Proofs.YtejdphfcogfcmaaGreatDoor
