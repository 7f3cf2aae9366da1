/-
  Trees: the program's functions that read: children, leaves, meeting nodes.
-/
import Derived.Test.YtejdphfcogfcmaaGreatDoorTreeI
import Derived.Test.YtejdphfcogfcmaaGreatDoorTree5
namespace Go.Proofs.YtejdphfcogfcmaaGreatDoor
open Go.RowKit Go.Lib Go.Joins
set_option linter.unusedVariables false

/-- The nodes whose parent is a node, the source's -1 too. -/
def eqB (p : List Int) (x : Int) (i : Nat) : Bool := decide (par6 p i = x)
def chA (p : List Int) (x : Int) : List Int := pick6 (eqB p x) p.length
theorem chA_len (p : List Int) (x : Int) : (chA p x).length ≤ p.length := pick6_len _ _
set_option maxRecDepth 100000 in
set_option maxHeartbeats 2000000 in
theorem childrenAt_any (v : Value) (p : List Int) (x : Int) (w : World) (hrow : Row w v p.length (p.map (Value.int .i64))) (hl : p.length ≤ 8) :
    Calls Tryz.prog 36 #[.agg #[v], .int .i64 x] w fun e w' => ∃ g c, e = .returned (.slice (some ⟨g, 0, none⟩) (chA p x).length c) ∧ OutI w w' g c (chA p x) := by
  obtain ⟨i0, hi, hz0, hz1, hz2⟩ := info_parts infoInt
  obtain ⟨W, hW⟩ : ∃ W, W = w.alloc (.cells #[v] 26) := ⟨_, rfl⟩
  have HT : Hid (Tr W w.heap.size v p) := Lib.hid (by rw [hW]; exact Tr.new hrow)
  have HB : Hid (Below w.heap.size w W) := Lib.hid (by rw [hW]; exact (Below.refl w.heap.size w).alloc (Nat.le_refl _) _)
  have HW := Lib.hid hW
  clear hW
  have HS := Lib.hid (OutI.start W)
  obtain ⟨a, cap, rfl, hc1, hm1, _⟩ := row_open hrow
  clear hrow
  unfold maxLen at hm1
  have hx := (HT.out.below HS.out.bel).cell
  obtain ⟨R, hR⟩ : ∃ R, R = w.heap.size := ⟨_, rfl⟩
  rw [← hR] at HT hx
  have HR := Lib.hid hR
  clear hR
  obtain ⟨n, hN⟩ : ∃ n, n = p.length := ⟨_, rfl⟩
  rw [← hN] at hc1 HT HW hx hl ⊢
  have HN := Lib.hid hN
  have HG : Hid (pick6 (eqB p x) n = chA p x) := Lib.hid (by rw [hN]; rfl)
  clear hN
  generalize chA p x = goal at HG ⊢
  go_enter Tryz.func36, Tryz.ntmps36
  go_upto_region 1 with fail
  rw [← HW.out, ← HR.out]
  go_wp2_with fail
  go_loopw [5, 12] (fun o i wr => ∃ (k g c : Nat) (zs : List Int), k ≤ n ∧ i = .int .i64 k ∧ o = .slice (some ⟨g, 0, none⟩) zs.length c ∧ zs.length ≤ k ∧ Hid (zs = pick6 (eqB p x) k) ∧ Hid (OutI W wr g c zs)) (fun _ i _ => n - (RowKit.intOf i).toNat)
  case atStart => exact ⟨0, _, _, [], Nat.zero_le _, rfl, rfl, by simp, Lib.hid rfl, HS⟩
  case round =>
    clear HS hx
    obtain ⟨k, g, c, zs, hk, rfl, rfl, hzl, HZ, HO⟩ := hrel
    have HTr := Lib.hid (HT.out.below HO.out.bel)
    by_cases hkn : k < n
    · obtain ⟨b, off, rfl, hck⟩ := HTr.out.get (k := k) (by rw [← HN.out]; exact hkn)
      have HY : Hid (par6 p k = x → pick6 (eqB p x) (k + 1) = pick6 (eqB p x) k ++ [(k : Int)]) := Lib.hid (fun h => pick6_yes (by unfold eqB; exact decide_eq_true h))
      have HNo : Hid (par6 p k ≠ x → pick6 (eqB p x) (k + 1) = pick6 (eqB p x) k) := Lib.hid (fun h => pick6_no (by unfold eqB; exact decide_eq_false h))
      generalize par6 p k = y at hck HY HNo
      by_cases hyx : y = x
      · subst hyx
        have HZ2 := Lib.hid (HY.out rfl)
        have hws := HO.out.bel.size
        clear HY HNo
        go_wp2_with (at_builtin; refine wpList_append_own _ rfl _ _ 24 rfl W.heap.size 3 i0 (.int .i64 0) 1 8 Tryz.underlying24 hi hz0 hz1 hz2 rfl (by decide) _ _ _ rfl (HO.out.own.alloc _) ⟨wr.heap.size, 0, none⟩ 1 1 [.int .i64 k] rfl rfl (cell_one_new _ _ _) (by intro u hu; simp at hu; subst hu; rfl) (by unfold maxLen; omega) (by omega) (by simp; omega) ?_; intro v' w4 hown' hgrow hiff; obtain ⟨zs5, hz5⟩ : ∃ z, z = zs ++ [(k : Int)] := ⟨_, rfl⟩; obtain ⟨g5, c5, rfl, hs5⟩ := HO.out.app hz5 hown' hgrow; have HS5 := Lib.hid hs5; have HZ5 := Lib.hid hz5; clear hown' hgrow hiff hs5 hz5)
        go_roundw
        case rel => exact ⟨k + 1, g5, c5, zs5, by omega, by go_num, rfl, by rw [HZ5.out, List.length_append]; simp only [List.length_cons, List.length_nil]; omega, Lib.hid (by rw [HZ5.out, HZ.out, HZ2.out]), HS5⟩
        case measure => (simp [RowKit.intOf]; omega)
      · have HZ2 := Lib.hid (HNo.out hyx)
        have hne : (y == x) = false := by simp; exact hyx
        clear HY HNo hyx
        go_wp2_with fail
        go_roundw
        case rel => exact ⟨k + 1, g, c, zs, by omega, by go_num, rfl, by omega, Lib.hid (by rw [HZ2.out]; exact HZ.out), HO⟩
        case measure => (simp [RowKit.intOf]; omega)
    · obtain rfl : k = n := by omega
      have HE : Hid (zs = goal) := Lib.hid (by rw [HZ.out, ← HG.out])
      go_wp2_with fail
      go_ret
      exact ⟨g, c, by rw [← HE.out]; rfl, by rw [← HE.out]; exact HO.out.base HB.out⟩
/-- The children of a node of the tree. -/
theorem childrenOk_any (v : Value) (p : List Int) (x : Int) (w : World) (hrow : Row w v p.length (p.map (Value.int .i64))) (h : ndOk p x = true) :
    Calls Tryz.prog 36 #[.agg #[v], .int .i64 x] w fun e w' => ∃ g c, e = .returned (.slice (some ⟨g, 0, none⟩) (chl p x).length c) ∧ OutI w w' g c (chl p x) := by
  obtain ⟨h1, h2, h3⟩ := ndOk_parts h
  have := childrenAt_any v p x w hrow (trOk_parts h1).2.1
  rw [show chA p x = chl p x from chl_all h1 h2] at this
  exact this
set_option maxHeartbeats 1000000 in
theorem implChildren_any (v : Value) (p : List Int) (x : Int) (w : World) (hrow : Row w v p.length (p.map (Value.int .i64))) :
    Calls Tryz.prog 16 #[.agg #[v], .int .i64 x] w fun e w' => ∃ g c, e = .returned (.tuple #[.slice (some ⟨g, 0, none⟩) (okL (ndOk p x) (chl p x)).length c, .bool (ndOk p x)]) ∧ OutI w w' g c (okL (ndOk p x) (chl p x)) := by
  obtain ⟨W, hW⟩ : ∃ W, W = w.alloc (.cells #[v] 26) := ⟨_, rfl⟩
  have HT : Hid (Tr W w.heap.size v p) := Lib.hid (by rw [hW]; exact Tr.new hrow)
  have HB : Hid (Below w.heap.size w W) := Lib.hid (by rw [hW]; exact (Below.refl w.heap.size w).alloc (Nat.le_refl _) _)
  have HW := Lib.hid hW
  have HG := Lib.hid (hasNode1_any v p x W HT.out.row)
  have HC := Lib.hid (fun (h : ndOk p x = true) (W1 : World) hr => childrenOk_any v p x W1 hr h)
  have hx := HT.out.cell
  obtain ⟨R, hR⟩ : ∃ R, R = w.heap.size := ⟨_, rfl⟩
  rw [← hR] at HT hx
  have HR := Lib.hid hR
  clear hW hrow hR
  generalize ndOk p x = ok at HG HC ⊢
  generalize chl p x = l at HC ⊢
  cases ok with
  | false =>
    clear HC
    go_enter Tryz.func16, Tryz.ntmps16
    go_upto_region 1 with fail
    rw [← HW.out, ← HR.out]
    go_wp2_with fail
    refine HG.out.mono ?_
    rintro e W2 ⟨rfl, l2⟩
    have HB2 := Lib.hid (HB.out.trans (l2.mono HB.out.size))
    clear l2
    go_wp2_with fail
    go_ret2
    exact ⟨_, _, rfl, OutI.start' HB2.out⟩
  | true =>
    have HC2 := Lib.hid (HC.out rfl)
    clear HC
    go_enter Tryz.func16, Tryz.ntmps16
    go_upto_region 1 with fail
    rw [← HW.out, ← HR.out]
    go_wp2_with fail
    refine HG.out.mono ?_
    rintro e W2 ⟨rfl, l2⟩
    have HB2 := Lib.hid (HB.out.trans (l2.mono HB.out.size))
    have HT2 := Lib.hid (HT.out.below l2)
    clear l2 hx
    have hx := HT2.out.cell
    go_wp2_with fail
    refine (HC2.out _ HT2.out.row).mono ?_
    rintro e W3 ⟨g, c, rfl, o3⟩
    have HO3 := Lib.hid (o3.base HB2.out)
    clear o3
    go_wp2_with fail
    go_ret2
    exact ⟨g, c, rfl, HO3.out⟩
def lfA (p : List Int) (i : Nat) : Bool := decide ((chl p (i : Int)).length = 0)
set_option maxRecDepth 100000 in
set_option maxHeartbeats 2000000 in
theorem implLeaves_any (v : Value) (p : List Int) (w : World) (hrow : Row w v p.length (p.map (Value.int .i64))) :
    Calls Tryz.prog 17 #[.agg #[v]] w fun e w' => ∃ g c, e = .returned (.tuple #[.slice (some ⟨g, 0, none⟩) (okL (trOk p) (lvs p)).length c, .bool (trOk p)]) ∧ OutI w w' g c (okL (trOk p) (lvs p)) := by
  obtain ⟨i0, hi, hz0, hz1, hz2⟩ := info_parts infoInt
  obtain ⟨W, hW⟩ : ∃ W, W = w.alloc (.cells #[v] 26) := ⟨_, rfl⟩
  have HT : Hid (Tr W w.heap.size v p) := Lib.hid (by rw [hW]; exact Tr.new hrow)
  have HB : Hid (Below w.heap.size w W) := Lib.hid (by rw [hW]; exact (Below.refl w.heap.size w).alloc (Nat.le_refl _) _)
  have HW := Lib.hid hW
  have HG := Lib.hid (implIsTree_any v p W HT.out.row)
  have HOk := Lib.hid (fun (h : trOk p = true) => (trOk_parts h).2.1)
  have HGo := Lib.hid (fun (h : trOk p = true) => (show pick6 (lfA p) p.length = okL true (lvs p) from lvs_all h))
  have HCh := Lib.hid (fun (h : trOk p = true) (k : Nat) (hk : k < p.length) (W1 : World) hr => childrenOk_any v p (k : Int) W1 hr (ndOk_nat h hk))
  obtain ⟨a, cap, rfl, hc1, hm1, _⟩ := row_open hrow
  clear hrow
  unfold maxLen at hm1
  have hx := HT.out.cell
  obtain ⟨R, hR⟩ : ∃ R, R = w.heap.size := ⟨_, rfl⟩
  rw [← hR] at HT hx
  have HR := Lib.hid hR
  clear hW hR
  cases ok : trOk p with
  | false =>
    rw [ok] at HG
    clear HOk HGo HCh ok
    go_enter Tryz.func17, Tryz.ntmps17
    go_upto_region 1 with fail
    rw [← HW.out, ← HR.out]
    go_wp2_with fail
    refine HG.out.mono ?_
    rintro e W2 ⟨rfl, l2⟩
    have HB2 := Lib.hid (HB.out.trans (l2.mono HB.out.size))
    clear l2
    go_wp2_with fail
    go_ret2
    exact ⟨_, _, rfl, OutI.start' HB2.out⟩
  | true =>
    rw [ok] at HG
    have hl := HOk.out ok
    have HGo2 := Lib.hid (HGo.out ok)
    have HCh2 := Lib.hid (HCh.out ok)
    have HCl := Lib.hid (chl_len p)
    clear HOk HGo HCh ok
    obtain ⟨n, hN⟩ : ∃ n, n = p.length := ⟨_, rfl⟩
    rw [← hN] at hc1 HT HW HG hx hl HCh2 HCl HGo2 ⊢
    have HN := Lib.hid hN
    clear hN
    generalize okL true (lvs p) = goal at HGo2 ⊢
    go_enter Tryz.func17, Tryz.ntmps17
    go_upto_region 1 with fail
    rw [← HW.out, ← HR.out]
    go_wp2_with fail
    refine HG.out.mono ?_
    rintro e W2 ⟨rfl, l2⟩
    have HS2 := Lib.hid ((OutI.start W2).base l2)
    clear l2 hx
    have hx := (HT.out.below HS2.out.bel).cell
    go_wp2_with fail
    go_loopw [4, 14] (fun o i wr => ∃ (k g c : Nat) (zs : List Int), k ≤ n ∧ i = .int .i64 k ∧ o = .slice (some ⟨g, 0, none⟩) zs.length c ∧ zs.length ≤ k ∧ Hid (zs = pick6 (lfA p) k) ∧ Hid (OutI W wr g c zs)) (fun _ i _ => n - (RowKit.intOf i).toNat)
    case atStart => exact ⟨0, _, _, [], Nat.zero_le _, rfl, rfl, by simp, Lib.hid rfl, HS2⟩
    case round =>
      clear HS2 hx
      obtain ⟨k, g, c, zs, hk, rfl, rfl, hzl, HZ, HO⟩ := hrel
      have HTr := Lib.hid (HT.out.below HO.out.bel)
      have hx := HTr.out.cell
      by_cases hkn : k < n
      · have HY : Hid ((chl p (k : Int)).length = 0 → pick6 (lfA p) (k + 1) = pick6 (lfA p) k ++ [(k : Int)]) := Lib.hid (fun h => pick6_yes (by unfold lfA; exact decide_eq_true h))
        have HNo : Hid ((chl p (k : Int)).length ≠ 0 → pick6 (lfA p) (k + 1) = pick6 (lfA p) k) := Lib.hid (fun h => pick6_no (by unfold lfA; exact decide_eq_false h))
        have HC1 := Lib.hid (HCh2.out k hkn wr (by have h := HTr.out.row; rw [← HN.out] at h; exact h))
        have hcl := HCl.out (k : Int)
        obtain ⟨m, hm⟩ : ∃ m, m = (chl p (k : Int)).length := ⟨_, rfl⟩
        rw [← hm] at HC1 hcl HY HNo
        clear hm
        go_wp2_with fail
        refine HC1.out.mono ?_
        rintro e w3 ⟨g3, c3, rfl, o3⟩
        have HO3 := Lib.hid (HO.out.below o3.bel)
        have hws := HO3.out.bel.size
        clear o3 HC1
        by_cases hm0 : m = 0
        · subst hm0
          have HZ2 := Lib.hid (HY.out rfl)
          clear HY HNo
          go_wp2_with (at_builtin; refine wpList_append_own _ rfl _ _ 24 rfl W.heap.size 3 i0 (.int .i64 0) 1 8 Tryz.underlying24 hi hz0 hz1 hz2 rfl (by decide) _ _ _ rfl (HO3.out.own.alloc _) ⟨w3.heap.size, 0, none⟩ 1 1 [.int .i64 k] rfl rfl (cell_one_new _ _ _) (by intro u hu; simp at hu; subst hu; rfl) (by unfold maxLen; omega) (by omega) (by simp; omega) ?_; intro v' w4 hown' hgrow hiff; obtain ⟨zs5, hz5⟩ : ∃ z, z = zs ++ [(k : Int)] := ⟨_, rfl⟩; obtain ⟨g5, c5, rfl, hs5⟩ := HO3.out.app hz5 hown' hgrow; have HS5 := Lib.hid hs5; have HZ5 := Lib.hid hz5; clear hown' hgrow hiff hs5 hz5)
          go_roundw
          case rel => exact ⟨k + 1, g5, c5, zs5, by omega, by go_num, rfl, by rw [HZ5.out, List.length_append]; simp only [List.length_cons, List.length_nil]; omega, Lib.hid (by rw [HZ5.out, HZ.out, HZ2.out]), HS5⟩
          case measure => (simp [RowKit.intOf]; omega)
        · have HZ2 := Lib.hid (HNo.out hm0)
          have hne : ((m : Int) == 0) = false := by simp; omega
          clear HY HNo hm0
          go_wp2_with fail
          go_roundw
          case rel => exact ⟨k + 1, g, c, zs, by omega, by go_num, rfl, by omega, Lib.hid (by rw [HZ2.out]; exact HZ.out), HO3⟩
          case measure => (simp [RowKit.intOf]; omega)
      · obtain rfl : k = n := by omega
        have HE : Hid (zs = goal) := Lib.hid (by rw [HZ.out, ← HGo2.out])
        go_wp2_with fail
        go_ret2
        exact ⟨g, c, by rw [← HE.out]; rfl, by rw [← HE.out]; exact HO.out.base HB.out⟩
end Go.Proofs.YtejdphfcogfcmaaGreatDoor
