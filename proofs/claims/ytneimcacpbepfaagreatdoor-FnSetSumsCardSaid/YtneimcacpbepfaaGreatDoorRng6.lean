/-
  Sets as ranges: the specification's union, common numbers and difference.
-/
import Derived.Test.YtneimcacpbepfaaGreatDoorRng5
namespace Go.Proofs.YtneimcacpbepfaaGreatDoor
open Go.RowKit Go.Lib Go.Joins
set_option linter.unusedVariables false

/-- What a function of two sets returns whose list is z. -/
def twoOk (x y z : List Rg) : Bool := (rgOk x && rgOk y) && rgOk z
def twoL (x y z : List Rg) : List Rg := if twoOk x y z = true then z else []
theorem two_no {x y : List Rg} (z : List Rg) (h : (rgOk x && rgOk y) = false) : twoOk x y z = false ∧ twoL x y z = [] := by
  have e : twoOk x y z = false := by unfold twoOk; rw [h]; rfl
  exact ⟨e, by unfold twoL; rw [e]; rfl⟩
theorem two_yes {x y : List Rg} (z : List Rg) (h : (rgOk x && rgOk y) = true) : twoOk x y z = rgOk z ∧ twoL x y z = chkL z := by
  have e : twoOk x y z = rgOk z := by unfold twoOk; rw [h]; rfl
  exact ⟨e, by unfold twoL chkL; rw [e]⟩
set_option maxHeartbeats 2000000 in
theorem specWithout_any (ad : Addr) (ca : Nat) (u : Value) (x y : List Rg) (w : World) (hx : Row w (.slice (some ad) x.length ca) x.length (rgF x)) (hy : Row w u y.length (rgF y)) :
    Calls Tryz.prog 12 #[.slice (some ad) x.length ca, u] w fun e w' => ∃ v', e = .returned (.tuple #[v', .bool (twoOk x y (wiG x y))]) ∧ w'.ownsRow w.heap.size 47 2 v' (twoL x y (wiG x y)).length (rgF (twoL x y (wiG x y))) ∧ Below w.heap.size w w' := by
  obtain ⟨b, cap, rfl, hc1, hm1, hcell⟩ := rg_open hy
  have HC := Lib.hid hcell
  clear hcell
  have HX := Lib.hid hx
  have HY := Lib.hid hy
  have HG1 := Lib.hid (l5Good_any _ x w hx)
  have HG2 := Lib.hid (fun (k : Nat) => l5Good_any _ y (w.drewN k) (hy.below (bdrew w k) (Nat.le_refl _)))
  have hp := fun h => @rgOk_parts x h
  have hq := fun h => @rgOk_parts y h
  have HNo := Lib.hid (two_no (x := x) (y := y) (wiG x y))
  have HYes := Lib.hid (two_yes (x := x) (y := y) (wiG x y))
  clear hx hy
  cases b1 : rgOk x with
  | false =>
    rw [b1] at HG1
    obtain ⟨h1, h2⟩ := HNo.out (by rw [b1]; rfl)
    have HO := Lib.hid h1
    have HL := Lib.hid h2
    clear h1 h2 b1 hp hq HYes HNo
    go_enter Tryz.func12, Tryz.ntmps12
    go_wp2_with fail
    refine HG1.out.mono ?_
    rintro e w1 ⟨rfl, k, rfl⟩
    go_wp2_with fail
    go_ret2
    exact ⟨_, ret_vb5 rfl HO.out.symm, by rw [HL.out]; exact lit_none (w.drewN k) w.heap.size (Nat.le_refl _), (bdrew w k).alloc (Nat.le_refl _) _⟩
  | true =>
    rw [b1] at HG1
    cases b2 : rgOk y with
    | false =>
      rw [b2] at HG2
      obtain ⟨h1, h2⟩ := HNo.out (by rw [b1, b2]; rfl)
      have HO := Lib.hid h1
      have HL := Lib.hid h2
      clear h1 h2 b1 b2 hp hq HYes HNo
      go_enter Tryz.func12, Tryz.ntmps12
      go_wp2_with fail
      refine HG1.out.mono ?_
      rintro e w1 ⟨rfl, k, rfl⟩
      go_wp2_with fail
      refine (HG2.out k).mono ?_
      rintro e w1 ⟨rfl, k2, rfl⟩
      go_wp2_with fail
      go_ret2
      exact ⟨_, ret_vb5 rfl HO.out.symm, by rw [HL.out]; exact lit_none (w.drewN (k + k2)) w.heap.size (Nat.le_refl _), (bdrew w (k + k2)).alloc (Nat.le_refl _) _⟩
    | true =>
      rw [b2] at HG2
      obtain ⟨h1, h2⟩ := HYes.out (by rw [b1, b2]; rfl)
      have HO := Lib.hid h1
      have HL := Lib.hid h2
      have HCx := Lib.hid (hp b1).1
      have HCy := Lib.hid (hq b2).1
      have hlx : x.length ≤ 10 := (hp b1).2
      clear h1 h2 b1 b2 hp hq HYes HNo
      have HM := Lib.hid (fun (W : World) (hW : Below w.heap.size w W) => l5Without_any ad ca _ x y W (HX.out.below hW (Nat.le_refl _)) (HY.out.below hW (Nat.le_refl _)) HCx.out HCy.out)
      generalize wiG x y = zs at HO HL HM
      go_enter Tryz.func12, Tryz.ntmps12
      go_wp2_with fail
      refine HG1.out.mono ?_
      rintro e w1 ⟨rfl, k, rfl⟩
      go_wp2_with fail
      refine (HG2.out k).mono ?_
      rintro e w1 ⟨rfl, k2, rfl⟩
      go_wp2_with fail
      refine (HM.out _ (bdrew w (k + k2))).mono ?_
      rintro e w2 ⟨v2, rfl, o2, l2⟩
      have l3 : Below w.heap.size w w2 := (bdrew w (k + k2)).trans l2
      have HC3 := Lib.hid (l5Checked_any w.heap.size v2 zs w2 o2 l3.size)
      obtain ⟨a2, c2, rfl, _, _⟩ := ownz_slice o2
      have HB2 := Lib.hid l3
      clear l2 l3 o2
      go_wp2_with fail
      refine HC3.out.mono ?_
      rintro e w3 ⟨v3, rfl, o3, l3⟩
      have HB3 := Lib.hid (HB2.out.trans (l3.mono HB2.out.size))
      have HO3 := Lib.hid o3
      obtain ⟨a3, c3, rfl, _, _⟩ := ownz_slice o3
      clear l3 o3
      go_wp2_with fail
      go_ret2
      exact ⟨_, ret_vb5 rfl HO.out.symm, by rw [HL.out]; exact HO3.out, HB3.out⟩
set_option maxHeartbeats 2000000 in
theorem specCommon_any (ad : Addr) (ca : Nat) (u : Value) (x y : List Rg) (w : World) (hx : Row w (.slice (some ad) x.length ca) x.length (rgF x)) (hy : Row w u y.length (rgF y)) :
    Calls Tryz.prog 11 #[.slice (some ad) x.length ca, u] w fun e w' => ∃ v', e = .returned (.tuple #[v', .bool (twoOk x y (coG x y))]) ∧ w'.ownsRow w.heap.size 47 2 v' (twoL x y (coG x y)).length (rgF (twoL x y (coG x y))) ∧ Below w.heap.size w w' := by
  obtain ⟨b, cap, rfl, hc1, hm1, hcell⟩ := rg_open hy
  have HC := Lib.hid hcell
  clear hcell
  have HX := Lib.hid hx
  have HY := Lib.hid hy
  have HG1 := Lib.hid (l5Good_any _ x w hx)
  have HG2 := Lib.hid (fun (k : Nat) => l5Good_any _ y (w.drewN k) (hy.below (bdrew w k) (Nat.le_refl _)))
  have hp := fun h => @rgOk_parts x h
  have hq := fun h => @rgOk_parts y h
  have HNo := Lib.hid (two_no (x := x) (y := y) (coG x y))
  have HYes := Lib.hid (two_yes (x := x) (y := y) (coG x y))
  clear hx hy
  cases b1 : rgOk x with
  | false =>
    rw [b1] at HG1
    obtain ⟨h1, h2⟩ := HNo.out (by rw [b1]; rfl)
    have HO := Lib.hid h1
    have HL := Lib.hid h2
    clear h1 h2 b1 hp hq HYes HNo
    go_enter Tryz.func11, Tryz.ntmps11
    go_wp2_with fail
    refine HG1.out.mono ?_
    rintro e w1 ⟨rfl, k, rfl⟩
    go_wp2_with fail
    go_ret2
    exact ⟨_, ret_vb5 rfl HO.out.symm, by rw [HL.out]; exact lit_none (w.drewN k) w.heap.size (Nat.le_refl _), (bdrew w k).alloc (Nat.le_refl _) _⟩
  | true =>
    rw [b1] at HG1
    cases b2 : rgOk y with
    | false =>
      rw [b2] at HG2
      obtain ⟨h1, h2⟩ := HNo.out (by rw [b1, b2]; rfl)
      have HO := Lib.hid h1
      have HL := Lib.hid h2
      clear h1 h2 b1 b2 hp hq HYes HNo
      go_enter Tryz.func11, Tryz.ntmps11
      go_wp2_with fail
      refine HG1.out.mono ?_
      rintro e w1 ⟨rfl, k, rfl⟩
      go_wp2_with fail
      refine (HG2.out k).mono ?_
      rintro e w1 ⟨rfl, k2, rfl⟩
      go_wp2_with fail
      go_ret2
      exact ⟨_, ret_vb5 rfl HO.out.symm, by rw [HL.out]; exact lit_none (w.drewN (k + k2)) w.heap.size (Nat.le_refl _), (bdrew w (k + k2)).alloc (Nat.le_refl _) _⟩
    | true =>
      rw [b2] at HG2
      obtain ⟨h1, h2⟩ := HYes.out (by rw [b1, b2]; rfl)
      have HO := Lib.hid h1
      have HL := Lib.hid h2
      have HCx := Lib.hid (hp b1).1
      have HCy := Lib.hid (hq b2).1
      have hlx : x.length ≤ 10 := (hp b1).2
      clear h1 h2 b1 b2 hp hq HYes HNo
      have HM1 := Lib.hid (fun (W : World) (hW : Below w.heap.size w W) => l5Without_any ad ca _ x y W (HX.out.below hW (Nat.le_refl _)) (HY.out.below hW (Nat.le_refl _)) HCx.out HCy.out)
      have HM2 := Lib.hid (fun (W : World) (v : Value) (hW : Below w.heap.size w W) (hv : Row W v (wiG x y).length (rgF (wiG x y))) => l5Without_any ad ca v x (wiG x y) W (HX.out.below hW (Nat.le_refl _)) hv HCx.out (wiG_good y x HCx.out HCy.out).1)
      have HE : Hid (coG x y = wiG x (wiG x y)) := Lib.hid rfl
      rw [HE.out] at HO HL ⊢
      generalize wiG x y = zq at HO HL HM1 HM2 HE ⊢
      generalize wiG x zq = zs at HO HL HM2 ⊢
      go_enter Tryz.func11, Tryz.ntmps11
      go_wp2_with fail
      refine HG1.out.mono ?_
      rintro e w1 ⟨rfl, k, rfl⟩
      go_wp2_with fail
      refine (HG2.out k).mono ?_
      rintro e w1 ⟨rfl, k2, rfl⟩
      go_wp2_with fail
      refine (HM1.out _ (bdrew w (k + k2))).mono ?_
      rintro e w5 ⟨v5, rfl, o5, l5⟩
      have HB5 := Lib.hid ((bdrew w (k + k2)).trans l5)
      have HO5 := Lib.hid (rowz_own o5)
      obtain ⟨a5, c5, rfl, _, _⟩ := ownz_slice o5
      clear o5 l5 HM1
      go_wp2_with fail
      refine (HM2.out _ _ HB5.out HO5.out).mono ?_
      rintro e w2 ⟨v2, rfl, o2, l2⟩
      have l3 : Below w.heap.size w w2 := HB5.out.trans (l2.mono HB5.out.size)
      replace o2 := ownz_base o2 HB5.out.size
      have HC3 := Lib.hid (l5Checked_any w.heap.size v2 zs w2 o2 l3.size)
      obtain ⟨a2, c2, rfl, _, _⟩ := ownz_slice o2
      have HB2 := Lib.hid l3
      clear l2 l3 o2
      go_wp2_with fail
      refine HC3.out.mono ?_
      rintro e w3 ⟨v3, rfl, o3, l3⟩
      have HB3 := Lib.hid (HB2.out.trans (l3.mono HB2.out.size))
      have HO3 := Lib.hid o3
      obtain ⟨a3, c3, rfl, _, _⟩ := ownz_slice o3
      clear l3 o3
      go_wp2_with fail
      go_ret2
      exact ⟨_, ret_vb5 rfl HO.out.symm, by rw [HL.out]; exact HO3.out, HB3.out⟩
set_option maxHeartbeats 2000000 in
theorem specUnion_any (ad : Addr) (ca : Nat) (u : Value) (x y : List Rg) (w : World) (hx : Row w (.slice (some ad) x.length ca) x.length (rgF x)) (hy : Row w u y.length (rgF y)) :
    Calls Tryz.prog 9 #[.slice (some ad) x.length ca, u] w fun e w' => ∃ v', e = .returned (.tuple #[v', .bool (twoOk x y (unG x y))]) ∧ w'.ownsRow w.heap.size 47 2 v' (twoL x y (unG x y)).length (rgF (twoL x y (unG x y))) ∧ Below w.heap.size w w' := by
  obtain ⟨b, cap, rfl, hc1, hm1, hcell⟩ := rg_open hy
  have HC := Lib.hid hcell
  clear hcell
  have HX := Lib.hid hx
  have HY := Lib.hid hy
  have HG1 := Lib.hid (l5Good_any _ x w hx)
  have HG2 := Lib.hid (fun (k : Nat) => l5Good_any _ y (w.drewN k) (hy.below (bdrew w k) (Nat.le_refl _)))
  have hp := fun h => @rgOk_parts x h
  have hq := fun h => @rgOk_parts y h
  have HNo := Lib.hid (two_no (x := x) (y := y) (unG x y))
  have HYes := Lib.hid (two_yes (x := x) (y := y) (unG x y))
  clear hx hy
  cases b1 : rgOk x with
  | false =>
    rw [b1] at HG1
    obtain ⟨h1, h2⟩ := HNo.out (by rw [b1]; rfl)
    have HO := Lib.hid h1
    have HL := Lib.hid h2
    clear h1 h2 b1 hp hq HYes HNo
    go_enter Tryz.func9, Tryz.ntmps9
    go_wp2_with fail
    refine HG1.out.mono ?_
    rintro e w1 ⟨rfl, k, rfl⟩
    go_wp2_with fail
    go_ret2
    exact ⟨_, ret_vb5 rfl HO.out.symm, by rw [HL.out]; exact lit_none (w.drewN k) w.heap.size (Nat.le_refl _), (bdrew w k).alloc (Nat.le_refl _) _⟩
  | true =>
    rw [b1] at HG1
    cases b2 : rgOk y with
    | false =>
      rw [b2] at HG2
      obtain ⟨h1, h2⟩ := HNo.out (by rw [b1, b2]; rfl)
      have HO := Lib.hid h1
      have HL := Lib.hid h2
      clear h1 h2 b1 b2 hp hq HYes HNo
      go_enter Tryz.func9, Tryz.ntmps9
      go_wp2_with fail
      refine HG1.out.mono ?_
      rintro e w1 ⟨rfl, k, rfl⟩
      go_wp2_with fail
      refine (HG2.out k).mono ?_
      rintro e w1 ⟨rfl, k2, rfl⟩
      go_wp2_with fail
      go_ret2
      exact ⟨_, ret_vb5 rfl HO.out.symm, by rw [HL.out]; exact lit_none (w.drewN (k + k2)) w.heap.size (Nat.le_refl _), (bdrew w (k + k2)).alloc (Nat.le_refl _) _⟩
    | true =>
      rw [b2] at HG2
      obtain ⟨h1, h2⟩ := HYes.out (by rw [b1, b2]; rfl)
      have HO := Lib.hid h1
      have HL := Lib.hid h2
      have HCx := Lib.hid (hp b1).1
      have HCy := Lib.hid (hq b2).1
      have hlx : x.length ≤ 10 := (hp b1).2
      clear h1 h2 b1 b2 hp hq HYes HNo
      obtain ⟨i0, hi, hz0, hz1, hz2⟩ := info_parts infoRg
      unfold maxLen at hm1
      obtain ⟨n, hN⟩ : ∃ n, n = y.length := ⟨_, rfl⟩
      rw [← hN] at hc1 HG2 ⊢
      have HN := Lib.hid hN
      clear hN HY
      go_enter Tryz.func9, Tryz.ntmps9
      go_wp2_with fail
      refine HG1.out.mono ?_
      rintro e w1 ⟨rfl, k, rfl⟩
      go_wp2_with fail
      refine (HG2.out k).mono ?_
      rintro e w1 ⟨rfl, k2, rfl⟩
      go_wp2_with (at_builtin; refine wpList_append_own _ rfl _ _ 24 rfl w.heap.size 47 i0 (.agg #[.int .i64 0, .int .i64 0]) 2 16 Tryz.underlying24 hi hz0 hz1 hz2 rfl (by decide) _ 0 [] rfl (lit_none (w.drewN (k + k2)) w.heap.size (Nat.le_refl _)) ad x.length ca (rgF x) rfl (rgF_len x) (row_news (HX.out.below ((bdrew w (k + k2)).alloc (Nat.le_refl _) _) (Nat.le_refl _))) (rgF_one x) (by unfold maxLen; omega) (by omega) (by simp) ?_; intro v' w4 hown' hgrow _)
      have hb4 : Below w.heap.size w w4 := (((bdrew w (k + k2)).alloc (Nat.le_refl _) _).grown hgrow (by simp) (fun k hk => by have e : w.heap.size = k := Option.some.inj hk; omega))
      have ho4 : w4.ownsRow w.heap.size 47 2 v' x.length (rgF x) := by simpa using hown'
      have HO4 := Lib.hid ho4
      have HB4 := Lib.hid hb4
      obtain ⟨a4, c4, rfl, _, _⟩ := ownz_slice ho4
      clear hown' hgrow ho4 hb4
      go_wp2_with fail
      go_loopw [6, 7] (fun o i wr => ∃ (k : Nat) (zs : List Rg) (az : Option Addr) (cz : Nat), k ≤ n ∧ i = .int .i64 k ∧ o = .slice az zs.length cz ∧ Hid (wr.ownsRow w.heap.size 47 2 (.slice az zs.length cz) zs.length (rgF zs)) ∧ Hid (Below w.heap.size w wr) ∧ Hid (rgCh zs) ∧ Hid ((y.take k).foldl addG x = zs)) (fun _ i _ => n - (intOf i).toNat)
      case atStart => exact ⟨0, x, a4, c4, Nat.zero_le _, rfl, rfl, HO4, HB4, HCx, Lib.hid rfl⟩
      case round =>
        clear HO4 HB4
        obtain ⟨k, zs, az, cz, hk, rfl, rfl, HOw, HB, HZ, HE⟩ := hrel
        by_cases hkn : k < n
        · have hks : k < y.length := by rw [← HN.out]; exact hkn
          obtain ⟨b1, off, rfl, hb, hf, ht⟩ := HC.out k hks
          have hf1 : wr.cell? ⟨b1, off + k * 2, none⟩ = some (.int .i64 y[k].1) := (HB.out.cell hb).trans hf
          have ht1 : wr.cell? ⟨b1, off + k * 2 + 1, none⟩ = some (.int .i64 y[k].2) := (HB.out.cell hb).trans ht
          have hv := HCy.out.2 y[k] (List.getElem_mem hks)
          have hst := foldl_take addG x hks
          rw [HE.out] at hst
          clear hf ht
          obtain ⟨p, q, hpq⟩ : ∃ p q, y[k] = (p, q) := ⟨_, _, rfl⟩
          rw [hpq] at hf1 ht1 hv hst
          simp only at hf1 ht1 hv
          have HE2 := Lib.hid hst
          obtain ⟨p0, pq, q1⟩ := hv
          have HM := Lib.hid (l5Add_any _ zs p q wr (rowz_own HOw.out) HZ.out p0 pq q1)
          have HZ2 := Lib.hid (addG_good zs (p, q) HZ.out p0 pq q1).1
          generalize addG zs (p, q) = zs2 at HM HZ2 HE2
          clear hpq hst HE
          go_wp2_with fail
          refine HM.out.mono ?_
          rintro e w5 ⟨v5, rfl, o5, l5⟩
          have HO5 := Lib.hid (ownz_base o5 HB.out.size)
          have HB5 := Lib.hid (HB.out.trans (l5.mono HB.out.size))
          obtain ⟨a5, c5, rfl, _, _⟩ := ownz_slice o5
          clear o5 l5 HM
          go_wp2_with fail
          go_roundw
          case rel => exact ⟨k + 1, zs2, a5, c5, by omega, by go_num, rfl, HO5, HB5, HZ2, HE2⟩
          case measure => (simp [intOf]; omega)
        · obtain rfl : k = n := by omega
          have HE2 : Hid (unG x y = zs) := Lib.hid (by
            have h := HE.out
            rw [HN.out, List.take_of_length_le (Nat.le_refl _)] at h
            exact h)
          have HC3 := Lib.hid (l5Checked_any w.heap.size _ zs wr HOw.out HB.out.size)
          go_wp2_with fail
          refine HC3.out.mono ?_
          rintro e w3 ⟨v3, rfl, o3, l3⟩
          have HB3 := Lib.hid (HB.out.trans (l3.mono HB.out.size))
          have HO3 := Lib.hid o3
          obtain ⟨a3, c3, rfl, _, _⟩ := ownz_slice o3
          clear l3 o3
          go_wp2_with fail
          go_ret2
          exact ⟨_, ret_vb5 rfl (by rw [HO.out, HE2.out]), by rw [HL.out, HE2.out]; exact HO3.out, HB3.out⟩
end Go.Proofs.YtneimcacpbepfaaGreatDoor
