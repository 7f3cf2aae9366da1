/-
  Sets as ranges: the program's CommonOf and WithoutOf, RemoveRange.
-/
import Derived.Test.YtneimcacpbepfaaGreatDoorRngI3
import Derived.Test.YtneimcacpbepfaaGreatDoorRng6
namespace Go.Proofs.YtneimcacpbepfaaGreatDoor
open Go.RowKit Go.Lib Go.Joins
set_option linter.unusedVariables false

theorem com_open {zs s b goal : List Rg} {f t : Int} (h : zs ++ comG ((f, t) :: s) b = goal) : zs ++ ((b.drop 0).flatMap (meetR (f, t)) ++ comG s b) = goal := by
  rw [← h]
  unfold comG
  rw [List.flatMap_cons, List.drop_zero]
theorem com_hit {zs s b l goal : List Rg} {x y : Rg} {p q : Int} (h : zs ++ ((y :: l).flatMap (meetR x) ++ comG s b) = goal) (hp : p = max x.1 y.1) (hq : q = min x.2 y.2) (hle : p ≤ q) : (zs ++ [(p, q)]) ++ (l.flatMap (meetR x) ++ comG s b) = goal := by
  subst hp; subst hq
  rw [← h, List.flatMap_cons]
  unfold meetR
  rw [if_pos hle]
  simp
theorem com_miss {zs s b l goal : List Rg} {x y : Rg} {p q : Int} (h : zs ++ ((y :: l).flatMap (meetR x) ++ comG s b) = goal) (hp : p = max x.1 y.1) (hq : q = min x.2 y.2) (hle : ¬ p ≤ q) : zs ++ (l.flatMap (meetR x) ++ comG s b) = goal := by
  subst hp; subst hq
  rw [← h, List.flatMap_cons]
  unfold meetR
  rw [if_neg hle]
  simp
theorem com_shut {zs s b goal : List Rg} {x : Rg} {j : Nat} (h : zs ++ ((b.drop j).flatMap (meetR x) ++ comG s b) = goal) (hj : b.length ≤ j) : zs ++ comG s b = goal := by
  rw [← h, List.drop_of_length_le hj]
  simp
/-- What the inner walk has: the list drawn up, the outer range in its block, apart. -/
structure OutR (W0 wr : World) (v : Value) (zs : List Rg) (R : Nat) (f t : Int) : Prop where
  out : OutS W0 wr v zs
  blk : Rb wr R f t
  ne : v.ownBlock ≠ some R
theorem OutR.start {W0 wr : World} {v : Value} {zs : List Rg} (h : OutS W0 wr v zs) (f t : Int) : OutR W0 (wr.alloc (.cells #[.int .i64 f, .int .i64 t] 47)) v zs wr.heap.size f t :=
  ⟨h.alloc _, heap_alloc_new wr _, fun e => by have := (h.own.lt _ e).2; omega⟩
theorem OutR.alloc {W0 wr : World} {v : Value} {zs : List Rg} {R : Nat} {f t : Int} (h : OutR W0 wr v zs R f t) (o : Obj) : OutR W0 (wr.alloc o) v zs R f t :=
  ⟨h.out.alloc o, (heap_alloc_old wr o h.blk.lt).trans h.blk, h.ne⟩
theorem OutR.drewN {W0 wr : World} {v : Value} {zs : List Rg} {R : Nat} {f t : Int} (h : OutR W0 wr v zs R f t) (n : Nat) : OutR W0 (wr.drewN n) v zs R f t :=
  ⟨h.out.drewN n, h.blk, h.ne⟩
theorem OutR.below {W0 wr w1 : World} {v : Value} {zs : List Rg} {R : Nat} {f t : Int} (h : OutR W0 wr v zs R f t) (l : Below wr.heap.size wr w1) : OutR W0 w1 v zs R f t :=
  ⟨h.out.below l, (l.block R h.blk.lt).trans h.blk, h.ne⟩
theorem keep4c {W w' : World} {a1 a2 a3 a4 : Addr} {v1 v2 v3 v4 : Value} {B : Nat} (h1 : W.cell? a1 = some v1) (h2 : W.cell? a2 = some v2) (h3 : W.cell? a3 = some v3) (h4 : W.cell? a4 = some v4)
    (b1 : a1.block < B) (b2 : a2.block < B) (b3 : a3.block < B) (b4 : a4.block < B) (hb : Below B W w') :
    w'.cell? a1 = some v1 ∧ w'.cell? a2 = some v2 ∧ w'.cell? a3 = some v3 ∧ w'.cell? a4 = some v4 ∧ Below B W w' :=
  ⟨(hb.cell b1).trans h1, (hb.cell b2).trans h2, (hb.cell b3).trans h3, (hb.cell b4).trans h4, hb⟩
theorem OutR.app {W0 wr w1 : World} {v v' : Value} {zs zs5 : List Rg} {R : Nat} {f t p q : Int} (h : OutR W0 wr v zs R f t) (hz : zs5 = zs ++ [(p, q)]) (ho : w1.ownsRow W0.heap.size 47 2 v' (zs.length + 1) (rgF zs ++ [.int .i64 p, .int .i64 q])) (hg : wr.grownBy w1 v.ownBlock) (hb : v'.ownBlock = v.ownBlock ∨ v'.ownBlock = some wr.heap.size) :
    ∃ g c, v' = .slice (some ⟨g, 0, none⟩) zs5.length c ∧ OutR W0 w1 (.slice (some ⟨g, 0, none⟩) zs5.length c) zs5 R f t := by
  obtain ⟨g, c, rfl, ho2⟩ := h.out.app hz ho hg
  refine ⟨g, c, rfl, ho2, (hg.block R h.blk.lt (fun e => h.ne e.symm)).trans h.blk, ?_⟩
  rcases hb with hb | hb
  · rw [hb]; exact h.ne
  · rw [hb]
    intro e
    have := h.blk.lt
    have e2 := Option.some.inj e
    omega
set_option maxRecDepth 100000 in
set_option maxHeartbeats 4000000 in
theorem common_any (v1 v2 : Value) (s1 s2 : List Rg) (w : World) (h1 : Row w v1 s1.length (rgF s1)) (h2 : Row w v2 s2.length (rgF s2)) (hc1 : rgCh s1) (hc2 : rgCh s2) :
    Calls Tryz.prog 25 #[v1, v2] w fun e w' => ∃ v', e = .returned v' ∧ w'.ownsRow w.heap.size 47 2 v' (comG s1 s2).length (rgF (comG s1 s2)) ∧ Below w.heap.size w w' := by
  obtain ⟨i0, hi, hz0, hz1, hz2⟩ := info_parts infoRg
  have hgl := rg_len (comG_good hc1 hc2).1
  obtain ⟨a1, cap1, rfl, hd1, hm1, hcell1⟩ := rg_open h1
  obtain ⟨a2, cap2, rfl, hd2, hm2, hcell2⟩ := rg_open h2
  have HC1 := Lib.hid hcell1
  have HC2 := Lib.hid hcell2
  clear hcell1 hcell2 h1 h2 hc1 hc2
  unfold maxLen at hm1 hm2
  have HE0 : Hid ([] ++ comG (s1.drop 0) s2 = comG s1 s2) := Lib.hid rfl
  generalize comG s1 s2 = goal at HE0 hgl ⊢
  have HS0 := Lib.hid (OutS.start w w (Below.refl _ _))
  obtain ⟨n, hN⟩ : ∃ n, n = s1.length := ⟨_, rfl⟩
  rw [← hN] at hd1 ⊢
  have HN := Lib.hid hN
  obtain ⟨m, hM⟩ : ∃ m, m = s2.length := ⟨_, rfl⟩
  rw [← hM] at hd2 ⊢
  have HM := Lib.hid hM
  clear hN hM
  go_enter Tryz.func25, Tryz.ntmps25
  go_wp2_with fail
  go_loopw [5, 15] (fun o i wr => ∃ (k : Nat) (az : Option Addr) (cz : Nat) (zs : List Rg), k ≤ n ∧ i = .int .i64 k ∧ o = .slice az zs.length cz ∧ Hid (OutS w wr (.slice az zs.length cz) zs) ∧ Hid (zs ++ comG (s1.drop k) s2 = goal)) (fun _ i _ => n - (RowKit.intOf i).toNat)
  case atStart => exact ⟨0, some ⟨w.heap.size, 0, none⟩, 0, [], Nat.zero_le _, rfl, rfl, HS0, HE0⟩
  case round =>
    clear HS0 HE0
    obtain ⟨k, az, cz, zs, hk, rfl, rfl, HS, HE⟩ := hrel
    by_cases hkn : k < n
    · have hks : k < s1.length := by rw [← HN.out]; exact hkn
      obtain ⟨b, off, rfl, hb, hf, ht⟩ := HC1.out k hks
      have hf1 := (HS.out.bel.cell hb).trans hf
      have ht1 := (HS.out.bel.cell hb).trans ht
      have hE := HE.out
      rw [List.drop_eq_getElem_cons hks] at hE
      clear hf ht HE
      obtain ⟨f, t, hu⟩ : ∃ f t, s1[k] = (f, t) := ⟨_, _, rfl⟩
      rw [hu] at hf1 ht1 hE
      simp only at hf1 ht1
      clear hu
      have HEi := Lib.hid (com_open hE)
      have HRi := Lib.hid (OutR.start HS.out f t)
      obtain ⟨R, hR⟩ : ∃ R, R = wr.heap.size := ⟨_, rfl⟩
      obtain ⟨wo, hwo⟩ : ∃ wo, wo = wr := ⟨_, rfl⟩
      clear hE
      go_wp2_with fail
      rw [← hR] at HRi ⊢
      go_loopw [5, 21] (fun o i wx => ∃ (j : Nat) (az : Option Addr) (cz : Nat) (zs : List Rg), j ≤ m ∧ i = .int .i64 j ∧ o = .slice az zs.length cz ∧ Hid (OutR w wx (.slice az zs.length cz) zs R f t) ∧ Hid (zs ++ ((s2.drop j).flatMap (meetR (f, t)) ++ comG (s1.drop (k + 1)) s2) = goal)) (fun _ i _ => m - (RowKit.intOf i).toNat)
      case atStart => exact ⟨0, az, cz, zs, Nat.zero_le _, rfl, rfl, HRi, HEi⟩
      case round =>
        clear HRi HEi HS hf1 ht1 hR hwo
        obtain ⟨j, az, cz, zs, hj, rfl, rfl, HR, HE⟩ := hrel
        have hzl := mis_len HE.out
        by_cases hjm : j < m
        · have hjs : j < s2.length := by rw [← HM.out]; exact hjm
          obtain ⟨b2, off2, rfl, hb2, hf2, ht2⟩ := HC2.out j hjs
          have q1 := (HR.out.out.bel.cell hb2).trans hf2
          have q2 := (HR.out.out.bel.cell hb2).trans ht2
          have hE := HE.out
          rw [List.drop_eq_getElem_cons hjs] at hE
          clear hf2 ht2 HE
          obtain ⟨f2, t2, hu⟩ : ∃ f t, s2[j] = (f, t) := ⟨_, _, rfl⟩
          rw [hu] at q1 q2 hE
          simp only at q1 q2
          clear hu
          obtain ⟨p, hp⟩ : ∃ p, p = max f f2 := ⟨_, rfl⟩
          obtain ⟨q, hq⟩ : ∃ q, q = min t t2 := ⟨_, rfl⟩
          have HHit := Lib.hid (com_hit (p := p) (q := q) hE hp hq)
          have HMiss := Lib.hid (com_miss (p := p) (q := q) hE hp hq)
          have HP := Lib.hid hp
          have HQ := Lib.hid hq
          obtain ⟨W5, hW5⟩ : ∃ W5, W5 = wr.alloc (.cells #[.int .i64 f2, .int .i64 t2] 47) := ⟨_, rfl⟩
          have HR5 : Hid (OutR w W5 (.slice az zs.length cz) zs R f t) := Lib.hid (by rw [hW5]; exact HR.out.alloc _)
          have HB5 : Hid (Rb W5 wr.heap.size f2 t2) := Lib.hid (by rw [hW5]; exact heap_alloc_new wr _)
          clear hE hp hq
          go_upto_region 8 with fail
          rw [← hW5]
          clear hW5
          go_cut [10, 11] from 25 to 34 (fun a b wz => a = .int .i64 p ∧ b = .int .i64 q ∧ Hid (Below W5.heap.size W5 wz))
          case first => as_aux_lemma =>
            obtain ⟨c1, c2⟩ := HR5.out.blk.cells
            obtain ⟨c3, c4⟩ := HB5.out.cells
            have HK := Lib.hid (fun (w' : World) (hb : Below W5.heap.size W5 w') => keep4c c1 c2 c3 c4 HR5.out.blk.lt HR5.out.blk.lt HB5.out.lt HB5.out.lt hb)
            go_region_held3 (fun w' => w'.cell? ⟨R, 0, none⟩ = some (.int .i64 f) ∧ w'.cell? ⟨R, 1, none⟩ = some (.int .i64 t) ∧ w'.cell? ⟨wr.heap.size, 0, none⟩ = some (.int .i64 f2) ∧ w'.cell? ⟨wr.heap.size, 1, none⟩ = some (.int .i64 t2) ∧ Below W5.heap.size W5 w')
              ((refine HK.out _ ?_; repeat (first | assumption | exact Below.refl _ _ | refine Below.drew ?_)))
              (fail)
            all_goals go_wp2_with fail
            all_goals go_meet
            all_goals
              case rel => exact ⟨vint (by rw [HP.out]; omega), vint (by rw [HQ.out]; omega), Lib.hid (by repeat (first | assumption | exact Below.refl _ _ | refine Below.drew ?_))⟩
          case rest => as_aux_lemma =>
            obtain ⟨rfl, rfl, HW⟩ := hcut
            have HR6 := Lib.hid (HR5.out.below HW.out)
            clear HR5 HB5 HW q1 q2
            by_cases hpq : p ≤ q
            · have HE2 := Lib.hid (HHit.out hpq)
              have HR7 := Lib.hid (HR6.out.alloc (.cells #[.int .i64 p, .int .i64 q] 47))
              have HW := Lib.hid (row_new2 wc p q)
              go_wp2_with (at_builtin; refine wpList_append_own_at _ rfl _ _ 24 rfl w.heap.size 47 i0 (.agg #[.int .i64 0, .int .i64 0]) 2 16 Tryz.underlying24 hi hz0 hz1 hz2 rfl (by decide) _ zs.length (rgF zs) rfl HR7.out.out.own ⟨wc.heap.size, 0, none⟩ 1 1 [.int .i64 p, .int .i64 q] (by first | rfl | simp) rfl (row_news HW.out) (two_one _ _) (by unfold maxLen; omega) (by omega) HR7.out.out.bel.size ?_; intro v' w4 hown' hgrow _ hblk; obtain ⟨zs5, hz5⟩ : ∃ z, z = zs ++ [(p, q)] := ⟨_, rfl⟩; obtain ⟨g5, c5, rfl, hs5⟩ := HR7.out.app hz5 hown' hgrow hblk; have HS5 := Lib.hid hs5; have HZ5 := Lib.hid hz5; clear hown' hgrow hs5 hz5 hblk)
              go_roundw
              case rel => exact ⟨j + 1, _, c5, zs5, by omega, by go_num, rfl, HS5, Lib.hid (by rw [HZ5.out]; exact HE2.out)⟩
              case measure => (simp [RowKit.intOf]; omega)
            · have HE2 := Lib.hid (HMiss.out hpq)
              go_wp2_with fail
              go_roundw
              case rel => exact ⟨j + 1, az, cz, zs, by omega, by go_num, rfl, HR6, HE2⟩
              case measure => (simp [RowKit.intOf]; omega)
        · obtain rfl : j = m := by omega
          have HE2 := Lib.hid (com_shut HE.out (by rw [← HM.out]; exact Nat.le_refl _))
          go_wp2_with fail
          go_roundw
          case rel => exact ⟨k + 1, az, cz, zs, by omega, by go_num, rfl, Lib.hid HR.out.out, HE2⟩
          case measure => (simp [RowKit.intOf]; omega)
    · obtain rfl : k = n := by omega
      have hE := HE.out
      rw [List.drop_of_length_le (by rw [← HN.out]; exact Nat.le_refl _)] at hE
      have hE2 : zs = goal := by rw [← hE]; unfold comG; simp
      have HE2 := Lib.hid hE2
      clear hE hE2
      go_wp2_with fail
      go_ret
      exact ⟨_, rfl, by rw [← HE2.out]; exact HS.out.own, HS.out.bel⟩
end Go.Proofs.YtneimcacpbepfaaGreatDoor

namespace Go.Proofs.YtneimcacpbepfaaGreatDoor
open Go.RowKit Go.Lib Go.Joins
set_option linter.unusedVariables false

set_option maxHeartbeats 1000000 in
theorem keepIf_any (B : Nat) (v : Value) (s : List Rg) (w : World) (ho : w.ownsRow B 47 2 v s.length (rgF s)) (hB : B ≤ w.heap.size) :
    Calls Tryz.prog 22 #[v] w fun e w' => ∃ v', e = .returned (.tuple #[v', .bool (rgOk s)]) ∧ w'.ownsRow B 47 2 v' (chkL s).length (rgF (chkL s)) ∧ Below w.heap.size w w' := by
  have HO := Lib.hid ho
  obtain ⟨a, cap, rfl, _, _⟩ := ownz_slice ho
  have HG := Lib.hid (implIsSet_any _ s w (rowz_own ho))
  have HB := Lib.hid hB
  clear ho hB
  cases hg : rgOk s with
  | false =>
    rw [hg] at HG
    have HL : Hid (chkL s = []) := Lib.hid (chkL_no hg)
    clear hg
    go_enter Tryz.func22, Tryz.ntmps22
    go_wp2_with fail
    refine HG.out.mono ?_
    rintro e w1 ⟨rfl, l1⟩
    have HB1 := Lib.hid l1
    clear l1
    go_wp2_with fail
    go_ret2
    exact ⟨_, rfl, by rw [HL.out]; exact lit_none w1 B (Nat.le_trans HB.out HB1.out.size), b_a HB1.out _⟩
  | true =>
    rw [hg] at HG
    have HL : Hid (chkL s = s) := Lib.hid (chkL_yes hg)
    clear hg
    go_enter Tryz.func22, Tryz.ntmps22
    go_wp2_with fail
    refine HG.out.mono ?_
    rintro e w1 ⟨rfl, l1⟩
    have HB1 := Lib.hid l1
    clear l1
    go_wp2_with fail
    go_ret2
    exact ⟨_, rfl, by rw [HL.out]; exact ownz_below HO.out HB1.out (Nat.le_refl _), HB1.out⟩
set_option maxHeartbeats 2000000 in
theorem implCommon_any (v u : Value) (x y : List Rg) (w : World) (hx : Row w v x.length (rgF x)) (hy : Row w u y.length (rgF y)) :
    Calls Tryz.prog 7 #[v, u] w fun e w' => ∃ v', e = .returned (.tuple #[v', .bool (twoOk x y (coG x y))]) ∧ w'.ownsRow w.heap.size 47 2 v' (twoL x y (coG x y)).length (rgF (twoL x y (coG x y))) ∧ Below w.heap.size w w' := by
  have HX := Lib.hid hx
  have HY := Lib.hid hy
  have HG1 := Lib.hid (implIsSet_any _ x w hx)
  have HG2 := Lib.hid (fun (W : World) (hW : Below w.heap.size w W) => implIsSet_any _ y W (hy.below hW (Nat.le_refl _)))
  have hp := fun h => @rgOk_parts x h
  have hq := fun h => @rgOk_parts y h
  have HNo := Lib.hid (two_no (x := x) (y := y) (coG x y))
  have HYes := Lib.hid (two_yes (x := x) (y := y) (coG x y))
  obtain ⟨a, ca, rfl, _, _, _⟩ := rg_open hx
  obtain ⟨b, cb, rfl, _, _, _⟩ := rg_open hy
  clear hx hy
  cases b1 : rgOk x with
  | false =>
    rw [b1] at HG1
    obtain ⟨h1, h2⟩ := HNo.out (by rw [b1]; rfl)
    have HO := Lib.hid h1
    have HL := Lib.hid h2
    clear h1 h2 b1 hp hq HYes HNo
    go_enter Tryz.func7, Tryz.ntmps7
    go_wp2_with fail
    refine HG1.out.mono ?_
    rintro e w1 ⟨rfl, l1⟩
    have HB1 := Lib.hid l1
    clear l1
    go_wp2_with fail
    go_ret2
    exact ⟨_, ret_vb5 rfl HO.out.symm, by rw [HL.out]; exact lit_none w1 w.heap.size HB1.out.size, b_a HB1.out _⟩
  | true =>
    rw [b1] at HG1
    cases b2 : rgOk y with
    | false =>
      rw [b2] at HG2
      obtain ⟨h1, h2⟩ := HNo.out (by rw [b1, b2]; rfl)
      have HO := Lib.hid h1
      have HL := Lib.hid h2
      clear h1 h2 b1 b2 hp hq HYes HNo
      go_enter Tryz.func7, Tryz.ntmps7
      go_wp2_with fail
      refine HG1.out.mono ?_
      rintro e w1 ⟨rfl, l1⟩
      have HB1 := Lib.hid l1
      clear l1
      go_wp2_with fail
      refine (HG2.out _ HB1.out).mono ?_
      rintro e w2 ⟨rfl, l2⟩
      have HB2 := Lib.hid (HB1.out.trans (l2.mono HB1.out.size))
      clear l2
      go_wp2_with fail
      go_ret2
      exact ⟨_, ret_vb5 rfl HO.out.symm, by rw [HL.out]; exact lit_none w2 w.heap.size HB2.out.size, b_a HB2.out _⟩
    | true =>
      rw [b2] at HG2
      obtain ⟨h1, h2⟩ := HYes.out (by rw [b1, b2]; rfl)
      have HO := Lib.hid h1
      have HL := Lib.hid h2
      have HCx := Lib.hid (hp b1).1
      have HCy := Lib.hid (hq b2).1
      have hlx : x.length ≤ 10 := (hp b1).2
      have hly : y.length ≤ 10 := (hq b2).2
      clear h1 h2 b1 b2 hp hq HYes HNo
      have hE := com_co HCx.out HCy.out
      have HM := Lib.hid (fun (W : World) (hW : Below w.heap.size w W) => common_any _ _ x y W (HX.out.below hW (Nat.le_refl _)) (HY.out.below hW (Nat.le_refl _)) HCx.out HCy.out)
      rw [hE] at HM
      generalize coG x y = zs at HO HL HM
      clear hE
      go_enter Tryz.func7, Tryz.ntmps7
      go_wp2_with fail
      refine HG1.out.mono ?_
      rintro e w1 ⟨rfl, l1⟩
      have HB1 := Lib.hid l1
      clear l1
      go_wp2_with fail
      refine (HG2.out _ HB1.out).mono ?_
      rintro e w2 ⟨rfl, l2⟩
      have HB2 := Lib.hid (HB1.out.trans (l2.mono HB1.out.size))
      clear l2 HB1 HG1 HG2
      go_wp2_with fail
      refine (HM.out _ HB2.out).mono ?_
      rintro e w4 ⟨v4, rfl, o4, l4⟩
      replace l4 := HB2.out.trans (l4.mono HB2.out.size)
      replace o4 := ownz_base o4 HB2.out.size
      clear HM
      have HC3 := Lib.hid (keepIf_any w.heap.size v4 zs w4 o4 l4.size)
      obtain ⟨a4, c4, rfl, _, _⟩ := ownz_slice o4
      have HB4 := Lib.hid l4
      clear l4 o4
      go_wp2_with fail
      refine HC3.out.mono ?_
      rintro e w5 ⟨v5, rfl, o5, l5⟩
      have HB5 := Lib.hid (HB4.out.trans (l5.mono HB4.out.size))
      have HO5 := Lib.hid o5
      obtain ⟨a5, c5, rfl, _, _⟩ := ownz_slice o5
      clear l5 o5
      go_wp2_with fail
      go_ret2
      exact ⟨_, ret_vb5 rfl HO.out.symm, by rw [HL.out]; exact HO5.out, HB5.out⟩
set_option maxHeartbeats 2000000 in
theorem implWithout_any (v u : Value) (x y : List Rg) (w : World) (hx : Row w v x.length (rgF x)) (hy : Row w u y.length (rgF y)) :
    Calls Tryz.prog 8 #[v, u] w fun e w' => ∃ v', e = .returned (.tuple #[v', .bool (twoOk x y (wiG x y))]) ∧ w'.ownsRow w.heap.size 47 2 v' (twoL x y (wiG x y)).length (rgF (twoL x y (wiG x y))) ∧ Below w.heap.size w w' := by
  have HX := Lib.hid hx
  have HY := Lib.hid hy
  have HG1 := Lib.hid (implIsSet_any _ x w hx)
  have HG2 := Lib.hid (fun (W : World) (hW : Below w.heap.size w W) => implIsSet_any _ y W (hy.below hW (Nat.le_refl _)))
  have hp := fun h => @rgOk_parts x h
  have hq := fun h => @rgOk_parts y h
  have HNo := Lib.hid (two_no (x := x) (y := y) (wiG x y))
  have HYes := Lib.hid (two_yes (x := x) (y := y) (wiG x y))
  obtain ⟨a, ca, rfl, _, _, _⟩ := rg_open hx
  obtain ⟨b, cb, rfl, _, _, _⟩ := rg_open hy
  clear hx hy
  cases b1 : rgOk x with
  | false =>
    rw [b1] at HG1
    obtain ⟨h1, h2⟩ := HNo.out (by rw [b1]; rfl)
    have HO := Lib.hid h1
    have HL := Lib.hid h2
    clear h1 h2 b1 hp hq HYes HNo
    go_enter Tryz.func8, Tryz.ntmps8
    go_wp2_with fail
    refine HG1.out.mono ?_
    rintro e w1 ⟨rfl, l1⟩
    have HB1 := Lib.hid l1
    clear l1
    go_wp2_with fail
    go_ret2
    exact ⟨_, ret_vb5 rfl HO.out.symm, by rw [HL.out]; exact lit_none w1 w.heap.size HB1.out.size, b_a HB1.out _⟩
  | true =>
    rw [b1] at HG1
    cases b2 : rgOk y with
    | false =>
      rw [b2] at HG2
      obtain ⟨h1, h2⟩ := HNo.out (by rw [b1, b2]; rfl)
      have HO := Lib.hid h1
      have HL := Lib.hid h2
      clear h1 h2 b1 b2 hp hq HYes HNo
      go_enter Tryz.func8, Tryz.ntmps8
      go_wp2_with fail
      refine HG1.out.mono ?_
      rintro e w1 ⟨rfl, l1⟩
      have HB1 := Lib.hid l1
      clear l1
      go_wp2_with fail
      refine (HG2.out _ HB1.out).mono ?_
      rintro e w2 ⟨rfl, l2⟩
      have HB2 := Lib.hid (HB1.out.trans (l2.mono HB1.out.size))
      clear l2
      go_wp2_with fail
      go_ret2
      exact ⟨_, ret_vb5 rfl HO.out.symm, by rw [HL.out]; exact lit_none w2 w.heap.size HB2.out.size, b_a HB2.out _⟩
    | true =>
      rw [b2] at HG2
      obtain ⟨h1, h2⟩ := HYes.out (by rw [b1, b2]; rfl)
      have HO := Lib.hid h1
      have HL := Lib.hid h2
      have HCx := Lib.hid (hp b1).1
      have HCy := Lib.hid (hq b2).1
      have hlx : x.length ≤ 10 := (hp b1).2
      have hly : y.length ≤ 10 := (hq b2).2
      clear h1 h2 b1 b2 hp hq HYes HNo
      have hE := com_wi HCx.out HCy.out
      have hmg := (misG_good (n := 0) HCy.out (Int.le_refl _) (by omega) (fun r hr => (HCy.out.2 r hr).1)).1
      have HM1 := Lib.hid (fun (W : World) (hW : Below w.heap.size w W) => missing_any _ y W (HY.out.below hW (Nat.le_refl _)) HCy.out)
      have HM2 := Lib.hid (fun (W : World) (vv : Value) (hW : Below w.heap.size w W) (hv : Row W vv (misG y 0).length (rgF (misG y 0))) => common_any _ vv x (misG y 0) W (HX.out.below hW (Nat.le_refl _)) hv HCx.out hmg)
      rw [hE] at HM2
      generalize wiG x y = zs at HO HL HM2
      clear hE hmg
      generalize misG y 0 = ms at HM1 HM2
      go_enter Tryz.func8, Tryz.ntmps8
      go_wp2_with fail
      refine HG1.out.mono ?_
      rintro e w1 ⟨rfl, l1⟩
      have HB1 := Lib.hid l1
      clear l1
      go_wp2_with fail
      refine (HG2.out _ HB1.out).mono ?_
      rintro e w2 ⟨rfl, l2⟩
      have HB2 := Lib.hid (HB1.out.trans (l2.mono HB1.out.size))
      clear l2 HB1 HG1 HG2
      go_wp2_with fail
      refine (HM1.out _ HB2.out).mono ?_
      rintro e w3 ⟨v3, rfl, o3, l3⟩
      have HB3 := Lib.hid (HB2.out.trans (l3.mono HB2.out.size))
      have HO3 := Lib.hid (rowz_own o3)
      obtain ⟨a3, c3, rfl, _, _⟩ := ownz_slice o3
      clear o3 l3 HM1
      go_wp2_with fail
      refine (HM2.out _ _ HB3.out HO3.out).mono ?_
      rintro e w4 ⟨v4, rfl, o4, l4⟩
      replace l4 := HB3.out.trans (l4.mono HB3.out.size)
      replace o4 := ownz_base o4 HB3.out.size
      clear HM2
      have HC3 := Lib.hid (keepIf_any w.heap.size v4 zs w4 o4 l4.size)
      obtain ⟨a4, c4, rfl, _, _⟩ := ownz_slice o4
      have HB4 := Lib.hid l4
      clear l4 o4
      go_wp2_with fail
      refine HC3.out.mono ?_
      rintro e w5 ⟨v5, rfl, o5, l5⟩
      have HB5 := Lib.hid (HB4.out.trans (l5.mono HB4.out.size))
      have HO5 := Lib.hid o5
      obtain ⟨a5, c5, rfl, _, _⟩ := ownz_slice o5
      clear l5 o5
      go_wp2_with fail
      go_ret2
      exact ⟨_, ret_vb5 rfl HO.out.symm, by rw [HL.out]; exact HO5.out, HB5.out⟩
theorem rgOk_one (f t : Int) : rgOk [(f, t)] = (serB f && (serB t && decide (f ≤ t))) := by
  by_cases h : 0 ≤ f ∧ f ≤ t ∧ t ≤ 65535
  · have hc : rgCh [(f, t)] := rgCh_cons.2 ⟨by simp, ⟨h.1, h.2.1, h.2.2⟩, rgCh_nil⟩
    rw [rgOk_len hc, serB_yes h.1 (by omega), serB_yes (by omega) h.2.2, decide_eq_true h.2.1]
    rfl
  · have hc : ¬ rgCh [(f, t)] := fun hc => h ((rgCh_cons.1 hc).2.1)
    rw [rgOk_ch hc]
    by_cases hf : 0 ≤ f ∧ f ≤ 65535
    · by_cases ht : 0 ≤ t ∧ t ≤ 65535
      · rw [decide_eq_false (p := f ≤ t) (by omega)]
        simp
      · rw [serB_no ht]
        simp
    · rw [serB_no hf]
      rfl
theorem rem_two (s : List Rg) (f t : Int) : twoOk s [(f, t)] (wiG s [(f, t)]) = remOk s f t ∧ twoL s [(f, t)] (wiG s [(f, t)]) = remL s f t := by
  have e : twoOk s [(f, t)] (wiG s [(f, t)]) = remOk s f t := by
    unfold twoOk remOk askOk
    rw [rgOk_one]
    rfl
  refine ⟨e, ?_⟩
  unfold twoL remL
  rw [e]
  rfl
theorem row_one2 (w : World) (f t : Int) : Row (w.alloc (.cells #[.int .i64 f, .int .i64 t] 47)) (.slice (some ⟨w.heap.size, 0, none⟩) 1 1) [(f, t)].length (rgF [(f, t)]) := row_new2 w f t
end Go.Proofs.YtneimcacpbepfaaGreatDoor
