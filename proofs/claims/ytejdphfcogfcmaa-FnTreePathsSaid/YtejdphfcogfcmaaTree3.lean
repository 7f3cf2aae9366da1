/-
  Trees: the specification's leaves and paths.
-/
import Derived.Test.YtejdphfcogfcmaaTree2
namespace Go.Proofs.Ytejdphfcogfcmaa
open Go.RowKit Go.Lib Go.Joins
set_option linter.unusedVariables false

theorem chl_len (p : List Int) (x : Int) : (chl p x).length ≤ p.length := pick6_len _ _
set_option maxHeartbeats 2000000 in
theorem l6Leaves_any (v : Value) (p : List Int) (w : World) (hrow : Row w v p.length (p.map (Value.int .i64))) (hl : p.length ≤ 8) :
    Calls Try.prog 60 #[.agg #[v]] w fun e w' => ∃ g c, e = .returned (.slice (some ⟨g, 0, none⟩) (lvs p).length c) ∧ OutI w w' g c (lvs p) := by
  obtain ⟨i0, hi, hz0, hz1, hz2⟩ := info_parts infoInt
  obtain ⟨W, hW⟩ : ∃ W, W = w.alloc (.cells #[v] 26) := ⟨_, rfl⟩
  have HT : Hid (Tr W w.heap.size v p) := Lib.hid (by rw [hW]; exact Tr.new hrow)
  have HB : Hid (Below w.heap.size w W) := Lib.hid (by rw [hW]; exact (Below.refl w.heap.size w).alloc (Nat.le_refl _) _)
  have HW := Lib.hid hW
  clear hW
  have HS := Lib.hid (OutI.start W)
  obtain ⟨a, cap, rfl, hc1, hm1, _⟩ := row_open hrow
  clear hrow
  unfold maxLen at hm1
  have hx := HT.out.cell
  obtain ⟨R, hR⟩ : ∃ R, R = w.heap.size := ⟨_, rfl⟩
  rw [← hR] at HT hx
  have HR := Lib.hid hR
  clear hR
  have HCh := Lib.hid (fun (y : Int) (W1 : World) h => l6Children_any (.slice a p.length cap) p y W1 h hl)
  have HCl := Lib.hid (chl_len p)
  obtain ⟨n, hN⟩ : ∃ n, n = p.length := ⟨_, rfl⟩
  rw [← hN] at hc1 HT HW hx hl HCh HCl ⊢
  have HN := Lib.hid hN
  have HG : Hid (pick6 (lfB p) n = lvs p) := Lib.hid (by rw [hN]; rfl)
  clear hN
  generalize lvs p = goal at HG ⊢
  go_enter Try.func60, Try.ntmps60
  go_upto_region 1 with fail
  rw [← HW.out, ← HR.out]
  go_wp2_with fail
  go_loopw [3, 4] (fun o i wr => ∃ (k g c : Nat) (zs : List Int), 1 ≤ k ∧ (k ≤ n ∨ k = 1) ∧ i = .int .i64 k ∧ o = .slice (some ⟨g, 0, none⟩) zs.length c ∧ zs.length ≤ k ∧ Hid (zs = pick6 (lfB p) k) ∧ Hid (OutI W wr g c zs)) (fun _ i _ => n - (RowKit.intOf i).toNat)
  case atStart => exact ⟨1, _, _, [], Nat.le_refl _, .inr rfl, rfl, rfl, by simp, Lib.hid rfl, HS⟩
  case round =>
    clear HS hx
    obtain ⟨k, g, c, zs, hk1, hk, rfl, rfl, hzl, HZ, HO⟩ := hrel
    have HTr := Lib.hid (HT.out.below HO.out.bel)
    have hx := HTr.out.cell
    by_cases hkn : k < n
    · have HY : Hid (chl p (k : Int) = [] → pick6 (lfB p) (k + 1) = pick6 (lfB p) k ++ [(k : Int)]) := Lib.hid (fun h => pick6_yes (by unfold lfB; rw [decide_eq_true hk1, decide_eq_true h]; rfl))
      have HNo : Hid (chl p (k : Int) ≠ [] → pick6 (lfB p) (k + 1) = pick6 (lfB p) k) := Lib.hid (fun h => pick6_no (by unfold lfB; rw [decide_eq_false h, Bool.and_false]))
      have HC1 := Lib.hid (HCh.out (k : Int) wr (by have h := HTr.out.row; rw [← HN.out] at h; exact h))
      have hcl := HCl.out (k : Int)
      obtain ⟨m, hm⟩ : ∃ m, m = (chl p (k : Int)).length := ⟨_, rfl⟩
      rw [← hm] at HC1 hcl
      have HM := Lib.hid hm
      clear hm
      go_wp2_with fail
      refine HC1.out.mono ?_
      rintro e w3 ⟨g3, c3, rfl, o3⟩
      have HO3 := Lib.hid (HO.out.below o3.bel)
      have hws := HO3.out.bel.size
      clear o3 HC1
      by_cases hm0 : m = 0
      · subst hm0
        have HZ2 := Lib.hid (HY.out (List.eq_nil_of_length_eq_zero HM.out.symm))
        clear HY HNo
        go_wp2_with (at_builtin; refine wpList_append_own _ rfl _ _ 24 rfl W.heap.size 3 i0 (.int .i64 0) 1 8 Try.underlying24 hi hz0 hz1 hz2 rfl (by decide) _ _ _ rfl (HO3.out.own.alloc _) ⟨w3.heap.size, 0, none⟩ 1 1 [.int .i64 k] rfl rfl (cell_one_new _ _ _) (by intro u hu; simp at hu; subst hu; rfl) (by unfold maxLen; omega) (by omega) (by simp; omega) ?_; intro v' w4 hown' hgrow hiff; obtain ⟨zs5, hz5⟩ : ∃ z, z = zs ++ [(k : Int)] := ⟨_, rfl⟩; obtain ⟨g5, c5, rfl, hs5⟩ := HO3.out.app hz5 hown' hgrow; have HS5 := Lib.hid hs5; have HZ5 := Lib.hid hz5; clear hown' hgrow hiff hs5 hz5)
        go_roundw
        case rel => exact ⟨k + 1, g5, c5, zs5, by omega, .inl (by omega), by go_num, rfl, by rw [HZ5.out, List.length_append]; simp only [List.length_cons, List.length_nil]; omega, Lib.hid (by rw [HZ5.out, HZ.out, HZ2.out]), HS5⟩
        case measure => (simp [RowKit.intOf]; omega)
      · have HZ2 := Lib.hid (HNo.out (fun e => hm0 (by rw [HM.out, e]; rfl)))
        have hne : ((m : Int) == 0) = false := by simp; omega
        clear HY HNo hm0
        go_wp2_with fail
        go_roundw
        case rel => exact ⟨k + 1, g, c, zs, by omega, .inl (by omega), by go_num, rfl, by omega, Lib.hid (by rw [HZ2.out]; exact HZ.out), HO3⟩
        case measure => (simp [RowKit.intOf]; omega)
    · have HE : Hid (zs = goal) := Lib.hid (by
        rw [HZ.out, ← HG.out]
        by_cases h1 : k = n
        · rw [h1]
        · have h2 : k = 1 := by omega
          have h3 : n = 0 := by omega
          subst h2; subst h3
          rw [pick6_no (show lfB p 0 = false from rfl)])
      go_wp2_with fail
      go_ret
      exact ⟨g, c, by rw [← HE.out]; rfl, by rw [← HE.out]; exact HO.out.base HB.out⟩
/-- The path up to a node, or nothing above the source. -/
def upP (p : List Int) (x : Int) : List Int := if 0 ≤ x then pth p x else []
theorem upP_round {p zs goal : List Int} {k : Nat} (h : trOk p = true) (hk : k < p.length) (hg : upP p (k : Int) ++ zs = goal) : upP p (par6 p k) ++ ([(k : Int)] ++ zs) = goal := by
  unfold upP at hg
  rw [if_pos (by omega), pth_step h hk] at hg
  rw [← hg]
  unfold upP
  by_cases e : k = 0
  · subst e
    rw [(trOk_parts h).2.2.1, if_neg (by omega), if_pos rfl]
    simp
  · obtain ⟨a, _⟩ := (trOk_parts h).2.2.2 k (by omega) hk
    rw [if_pos a, if_neg e]
    simp
theorem par6_bd {p : List Int} (h : trOk p = true) {k : Nat} (hk : k < p.length) : -1 ≤ par6 p k ∧ par6 p k ≤ (k : Int) - 1 := by
  obtain ⟨_, _, h0, hu⟩ := trOk_parts h
  by_cases e : k = 0
  · subst e; rw [h0]; omega
  · have := hu k (by omega) hk; omega
theorem path_app {W0 wr W3 w1 : World} {g c : Nat} {zs zs5 : List Int} {x : Int} {v' : Value} (h : OutI W0 wr g c zs) (hb3 : Below wr.heap.size wr W3) (hz : zs5 = [x] ++ zs)
    (ho : w1.ownsRow wr.heap.size 3 1 v' (1 + zs.length) ([.int .i64 x] ++ zs.map (Value.int .i64))) (hg : W3.grownBy w1 (some wr.heap.size)) :
    ∃ g' c', v' = .slice (some ⟨g', 0, none⟩) zs5.length c' ∧ OutI W0 w1 g' c' zs5 := by
  subst hz
  obtain ⟨g', c', rfl⟩ := own_form ho (by omega)
  have e : ([x] ++ zs).length = 1 + zs.length := by simp; omega
  refine ⟨g', c', by rw [e], ⟨by rw [e, List.map_append, List.map_singleton]; exact own_base ho h.bel.size, ?_⟩⟩
  have hb := h.bel.trans (hb3.mono h.bel.size)
  exact hb.grown hg hb.size (fun k hk => by have e2 : wr.heap.size = k := Option.some.inj hk; have := h.bel.size; omega)
set_option maxRecDepth 100000 in
set_option maxHeartbeats 2000000 in
theorem l6Path_any (v : Value) (p : List Int) (x : Nat) (w : World) (hrow : Row w v p.length (p.map (Value.int .i64))) (hok : trOk p = true) (hxn : x < p.length) :
    Calls Try.prog 48 #[.agg #[v], .int .i64 x] w fun e w' => ∃ g c, e = .returned (.slice (some ⟨g, 0, none⟩) (pth p (x : Int)).length c) ∧ OutI w w' g c (pth p (x : Int)) := by
  obtain ⟨i0, hi, hz0, hz1, hz2⟩ := info_parts infoInt
  obtain ⟨W, hW⟩ : ∃ W, W = w.alloc (.cells #[v] 26) := ⟨_, rfl⟩
  have HT : Hid (Tr W w.heap.size v p) := Lib.hid (by rw [hW]; exact Tr.new hrow)
  have HB : Hid (Below w.heap.size w W) := Lib.hid (by rw [hW]; exact (Below.refl w.heap.size w).alloc (Nat.le_refl _) _)
  have HW := Lib.hid hW
  clear hW
  have HS := Lib.hid (OutI.start W)
  obtain ⟨a, cap, rfl, hc1, hm1, _⟩ := row_open hrow
  clear hrow
  unfold maxLen at hm1
  have hx := HT.out.cell
  obtain ⟨R, hR⟩ : ∃ R, R = w.heap.size := ⟨_, rfl⟩
  rw [← hR] at HT hx
  have HR := Lib.hid hR
  clear hR
  have HG0 : Hid (upP p (x : Int) ++ [] = pth p (x : Int)) := Lib.hid (by unfold upP; rw [if_pos (by omega), List.append_nil])
  have HU := Lib.hid (fun (k : Nat) (zs goal : List Int) (hk : k < p.length) => @upP_round p zs goal k hok hk)
  have HP := Lib.hid (fun (k : Nat) (hk : k < p.length) => @par6_bd p hok k hk)
  have h8 := (trOk_parts hok).2.1
  clear hok
  generalize pth p (x : Int) = goal at HG0 ⊢
  obtain ⟨n, hN⟩ : ∃ n, n = p.length := ⟨_, rfl⟩
  rw [← hN] at hc1 HT HW hx h8 hxn HU HP ⊢
  have HN := Lib.hid hN
  clear hN
  go_enter Try.func48, Try.ntmps48
  go_upto_region 1 with fail
  rw [← HW.out, ← HR.out]
  go_wp2_with fail
  go_loopw [1, 5] (fun i o wr => ∃ (y : Int) (g c : Nat) (zs : List Int), -1 ≤ y ∧ y < n ∧ i = .int .i64 y ∧ o = .slice (some ⟨g, 0, none⟩) zs.length c ∧ (zs.length : Int) + y ≤ 8 ∧ Hid (upP p y ++ zs = goal) ∧ Hid (OutI W wr g c zs)) (fun i _ _ => (RowKit.intOf i + 1).toNat)
  case atStart => exact ⟨x, _, _, [], by omega, by omega, rfl, rfl, by simp; omega, HG0, HS⟩
  case round =>
    clear HS hx HG0
    obtain ⟨y, g, c, zs, hy1, hyn, rfl, rfl, hzl, HG, HO⟩ := hrel
    have HTr := Lib.hid (HT.out.below HO.out.bel)
    by_cases hy0 : 0 ≤ y
    · obtain ⟨k, rfl⟩ : ∃ k : Nat, y = (k : Int) := ⟨y.toNat, by omega⟩
      have hkn : k < n := by omega
      have HG2 := Lib.hid (HU.out k zs goal hkn HG.out)
      obtain ⟨q0, q1⟩ := HP.out k hkn
      have hkP : k < p.length := by rw [← HN.out]; exact hkn
      obtain ⟨b, off, rfl, _⟩ := HTr.out.get (k := k) hkP
      have HGet := Lib.hid (fun (W4 : World) (h : Tr W4 R (.slice (some ⟨b, off, none⟩) n cap) p) => (show W4.cell? ⟨b, off + k, none⟩ = some (.int .i64 (par6 p k)) by
        obtain ⟨b2, off2, e2, hc⟩ := h.get hkP
        injection e2 with e2
        injection e2 with e2 e3 _
        subst e2; subst e3
        exact hc))
      clear hkP
      generalize par6 p k = q at HG2 q0 q1 HGet
      obtain ⟨W3, hW3⟩ : ∃ W3, W3 = wr.alloc (.cells #[.int .i64 (k : Int)] 3) := ⟨_, rfl⟩
      have hb3 : Below wr.heap.size wr W3 := by rw [hW3]; exact (Below.refl _ _).alloc (Nat.le_refl _) _
      have HL3 : Hid (W3.ownsRow wr.heap.size 3 1 (.slice (some ⟨wr.heap.size, 0, none⟩) 1 1) 1 [.int .i64 (k : Int)]) := Lib.hid (by rw [hW3]; exact own_made wr [.int .i64 (k : Int)] 3 1 rfl (by decide))
      have HR3 := Lib.hid (HO.out.row.below hb3 (Nat.le_refl _))
      have HB3 := Lib.hid hb3
      have HW3 := Lib.hid hW3
      have hs3 := hb3.size
      clear hb3 hW3
      go_wp2_with (at_builtin; rw [← HW3.out]; refine wpList_append_own_at _ rfl _ _ 24 rfl wr.heap.size 3 i0 (.int .i64 0) 1 8 Try.underlying24 hi hz0 hz1 hz2 rfl (by decide) _ 1 [.int .i64 (k : Int)] rfl HL3.out ⟨g, 0, none⟩ zs.length c (zs.map (Value.int .i64)) rfl (by rw [List.length_map, Nat.mul_one]) (row_news HR3.out) (one_ints zs) (by unfold maxLen; omega) (by omega) hs3 ?_; intro v' w4 hown' hgrow hiff hblk; obtain ⟨zs5, hz5⟩ : ∃ z, z = [(k : Int)] ++ zs := ⟨_, rfl⟩; obtain ⟨g5, c5, rfl, hs5⟩ := path_app HO.out HB3.out hz5 hown' hgrow; have HTr4 := Lib.hid (HT.out.below hs5.bel); have hx := HTr4.out.cell; have hck := HGet.out _ HTr4.out; have HS5 := Lib.hid hs5; have HZ5 := Lib.hid hz5; have hz5l : zs5.length ≤ zs.length + 1 := (by rw [hz5, List.length_append]; simp only [List.length_cons, List.length_nil]; omega); clear hown' hgrow hiff hblk hs5 hz5)
      go_roundw
      case rel => exact ⟨q, g5, c5, zs5, q0, by omega, rfl, rfl, by omega, Lib.hid (by rw [HZ5.out]; exact HG2.out), HS5⟩
      case measure => (simp [RowKit.intOf]; omega)
    · have HE : Hid (zs = goal) := Lib.hid (by rw [← HG.out]; unfold upP; rw [if_neg hy0]; rfl)
      go_wp2_with fail
      go_ret
      exact ⟨g, c, by rw [← HE.out]; rfl, by rw [← HE.out]; exact HO.out.base HB.out⟩
end Go.Proofs.Ytejdphfcogfcmaa
