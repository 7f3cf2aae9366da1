/-
  Trees: the specification's leaves and paths.
-/
import Derived.Test.YtejdphfcogfcmaaGreatDoorTree2
namespace Go.Proofs.YtejdphfcogfcmaaGreatDoor
open Go.RowKit Go.Lib Go.Joins
set_option linter.unusedVariables false

theorem chl_len (p : List Int) (x : Int) : (chl p x).length ≤ p.length := pick6_len _ _
set_option maxHeartbeats 2000000 in
theorem l6Leaves_any (v : Value) (p : List Int) (w : World) (hrow : Row w v p.length (p.map (Value.int .i64))) (hl : p.length ≤ 8) :
    Calls Tryz.prog 37 #[.agg #[v]] w fun e w' => ∃ g c, e = .returned (.slice (some ⟨g, 0, none⟩) (lvs p).length c) ∧ OutI w w' g c (lvs p) := by
  obtain ⟨i0, hi, hz0, hz1, hz2⟩ := info_parts infoInt
  obtain ⟨W, hW⟩ : ∃ W, W = w.alloc (.cells #[v] 26) := ⟨_, rfl⟩
  have HT : Hid (Tr W w.heap.size v p) := Lib.hid (by rw [hW]; exact Tr.new hrow)
  have HB : Hid (Below w.heap.size w W) := Lib.hid (by rw [hW]; exact (Below.refl w.heap.size w).alloc (Nat.le_refl _) _)
  have HW := Lib.hid hW
  clear hW
  have HS := Lib.hid (OutI.start W)
  obtain ⟨a, cap, rfl, hc1, hm1, _⟩ := row_open hrow
  clear hrow
  unfold maxLen at hm1
  have hx := HT.out.cell
  obtain ⟨R, hR⟩ : ∃ R, R = w.heap.size := ⟨_, rfl⟩
  rw [← hR] at HT hx
  have HR := Lib.hid hR
  clear hR
  have HCh := Lib.hid (fun (y : Int) (W1 : World) h => l6Children_any (.slice a p.length cap) p y W1 h hl)
  have HCl := Lib.hid (chl_len p)
  obtain ⟨n, hN⟩ : ∃ n, n = p.length := ⟨_, rfl⟩
  rw [← hN] at hc1 HT HW hx hl HCh HCl ⊢
  have HN := Lib.hid hN
  have HG : Hid (pick6 (lfB p) n = lvs p) := Lib.hid (by rw [hN]; rfl)
  clear hN
  generalize lvs p = goal at HG ⊢
  go_enter Tryz.func37, Tryz.ntmps37
  go_upto_region 1 with fail
  rw [← HW.out, ← HR.out]
  go_wp2_with fail
  go_loopw [3, 4] (fun o i wr => ∃ (k g c : Nat) (zs : List Int), 1 ≤ k ∧ (k ≤ n ∨ k = 1) ∧ i = .int .i64 k ∧ o = .slice (some ⟨g, 0, none⟩) zs.length c ∧ zs.length ≤ k ∧ Hid (zs = pick6 (lfB p) k) ∧ Hid (OutI W wr g c zs)) (fun _ i _ => n - (RowKit.intOf i).toNat)
  case atStart => exact ⟨1, _, _, [], Nat.le_refl _, .inr rfl, rfl, rfl, by simp, Lib.hid rfl, HS⟩
  case round =>
    clear HS hx
    obtain ⟨k, g, c, zs, hk1, hk, rfl, rfl, hzl, HZ, HO⟩ := hrel
    have HTr := Lib.hid (HT.out.below HO.out.bel)
    have hx := HTr.out.cell
    by_cases hkn : k < n
    · have HY : Hid (chl p (k : Int) = [] → pick6 (lfB p) (k + 1) = pick6 (lfB p) k ++ [(k : Int)]) := Lib.hid (fun h => pick6_yes (by unfold lfB; rw [decide_eq_true hk1, decide_eq_true h]; rfl))
      have HNo : Hid (chl p (k : Int) ≠ [] → pick6 (lfB p) (k + 1) = pick6 (lfB p) k) := Lib.hid (fun h => pick6_no (by unfold lfB; rw [decide_eq_false h, Bool.and_false]))
      have HC1 := Lib.hid (HCh.out (k : Int) wr (by have h := HTr.out.row; rw [← HN.out] at h; exact h))
      have hcl := HCl.out (k : Int)
      obtain ⟨m, hm⟩ : ∃ m, m = (chl p (k : Int)).length := ⟨_, rfl⟩
      rw [← hm] at HC1 hcl
      have HM := Lib.hid hm
      clear hm
      go_wp2_with fail
      refine HC1.out.mono ?_
      rintro e w3 ⟨g3, c3, rfl, o3⟩
      have HO3 := Lib.hid (HO.out.below o3.bel)
      have hws := HO3.out.bel.size
      clear o3 HC1
      by_cases hm0 : m = 0
      · subst hm0
        have HZ2 := Lib.hid (HY.out (List.eq_nil_of_length_eq_zero HM.out.symm))
        clear HY HNo
        go_wp2_with (at_builtin; refine wpList_append_own _ rfl _ _ 24 rfl W.heap.size 3 i0 (.int .i64 0) 1 8 Tryz.underlying24 hi hz0 hz1 hz2 rfl (by decide) _ _ _ rfl (HO3.out.own.alloc _) ⟨w3.heap.size, 0, none⟩ 1 1 [.int .i64 k] rfl rfl (cell_one_new _ _ _) (by intro u hu; simp at hu; subst hu; rfl) (by unfold maxLen; omega) (by omega) (by simp; omega) ?_; intro v' w4 hown' hgrow hiff; obtain ⟨zs5, hz5⟩ : ∃ z, z = zs ++ [(k : Int)] := ⟨_, rfl⟩; obtain ⟨g5, c5, rfl, hs5⟩ := HO3.out.app hz5 hown' hgrow; have HS5 := Lib.hid hs5; have HZ5 := Lib.hid hz5; clear hown' hgrow hiff hs5 hz5)
        go_roundw
        case rel => exact ⟨k + 1, g5, c5, zs5, by omega, .inl (by omega), by go_num, rfl, by rw [HZ5.out, List.length_append]; simp only [List.length_cons, List.length_nil]; omega, Lib.hid (by rw [HZ5.out, HZ.out, HZ2.out]), HS5⟩
        case measure => (simp [RowKit.intOf]; omega)
      · have HZ2 := Lib.hid (HNo.out (fun e => hm0 (by rw [HM.out, e]; rfl)))
        have hne : ((m : Int) == 0) = false := by simp; omega
        clear HY HNo hm0
        go_wp2_with fail
        go_roundw
        case rel => exact ⟨k + 1, g, c, zs, by omega, .inl (by omega), by go_num, rfl, by omega, Lib.hid (by rw [HZ2.out]; exact HZ.out), HO3⟩
        case measure => (simp [RowKit.intOf]; omega)
    · have HE : Hid (zs = goal) := Lib.hid (by
        rw [HZ.out, ← HG.out]
        by_cases h1 : k = n
        · rw [h1]
        · have h2 : k = 1 := by omega
          have h3 : n = 0 := by omega
          subst h2; subst h3
          rw [pick6_no (show lfB p 0 = false from rfl)])
      go_wp2_with fail
      go_ret
      exact ⟨g, c, by rw [← HE.out]; rfl, by rw [← HE.out]; exact HO.out.base HB.out⟩
/-- The path up to a node, or nothing above the source. -/
def upP (p : List Int) (x : Int) : List Int := if 0 ≤ x then pth p x else []
theorem upP_round {p zs goal : List Int} {k : Nat} (h : trOk p = true) (hk : k < p.length) (hg : upP p (k : Int) ++ zs = goal) : upP p (par6 p k) ++ ([(k : Int)] ++ zs) = goal := by
  unfold upP at hg
  rw [if_pos (by omega), pth_step h hk] at hg
  rw [← hg]
  unfold upP
  by_cases e : k = 0
  · subst e
    rw [(trOk_parts h).2.2.1, if_neg (by omega), if_pos rfl]
    simp
  · obtain ⟨a, _⟩ := (trOk_parts h).2.2.2 k (by omega) hk
    rw [if_pos a, if_neg e]
    simp
theorem par6_bd {p : List Int} (h : trOk p = true) {k : Nat} (hk : k < p.length) : -1 ≤ par6 p k ∧ par6 p k ≤ (k : Int) - 1 := by
  obtain ⟨_, _, h0, hu⟩ := trOk_parts h
  by_cases e : k = 0
  · subst e; rw [h0]; omega
  · have := hu k (by omega) hk; omega
theorem path_app {W0 wr W3 w1 : World} {g c : Nat} {zs zs5 : List Int} {x : Int} {v' : Value} (h : OutI W0 wr g c zs) (hb3 : Below wr.heap.size wr W3) (hz : zs5 = [x] ++ zs)
    (ho : w1.ownsRow wr.heap.size 3 1 v' (1 + zs.length) ([.int .i64 x] ++ zs.map (Value.int .i64))) (hg : W3.grownBy w1 (some wr.heap.size)) :
    ∃ g' c', v' = .slice (some ⟨g', 0, none⟩) zs5.length c' ∧ OutI W0 w1 g' c' zs5 := by
  subst hz
  obtain ⟨g', c', rfl⟩ := own_form ho (by omega)
  have e : ([x] ++ zs).length = 1 + zs.length := by simp; omega
  refine ⟨g', c', by rw [e], ⟨by rw [e, List.map_append, List.map_singleton]; exact own_base ho h.bel.size, ?_⟩⟩
  have hb := h.bel.trans (hb3.mono h.bel.size)
  exact hb.grown hg hb.size (fun k hk => by have e2 : wr.heap.size = k := Option.some.inj hk; have := h.bel.size; omega)
end Go.Proofs.YtejdphfcogfcmaaGreatDoor
