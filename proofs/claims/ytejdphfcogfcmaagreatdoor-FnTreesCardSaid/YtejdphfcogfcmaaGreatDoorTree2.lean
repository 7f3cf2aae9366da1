/-
  Trees: the specification's functions that draw lists up: children, leaves, paths.
-/
import Derived.Test.YtejdphfcogfcmaaGreatDoorTree
import Derived.Test.YtejdphfcogfcmaaGreatDoorAppRow
import Derived.Laws.DeepStrings4
import Derived.Maps.AppendAt
namespace Go.Proofs.YtejdphfcogfcmaaGreatDoor
open Go.RowKit Go.Lib Go.Joins
set_option linter.unusedVariables false

/-- A list of numbers that is drawn up in a block of the call's own. -/
structure OutI (W0 wr : World) (g c : Nat) (zs : List Int) : Prop where
  own : wr.ownsRow W0.heap.size 3 1 (.slice (some ⟨g, 0, none⟩) zs.length c) zs.length (zs.map (Value.int .i64))
  bel : Below W0.heap.size W0 wr
theorem OutI.start (W : World) : OutI W (W.alloc (.cells #[] 3)) W.heap.size 0 [] :=
  ⟨own_base (World.ownsRow_made W #[] 0 (Nat.le_refl _) (Nat.zero_le _) rfl) (Nat.le_refl _), (Below.refl _ _).alloc (Nat.le_refl _) _⟩
theorem OutI.start' {W0 W : World} (hb : Below W0.heap.size W0 W) : OutI W0 (W.alloc (.cells #[] 3)) W.heap.size 0 [] :=
  ⟨own_base (World.ownsRow_made W #[] 0 (Nat.le_refl _) (Nat.zero_le _) rfl) hb.size, hb.alloc hb.size _⟩
theorem OutI.below {W0 wr w1 : World} {g c : Nat} {zs : List Int} (h : OutI W0 wr g c zs) (l : Below wr.heap.size wr w1) : OutI W0 w1 g c zs := ⟨own_below h.own l (Nat.le_refl _), h.bel.trans (l.mono h.bel.size)⟩
theorem OutI.base {W0 W1 wr : World} {g c : Nat} {zs : List Int} (h : OutI W1 wr g c zs) (hb : Below W0.heap.size W0 W1) : OutI W0 wr g c zs := ⟨own_base h.own hb.size, hb.trans (h.bel.mono hb.size)⟩
theorem OutI.row {W0 wr : World} {g c : Nat} {zs : List Int} (h : OutI W0 wr g c zs) : Row wr (.slice (some ⟨g, 0, none⟩) zs.length c) zs.length (zs.map (Value.int .i64)) := row_own h.own
theorem OutI.app {W0 wr w1 : World} {g c : Nat} {zs zs5 : List Int} {x : Int} {v' : Value} {o : Obj} (h : OutI W0 wr g c zs) (hz : zs5 = zs ++ [x])
    (ho : w1.ownsRow W0.heap.size 3 1 v' (zs.length + 1) (zs.map (Value.int .i64) ++ [.int .i64 x])) (hg : (wr.alloc o).grownBy w1 (some g)) :
    ∃ g' c', v' = .slice (some ⟨g', 0, none⟩) zs5.length c' ∧ OutI W0 w1 g' c' zs5 := by
  subst hz
  obtain ⟨g', c', rfl⟩ := own_form ho (by omega)
  have e : (zs ++ [x]).length = zs.length + 1 := by simp
  have hgk : W0.heap.size ≤ g := (h.own.lt g rfl).1
  refine ⟨g', c', by rw [e], ⟨by rw [e, List.map_append, List.map_singleton]; exact ho, ?_⟩⟩
  exact (h.bel.alloc h.bel.size o).grown hg (by have := h.bel.size; simp; omega) (fun k hk => by have e2 : g = k := Option.some.inj hk; omega)
theorem chB_zero (p : List Int) (x : Int) : chB p x 0 = false := rfl
set_option maxHeartbeats 2000000 in
theorem l6Children_any (v : Value) (p : List Int) (x : Int) (w : World) (hrow : Row w v p.length (p.map (Value.int .i64))) (hl : p.length ≤ 8) :
    Calls Tryz.prog 52 #[.agg #[v], .int .i64 x] w fun e w' => ∃ g c, e = .returned (.slice (some ⟨g, 0, none⟩) (chl p x).length c) ∧ OutI w w' g c (chl p x) := by
  obtain ⟨i0, hi, hz0, hz1, hz2⟩ := info_parts infoInt
  obtain ⟨W, hW⟩ : ∃ W, W = w.alloc (.cells #[v] 26) := ⟨_, rfl⟩
  have HT : Hid (Tr W w.heap.size v p) := Lib.hid (by rw [hW]; exact Tr.new hrow)
  have HB : Hid (Below w.heap.size w W) := Lib.hid (by rw [hW]; exact (Below.refl w.heap.size w).alloc (Nat.le_refl _) _)
  have HW := Lib.hid hW
  clear hW
  have HS := Lib.hid (OutI.start W)
  obtain ⟨a, cap, rfl, hc1, hm1, _⟩ := row_open hrow
  clear hrow
  unfold maxLen at hm1
  have hx := HT.out.cell
  obtain ⟨R, hR⟩ : ∃ R, R = w.heap.size := ⟨_, rfl⟩
  rw [← hR] at HT hx
  have HR := Lib.hid hR
  clear hR
  obtain ⟨n, hN⟩ : ∃ n, n = p.length := ⟨_, rfl⟩
  rw [← hN] at hc1 HT HW hx hl ⊢
  have HN := Lib.hid hN
  have HG : Hid (pick6 (chB p x) n = chl p x) := Lib.hid (by rw [hN]; rfl)
  clear hN
  generalize chl p x = goal at HG ⊢
  go_enter Tryz.func52, Tryz.ntmps52
  go_upto_region 1 with fail
  rw [← HW.out, ← HR.out]
  go_wp2_with fail
  go_loopw [5, 6] (fun o i wr => ∃ (k g c : Nat) (zs : List Int), 1 ≤ k ∧ (k ≤ n ∨ k = 1) ∧ i = .int .i64 k ∧ o = .slice (some ⟨g, 0, none⟩) zs.length c ∧ zs.length ≤ k ∧ Hid (zs = pick6 (chB p x) k) ∧ Hid (OutI W wr g c zs)) (fun _ i _ => n - (RowKit.intOf i).toNat)
  case atStart => exact ⟨1, _, _, [], Nat.le_refl _, .inr rfl, rfl, rfl, by simp, Lib.hid rfl, HS⟩
  case round =>
    clear HS hx
    obtain ⟨k, g, c, zs, hk1, hk, rfl, rfl, hzl, HZ, HO⟩ := hrel
    have HTr := Lib.hid (HT.out.below HO.out.bel)
    have hx := HTr.out.cell
    by_cases hkn : k < n
    · obtain ⟨b, off, rfl, hck⟩ := HTr.out.get (k := k) (by rw [← HN.out]; exact hkn)
      have HY : Hid (par6 p k = x → pick6 (chB p x) (k + 1) = pick6 (chB p x) k ++ [(k : Int)]) := Lib.hid (fun h => pick6_yes (by unfold chB; rw [decide_eq_true hk1, decide_eq_true h]; rfl))
      have HNo : Hid (par6 p k ≠ x → pick6 (chB p x) (k + 1) = pick6 (chB p x) k) := Lib.hid (fun h => pick6_no (by unfold chB; rw [decide_eq_false h, Bool.and_false]))
      generalize par6 p k = y at hck HY HNo
      by_cases hyx : y = x
      · subst hyx
        have HZ2 := Lib.hid (HY.out rfl)
        have hws := HO.out.bel.size
        clear HY HNo
        go_wp2_with (at_builtin; refine wpList_append_own _ rfl _ _ 24 rfl W.heap.size 3 i0 (.int .i64 0) 1 8 Tryz.underlying24 hi hz0 hz1 hz2 rfl (by decide) _ _ _ rfl (HO.out.own.alloc _) ⟨wr.heap.size, 0, none⟩ 1 1 [.int .i64 k] rfl rfl (cell_one_new _ _ _) (by intro u hu; simp at hu; subst hu; rfl) (by unfold maxLen; omega) (by omega) (by simp; omega) ?_; intro v' w4 hown' hgrow hiff; obtain ⟨zs5, hz5⟩ : ∃ z, z = zs ++ [(k : Int)] := ⟨_, rfl⟩; obtain ⟨g5, c5, rfl, hs5⟩ := HO.out.app hz5 hown' hgrow; have HS5 := Lib.hid hs5; have HZ5 := Lib.hid hz5; clear hown' hgrow hiff hs5 hz5)
        go_roundw
        case rel => exact ⟨k + 1, g5, c5, zs5, by omega, .inl (by omega), by go_num, rfl, by rw [HZ5.out, List.length_append]; simp only [List.length_cons, List.length_nil]; omega, Lib.hid (by rw [HZ5.out, HZ.out, HZ2.out]), HS5⟩
        case measure => (simp [RowKit.intOf]; omega)
      · have HZ2 := Lib.hid (HNo.out hyx)
        have hne : (y == x) = false := by simp; exact hyx
        clear HY HNo hyx
        go_wp2_with fail
        go_roundw
        case rel => exact ⟨k + 1, g, c, zs, by omega, .inl (by omega), by go_num, rfl, by omega, Lib.hid (by rw [HZ2.out]; exact HZ.out), HO⟩
        case measure => (simp [RowKit.intOf]; omega)
    · have HE : Hid (zs = goal) := Lib.hid (by
        rw [HZ.out, ← HG.out]
        by_cases h1 : k = n
        · rw [h1]
        · have h2 : k = 1 := by omega
          have h3 : n = 0 := by omega
          subst h2; subst h3
          rw [pick6_no (chB_zero p x)])
      go_wp2_with fail
      go_ret
      exact ⟨g, c, by rw [← HE.out]; rfl, by rw [← HE.out]; exact HO.out.base HB.out⟩
end Go.Proofs.YtejdphfcogfcmaaGreatDoor
