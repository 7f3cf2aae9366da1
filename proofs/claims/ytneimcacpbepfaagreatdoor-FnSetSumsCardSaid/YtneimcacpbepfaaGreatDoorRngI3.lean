/-
  Sets as ranges: the program's missing ranges and NextMissing.
-/
import Derived.Test.YtneimcacpbepfaaGreatDoorRngI2
import Derived.Test.YtneimcacpbepfaaGreatDoorRng5
namespace Go.Proofs.YtneimcacpbepfaaGreatDoor
open Go.RowKit Go.Lib Go.Joins
set_option linter.unusedVariables false

/-- A list that is drawn up in memory of the call's own. -/
structure OutS (W0 wr : World) (v : Value) (zs : List Rg) : Prop where
  own : wr.ownsRow W0.heap.size 47 2 v zs.length (rgF zs)
  bel : Below W0.heap.size W0 wr
theorem OutS.alloc {W0 wr : World} {v : Value} {zs : List Rg} (h : OutS W0 wr v zs) (o : Obj) : OutS W0 (wr.alloc o) v zs :=
  ⟨ownz_below h.own ((Below.refl _ _).alloc (Nat.le_refl _) o) (Nat.le_refl _), b_a h.bel o⟩
theorem OutS.drewN {W0 wr : World} {v : Value} {zs : List Rg} (h : OutS W0 wr v zs) (n : Nat) : OutS W0 (wr.drewN n) v zs :=
  ⟨ownz_below h.own (bdrew wr n) (Nat.le_refl _), b_d h.bel n⟩
theorem OutS.below {W0 wr w1 : World} {v : Value} {zs : List Rg} (h : OutS W0 wr v zs) (l : Below wr.heap.size wr w1) : OutS W0 w1 v zs :=
  ⟨ownz_below h.own l (Nat.le_refl _), h.bel.trans (l.mono h.bel.size)⟩
theorem OutS.start (W0 wr : World) (h : Below W0.heap.size W0 wr) : OutS W0 (wr.alloc (.cells #[] 47)) (.slice (some ⟨wr.heap.size, 0, none⟩) 0 0) [] :=
  ⟨lit_none wr W0.heap.size h.size, b_a h _⟩
theorem OutS.app {W0 wr w1 : World} {v v' : Value} {zs zs5 : List Rg} {p q : Int} (h : OutS W0 wr v zs) (hz : zs5 = zs ++ [(p, q)]) (ho : w1.ownsRow W0.heap.size 47 2 v' (zs.length + 1) (rgF zs ++ [.int .i64 p, .int .i64 q])) (hg : wr.grownBy w1 v.ownBlock) :
    ∃ g c, v' = .slice (some ⟨g, 0, none⟩) zs5.length c ∧ OutS W0 w1 (.slice (some ⟨g, 0, none⟩) zs5.length c) zs5 := by
  subst hz
  obtain ⟨g, c, rfl⟩ := ownz_form ho (by omega)
  have e : (zs ++ [(p, q)]).length = zs.length + 1 := by simp
  refine ⟨g, c, by rw [e], ⟨?_, ?_⟩⟩
  · rw [e, rgF_snoc]
    exact ho
  · exact h.bel.grown hg h.bel.size (fun k hk => (h.own.lt k hk).1)
theorem row_new2 (w : World) (p q : Int) : Row (w.alloc (.cells #[.int .i64 p, .int .i64 q] 47)) (.slice (some ⟨w.heap.size, 0, none⟩) 1 1) 1 [.int .i64 p, .int .i64 q] := row_lit2 (heap_alloc_new w _)
theorem row_new3 (w : World) (o : Obj) (p q : Int) : Row ((w.alloc o).alloc (.cells #[.int .i64 p, .int .i64 q] 47)) (.slice (some ⟨w.heap.size + 1, 0, none⟩) 1 1) 1 [.int .i64 p, .int .i64 q] := row_lit2 (heap_second w _ _)
/-- The range at hand, laid ahead of an append, is kept by it. -/
theorem OutS.kept {W0 wr w4 : World} {v : Value} {zs : List Rg} {f t : Int} {o : Obj} (h : OutS W0 wr v zs) (hg : ((wr.alloc (.cells #[.int .i64 f, .int .i64 t] 47)).alloc o).grownBy w4 v.ownBlock) :
    w4.cell? ⟨wr.heap.size, 0, none⟩ = some (.int .i64 f) ∧ w4.cell? ⟨wr.heap.size, 1, none⟩ = some (.int .i64 t) := by
  have hne : some wr.heap.size ≠ v.ownBlock := fun e => by have := (h.own.lt _ e.symm).2; omega
  have hb : ((wr.alloc (.cells #[.int .i64 f, .int .i64 t] 47)).alloc o).heap[wr.heap.size]? = some (.cells #[.int .i64 f, .int .i64 t] 47 (0, 0)) := heap_first wr _ o
  refine ⟨hg.cell ?_ hne, hg.cell ?_ hne⟩ <;> rw [cell_of_block hb] <;> rfl
theorem two_one (p q : Int) : ∀ u ∈ [Value.int .i64 p, .int .i64 q], u.oneCell' = true := by
  intro u hu
  simp only [List.mem_cons, List.not_mem_nil, or_false] at hu
  rcases hu with rfl | rfl <;> rfl
theorem mis_gap {zs s goal : List Rg} {f t nx : Int} (h : zs ++ misG ((f, t) :: s) nx = goal) (hlt : nx < f) : (zs ++ [(nx, f - 1)]) ++ misG s (t + 1) = goal := by
  rw [← h, misG]
  simp [hlt]
theorem mis_none {zs s goal : List Rg} {f t nx : Int} (h : zs ++ misG ((f, t) :: s) nx = goal) (hlt : ¬ nx < f) : zs ++ misG s (t + 1) = goal := by
  rw [← h, misG]
  simp [hlt]
theorem mis_len {zs l goal : List Rg} (h : zs ++ l = goal) : zs.length ≤ goal.length := by rw [← h]; simp
set_option maxHeartbeats 2000000 in
theorem missing_any (v : Value) (s : List Rg) (w : World) (hrow : Row w v s.length (rgF s)) (hc : rgCh s) :
    Calls Tryz.prog 26 #[v] w fun e w' => ∃ v', e = .returned v' ∧ w'.ownsRow w.heap.size 47 2 v' (misG s 0).length (rgF (misG s 0)) ∧ Below w.heap.size w w' := by
  obtain ⟨i0, hi, hz0, hz1, hz2⟩ := info_parts infoRg
  have hgl := rg_len (misG_good (n := 0) hc (Int.le_refl _) (by omega) (fun r hr => (hc.2 r hr).1)).1
  obtain ⟨a, cap, rfl, hc1, hm1, hcell⟩ := rg_open hrow
  have HC := Lib.hid hcell
  have HCh := Lib.hid hc
  clear hcell hrow hc
  unfold maxLen at hm1
  have HE0 : Hid ([] ++ misG (s.drop 0) 0 = misG s 0) := Lib.hid rfl
  generalize misG s 0 = goal at HE0 hgl ⊢
  have HS0 := Lib.hid (OutS.start w w (Below.refl _ _))
  obtain ⟨n, hN⟩ : ∃ n, n = s.length := ⟨_, rfl⟩
  rw [← hN] at hc1 ⊢
  have HN := Lib.hid hN
  clear hN
  go_enter Tryz.func26, Tryz.ntmps26
  go_wp2_with fail
  go_loopw [3, 4, 10] (fun o nv i wr => ∃ (k : Nat) (nx : Int) (az : Option Addr) (cz : Nat) (zs : List Rg), k ≤ n ∧ i = .int .i64 k ∧ nv = .int .i64 nx ∧ o = .slice az zs.length cz ∧ 0 ≤ nx ∧ nx ≤ 65536 ∧ Hid (OutS w wr (.slice az zs.length cz) zs) ∧ Hid (zs ++ misG (s.drop k) nx = goal)) (fun _ _ i _ => n - (intOf i).toNat)
  case atStart => exact ⟨0, 0, some ⟨w.heap.size, 0, none⟩, 0, [], Nat.zero_le _, rfl, rfl, rfl, Int.le_refl _, by omega, HS0, HE0⟩
  case round =>
    clear HS0 HE0
    obtain ⟨k, nx, az, cz, zs, hk, rfl, rfl, rfl, n0, n1, HS, HE⟩ := hrel
    have hzl := mis_len HE.out
    by_cases hkn : k < n
    · have hks : k < s.length := by rw [← HN.out]; exact hkn
      obtain ⟨b, off, rfl, hb, hf, ht⟩ := HC.out k hks
      have hf1 := (HS.out.bel.cell hb).trans hf
      have ht1 := (HS.out.bel.cell hb).trans ht
      have hv := HCh.out.2 s[k] (List.getElem_mem hks)
      have hE := HE.out
      rw [List.drop_eq_getElem_cons hks] at hE
      clear hf ht HE
      obtain ⟨f, t, hu⟩ : ∃ f t, s[k] = (f, t) := ⟨_, _, rfl⟩
      rw [hu] at hf1 ht1 hv hE
      simp only at hf1 ht1 hv
      clear hu
      obtain ⟨f0, ft, t1⟩ := hv
      have wt : IntKind.i64.wrap (t + 1) = t + 1 := IntWalk.i64_in _ (by omega)
      have wf : IntKind.i64.wrap (f - 1) = f - 1 := IntWalk.i64_in _ (by omega)
      by_cases hlt : nx < f
      · have HE2 := Lib.hid (mis_gap hE hlt)
        clear hE
        have HW := Lib.hid (row_new3 wr (.cells #[.int .i64 f, .int .i64 t] 47) nx (f - 1))
        have HS2 := Lib.hid ((HS.out.alloc (.cells #[.int .i64 f, .int .i64 t] 47)).alloc (.cells #[.int .i64 nx, .int .i64 (f - 1)] 47))
        go_wp2_with (at_builtin; refine wpList_append_own _ rfl _ _ 24 rfl w.heap.size 47 i0 (.agg #[.int .i64 0, .int .i64 0]) 2 16 Tryz.underlying24 hi hz0 hz1 hz2 rfl (by decide) _ zs.length (rgF zs) rfl HS2.out.own ⟨wr.heap.size + 1, 0, none⟩ 1 1 [.int .i64 nx, .int .i64 (f - 1)] (by first | rfl | simp) rfl (row_news HW.out) (two_one _ _) (by unfold maxLen; omega) (by omega) HS2.out.bel.size ?_; intro v' w4 hown' hgrow _; obtain ⟨zs5, hz5⟩ : ∃ z, z = zs ++ [(nx, f - 1)] := ⟨_, rfl⟩; obtain ⟨g5, c5, rfl, hs5⟩ := HS2.out.app hz5 hown' hgrow; obtain ⟨_, hr4⟩ := HS.out.kept hgrow; have HS5 := Lib.hid hs5; have HZ5 := Lib.hid hz5; clear hown' hgrow hs5 hz5)
        go_roundw
        case rel => exact ⟨k + 1, t + 1, _, c5, zs5, by omega, by go_num, rfl, rfl, by omega, by omega, HS5, Lib.hid (by rw [HZ5.out]; exact HE2.out)⟩
        case measure => (simp [intOf]; omega)
      · have HE2 := Lib.hid (mis_none hE hlt)
        clear hE
        go_wp2_with fail
        go_roundw
        case rel => exact ⟨k + 1, t + 1, az, cz, zs, by omega, by go_num, rfl, rfl, by omega, by omega, Lib.hid (HS.out.alloc _), HE2⟩
        case measure => (simp [intOf]; omega)
    · obtain rfl : k = n := by omega
      have hE := HE.out
      rw [List.drop_of_length_le (by rw [← HN.out]; exact Nat.le_refl _)] at hE
      unfold misG at hE
      clear HE
      by_cases hlt : nx ≤ 65535
      · rw [if_pos hlt] at hE
        have HE2 := Lib.hid hE
        clear hE
        have HS2 := Lib.hid (HS.out.alloc (.cells #[.int .i64 nx, .int .i64 65535] 47))
        go_wp2_with (at_builtin; refine wpList_append_own _ rfl _ _ 24 rfl w.heap.size 47 i0 (.agg #[.int .i64 0, .int .i64 0]) 2 16 Tryz.underlying24 hi hz0 hz1 hz2 rfl (by decide) _ zs.length (rgF zs) rfl HS2.out.own ⟨wr.heap.size, 0, none⟩ 1 1 [.int .i64 nx, .int .i64 65535] rfl rfl (row_news (row_new2 wr nx 65535)) (two_one _ _) (by unfold maxLen; omega) (by omega) HS2.out.bel.size ?_; intro v' w4 hown' hgrow _; obtain ⟨zs5, hz5⟩ : ∃ z, z = zs ++ [(nx, 65535)] := ⟨_, rfl⟩; obtain ⟨g5, c5, rfl, hs5⟩ := HS2.out.app hz5 hown' hgrow; have HS5 := Lib.hid hs5; have HZ5 := Lib.hid hz5; clear hown' hgrow hs5 hz5)
        go_ret
        exact ⟨_, rfl, by rw [← HE2.out, ← HZ5.out]; exact HS5.out.own, HS5.out.bel⟩
      · rw [if_neg hlt, List.append_nil] at hE
        have HE2 := Lib.hid hE
        clear hE
        go_wp2_with fail
        go_ret
        exact ⟨_, rfl, by rw [← HE2.out]; exact HS.out.own, HS.out.bel⟩
end Go.Proofs.YtneimcacpbepfaaGreatDoor
