/-
  Trees: the specification's ChildrenOf, LeavesOf, PathTo, NodesBelow, FaceTo.
-/
import Derived.Test.YtejdphfcogfcmaaTree3
namespace Go.Proofs.Ytejdphfcogfcmaa
open Go.RowKit Go.Lib Go.Joins
set_option linter.unusedVariables false

/-- A list where it is asked for, else nothing. -/
def okL (b : Bool) (l : List Int) : List Int := if b = true then l else []
theorem okL_yes (l : List Int) : okL true l = l := rfl
theorem okL_no (l : List Int) : okL false l = [] := rfl
theorem specIsTree_any (v : Value) (p : List Int) (w : World) (hrow : Row w v p.length (p.map (Value.int .i64))) :
    Calls Try.prog 29 #[.agg #[v]] w fun e w' => e = .returned (.bool (trOk p)) ∧ Below w.heap.size w w' := by
  obtain ⟨W, hW⟩ : ∃ W, W = w.alloc (.cells #[v] 26) := ⟨_, rfl⟩
  have HT : Hid (Tr W w.heap.size v p) := Lib.hid (by rw [hW]; exact Tr.new hrow)
  have HB : Hid (Below w.heap.size w W) := Lib.hid (by rw [hW]; exact (Below.refl w.heap.size w).alloc (Nat.le_refl _) _)
  have HW := Lib.hid hW
  have HG := Lib.hid (l6Good_any v p W HT.out.row)
  have hx := HT.out.cell
  clear hW hrow
  generalize trOk p = ok at HG ⊢
  go_enter Try.func29, Try.ntmps29
  go_upto_region 1 with fail
  rw [← HW.out]
  go_wp2_with fail
  refine HG.out.mono ?_
  rintro e W2 ⟨rfl, l2⟩
  have HB2 := Lib.hid (HB.out.trans (l2.mono HB.out.size))
  clear l2
  go_wp2_with fail
  go_ret
  exact ⟨rfl, HB2.out⟩
set_option maxHeartbeats 1000000 in
theorem specChildren_any (v : Value) (p : List Int) (x : Int) (w : World) (hrow : Row w v p.length (p.map (Value.int .i64))) :
    Calls Try.prog 27 #[.agg #[v], .int .i64 x] w fun e w' => ∃ g c, e = .returned (.tuple #[.slice (some ⟨g, 0, none⟩) (okL (ndOk p x) (chl p x)).length c, .bool (ndOk p x)]) ∧ OutI w w' g c (okL (ndOk p x) (chl p x)) := by
  obtain ⟨W, hW⟩ : ∃ W, W = w.alloc (.cells #[v] 26) := ⟨_, rfl⟩
  have HT : Hid (Tr W w.heap.size v p) := Lib.hid (by rw [hW]; exact Tr.new hrow)
  have HB : Hid (Below w.heap.size w W) := Lib.hid (by rw [hW]; exact (Below.refl w.heap.size w).alloc (Nat.le_refl _) _)
  have HW := Lib.hid hW
  have HG := Lib.hid (l6Node_any v p x W HT.out.row)
  have HC := Lib.hid (fun (h : ndOk p x = true) (W1 : World) hr => l6Children_any v p x W1 hr (trOk_parts (ndOk_parts h).1).2.1)
  have hx := HT.out.cell
  obtain ⟨R, hR⟩ : ∃ R, R = w.heap.size := ⟨_, rfl⟩
  rw [← hR] at HT hx
  have HR := Lib.hid hR
  clear hW hrow hR
  generalize ndOk p x = ok at HG HC ⊢
  generalize chl p x = l at HC ⊢
  cases ok with
  | false =>
    clear HC
    go_enter Try.func27, Try.ntmps27
    go_upto_region 1 with fail
    rw [← HW.out, ← HR.out]
    go_wp2_with fail
    refine HG.out.mono ?_
    rintro e W2 ⟨rfl, l2⟩
    have HB2 := Lib.hid (HB.out.trans (l2.mono HB.out.size))
    clear l2
    go_wp2_with fail
    go_ret2
    exact ⟨_, _, rfl, OutI.start' HB2.out⟩
  | true =>
    have HC2 := Lib.hid (HC.out rfl)
    clear HC
    go_enter Try.func27, Try.ntmps27
    go_upto_region 1 with fail
    rw [← HW.out, ← HR.out]
    go_wp2_with fail
    refine HG.out.mono ?_
    rintro e W2 ⟨rfl, l2⟩
    have HB2 := Lib.hid (HB.out.trans (l2.mono HB.out.size))
    have HT2 := Lib.hid (HT.out.below l2)
    clear l2 hx
    have hx := HT2.out.cell
    go_wp2_with fail
    refine (HC2.out _ HT2.out.row).mono ?_
    rintro e W3 ⟨g, c, rfl, o3⟩
    have HO3 := Lib.hid (o3.base HB2.out)
    clear o3
    go_wp2_with fail
    go_ret2
    exact ⟨g, c, rfl, HO3.out⟩
set_option maxHeartbeats 1000000 in
theorem specPath_any (v : Value) (p : List Int) (x : Int) (w : World) (hrow : Row w v p.length (p.map (Value.int .i64))) :
    Calls Try.prog 15 #[.agg #[v], .int .i64 x] w fun e w' => ∃ g c, e = .returned (.tuple #[.slice (some ⟨g, 0, none⟩) (okL (ndOk p x) (pth p x)).length c, .bool (ndOk p x)]) ∧ OutI w w' g c (okL (ndOk p x) (pth p x)) := by
  obtain ⟨W, hW⟩ : ∃ W, W = w.alloc (.cells #[v] 26) := ⟨_, rfl⟩
  have HT : Hid (Tr W w.heap.size v p) := Lib.hid (by rw [hW]; exact Tr.new hrow)
  have HB : Hid (Below w.heap.size w W) := Lib.hid (by rw [hW]; exact (Below.refl w.heap.size w).alloc (Nat.le_refl _) _)
  have HW := Lib.hid hW
  have HG := Lib.hid (l6Node_any v p x W HT.out.row)
  have HC := Lib.hid (fun (h : ndOk p x = true) (W1 : World) (hr : Row W1 v p.length (p.map (Value.int .i64))) => (show Calls Try.prog 48 #[.agg #[v], .int .i64 x] W1 fun e w' => ∃ g c, e = .returned (.slice (some ⟨g, 0, none⟩) (pth p x).length c) ∧ OutI W1 w' g c (pth p x) by
    obtain ⟨h1, h2, h3⟩ := ndOk_parts h
    obtain ⟨k, rfl⟩ : ∃ k : Nat, x = (k : Int) := ⟨x.toNat, by omega⟩
    exact l6Path_any v p k W1 hr h1 (by omega)))
  have hx := HT.out.cell
  obtain ⟨R, hR⟩ : ∃ R, R = w.heap.size := ⟨_, rfl⟩
  rw [← hR] at HT hx
  have HR := Lib.hid hR
  clear hW hrow hR
  generalize ndOk p x = ok at HG HC ⊢
  generalize pth p x = l at HC ⊢
  cases ok with
  | false =>
    clear HC
    go_enter Try.func15, Try.ntmps15
    go_upto_region 1 with fail
    rw [← HW.out, ← HR.out]
    go_wp2_with fail
    refine HG.out.mono ?_
    rintro e W2 ⟨rfl, l2⟩
    have HB2 := Lib.hid (HB.out.trans (l2.mono HB.out.size))
    clear l2
    go_wp2_with fail
    go_ret2
    exact ⟨_, _, rfl, OutI.start' HB2.out⟩
  | true =>
    have HC2 := Lib.hid (HC.out rfl)
    clear HC
    go_enter Try.func15, Try.ntmps15
    go_upto_region 1 with fail
    rw [← HW.out, ← HR.out]
    go_wp2_with fail
    refine HG.out.mono ?_
    rintro e W2 ⟨rfl, l2⟩
    have HB2 := Lib.hid (HB.out.trans (l2.mono HB.out.size))
    have HT2 := Lib.hid (HT.out.below l2)
    clear l2 hx
    have hx := HT2.out.cell
    go_wp2_with fail
    refine (HC2.out _ HT2.out.row).mono ?_
    rintro e W3 ⟨g, c, rfl, o3⟩
    have HO3 := Lib.hid (o3.base HB2.out)
    clear o3
    go_wp2_with fail
    go_ret2
    exact ⟨g, c, rfl, HO3.out⟩
set_option maxHeartbeats 1000000 in
theorem specLeaves_any (v : Value) (p : List Int) (w : World) (hrow : Row w v p.length (p.map (Value.int .i64))) :
    Calls Try.prog 37 #[.agg #[v]] w fun e w' => ∃ g c, e = .returned (.tuple #[.slice (some ⟨g, 0, none⟩) (okL (trOk p) (lvs p)).length c, .bool (trOk p)]) ∧ OutI w w' g c (okL (trOk p) (lvs p)) := by
  obtain ⟨W, hW⟩ : ∃ W, W = w.alloc (.cells #[v] 26) := ⟨_, rfl⟩
  have HT : Hid (Tr W w.heap.size v p) := Lib.hid (by rw [hW]; exact Tr.new hrow)
  have HB : Hid (Below w.heap.size w W) := Lib.hid (by rw [hW]; exact (Below.refl w.heap.size w).alloc (Nat.le_refl _) _)
  have HW := Lib.hid hW
  have HG := Lib.hid (l6Good_any v p W HT.out.row)
  have HC := Lib.hid (fun (h : trOk p = true) (W1 : World) hr => l6Leaves_any v p W1 hr (trOk_parts h).2.1)
  have hx := HT.out.cell
  obtain ⟨R, hR⟩ : ∃ R, R = w.heap.size := ⟨_, rfl⟩
  rw [← hR] at HT hx
  have HR := Lib.hid hR
  clear hW hrow hR
  generalize trOk p = ok at HG HC ⊢
  generalize lvs p = l at HC ⊢
  cases ok with
  | false =>
    clear HC
    go_enter Try.func37, Try.ntmps37
    go_upto_region 1 with fail
    rw [← HW.out, ← HR.out]
    go_wp2_with fail
    refine HG.out.mono ?_
    rintro e W2 ⟨rfl, l2⟩
    have HB2 := Lib.hid (HB.out.trans (l2.mono HB.out.size))
    clear l2
    go_wp2_with fail
    go_ret2
    exact ⟨_, _, rfl, OutI.start' HB2.out⟩
  | true =>
    have HC2 := Lib.hid (HC.out rfl)
    clear HC
    go_enter Try.func37, Try.ntmps37
    go_upto_region 1 with fail
    rw [← HW.out, ← HR.out]
    go_wp2_with fail
    refine HG.out.mono ?_
    rintro e W2 ⟨rfl, l2⟩
    have HB2 := Lib.hid (HB.out.trans (l2.mono HB.out.size))
    have HT2 := Lib.hid (HT.out.below l2)
    clear l2 hx
    have hx := HT2.out.cell
    go_wp2_with fail
    refine (HC2.out _ HT2.out.row).mono ?_
    rintro e W3 ⟨g, c, rfl, o3⟩
    have HO3 := Lib.hid (o3.base HB2.out)
    clear o3
    go_wp2_with fail
    go_ret2
    exact ⟨g, c, rfl, HO3.out⟩
theorem has_take {xs : List Int} {x : Int} {k : Nat} (hk : k < xs.length) (h : x ∉ xs.take k) (hn : xs[k] ≠ x) : x ∉ xs.take (k + 1) := by
  rw [List.take_succ_eq_append_getElem hk]
  intro hm
  rcases List.mem_append.1 hm with hm | hm
  · exact h hm
  · simp at hm
    exact hn hm.symm
set_option maxHeartbeats 1000000 in
theorem l1Has_any (v : Value) (xs : List Int) (x : Int) (w : World) (hrow : Row w v xs.length (xs.map (Value.int .i64))) :
    Calls Try.prog 52 #[v, .int .i64 x] w fun e w' => e = .returned (.bool (decide (x ∈ xs))) ∧ w = w' := by
  obtain ⟨a, cap, rfl, hc1, hm1, hcell⟩ := row_open hrow
  have HC := Lib.hid hcell
  clear hrow hcell
  unfold maxLen at hm1
  obtain ⟨n, hN⟩ : ∃ n, n = xs.length := ⟨_, rfl⟩
  rw [← hN] at hc1 ⊢
  have HN := Lib.hid hN
  clear hN
  go_enter Try.func52, Try.ntmps52
  go_wp2_with fail
  go_loop [5] (fun i => ∃ k : Nat, k ≤ n ∧ i = .int .i64 k ∧ Hid (x ∉ xs.take k)) (fun i => n - (RowKit.intOf i).toNat)
  case atStart => exact ⟨0, Nat.zero_le _, rfl, Lib.hid (by simp)⟩
  case round =>
    obtain ⟨k, hk, rfl, HM⟩ := hrel
    by_cases hkn : k < n
    · have hkx : k < xs.length := by rw [← HN.out]; exact hkn
      obtain ⟨b, off, rfl, _, hc⟩ := HC.out k hkx
      have HIn : Hid (xs[k] = x → x ∈ xs) := Lib.hid (fun e => by rw [← e]; exact List.getElem_mem hkx)
      have HNo : Hid (xs[k] ≠ x → x ∉ xs.take (k + 1)) := Lib.hid (fun e => has_take hkx HM.out e)
      generalize xs[k] = y at hc HIn HNo
      clear hkx
      by_cases hyx : y = x
      · subst hyx
        have HE := Lib.hid (HIn.out rfl)
        clear HIn HNo
        go_wp2_with fail
        go_ret
        exact ⟨ret_bool (decide_eq_true HE.out).symm, rfl⟩
      · have HE := Lib.hid (HNo.out hyx)
        have hne : (y == x) = false := by simp; exact hyx
        clear HIn HNo hyx
        go_wp2_with fail
        go_round
        case rel => exact ⟨k + 1, by omega, by go_num, HE⟩
        case measure => (simp [RowKit.intOf]; omega)
    · have HE : Hid (x ∉ xs) := Lib.hid (by
        have h := HM.out
        rw [List.take_of_length_le (by rw [← HN.out]; omega)] at h
        exact h)
      go_wp2_with fail
      go_ret
      exact ⟨ret_bool (decide_eq_false HE.out).symm, rfl⟩
end Go.Proofs.Ytejdphfcogfcmaa
