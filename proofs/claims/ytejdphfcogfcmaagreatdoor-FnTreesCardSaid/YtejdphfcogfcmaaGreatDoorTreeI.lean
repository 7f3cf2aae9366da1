/-
  Trees: the program's functions that read: validity, nodes, children, leaves, meeting nodes.
-/
import Derived.Test.YtejdphfcogfcmaaGreatDoorTree4
import Derived.Test.YtejdphfcogfcmaaGreatDoorTreeMath3
import Derived.Test.YtejdphfcogfcmaaGreatDoorIdx
namespace Go.Proofs.YtejdphfcogfcmaaGreatDoor
open Go.RowKit Go.Lib Go.Joins
set_option linter.unusedVariables false

set_option maxRecDepth 100000 in
set_option maxHeartbeats 2000000 in
theorem implIsTree_any (v : Value) (p : List Int) (w : World) (hrow : Row w v p.length (p.map (Value.int .i64))) :
    Calls Tryz.prog 9 #[.agg #[v]] w fun e w' => e = .returned (.bool (trOk p)) ∧ Below w.heap.size w w' := by
  obtain ⟨W, hW⟩ : ∃ W, W = w.alloc (.cells #[v] 26) := ⟨_, rfl⟩
  have HT : Hid (Tr W w.heap.size v p) := Lib.hid (by rw [hW]; exact Tr.new hrow)
  have HB : Hid (Below w.heap.size w W) := Lib.hid (by rw [hW]; exact (Below.refl w.heap.size w).alloc (Nat.le_refl _) _)
  have HW := Lib.hid hW
  clear hW
  obtain ⟨a, cap, rfl, hc1, hm1, _⟩ := row_open hrow
  clear hrow
  unfold maxLen at hm1
  obtain ⟨n, hN⟩ : ∃ n, n = p.length := ⟨_, rfl⟩
  rw [← hN] at hc1 HT HW ⊢
  have HN := Lib.hid hN
  clear hN
  obtain ⟨R, hR⟩ : ∃ R, R = w.heap.size := ⟨_, rfl⟩
  rw [← hR] at HT
  have HR := Lib.hid hR
  clear hR
  have hx := HT.out.cell
  by_cases h2 : (n : Int) < 2
  · have HE : Hid (trOk p = false) := Lib.hid (trOk_len (by rw [← HN.out]; omega))
    go_enter Tryz.func9, Tryz.ntmps9
    go_upto_region 1 with fail
    rw [← HW.out, ← HR.out]
    go_wp2_with fail
    go_ret
    exact ⟨ret_bool HE.out.symm, HB.out⟩
  by_cases h8 : 8 < (n : Int)
  · have HE : Hid (trOk p = false) := Lib.hid (trOk_len (by rw [← HN.out]; omega))
    go_enter Tryz.func9, Tryz.ntmps9
    go_upto_region 1 with fail
    rw [← HW.out, ← HR.out]
    go_wp2_with fail
    go_ret
    exact ⟨ret_bool HE.out.symm, HB.out⟩
  have hn0 : 0 < n := by omega
  have hn0' : (0 : Int) < (n : Int) := by omega
  obtain ⟨b, off, rfl, hc0⟩ := HT.out.get (k := 0) (by rw [← HN.out]; omega)
  rw [Nat.add_zero] at hc0
  by_cases h0 : par6 p 0 = -1
  rotate_left
  · have HE : Hid (trOk p = false) := Lib.hid (trOk_root h0)
    have hne : (par6 p 0 != -1) = true := by simp; exact h0
    generalize par6 p 0 = r at hc0 hne
    clear h0
    go_enter Tryz.func9, Tryz.ntmps9
    go_upto_region 1 with fail
    rw [← HW.out, ← HR.out]
    go_wp2_with fail
    go_ret
    exact ⟨ret_bool HE.out.symm, HB.out⟩
  have HZ := Lib.hid h0
  rw [h0] at hc0
  clear h0
  have hrt : ((-1 : Int) != -1) = false := by decide
  go_enter Tryz.func9, Tryz.ntmps9
  go_upto_region 1 with fail
  rw [← HW.out, ← HR.out]
  go_wp2_with fail
  go_loop [25] (fun i => ∃ k : Nat, k ≤ n ∧ i = .int .i64 k ∧ Hid (∀ j, 1 ≤ j → j < k → 0 ≤ par6 p j ∧ par6 p j ≤ (j : Int) - 1)) (fun i => n - (RowKit.intOf i).toNat)
  case atStart => exact ⟨0, Nat.zero_le _, rfl, Lib.hid (fun j h1 h2 => by omega)⟩
  case round =>
    clear hc0
    obtain ⟨k, hk, rfl, HA⟩ := hrel
    by_cases hkn : k < n
    · obtain ⟨b2, off2, e2, hck⟩ := HT.out.get (k := k) (by rw [← HN.out]; exact hkn)
      injection e2 with e2
      injection e2 with e2 e3 _
      subst e2; subst e3
      have HP : Hid (1 ≤ k → ¬ (0 ≤ par6 p k ∧ par6 p k ≤ (k : Int) - 1) → trOk p = false) := Lib.hid (fun h1 h => trOk_bad h1 (by rw [← HN.out]; exact hkn) h)
      have HA2 : Hid ((1 ≤ k → 0 ≤ par6 p k ∧ par6 p k ≤ (k : Int) - 1) → ∀ j, 1 ≤ j → j < k + 1 → 0 ≤ par6 p j ∧ par6 p j ≤ (j : Int) - 1) := Lib.hid (fun h j h1 h2 => by
        by_cases e : j = k
        · subst e; exact h h1
        · exact HA.out j h1 (by omega))
      generalize par6 p k = x at hck HP HA2
      by_cases hk0 : k = 0
      · subst hk0
        have HA3 := Lib.hid (HA2.out (fun h => by omega))
        rw [Nat.add_zero] at hck
        clear HA HP HA2
        go_wp2_with fail
        go_round
        case rel => exact ⟨1, by omega, by go_num, HA3⟩
        case measure => (simp [RowKit.intOf]; omega)
      · have hkz : ((k : Int) != 0) = true := by simp; omega
        by_cases hx0 : x < 0
        · have HE := Lib.hid (HP.out (by omega) (by omega))
          clear HA HP HA2 hk0
          go_wp2_with fail
          go_ret
          exact ⟨ret_bool HE.out.symm, HB.out⟩
        · by_cases hxk : (k : Int) ≤ x
          · have HE := Lib.hid (HP.out (by omega) (by omega))
            clear HA HP HA2 hk0
            go_wp2_with fail
            go_ret
            exact ⟨ret_bool HE.out.symm, HB.out⟩
          · have HA3 := Lib.hid (HA2.out (fun h => by omega))
            clear HA HP HA2 hk0
            go_wp2_with fail
            go_round
            case rel => exact ⟨k + 1, by omega, by go_num, HA3⟩
            case measure => (simp [RowKit.intOf]; omega)
    · obtain rfl : k = n := by omega
      have HE : Hid (trOk p = true) := Lib.hid (trOk_yes (by rw [← HN.out]; omega) (by rw [← HN.out]; omega) HZ.out (fun i h1 h2 => HA.out i h1 (by rw [HN.out]; exact h2)))
      go_wp2_with fail
      go_ret
      exact ⟨ret_bool HE.out.symm, HB.out⟩
/-! ### Nodes that occur -/
def outB (n : Nat) (x : Int) : Bool := decide (x < 0) || decide ((n : Int) ≤ x)
def hnV (p xs : List Int) : Bool := trOk p && !(xs.any (outB p.length))
theorem hnV_one (p : List Int) (x : Int) : hnV p [x] = ndOk p x := by
  unfold hnV ndOk
  congr 1
  simp only [List.any_cons, List.any_nil, Bool.or_false, outB, Bool.not_or]
  congr 1
  · by_cases h : x < 0
    · rw [decide_eq_true h, decide_eq_false (show ¬ 0 ≤ x by omega)]; rfl
    · rw [decide_eq_false h, decide_eq_true (show 0 ≤ x by omega)]; rfl
  · by_cases h : (p.length : Int) ≤ x
    · rw [decide_eq_true h, decide_eq_false (show ¬ x ≤ (p.length : Int) - 1 by omega)]; rfl
    · rw [decide_eq_false h, decide_eq_true (show x ≤ (p.length : Int) - 1 by omega)]; rfl
theorem hnV_two (p : List Int) (x y : Int) : hnV p [x, y] = (ndOk p x && ndOk p y) := by
  rw [← hnV_one, ← hnV_one]
  unfold hnV
  simp only [List.any_cons, List.any_nil, Bool.or_false, Bool.not_or]
  cases trOk p <;> simp
set_option maxHeartbeats 400000 in
theorem hasNodes1_any (R : Nat) (v : Value) (p : List Int) (w : World) (ht : Tr w R v p) (x : Int) :
    Calls Tryz.prog 51 #[.int .i64 x, .pointer (some ⟨R, 0, none⟩)] w fun e w' => e = .returned (.bool (outB p.length x)) ∧ w = w' := by
  have hx := ht.cell
  obtain ⟨a, cap, rfl, hc1, hm1⟩ := ht.len
  unfold maxLen at hm1
  clear ht
  by_cases h0 : x < 0
  · have HE : Hid (outB p.length x = true) := Lib.hid (by unfold outB; rw [decide_eq_true h0]; rfl)
    go_enter Tryz.func51, Tryz.ntmps51
    go_wp2_with fail
    go_ret
    exact ⟨ret_bool HE.out.symm, rfl⟩
  · by_cases hn : (p.length : Int) ≤ x
    · have HE : Hid (outB p.length x = true) := Lib.hid (by unfold outB; rw [decide_eq_true hn, Bool.or_true])
      go_enter Tryz.func51, Tryz.ntmps51
      go_wp2_with fail
      go_ret
      exact ⟨ret_bool HE.out.symm, rfl⟩
    · have HE : Hid (outB p.length x = false) := Lib.hid (by unfold outB; rw [decide_eq_false h0, decide_eq_false hn]; rfl)
      go_enter Tryz.func51, Tryz.ntmps51
      go_wp2_with fail
      go_ret
      exact ⟨ret_bool HE.out.symm, rfl⟩
set_option maxHeartbeats 1000000 in
theorem hasNodes_any (v u : Value) (p xs : List Int) (w : World) (hrow : Row w v p.length (p.map (Value.int .i64))) (hu : Row w u xs.length (xs.map (Value.int .i64))) :
    Calls Tryz.prog 32 #[.agg #[v], u] w fun e w' => e = .returned (.bool (hnV p xs)) ∧ Below w.heap.size w w' := by
  obtain ⟨W, hW⟩ : ∃ W, W = w.alloc (.cells #[v] 26) := ⟨_, rfl⟩
  have HT : Hid (Tr W w.heap.size v p) := Lib.hid (by rw [hW]; exact Tr.new hrow)
  have hb : Below w.heap.size w W := by rw [hW]; exact (Below.refl w.heap.size w).alloc (Nat.le_refl _) _
  have HB := Lib.hid hb
  have HU := Lib.hid (hu.below hb (Nat.le_refl _))
  have HW := Lib.hid hW
  have HG := Lib.hid (implIsTree_any v p W HT.out.row)
  have hx := HT.out.cell
  obtain ⟨R, hR⟩ : ∃ R, R = w.heap.size := ⟨_, rfl⟩
  rw [← hR] at HT hx
  have HR := Lib.hid hR
  clear hW hrow hR hu hb
  have HE : Hid (hnV p xs = (trOk p && !(xs.any (outB p.length)))) := Lib.hid rfl
  have HC := Lib.hid (fun (W1 : World) (h : Tr W1 R v p) (h2 : Row W1 u xs.length (xs.map (Value.int .i64))) => containsFunc_any (outB p.length) u xs 51 #[.pointer (some ⟨R, 0, none⟩)] W1 h2 (enters_of Tryz.func51 (by kernel_rfl) rfl) (fun x => hasNodes1_any R v p W1 h x))
  generalize xs.any (outB p.length) = an at HE HC
  generalize hnV p xs = goal at HE ⊢
  generalize trOk p = ok at HG HE
  cases ok with
  | false =>
    have HE2 : Hid (goal = false) := Lib.hid HE.out
    clear HE HC
    go_enter Tryz.func32, Tryz.ntmps32
    go_upto_region 1 with fail
    rw [← HW.out, ← HR.out]
    go_wp2_with fail
    refine HG.out.mono ?_
    rintro e W2 ⟨rfl, l2⟩
    have HB2 := Lib.hid (HB.out.trans (l2.mono HB.out.size))
    clear l2
    go_wp2_with fail
    go_ret
    exact ⟨ret_bool HE2.out.symm, HB2.out⟩
  | true =>
    have HE2 : Hid (goal = !an) := Lib.hid HE.out
    clear HE
    go_enter Tryz.func32, Tryz.ntmps32
    go_upto_region 1 with fail
    rw [← HW.out, ← HR.out]
    go_wp2_with fail
    refine HG.out.mono ?_
    rintro e W2 ⟨rfl, l2⟩
    have HB2 := Lib.hid (HB.out.trans (l2.mono HB.out.size))
    have HT2 := Lib.hid (HT.out.below l2)
    have HU2 := Lib.hid (HU.out.below l2 (Nat.le_refl _))
    clear l2 hx HU
    go_wp2_with fail
    refine (HC.out _ HT2.out HU2.out).mono ?_
    rintro e _ ⟨rfl, rfl⟩
    go_wp2_with fail
    go_ret
    exact ⟨ret_bool HE2.out.symm, HB2.out⟩
theorem hasNode1_any (v : Value) (p : List Int) (x : Int) (W : World) (hrow : Row W v p.length (p.map (Value.int .i64))) :
    Calls Tryz.prog 32 #[.agg #[v], .slice (some ⟨W.heap.size, 0, none⟩) 1 1] (W.alloc (.cells #[.int .i64 x] 3)) fun e w' => e = .returned (.bool (ndOk p x)) ∧ Below W.heap.size W w' := by
  have hb : Below W.heap.size W (W.alloc (.cells #[.int .i64 x] 3)) := (Below.refl W.heap.size W).alloc (Nat.le_refl _) _
  refine (hasNodes_any v _ p [x] _ (hrow.below hb (Nat.le_refl _)) (row_own (own_made W [.int .i64 x] 3 1 rfl (by decide)))).mono ?_
  rintro e w' ⟨rfl, l⟩
  exact ⟨by rw [hnV_one], hb.trans (l.mono hb.size)⟩
theorem hasNode2_any (v : Value) (p : List Int) (x y : Int) (W : World) (hrow : Row W v p.length (p.map (Value.int .i64))) :
    Calls Tryz.prog 32 #[.agg #[v], .slice (some ⟨W.heap.size, 0, none⟩) 2 2] (W.alloc (.cells #[.int .i64 x, .int .i64 y] 3)) fun e w' => e = .returned (.bool (ndOk p x && ndOk p y)) ∧ Below W.heap.size W w' := by
  have hb : Below W.heap.size W (W.alloc (.cells #[.int .i64 x, .int .i64 y] 3)) := (Below.refl W.heap.size W).alloc (Nat.le_refl _) _
  refine (hasNodes_any v _ p [x, y] _ (hrow.below hb (Nat.le_refl _)) (row_own (own_made W [.int .i64 x, .int .i64 y] 3 2 rfl (by decide)))).mono ?_
  rintro e w' ⟨rfl, l⟩
  exact ⟨by rw [hnV_two], hb.trans (l.mono hb.size)⟩
end Go.Proofs.YtejdphfcogfcmaaGreatDoor
