/-
  Trees: the specification's functions that read: validity, nodes.
-/
import Derived.Test.YtejdphfcogfcmaaGreatDoorSer
import Derived.Test.YtejdphfcogfcmaaGreatDoorOwn
import Derived.Test.YtejdphfcogfcmaaGreatDoorInts
import Derived.Test.YtejdphfcogfcmaaGreatDoorTreeMath
import Derived.Deep.QuietTactic
import Derived.BigQuiet
import Derived.IntWalk
import Derived.Deep.CutRange
import Derived.WalkLawsBesides
import Derived.Lib.SmallJoins
namespace Go.Proofs.YtejdphfcogfcmaaGreatDoor
open Go.RowKit Go.Lib Go.Joins
set_option linter.unusedVariables false

/-- The box of a tree that came in: its list of parents. -/
structure Tr (w : World) (R : Nat) (v : Value) (p : List Int) : Prop where
  box : w.heap[R]? = some (.cells #[v] 26 (0, 0))
  row : Row w v p.length (p.map (Value.int .i64))
theorem Tr.cell {w : World} {R : Nat} {v : Value} {p : List Int} (h : Tr w R v p) : w.cell? ⟨R, 0, none⟩ = some v := by rw [cell_of_block h.box]; rfl
theorem Tr.lt {w : World} {R : Nat} {v : Value} {p : List Int} (h : Tr w R v p) : R < w.heap.size := (Array.getElem?_eq_some_iff.1 h.box).1
theorem Tr.below {w w' : World} {R : Nat} {v : Value} {p : List Int} (h : Tr w R v p) (hb : Below w.heap.size w w') : Tr w' R v p := ⟨(hb.block R h.lt).trans h.box, h.row.below hb (Nat.le_refl _)⟩
theorem Tr.new {w : World} {v : Value} {p : List Int} (h : Row w v p.length (p.map (Value.int .i64))) : Tr (w.alloc (.cells #[v] 26)) w.heap.size v p :=
  ⟨heap_alloc_new w _, h.below ((Below.refl _ _).alloc (Nat.le_refl _) _) (Nat.le_refl _)⟩
/-- An element of the list. -/
theorem Tr.at {w : World} {R k : Nat} {v : Value} {p : List Int} (h : Tr w R v p) (hk : k < p.length) : ∃ b off cap, v = .slice (some ⟨b, off, none⟩) p.length cap ∧ w.cell? ⟨b, off + k, none⟩ = some (.int .i64 (par6 p k)) := by
  obtain ⟨a, cap, rfl, _, _, hc⟩ := row_open h.row
  obtain ⟨b, off, rfl, _, h1⟩ := hc k hk
  exact ⟨b, off, cap, rfl, by rw [h1, par6_at hk]⟩
theorem Tr.len {w : World} {R : Nat} {v : Value} {p : List Int} (h : Tr w R v p) : ∃ a cap, v = .slice a p.length cap ∧ p.length ≤ cap ∧ cap ≤ maxLen := by
  obtain ⟨a, cap, e, h1, h2, _⟩ := h.row
  exact ⟨a, cap, e, h1, h2⟩
/-- An element of a tree's list, where its slice is known. -/
theorem Tr.get {w : World} {R k n cap : Nat} {a : Option Addr} {p : List Int} (h : Tr w R (.slice a n cap) p) (hk : k < p.length) : ∃ b off, a = some ⟨b, off, none⟩ ∧ w.cell? ⟨b, off + k, none⟩ = some (.int .i64 (par6 p k)) := by
  obtain ⟨b, off, c, e, h1⟩ := h.at hk
  injection e with e1 _ _
  exact ⟨b, off, e1, h1⟩
set_option maxHeartbeats 2000000 in
theorem l6Good_any (v : Value) (p : List Int) (w : World) (hrow : Row w v p.length (p.map (Value.int .i64))) :
    Calls Tryz.prog 25 #[.agg #[v]] w fun e w' => e = .returned (.bool (trOk p)) ∧ Below w.heap.size w w' := by
  obtain ⟨W, hW⟩ : ∃ W, W = w.alloc (.cells #[v] 26) := ⟨_, rfl⟩
  have HT : Hid (Tr W w.heap.size v p) := Lib.hid (by rw [hW]; exact Tr.new hrow)
  have HB : Hid (Below w.heap.size w W) := Lib.hid (by rw [hW]; exact (Below.refl w.heap.size w).alloc (Nat.le_refl _) _)
  have HW := Lib.hid hW
  clear hW
  obtain ⟨a, cap, rfl, hc1, hm1, _⟩ := row_open hrow
  clear hrow
  unfold maxLen at hm1
  obtain ⟨n, hN⟩ : ∃ n, n = p.length := ⟨_, rfl⟩
  rw [← hN] at hc1 HT HW ⊢
  have HN := Lib.hid hN
  clear hN
  obtain ⟨R, hR⟩ : ∃ R, R = w.heap.size := ⟨_, rfl⟩
  rw [← hR] at HT
  have HR := Lib.hid hR
  clear hR
  have hx := HT.out.cell
  by_cases h28 : 2 ≤ n ∧ n ≤ 8
  rotate_left
  · have HE : Hid (trOk p = false) := Lib.hid (trOk_len (by rw [← HN.out]; exact h28))
    have HL := Lib.hid (fun W => l1In_any (n : Int) 2 8 W)
    rw [inB_no (x := (n : Int)) (by omega)] at HL
    clear h28
    go_enter Tryz.func25, Tryz.ntmps25
    go_upto_region 1 with fail
    rw [← HW.out, ← HR.out]
    go_wp2_with fail
    refine (HL.out _).mono ?_
    rintro e _ ⟨rfl, rfl⟩
    go_wp2_with fail
    go_ret
    exact ⟨ret_bool HE.out.symm, HB.out⟩
  have HL := Lib.hid (fun W => l1In_any (n : Int) 2 8 W)
  rw [inB_yes (x := (n : Int)) (by omega) (by omega)] at HL
  obtain ⟨h2, h8⟩ := h28
  have HT0 := HT.out.get (k := 0) (by rw [← HN.out]; omega)
  obtain ⟨b, off, rfl, hc0⟩ := HT0
  rw [Nat.add_zero] at hc0
  by_cases h0 : par6 p 0 = -1
  rotate_left
  · have HE : Hid (trOk p = false) := Lib.hid (trOk_root h0)
    have hne : (par6 p 0 != -1) = true := by simp; exact h0
    generalize par6 p 0 = r at hc0 hne
    clear h0
    go_enter Tryz.func25, Tryz.ntmps25
    go_upto_region 1 with fail
    rw [← HW.out, ← HR.out]
    go_wp2_with fail
    refine (HL.out _).mono ?_
    rintro e _ ⟨rfl, rfl⟩
    go_wp2_with fail
    go_ret
    exact ⟨ret_bool HE.out.symm, HB.out⟩
  have HZ := Lib.hid h0
  rw [h0] at hc0
  clear h0
  go_enter Tryz.func25, Tryz.ntmps25
  go_upto_region 1 with fail
  rw [← HW.out, ← HR.out]
  go_wp2_with fail
  refine (HL.out _).mono ?_
  rintro e _ ⟨rfl, rfl⟩
  go_wp2_with fail
  go_loop [4] (fun i => ∃ k : Nat, 1 ≤ k ∧ k ≤ n ∧ i = .int .i64 k ∧ Hid (∀ j, 1 ≤ j → j < k → 0 ≤ par6 p j ∧ par6 p j ≤ (j : Int) - 1)) (fun i => n - (RowKit.intOf i).toNat)
  case atStart => exact ⟨1, Nat.le_refl _, by omega, rfl, Lib.hid (fun j h1 h2 => by omega)⟩
  case round =>
    obtain ⟨k, hk1, hk, rfl, HA⟩ := hrel
    by_cases hkn : k < n
    · obtain ⟨b2, off2, e2, hck⟩ := HT.out.get (k := k) (by rw [← HN.out]; exact hkn)
      injection e2 with e2
      injection e2 with e2 e3 _
      subst e2; subst e3
      have HP : Hid (¬ (0 ≤ par6 p k ∧ par6 p k ≤ (k : Int) - 1) → trOk p = false) := Lib.hid (fun h => trOk_bad hk1 (by rw [← HN.out]; exact hkn) h)
      have HA2 : Hid (0 ≤ par6 p k ∧ par6 p k ≤ (k : Int) - 1 → ∀ j, 1 ≤ j → j < k + 1 → 0 ≤ par6 p j ∧ par6 p j ≤ (j : Int) - 1) := Lib.hid (fun h j h1 h2 => by
        by_cases e : j = k
        · subst e; exact h
        · exact HA.out j h1 (by omega))
      generalize par6 p k = x at hck HP HA2
      have HL2 := Lib.hid (fun W => l1In_any x 0 ((k : Int) - 1) W)
      by_cases hin : 0 ≤ x ∧ x ≤ (k : Int) - 1
      · rw [inB_yes (x := x) hin.1 hin.2] at HL2
        have HA3 := Lib.hid (HA2.out hin)
        clear hin HP HA2
        go_wp2_with fail
        refine (HL2.out _).mono ?_
        rintro e _ ⟨rfl, rfl⟩
        go_wp2_with fail
        go_round
        case rel => exact ⟨k + 1, by omega, by omega, by go_num, HA3⟩
        case measure => (simp [RowKit.intOf]; omega)
      · rw [inB_no (x := x) hin] at HL2
        have HE := Lib.hid (HP.out hin)
        clear hin HP HA2
        go_wp2_with fail
        refine (HL2.out _).mono ?_
        rintro e _ ⟨rfl, rfl⟩
        go_wp2_with fail
        go_ret
        exact ⟨ret_bool HE.out.symm, HB.out⟩
    · obtain rfl : k = n := by omega
      have HE : Hid (trOk p = true) := Lib.hid (trOk_yes (by rw [← HN.out]; exact h2) (by rw [← HN.out]; exact h8) HZ.out (fun i h1 h2 => HA.out i h1 (by rw [HN.out]; exact h2)))
      go_wp2_with fail
      go_ret
      exact ⟨ret_bool HE.out.symm, HB.out⟩
set_option maxHeartbeats 1000000 in
theorem l6Node_any (v : Value) (p : List Int) (x : Int) (w : World) (hrow : Row w v p.length (p.map (Value.int .i64))) :
    Calls Tryz.prog 34 #[.agg #[v], .int .i64 x] w fun e w' => e = .returned (.bool (ndOk p x)) ∧ Below w.heap.size w w' := by
  obtain ⟨W, hW⟩ : ∃ W, W = w.alloc (.cells #[v] 26) := ⟨_, rfl⟩
  have HT : Hid (Tr W w.heap.size v p) := Lib.hid (by rw [hW]; exact Tr.new hrow)
  have HB : Hid (Below w.heap.size w W) := Lib.hid (by rw [hW]; exact (Below.refl w.heap.size w).alloc (Nat.le_refl _) _)
  have HW := Lib.hid hW
  clear hW
  have HG := Lib.hid (l6Good_any v p W HT.out.row)
  obtain ⟨a, cap, rfl, hc1, hm1, _⟩ := row_open hrow
  clear hrow
  unfold maxLen at hm1
  have hx := HT.out.cell
  obtain ⟨R, hR⟩ : ∃ R, R = w.heap.size := ⟨_, rfl⟩
  rw [← hR] at HT hx
  have HR := Lib.hid hR
  clear hR
  have hlim := fun h => (@trOk_parts p h).2.1
  cases ht : trOk p with
  | false =>
    have HE : Hid (ndOk p x = false) := Lib.hid (by unfold ndOk; rw [ht]; rfl)
    rw [ht] at HG
    clear ht hlim
    go_enter Tryz.func34, Tryz.ntmps34
    go_upto_region 1 with fail
    rw [← HW.out, ← HR.out]
    go_wp2_with fail
    refine HG.out.mono ?_
    rintro e W2 ⟨rfl, l2⟩
    have HB2 := Lib.hid (HB.out.trans (l2.mono HB.out.size))
    clear l2
    go_wp2_with fail
    go_ret
    exact ⟨ret_bool HE.out.symm, HB2.out⟩
  | true =>
    have h8 := hlim ht
    have HE : Hid (ndOk p x = inB x 0 ((p.length : Int) - 1)) := Lib.hid (by unfold ndOk inB; rw [ht, Bool.true_and, Bool.decide_and])
    rw [ht] at HG
    have HL := Lib.hid (fun W => l1In_any x 0 ((p.length : Int) - 1) W)
    rw [← HE.out] at HL
    clear ht hlim
    go_enter Tryz.func34, Tryz.ntmps34
    go_upto_region 1 with fail
    rw [← HW.out, ← HR.out]
    go_wp2_with fail
    refine HG.out.mono ?_
    rintro e W2 ⟨rfl, l2⟩
    have HT2 := Lib.hid (HT.out.below l2)
    have HB2 := Lib.hid (HB.out.trans (l2.mono HB.out.size))
    clear l2 hx HT
    have hx := HT2.out.cell
    go_wp2_with fail
    refine (HL.out _).mono ?_
    rintro e _ ⟨rfl, rfl⟩
    go_wp2_with fail
    go_ret
    exact ⟨rfl, HB2.out⟩
end Go.Proofs.YtejdphfcogfcmaaGreatDoor
