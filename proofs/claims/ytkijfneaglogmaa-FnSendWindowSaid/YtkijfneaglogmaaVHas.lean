/-
  The laws' 'vInts' and 'vHas'.
-/
import Derived.Test.YtkijfneaglogmaaInts
namespace Go.Proofs.Ytkijfneaglogmaa
open Go.RowKit
set_option linter.unusedVariables false

set_option maxHeartbeats 400000 in
theorem vInts_any (v1 v2 : Value) (xs ys : List Int) (w : World) (h1 : Row w v1 xs.length (xs.map (Value.int .i64))) (h2 : Row w v2 ys.length (ys.map (Value.int .i64))) :
    Calls Try.prog 28 #[v1, v2] w fun e w' => e = .returned (.bool (decide (xs = ys))) ∧ ∃ k, w' = w.drewN k := by
  obtain ⟨a1, c1, rfl, hc1, hm1, hcell1⟩ := row_open h1
  obtain ⟨a2, c2, rfl, hc2, hm2, hcell2⟩ := row_open h2
  have HC1 := Lib.hid hcell1
  have HC2 := Lib.hid hcell2
  clear hcell1 hcell2 h1 h2
  unfold maxLen at hm1 hm2
  by_cases hl : xs.length = ys.length
  · obtain ⟨n, hN⟩ : ∃ n, n = xs.length := ⟨_, rfl⟩
    rw [← hl, ← hN]
    rw [← hl, ← hN] at hc2
    rw [← hN] at hc1
    have HL := Lib.hid hl
    have HN := Lib.hid hN
    clear hl hN
    go_enter Try.func28, Try.ntmps28
    go_wp2_with fail
    go_loopw [5] (fun i wr => ∃ k : Nat, k ≤ n ∧ i = .int .i64 k ∧ Hid (xs.take k = ys.take k) ∧ Hid (∃ a, wr = w.drewN a)) (fun i _ => n - (intOf i).toNat)
    case atStart => exact ⟨0, Nat.zero_le _, rfl, Lib.hid (by simp), Lib.hid ⟨0, rfl⟩⟩
    case round =>
      obtain ⟨k, hk, rfl, HT, HW⟩ := hrel
      by_cases hkn : k < n
      · have hk1 : k < xs.length := by rw [← HN.out]; exact hkn
        have hk2 : k < ys.length := by rw [← HL.out]; exact hk1
        obtain ⟨b1, o1, rfl, hb1, hx1⟩ := HC1.out k hk1
        obtain ⟨b2, o2, rfl, hb2, hx2⟩ := HC2.out k hk2
        have hy1 : wr.cell? ⟨b1, o1 + k, none⟩ = some (.int .i64 xs[k]) := by obtain ⟨a, rfl⟩ := HW.out; exact hx1
        have hy2 : wr.cell? ⟨b2, o2 + k, none⟩ = some (.int .i64 ys[k]) := by obtain ⟨a, rfl⟩ := HW.out; exact hx2
        clear hx1 hx2
        obtain ⟨x, hx⟩ : ∃ x, x = xs[k] := ⟨_, rfl⟩
        obtain ⟨y, hy⟩ : ∃ y, y = ys[k] := ⟨_, rfl⟩
        rw [← hx] at hy1
        rw [← hy] at hy2
        have HX := Lib.hid hx
        have HY := Lib.hid hy
        clear hx hy
        go_wp2_with fail
        go_quiet (fail)
        go_wp2_with fail
        · go_ret
          exact ⟨ret_bool (by rw [decide_eq_false (fun e => int_ne (by assumption) (by rw [HX.out, HY.out]; exact list_at_i e _ _ _))]), world_hid_i HW.out _⟩
        · go_roundw
          case rel => exact ⟨k + 1, by omega, by go_num, Lib.hid (eq_take_i hk1 hk2 HT.out (by rw [← HX.out, ← HY.out]; exact int_eq (by assumption))), Lib.hid (world_hid_i HW.out _)⟩
          case measure => simp [intOf]; omega
      · obtain rfl : k = n := by omega
        have HE : Hid (xs = ys) := Lib.hid (by
          have := HT.out
          rw [HN.out, List.take_of_length_le (Nat.le_refl _), HL.out, List.take_of_length_le (Nat.le_refl _)] at this
          exact this)
        go_wp2_with fail
        go_ret
        exact ⟨ret_bool (by rw [decide_eq_true HE.out]), HW.out⟩
  · have HE : Hid (decide (xs = ys) = false) := Lib.hid (decide_eq_false (fun e => hl (by rw [e])))
    have hd : ((xs.length : Int) == (ys.length : Int)) = false := by simp; omega
    clear hl
    go_enter Try.func28, Try.ntmps28
    go_wp2_with fail
    go_ret
    exact ⟨ret_bool HE.out.symm, 0, rfl⟩
theorem vHas_any (v : Value) (xs : List Int) (y : Int) (w : World) (hrow : Row w v xs.length (xs.map (Value.int .i64))) :
    Calls Try.prog 29 #[v, .int .i64 y] w fun e w' => e = .returned (.bool (decide (y ∈ xs))) ∧ w = w' := by
  obtain ⟨a, cap, rfl, hc1, hc2, hcell⟩ := row_open hrow
  unfold maxLen at hc2
  have HC := Lib.hid hcell
  clear hcell hrow
  obtain ⟨n, hN⟩ : ∃ n, n = xs.length := ⟨_, rfl⟩
  rw [← hN] at hc1 ⊢
  have HN := Lib.hid hN
  clear hN
  go_enter Try.func29, Try.ntmps29
  go_wp2_with fail
  go_loop [5] (fun i => ∃ k : Nat, k ≤ n ∧ i = .int .i64 k ∧ Hid (y ∉ xs.take k)) (fun i => n - (intOf i).toNat)
  case atStart => exact ⟨0, Nat.zero_le _, rfl, Lib.hid (by simp)⟩
  case round =>
    obtain ⟨k, hk, rfl, HA⟩ := hrel
    by_cases hkn : k < n
    · have hks : k < xs.length := by rw [← HN.out]; exact hkn
      obtain ⟨b, off, rfl, hb, hc⟩ := HC.out k hks
      have HM := Lib.hid (List.getElem_mem hks)
      have HS := Lib.hid (List.take_succ_eq_append_getElem hks)
      obtain ⟨u, hu⟩ : ∃ u, u = xs[k] := ⟨_, rfl⟩
      rw [← hu] at hc HM HS
      clear hu
      by_cases he : u = y
      · subst he
        go_wp2_with fail
        go_ret
        exact ⟨ret_bool (decide_eq_true HM.out).symm, rfl⟩
      · have he' : (u == y) = false := by simpa using he
        have HE := Lib.hid he
        clear he
        go_wp2_with fail
        go_round
        case rel => exact ⟨k + 1, by omega, by go_num, Lib.hid (by
          rw [HS.out]
          intro h
          rcases List.mem_append.1 h with h | h
          · exact HA.out h
          · simp at h; exact HE.out h.symm)⟩
        case measure => simp [intOf]; omega
    · obtain rfl : k = n := by omega
      have HE := Lib.hid HA.out
      rw [HN.out, List.take_of_length_le (Nat.le_refl _)] at HE
      go_wp2_with fail
      go_ret
      exact ⟨ret_bool (decide_eq_false HE.out).symm, rfl⟩
end Go.Proofs.Ytkijfneaglogmaa
