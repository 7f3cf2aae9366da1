/-
  Sets as ranges: the program's functions that only read.
-/
import Derived.Test.YtneimcacpbepfaaGreatDoorRngMath3
import Derived.Test.YtneimcacpbepfaaGreatDoorRng4
import Derived.Test.YtneimcacpbepfaaGreatDoorWord
namespace Go.Proofs.YtneimcacpbepfaaGreatDoor
open Go.RowKit Go.Lib Go.Joins
set_option linter.unusedVariables false

theorem b_a {w wr : World} (h : Below w.heap.size w wr) (o : Obj) : Below w.heap.size w (wr.alloc o) := h.alloc h.size o
theorem b_d {w wr : World} (h : Below w.heap.size w wr) (n : Nat) : Below w.heap.size w (wr.drewN n) := h.trans ((bdrew wr n).mono h.size)
theorem all2 (f t : Int) : [f, t].all serB = (serB f && serB t) := by simp
set_option maxHeartbeats 4000000 in
theorem implIsSet_any (v : Value) (s : List Rg) (w : World) (hrow : Row w v s.length (rgF s)) :
    Calls Tryz.prog 17 #[v] w fun e w' => e = .returned (.bool (rgOk s)) ∧ Below w.heap.size w w' := by
  obtain ⟨a, cap, rfl, hc1, hm1, hcell⟩ := rg_open hrow
  have HC := Lib.hid hcell
  clear hcell hrow
  unfold maxLen at hm1
  obtain ⟨n, hN⟩ : ∃ n, n = s.length := ⟨_, rfl⟩
  rw [← hN] at hc1 ⊢
  have HN := Lib.hid hN
  clear hN
  by_cases h10 : n ≤ 10
  rotate_left
  · have HO : Hid (rgOk s = false) := Lib.hid (by unfold rgOk; rw [decide_eq_false (p := s.length ≤ 10) (by rw [← HN.out]; exact h10), Bool.and_false])
    have h10' : (10 : Int) < (n : Int) := by omega
    go_enter Tryz.func17, Tryz.ntmps17
    go_wp2_with fail
    go_ret
    exact ⟨ret_bool HO.out.symm, Below.refl _ _⟩
  have h10' : ¬ (10 : Int) < (n : Int) := by omega
  have HR0 := Lib.hid (Below.refl w.heap.size w)
  go_enter Tryz.func17, Tryz.ntmps17
  go_wp2_with fail
  go_loopw [10] (fun i wr => ∃ k : Nat, k ≤ n ∧ i = .int .i64 k ∧ Hid (rgCh (s.take k)) ∧ Hid (Below w.heap.size w wr)) (fun i _ => n - (intOf i).toNat)
  case atStart => exact ⟨0, Nat.zero_le _, rfl, Lib.hid (rgCh_take_zero s), HR0⟩
  case round =>
    clear HR0
    obtain ⟨k, hk, rfl, HT, HB⟩ := hrel
    by_cases hkn : k < n
    · have hks : k < s.length := by rw [← HN.out]; exact hkn
      obtain ⟨b, off, rfl, hb, hf, ht⟩ := HC.out k hks
      have hf1 := (HB.out.cell hb).trans hf
      have ht1 := (HB.out.cell hb).trans ht
      have hbr : b < wr.heap.size := Nat.lt_of_lt_of_le hb HB.out.size
      clear hf ht
      obtain ⟨f, hfe⟩ : ∃ f, f = s[k].1 := ⟨_, rfl⟩
      obtain ⟨t, hte⟩ : ∃ t, t = s[k].2 := ⟨_, rfl⟩
      rw [← hfe] at hf1
      rw [← hte] at ht1
      have HF := Lib.hid hfe
      have HE := Lib.hid hte
      clear hfe hte
      have HA : Hid (∀ (W : World) (g : Nat), g = W.heap.size → Calls Tryz.prog 35 #[.slice (some ⟨g, 0, none⟩) 2 2] (W.alloc (.cells #[.int .i64 f, .int .i64 t] 3)) fun e w' => e = .returned (.bool (serB f && serB t)) ∧ W.alloc (.cells #[.int .i64 f, .int .i64 t] 3) = w') := Lib.hid (fun W g hg => by subst hg; rw [← all2]; exact areWords_any _ [f, t] _ (row_two W f t))
      by_cases hw : 0 ≤ f ∧ f ≤ 65535 ∧ 0 ≤ t ∧ t ≤ 65535
      · obtain ⟨f0, f1, t0, t1⟩ := hw
        have hs : (serB f && serB t) = true := by rw [serB_yes f0 f1, serB_yes t0 t1]; rfl
        rw [hs] at HA
        by_cases hft : t < f
        · have hd1 : decide (t < f) = true := decide_eq_true hft
          have HO := Lib.hid (rgOk_bad hks (by rw [← HF.out, ← HE.out]; omega))
          go_wp2_with (go_at_call 35; refine (HA.out _ _ (by simp)).mono ?_; rintro e w' ⟨rfl, rfl⟩)
          go_ret
          exact ⟨ret_bool HO.out.symm, by repeat (first | exact HB.out | refine b_a ?_ _ | refine b_d ?_ _)⟩
        · have hd1 : decide (t < f) = false := decide_eq_false hft
          by_cases hk0 : 0 < k
          · have hd2 : decide ((0 : Int) < (k : Int)) = true := decide_eq_true (by omega)
            obtain ⟨b', off', e', hb', hf', ht'⟩ := HC.out (k - 1) (by omega)
            injection e' with e'
            injection e' with e1 e2
            subst e1; subst e2
            have hp1 : wr.cell? ⟨b, off + (k - 1) * 2 + 1, none⟩ = some (.int .i64 (s[k - 1]'(by omega)).2) := (HB.out.cell hb).trans ht'
            clear hf' ht' hb'
            obtain ⟨p, hp⟩ : ∃ p, p = (s[k - 1]'(by omega)).2 := ⟨_, rfl⟩
            rw [← hp] at hp1
            have hpb : 0 ≤ p ∧ p ≤ 65535 := by
              have := HT.out.2 (s[k - 1]'(by omega)) (by rw [List.mem_take_iff_getElem]; exact ⟨k - 1, by omega, rfl⟩)
              rw [← hp] at this
              omega
            have HPe := Lib.hid hp
            clear hp
            obtain ⟨p0, p1⟩ := hpb
            have hkw : IntKind.i64.wrap ((k : Int) - 1) = (k : Int) - 1 := IntWalk.i64_in _ (by omega)
            have hkn1 : ((k : Int) - 1).toNat = k - 1 := by omega
            have hkp : (0 : Int) ≤ (k : Int) - 1 := by omega
            have hkq : (k : Int) - 1 < (n : Int) := by omega
            have hpw : IntKind.i64.wrap (p + 1) = p + 1 := IntWalk.i64_in _ (by omega)
            by_cases hg : f ≤ p + 1
            · have hd3 : decide (f ≤ p + 1) = true := decide_eq_true hg
              have HO := Lib.hid (rgOk_near hks hk0 (by rw [← HF.out, ← HPe.out]; omega))
              go_wp2_with (go_at_call 35; refine (HA.out _ _ (by simp)).mono ?_; rintro e w' ⟨rfl, rfl⟩)
              go_quiet (fail)
              go_wp2_with fail
              go_ret
              exact ⟨ret_bool HO.out.symm, by repeat (first | exact HB.out | refine b_a ?_ _ | refine b_d ?_ _)⟩
            · have hd3 : decide (f ≤ p + 1) = false := decide_eq_false hg
              have HS := Lib.hid (rgCh_snoc hks HT.out (by rw [← HF.out]; omega) (by rw [← HF.out, ← HE.out]; omega) (by rw [← HE.out]; omega) (fun _ => by rw [← HF.out, ← HPe.out]; omega))
              go_wp2_with (go_at_call 35; refine (HA.out _ _ (by simp)).mono ?_; rintro e w' ⟨rfl, rfl⟩)
              go_quiet (fail)
              go_wp2_with fail
              go_roundw
              case rel => exact ⟨k + 1, by omega, by go_num, HS, Lib.hid (by repeat (first | exact HB.out | refine b_a ?_ _ | refine b_d ?_ _))⟩
              case measure => simp [intOf]; omega
          · have hd2 : decide ((0 : Int) < (k : Int)) = false := decide_eq_false (by omega)
            have HS := Lib.hid (rgCh_snoc hks HT.out (by rw [← HF.out]; omega) (by rw [← HF.out, ← HE.out]; omega) (by rw [← HE.out]; omega) (fun h => absurd h hk0))
            go_wp2_with (go_at_call 35; refine (HA.out _ _ (by simp)).mono ?_; rintro e w' ⟨rfl, rfl⟩)
            go_quiet (fail)
            go_wp2_with fail
            go_roundw
            case rel => exact ⟨k + 1, by omega, by go_num, HS, Lib.hid (by repeat (first | exact HB.out | refine b_a ?_ _ | refine b_d ?_ _))⟩
            case measure => simp [intOf]; omega
      · have hs : (serB f && serB t) = false := by
          by_cases hf0 : 0 ≤ f ∧ f ≤ 65535
          · rw [serB_no (x := t) (by omega), Bool.and_false]
          · rw [serB_no hf0, Bool.false_and]
        rw [hs] at HA
        have HO := Lib.hid (rgOk_bad hks (by rw [← HF.out, ← HE.out]; omega))
        go_wp2_with (go_at_call 35; refine (HA.out _ _ (by simp)).mono ?_; rintro e w' ⟨rfl, rfl⟩)
        go_ret
        exact ⟨ret_bool HO.out.symm, by repeat (first | exact HB.out | refine b_a ?_ _ | refine b_d ?_ _)⟩
    · obtain rfl : k = n := by omega
      have HO : Hid (rgOk s = true) := Lib.hid (by
        have h := HT.out
        rw [HN.out, List.take_of_length_le (Nat.le_refl _)] at h
        rw [rgOk_len h]
        exact decide_eq_true (by rw [← HN.out]; omega))
      go_wp2_with fail
      go_ret
      exact ⟨ret_bool HO.out.symm, HB.out⟩
end Go.Proofs.YtneimcacpbepfaaGreatDoor
