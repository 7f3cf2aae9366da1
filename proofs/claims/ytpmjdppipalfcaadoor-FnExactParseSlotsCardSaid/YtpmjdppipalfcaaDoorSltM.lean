/-
  The laws' marks at slices of Slots.
-/
import Derived.Test.YtpmjdppipalfcaaDoorSltS
import Derived.Laws.Tables
import Derived.Deep.QuietTactic
import Derived.Deep.RegionWith
namespace Go.Proofs.YtpmjdppipalfcaaDoor
open Go.RowKit Go.Lib Go.Joins
set_option linter.unusedVariables false
set_option maxRecDepth 100000 in
set_option maxHeartbeats 2000000 in
theorem markSlS_any (g n cap k base : Nat) (xs : List Value) (w : World) (hown : w.ownsRow base 75 2 (.slice (some ⟨g, 0, none⟩) n cap) n xs) (h0 : 1 ≤ k) (hk : k + 2 * n ≤ 100000000) :
    Calls Tryd.prog 62 #[.slice (some ⟨g, 0, none⟩) n cap, .int .i64 k] w fun e w' => e = .returned (.int .i64 (k + 2 * n : Nat)) ∧
      w'.ownsRow base 75 2 (.slice (some ⟨g, 0, none⟩) n cap) n (mkSl k n) ∧ w.grownBy w' (some g) := by
  have hxl : xs.length = n * 2 := hown.1
  have HX := Lib.hid hxl
  clear hxl
  go_enter Tryd.func62, Tryd.ntmps62
  go_wp2_with fail
  go_loopw [1, 5] (fun z i wr => ∃ j : Nat, j ≤ n ∧ i = .int .i64 j ∧ z = .int .i64 (k + 2 * j : Nat) ∧ wr.ownsRow base 75 2 (.slice (some ⟨g, 0, none⟩) n cap) n (mkSl k j ++ xs.drop (j * 2)) ∧ w.grownBy wr (some g)) (fun _ i _ => n - (RowKit.intOf i).toNat)
  case atStart => exact ⟨0, Nat.zero_le _, rfl, rfl, by simpa [mkSl, flatZ] using hown, ⟨rfl, rfl, rfl, Nat.le_refl _, fun _ _ _ => rfl⟩⟩
  case round =>
    obtain ⟨j, hj, rfl, rfl, ho, hg⟩ := hrel
    by_cases hjn : j < n
    · have hj2 : j * 2 + 2 ≤ xs.length := by rw [HX.out]; omega
      have hs2 := Lib.hid (mkSl_sets k j xs hj2)
      obtain ⟨c0, f0, _, _⟩ := ownz_facts ho (j := j * 2) (by rw [ho.1]; omega)
      obtain ⟨m, hm⟩ : ∃ m : Nat, m = k + 2 * j := ⟨_, rfl⟩
      have HM := Lib.hid hm
      rw [← hm] at hs2 ⊢
      have hmb : m ≤ 100000000 := by omega
      have hm1 : 1 ≤ m := by omega
      have HT : Hid (∀ W : World, Calls Tryd.prog 84 #[.int .i64 ((m : Int) + 1)] W fun e w' => e = .returned (.string (mkT (m + 1))) ∧ W.grownBy w' none) := Lib.hid (fun W => by
        rw [← vint (show ((m + 1 : Nat) : Int) = (m : Int) + 1 by omega)]
        exact markText_any (m + 1) (by omega) (by omega) W)
      obtain ⟨b, hb, h3⟩ : ∃ b : Bool, decide (m % 3 = 0) = b ∧ ((m : Int) % 3 == 0) = b := by
        by_cases h : m % 3 = 0
        · exact ⟨true, decide_eq_true h, by rw [beq_iff_eq]; omega⟩
        · exact ⟨false, decide_eq_false h, by rw [beq_eq_false_iff_ne]; omega⟩
      rw [hb] at hs2
      have s0 := ownz_set ho (j := j * 2) (.bool b)
      have HS0 := Lib.hid s0
      have HG := Lib.hid hg
      generalize (mkSl k j ++ xs.drop (j * 2))[j * 2]'(by rw [ho.1]; omega) = u0 at c0
      clear hm hg s0 ho hb
      go_wp2_with fail
      refine (HT.out _).mono ?_
      rintro e w1 ⟨rfl, hg1⟩
      have ho1 := ownz_none HS0.out.1 hg1
      obtain ⟨c1, f1, _, _⟩ := ownz_facts ho1 (j := j * 2 + 1) (by rw [ho1.1]; omega)
      have HO1 := Lib.hid ho1
      have HG1 := Lib.hid hg1
      generalize ((mkSl k j ++ xs.drop (j * 2)).set (j * 2) (.bool b))[j * 2 + 1]'(by rw [ho1.1]; omega) = u1 at c1
      clear ho1 hg1
      go_wp2_with fail
      go_roundw
      case rel => exact ⟨j + 1, by omega, by go_num, vint (by have := HM.out; omega), by
        have h2 := (ownz_set HO1.out (j := j * 2 + 1) (.string (mkT (m + 1)))).1
        rw [hs2.out] at h2
        exact h2, grown_trans (grown_trans (grown_trans HG.out HS0.out.2) (grown_any HG1.out)) (ownz_set HO1.out (j := j * 2 + 1) _).2⟩
      case measure => (simp [RowKit.intOf]; omega)
    · obtain rfl : j = n := by omega
      go_wp2_with fail
      go_ret
      exact ⟨rfl, by rw [List.drop_of_length_le (by rw [HX.out]; exact Nat.le_refl _), List.append_nil] at ho; exact ho, hg⟩
set_option maxHeartbeats 400000 in
theorem markSl_own (v : Value) (n k base : Nat) (xs : List Value) (w : World) (hown : w.ownsRow base 75 2 v n xs) (h0 : 1 ≤ k) (hk : k + 2 * n ≤ 100000000) :
    Calls Tryd.prog 62 #[v, .int .i64 k] w fun e w' => e = .returned (.int .i64 (k + 2 * n : Nat)) ∧
      w'.ownsRow base 75 2 v n (mkSl k n) ∧ w.grownBy w' v.ownBlock := by
  have h0' := hown
  obtain ⟨hl, ⟨rfl, rfl⟩ | ⟨g, cap, cur, rfl, hb, hg, hn, hm, hs, ht⟩⟩ := hown
  · clear h0' hl
    go_enter Tryd.func62, Tryd.ntmps62
    go_wp2_with fail
    refine wp_loop_rounds 1 ?_
    rw [rounds_succ]
    go_wp2_with fail
    go_ret
    exact ⟨rfl, ⟨rfl, .inl ⟨rfl, rfl⟩⟩, ⟨rfl, rfl, rfl, Nat.le_refl _, fun _ _ _ => rfl⟩⟩
  · exact markSlS_any g n cap k base xs w h0' h0 hk
set_option maxRecDepth 100000 in
set_option maxHeartbeats 2000000 in
theorem heldSlS_any (g n cap k base : Nat) (w : World) (hown : w.ownsRow base 75 2 (.slice (some ⟨g, 0, none⟩) n cap) n (mkSl k n)) (h0 : 1 ≤ k) (hk : k + 2 * n ≤ 100000000) :
    Calls Tryd.prog 63 #[.slice (some ⟨g, 0, none⟩) n cap, .int .i64 k] w fun e w' => e = .returned (.int .i64 (k + 2 * n : Nat)) ∧ w.grownBy w' none := by
  go_enter Tryd.func63, Tryd.ntmps63
  go_wp2_with fail
  go_loopw [1, 5] (fun z i wr => ∃ j : Nat, j ≤ n ∧ i = .int .i64 j ∧ z = .int .i64 (k + 2 * j : Nat) ∧ w.grownBy wr none) (fun _ i _ => n - (RowKit.intOf i).toNat)
  case atStart => exact ⟨0, Nat.zero_le _, rfl, rfl, ⟨rfl, rfl, rfl, Nat.le_refl _, fun _ _ _ => rfl⟩⟩
  case round =>
    obtain ⟨j, hj, rfl, rfl, hg⟩ := hrel
    by_cases hjn : j < n
    · have ho := ownz_none hown hg
      obtain ⟨e0, e1⟩ := mkSl_at k n j hjn
      obtain ⟨c0, _, _, _⟩ := ownz_facts ho (j := j * 2) (by rw [mkSl_len]; omega)
      obtain ⟨c1, _, _, _⟩ := ownz_facts ho (j := j * 2 + 1) (by rw [mkSl_len]; omega)
      obtain ⟨a0, b0⟩ := List.getElem?_eq_some_iff.1 e0
      obtain ⟨a1, b1⟩ := List.getElem?_eq_some_iff.1 e1
      rw [b0] at c0
      rw [b1] at c1
      obtain ⟨m, hm⟩ : ∃ m : Nat, m = k + 2 * j := ⟨_, rfl⟩
      have HM := Lib.hid hm
      rw [← hm] at c0 c1 ⊢
      have hmb : m ≤ 100000000 := by omega
      have hm1 : 1 ≤ m := by omega
      have HT : Hid (∀ W : World, Calls Tryd.prog 84 #[.int .i64 ((m : Int) + 1)] W fun e w' => e = .returned (.string (mkT (m + 1))) ∧ W.grownBy w' none) := Lib.hid (fun W => by
        rw [← vint (show ((m + 1 : Nat) : Int) = (m : Int) + 1 by omega)]
        exact markText_any (m + 1) (by omega) (by omega) W)
      obtain ⟨b, hb, h3⟩ : ∃ b : Bool, decide (m % 3 = 0) = b ∧ ((m : Int) % 3 == 0) = b := by
        by_cases h : m % 3 = 0
        · exact ⟨true, decide_eq_true h, by rw [beq_iff_eq]; omega⟩
        · exact ⟨false, decide_eq_false h, by rw [beq_eq_false_iff_ne]; omega⟩
      rw [hb] at c0
      have HG := Lib.hid hg
      clear hm hg ho hb e0 e1 a0 a1 b0 b1
      go_wp2_with fail
      go_region_with (go_at_call 84; refine (HT.out _).mono ?_; rintro e w1 ⟨rfl, hg1⟩; have hc1 := hg1.cell c1 (by simp))
      all_goals go_wp2_with fail
      all_goals
        go_roundw
        case rel => exact ⟨j + 1, by omega, by go_num, vint (by have := HM.out; omega), grown_trans HG.out (grown_trans (grown_drew1 wr) hg1)⟩
        case measure => (simp [RowKit.intOf]; omega)
    · obtain rfl : j = n := by omega
      go_wp2_with fail
      go_ret
      exact ⟨rfl, hg⟩
set_option maxHeartbeats 400000 in
theorem heldSl_own (v : Value) (n k base : Nat) (w : World) (hown : w.ownsRow base 75 2 v n (mkSl k n)) (h0 : 1 ≤ k) (hk : k + 2 * n ≤ 100000000) :
    Calls Tryd.prog 63 #[v, .int .i64 k] w fun e w' => e = .returned (.int .i64 (k + 2 * n : Nat)) ∧ w.grownBy w' none := by
  have h0' := hown
  obtain ⟨hl, ⟨rfl, rfl⟩ | ⟨g, cap, cur, rfl, hb, hg, hn, hm, hs, ht⟩⟩ := hown
  · clear h0' hl
    go_enter Tryd.func63, Tryd.ntmps63
    go_wp2_with fail
    refine wp_loop_rounds 1 ?_
    rw [rounds_succ]
    go_wp2_with fail
    go_ret
    exact ⟨rfl, ⟨rfl, rfl, rfl, Nat.le_refl _, fun _ _ _ => rfl⟩⟩
  · exact heldSlS_any g n cap k base w h0' h0 hk
end Go.Proofs.YtpmjdppipalfcaaDoor
