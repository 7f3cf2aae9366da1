/-
  The laws' marks at slices of Packets.
-/
import Derived.Test.YtlendmiolhgecaaPksS
import Derived.Laws.Tables
import Derived.Deep.QuietTactic
import Derived.Deep.RegionWith
namespace Go.Proofs.Ytlendmiolhgecaa
open Go.RowKit Go.Lib Go.Joins
set_option linter.unusedVariables false
set_option maxRecDepth 100000 in
set_option maxHeartbeats 4000000 in
theorem markPqS_any (g n cap k base : Nat) (xs : List Value) (w : World) (hown : w.ownsRow base 64 5 (.slice (some ⟨g, 0, none⟩) n cap) n xs) (h0 : 1 ≤ k) (hk : k + 5 * n ≤ 100000000) :
    Calls Try.prog 41 #[.slice (some ⟨g, 0, none⟩) n cap, .int .i64 k] w fun e w' => e = .returned (.int .i64 (k + 5 * n : Nat)) ∧
      w'.ownsRow base 64 5 (.slice (some ⟨g, 0, none⟩) n cap) n (mkPq k n) ∧ w.grownBy w' (some g) := by
  have hxl : xs.length = n * 5 := hown.1
  have HX := Lib.hid hxl
  clear hxl
  go_enter Try.func41, Try.ntmps41
  go_wp2_with fail
  go_loopw [1, 5] (fun z i wr => ∃ j : Nat, j ≤ n ∧ i = .int .i64 j ∧ z = .int .i64 (k + 5 * j : Nat) ∧ wr.ownsRow base 64 5 (.slice (some ⟨g, 0, none⟩) n cap) n (mkPq k j ++ xs.drop (j * 5)) ∧ w.grownBy wr (some g)) (fun _ i _ => n - (RowKit.intOf i).toNat)
  case atStart => exact ⟨0, Nat.zero_le _, rfl, rfl, by simpa [mkPq, flatZ] using hown, ⟨rfl, rfl, rfl, Nat.le_refl _, fun _ _ _ => rfl⟩⟩
  case round =>
    obtain ⟨j, hj, rfl, rfl, ho, hg⟩ := hrel
    by_cases hjn : j < n
    · have hj2 : j * 5 + 5 ≤ xs.length := by rw [HX.out]; omega
      have hs2 := Lib.hid (mkPq_sets k j xs hj2)
      obtain ⟨c0, f0, _, _⟩ := ownz_facts ho (j := j * 5) (by rw [ho.1]; omega)
      obtain ⟨m, hm⟩ : ∃ m : Nat, m = k + 5 * j := ⟨_, rfl⟩
      have HM := Lib.hid hm
      rw [← hm] at hs2 ⊢
      have hmb : m ≤ 100000000 := by omega
      have hm1 : 1 ≤ m := by omega
      have HT : Hid (∀ W : World, Calls Try.prog 82 #[.int .i64 ((m : Int) + 1 + 1 + 1 + 1)] W fun e w' => e = .returned (.string (mkT (m + 4))) ∧ W.grownBy w' none) := Lib.hid (fun W => by
        rw [← vint (show ((m + 4 : Nat) : Int) = ((m : Int) + 1 + 1 + 1 + 1) by omega)]
        exact markText_any (m + 4) (by omega) (by omega) W)
      have s0 := ownz_set ho (j := j * 5) (.int .i64 (m : Int))
      obtain ⟨c1, f1, _, _⟩ := ownz_facts s0.1 (j := j * 5 + 1) (by rw [s0.1.1]; omega)
      have s1 := ownz_set s0.1 (j := j * 5 + 1) (.int .i64 ((m : Int) + 1))
      obtain ⟨c2, f2, _, _⟩ := ownz_facts s1.1 (j := j * 5 + 2) (by rw [s1.1.1]; omega)
      have s2 := ownz_set s1.1 (j := j * 5 + 2) (.int .i64 ((m : Int) + 1 + 1))
      obtain ⟨c3, f3, _, _⟩ := ownz_facts s2.1 (j := j * 5 + 3) (by rw [s2.1.1]; omega)
      have s3 := ownz_set s2.1 (j := j * 5 + 3) (.int .i64 ((m : Int) + 1 + 1 + 1))
      have hv1 : (.int .i64 ((m : Int) + 1) : Value) = .int .i64 ((m + 1 : Nat) : Int) := vint (by omega)
      have hv2 : (.int .i64 ((m : Int) + 1 + 1) : Value) = .int .i64 ((m + 2 : Nat) : Int) := vint (by omega)
      have hv3 : (.int .i64 ((m : Int) + 1 + 1 + 1) : Value) = .int .i64 ((m + 3 : Nat) : Int) := vint (by omega)
      have HV := Lib.hid (And.intro hv1 (And.intro hv2 hv3))
      have HS0 := Lib.hid s0
      have HS1 := Lib.hid s1
      have HS2 := Lib.hid s2
      have HS3 := Lib.hid s3
      have HG := Lib.hid hg
      generalize (mkPq k j ++ xs.drop (j * 5))[j * 5]'(by rw [ho.1]; omega) = u0 at c0
      generalize ((mkPq k j ++ xs.drop (j * 5)).set (j * 5) (.int .i64 (m : Int)))[j * 5 + 1]'(by rw [s0.1.1]; omega) = u1 at c1
      generalize (((mkPq k j ++ xs.drop (j * 5)).set (j * 5) (.int .i64 (m : Int))).set (j * 5 + 1) (.int .i64 ((m : Int) + 1)))[j * 5 + 2]'(by rw [s1.1.1]; omega) = u2 at c2
      generalize ((((mkPq k j ++ xs.drop (j * 5)).set (j * 5) (.int .i64 (m : Int))).set (j * 5 + 1) (.int .i64 ((m : Int) + 1))).set (j * 5 + 2) (.int .i64 ((m : Int) + 1 + 1)))[j * 5 + 3]'(by rw [s2.1.1]; omega) = u3 at c3
      clear hm hg s0 s1 s2 s3 ho hv1 hv2 hv3
      go_wp2_with fail
      refine (HT.out _).mono ?_
      rintro e w1 ⟨rfl, hg1⟩
      have ho1 := ownz_none HS3.out.1 hg1
      obtain ⟨c4, f4, _, _⟩ := ownz_facts ho1 (j := j * 5 + 4) (by rw [ho1.1]; omega)
      have HO1 := Lib.hid ho1
      have HG1 := Lib.hid hg1
      generalize (((((mkPq k j ++ xs.drop (j * 5)).set (j * 5) (.int .i64 (m : Int))).set (j * 5 + 1) (.int .i64 ((m : Int) + 1))).set (j * 5 + 2) (.int .i64 ((m : Int) + 1 + 1))).set (j * 5 + 3) (.int .i64 ((m : Int) + 1 + 1 + 1)))[j * 5 + 4]'(by rw [ho1.1]; omega) = u4 at c4
      clear ho1 hg1 c0 c1 c2 c3 f0 f1 f2 f3
      go_wp2_with fail
      go_roundw
      case rel => exact ⟨j + 1, by omega, by go_num, vint (by have := HM.out; omega), by
        have h2 := (ownz_set HO1.out (j := j * 5 + 4) (.string (mkT (m + 4)))).1
        rw [HV.out.1, HV.out.2.1, HV.out.2.2, hs2.out] at h2
        exact h2, grown_trans (grown_trans (grown_trans (grown_trans (grown_trans (grown_trans HG.out HS0.out.2) HS1.out.2) HS2.out.2) HS3.out.2) (grown_any HG1.out)) (ownz_set HO1.out (j := j * 5 + 4) _).2⟩
      case measure => (simp [RowKit.intOf]; omega)
    · obtain rfl : j = n := by omega
      go_wp2_with fail
      go_ret
      exact ⟨rfl, by rw [List.drop_of_length_le (by rw [HX.out]; exact Nat.le_refl _), List.append_nil] at ho; exact ho, hg⟩
set_option maxHeartbeats 400000 in
theorem markPq_own (v : Value) (n k base : Nat) (xs : List Value) (w : World) (hown : w.ownsRow base 64 5 v n xs) (h0 : 1 ≤ k) (hk : k + 5 * n ≤ 100000000) :
    Calls Try.prog 41 #[v, .int .i64 k] w fun e w' => e = .returned (.int .i64 (k + 5 * n : Nat)) ∧
      w'.ownsRow base 64 5 v n (mkPq k n) ∧ w.grownBy w' v.ownBlock := by
  have h0' := hown
  obtain ⟨hl, ⟨rfl, rfl⟩ | ⟨g, cap, cur, rfl, hb, hg, hn, hm, hs, ht⟩⟩ := hown
  · clear h0' hl
    go_enter Try.func41, Try.ntmps41
    go_wp2_with fail
    refine wp_loop_rounds 1 ?_
    rw [rounds_succ]
    go_wp2_with fail
    go_ret
    exact ⟨rfl, ⟨rfl, .inl ⟨rfl, rfl⟩⟩, ⟨rfl, rfl, rfl, Nat.le_refl _, fun _ _ _ => rfl⟩⟩
  · exact markPqS_any g n cap k base xs w h0' h0 hk
set_option maxRecDepth 100000 in
set_option maxHeartbeats 4000000 in
theorem heldPqS_any (g n cap k base : Nat) (w : World) (hown : w.ownsRow base 64 5 (.slice (some ⟨g, 0, none⟩) n cap) n (mkPq k n)) (h0 : 1 ≤ k) (hk : k + 5 * n ≤ 100000000) :
    Calls Try.prog 42 #[.slice (some ⟨g, 0, none⟩) n cap, .int .i64 k] w fun e w' => e = .returned (.int .i64 (k + 5 * n : Nat)) ∧ w.grownBy w' none := by
  go_enter Try.func42, Try.ntmps42
  go_wp2_with fail
  go_loopw [1, 5] (fun z i wr => ∃ j : Nat, j ≤ n ∧ i = .int .i64 j ∧ z = .int .i64 (k + 5 * j : Nat) ∧ w.grownBy wr none) (fun _ i _ => n - (RowKit.intOf i).toNat)
  case atStart => exact ⟨0, Nat.zero_le _, rfl, rfl, ⟨rfl, rfl, rfl, Nat.le_refl _, fun _ _ _ => rfl⟩⟩
  case round =>
    obtain ⟨j, hj, rfl, rfl, hg⟩ := hrel
    by_cases hjn : j < n
    · have ho := ownz_none hown hg
      obtain ⟨e0, e1, e2, e3, e4⟩ := mkPq_at k n j hjn
      obtain ⟨c0, _, _, _⟩ := ownz_facts ho (j := j * 5) (by rw [mkPq_len]; omega)
      obtain ⟨c1, _, _, _⟩ := ownz_facts ho (j := j * 5 + 1) (by rw [mkPq_len]; omega)
      obtain ⟨c2, _, _, _⟩ := ownz_facts ho (j := j * 5 + 2) (by rw [mkPq_len]; omega)
      obtain ⟨c3, _, _, _⟩ := ownz_facts ho (j := j * 5 + 3) (by rw [mkPq_len]; omega)
      obtain ⟨c4, _, _, _⟩ := ownz_facts ho (j := j * 5 + 4) (by rw [mkPq_len]; omega)
      obtain ⟨a0, b0⟩ := List.getElem?_eq_some_iff.1 e0
      rw [b0] at c0
      obtain ⟨a1, b1⟩ := List.getElem?_eq_some_iff.1 e1
      rw [b1] at c1
      obtain ⟨a2, b2⟩ := List.getElem?_eq_some_iff.1 e2
      rw [b2] at c2
      obtain ⟨a3, b3⟩ := List.getElem?_eq_some_iff.1 e3
      rw [b3] at c3
      obtain ⟨a4, b4⟩ := List.getElem?_eq_some_iff.1 e4
      rw [b4] at c4
      obtain ⟨m, hm⟩ : ∃ m : Nat, m = k + 5 * j := ⟨_, rfl⟩
      have HM := Lib.hid hm
      rw [← hm] at c0 c1 c2 c3 c4 ⊢
      have hmb : m ≤ 100000000 := by omega
      have hm1 : 1 ≤ m := by omega
      rw [show (.int .i64 ((m + 1 : Nat) : Int) : Value) = .int .i64 ((m : Int) + 1) from vint (by omega)] at c1
      rw [show (.int .i64 ((m + 2 : Nat) : Int) : Value) = .int .i64 ((m : Int) + 1 + 1) from vint (by omega)] at c2
      rw [show (.int .i64 ((m + 3 : Nat) : Int) : Value) = .int .i64 ((m : Int) + 1 + 1 + 1) from vint (by omega)] at c3
      have HT : Hid (∀ W : World, Calls Try.prog 82 #[.int .i64 ((m : Int) + 1 + 1 + 1 + 1)] W fun e w' => e = .returned (.string (mkT (m + 4))) ∧ W.grownBy w' none) := Lib.hid (fun W => by
        rw [← vint (show ((m + 4 : Nat) : Int) = ((m : Int) + 1 + 1 + 1 + 1) by omega)]
        exact markText_any (m + 4) (by omega) (by omega) W)
      have HG := Lib.hid hg
      clear hm hg ho e0 e1 e2 e3 e4 a0 a1 a2 a3 a4 b0 b1 b2 b3 b4
      go_wp2_with fail
      go_region_with (go_at_call 82; refine (HT.out _).mono ?_; rintro e w1 ⟨rfl, hg1⟩; have hc1 := hg1.cell c4 (by simp))
      all_goals go_wp2_with fail
      all_goals
        go_roundw
        case rel => exact ⟨j + 1, by omega, by go_num, vint (by have := HM.out; omega), grown_trans HG.out (grown_trans (grown_drew1 wr) hg1)⟩
        case measure => (simp [RowKit.intOf]; omega)
    · obtain rfl : j = n := by omega
      go_wp2_with fail
      go_ret
      exact ⟨rfl, hg⟩
set_option maxHeartbeats 400000 in
theorem heldPq_own (v : Value) (n k base : Nat) (w : World) (hown : w.ownsRow base 64 5 v n (mkPq k n)) (h0 : 1 ≤ k) (hk : k + 5 * n ≤ 100000000) :
    Calls Try.prog 42 #[v, .int .i64 k] w fun e w' => e = .returned (.int .i64 (k + 5 * n : Nat)) ∧ w.grownBy w' none := by
  have h0' := hown
  obtain ⟨hl, ⟨rfl, rfl⟩ | ⟨g, cap, cur, rfl, hb, hg, hn, hm, hs, ht⟩⟩ := hown
  · clear h0' hl
    go_enter Try.func42, Try.ntmps42
    go_wp2_with fail
    refine wp_loop_rounds 1 ?_
    rw [rounds_succ]
    go_wp2_with fail
    go_ret
    exact ⟨rfl, ⟨rfl, rfl, rfl, Nat.le_refl _, fun _ _ _ => rfl⟩⟩
  · exact heldPqS_any g n cap k base w h0' h0 hk
end Go.Proofs.Ytlendmiolhgecaa
