/-
  'markStringS' and 'heldStringS': marks are written into a row of the call's own, and found there again.
-/
import Derived.Test.YtlendmiolhgecaaMark
import Derived.Test.YtlendmiolhgecaaOwn
import Derived.Laws.Tables
import Derived.Deep.QuietTactic
import Derived.Deep.RegionWith
namespace Go.Proofs.Ytlendmiolhgecaa
open Go.RowKit

/-- n marks from k on. -/
def marks (k n : Nat) : List Value := (List.range n).map fun i => .string (mkT (k + i))

theorem marks_length (k n : Nat) : (marks k n).length = n := by simp [marks]
theorem marks_succ (k j : Nat) : marks k (j + 1) = marks k j ++ [.string (mkT (k + j))] := by simp [marks, List.range_succ]
theorem marks_at (k n i : Nat) (h : i < n) : (marks k n)[i]? = some (.string (mkT (k + i))) := by
  unfold marks
  rw [List.getElem?_map, List.getElem?_range h]; rfl

theorem marks_set (k j : Nat) (xs : List Value) (h : j < xs.length) : (marks k j ++ xs.drop j).set j (.string (mkT (k + j))) = marks k (j + 1) ++ xs.drop (j + 1) := by
  rw [List.set_append_right _ _ (by rw [marks_length]; omega), marks_length, Nat.sub_self, List.drop_eq_getElem_cons h, List.set_cons_zero, marks_succ]
  simp

set_option maxHeartbeats 1000000 in
theorem markStringS_any (g n cap k base : Nat) (xs : List Value) (w : World) (hown : w.ownsRow base 9 1 (.slice (some ⟨g, 0, none⟩) n cap) n xs) (h0 : 1 ≤ k) (hk : k + n ≤ 100000000) :
    Calls Try.prog 111 #[.slice (some ⟨g, 0, none⟩) n cap, .int .i64 k] w fun e w' => e = .returned (.int .i64 (k + n : Nat)) ∧
      w'.ownsRow base 9 1 (.slice (some ⟨g, 0, none⟩) n cap) n (marks k n) ∧ w.grownBy w' (some g) := by
  have hxl : xs.length = n := by have := hown.1; omega
  have HX := Lib.hid hxl
  clear hxl
  go_enter Try.func111, Try.ntmps111
  go_wp2_with fail
  go_loopw [1, 5] (fun z i wr => ∃ j : Nat, j ≤ n ∧ i = .int .i64 j ∧ z = .int .i64 (k + j : Nat) ∧ wr.ownsRow base 9 1 (.slice (some ⟨g, 0, none⟩) n cap) n (marks k j ++ xs.drop j) ∧ w.grownBy wr (some g)) (fun _ i _ => n - (intOf i).toNat)
  case atStart => exact ⟨0, Nat.zero_le _, rfl, rfl, by simpa [marks] using hown, ⟨rfl, rfl, rfl, Nat.le_refl _, fun _ _ _ => rfl⟩⟩
  case round =>
    obtain ⟨j, hj, rfl, rfl, ho, hg⟩ := hrel
    by_cases hjn : j < n
    · have HM := Lib.hid (fun W => markText_any (k + j) (by omega) (by omega) W)
      go_wp2_with (go_at_call 82; refine (HM.out _).mono ?_; rintro e w1 ⟨rfl, hg1⟩; have ho1 := own_grown ho hg1; obtain ⟨⟨u, _, hu⟩, hfr, _, _⟩ := own_facts ho1 hjn)
      go_roundw
      case rel => exact ⟨j + 1, by omega, by go_num, vint (by omega), by
        have h2 := (own_set ho1 (j := j) (.string (mkT (k + j)))).1
        rw [marks_set k j xs (by rw [HX.out]; exact hjn)] at h2
        exact h2, grown_trans (grown_trans hg (grown_any hg1)) (own_set ho1 (j := j) _).2⟩
      case measure => simp [intOf]; omega
    · obtain rfl : j = n := by omega
      go_wp2_with fail
      go_ret
      exact ⟨rfl, by rw [List.drop_of_length_le (by rw [HX.out]; exact Nat.le_refl _), List.append_nil] at ho; exact ho, hg⟩
theorem mk_eq {x : Value} {k i n : Nat} (h : (marks k n)[i]? = some x) (hi : i < n) : x = .string (mkT (k + i)) := by
  rw [marks_at k n i hi] at h
  injection h with h
  exact h.symm

set_option maxHeartbeats 1000000 in
theorem heldStringS_any (g n cap k base : Nat) (w : World) (hown : w.ownsRow base 9 1 (.slice (some ⟨g, 0, none⟩) n cap) n (marks k n)) (h0 : 1 ≤ k) (hk : k + n ≤ 100000000) :
    Calls Try.prog 112 #[.slice (some ⟨g, 0, none⟩) n cap, .int .i64 k] w fun e w' => e = .returned (.int .i64 (k + n : Nat)) ∧ w.grownBy w' none := by
  go_enter Try.func112, Try.ntmps112
  go_wp2_with fail
  go_loopw [1, 5] (fun z i wr => ∃ j : Nat, j ≤ n ∧ i = .int .i64 j ∧ z = .int .i64 (k + j : Nat) ∧ w.grownBy wr none) (fun _ i _ => n - (intOf i).toNat)
  case atStart => exact ⟨0, Nat.zero_le _, rfl, rfl, ⟨rfl, rfl, rfl, Nat.le_refl _, fun _ _ _ => rfl⟩⟩
  case round =>
    obtain ⟨j, hj, rfl, rfl, hg⟩ := hrel
    by_cases hjn : j < n
    · have ho := own_grown hown hg
      obtain ⟨⟨u, hu, hc⟩, hfr, _, _⟩ := own_facts ho hjn
      obtain rfl := mk_eq hu hjn
      clear hu
      have HM := Lib.hid (fun W => markText_any (k + j) (by omega) (by omega) W)
      go_wp2_with fail
      go_region_with (go_at_call 82; refine (HM.out _).mono ?_; rintro e w1 ⟨rfl, hg1⟩; have hc1 := hg1.cell hc (by simp))
      all_goals go_wp2_with fail
      all_goals
        go_roundw
        case rel => exact ⟨j + 1, by omega, by go_num, vint (by omega), grown_trans hg (grown_trans (grown_drew1 wr) hg1)⟩
        case measure => simp [intOf]; omega
    · obtain rfl : j = n := by omega
      go_wp2_with fail
      go_ret
      exact ⟨rfl, hg⟩
end Go.Proofs.Ytlendmiolhgecaa
