/-
  The laws' helpers at lists of strings: sizes, marks, copies.
-/
import Derived.Test.YtlendmiolhgecaaFit
import Derived.Test.YtlendmiolhgecaaMarkS
namespace Go.Proofs.Ytlendmiolhgecaa
open Go.RowKit Go.Lib
set_option linter.unusedVariables false

set_option maxHeartbeats 400000 in
theorem szStringS_le (v : Value) (ss : List ByteArray) (w : World) (hrow : Row w v ss.length (ss.map Value.string)) (hs : ∀ s ∈ ss, s.size ≤ maxLen) (left : Nat) (hl : left ≤ 1048576) :
    Calls Try.prog 113 #[v, .int .i64 left] w fun e w' => w = w' ∧ ∃ r : Int, e = .returned (.int .i64 r) ∧ (r < 0 ∨ (ss.length ≤ left ∧ (∀ s ∈ ss, s.size ≤ left) ∧ 0 ≤ r ∧ r ≤ left)) := by
  obtain ⟨n, hN⟩ : ∃ n, n = ss.length := ⟨_, rfl⟩
  obtain ⟨a, cap, rfl, hc1, hc2⟩ : ∃ a cap, v = .slice a ss.length cap ∧ ss.length ≤ cap ∧ cap ≤ maxLen := by
    obtain ⟨a, cap, rfl, h1, h2, _⟩ := hrow
    exact ⟨a, cap, rfl, h1, h2⟩
  have hcell : ∀ k (h : k < ss.length), ∃ b off, a = some ⟨b, off, none⟩ ∧ b < w.heap.size ∧ w.cell? ⟨b, off + k, none⟩ = some (.string ss[k]) := fun k h => by
    obtain ⟨a', cap', e, _, _, h3⟩ := hrow
    injection e with e1 e2 e3
    subst e1
    obtain ⟨b, off, rfl, hb, hc⟩ := h3 (by intro e; have := congrArg List.length e; simp at this; rw [this] at h; simp at h)
    refine ⟨b, off, rfl, hb, ?_⟩
    have := hc k (by rw [List.length_map]; exact h)
    rw [List.getElem_map] at this
    exact this
  have HC := Lib.hid hcell
  have HM := Lib.hid hs
  clear hcell hrow hs
  unfold maxLen at hc2
  rw [← hN] at hc1 ⊢
  have HN := Lib.hid hN
  clear hN
  by_cases hbig : (left : Int) < n
  · go_enter Try.func113, Try.ntmps113
    go_wp2_with fail
    go_ret
    exact ⟨rfl, _, rfl, .inl (by omega)⟩
  · go_enter Try.func113, Try.ntmps113
    go_wp2_with fail
    go_loop [1, 5] (fun z i => ∃ (k : Nat) (r : Nat), k ≤ n ∧ i = .int .i64 k ∧ z = .int .i64 r ∧ r ≤ left ∧ Hid (∀ s ∈ ss.take k, s.size ≤ left)) (fun _ i => n - (intOf i).toNat)
    case atStart => exact ⟨0, left - n, Nat.zero_le _, rfl, by congr 1; omega, by omega, Lib.hid (by simp)⟩
    case round =>
      obtain ⟨k, r, hk, rfl, rfl, hr, HA⟩ := hrel
      by_cases hkn : k < n
      · have hks : k < ss.length := by rw [← HN.out]; exact hkn
        obtain ⟨b, off, rfl, hb, hc⟩ := HC.out k hks
        have hum := HM.out _ (List.getElem_mem hks)
        obtain ⟨u, hu⟩ : ∃ u, u = ss[k] := ⟨_, rfl⟩
        rw [← hu] at hc hum
        have HU := Lib.hid hu
        clear hu
        unfold maxLen at hum
        by_cases hlt : (r : Int) < u.size
        · go_wp2
          go_ret
          exact ⟨rfl, _, rfl, .inl (by omega)⟩
        · have HB : Hid (∀ s ∈ ss.take (k + 1), s.size ≤ left) := Lib.hid (fun s hs => by
            rw [List.take_succ_eq_append_getElem hks] at hs
            rcases List.mem_append.1 hs with h1 | h1
            · exact HA.out s h1
            · simp at h1; subst h1; rw [← HU.out]; omega)
          go_wp2
          go_round
          case rel => exact ⟨k + 1, r - u.size, by omega, by go_num, by congr 1; omega, by omega, HB⟩
          case measure => simp [intOf]; omega
      · obtain rfl : k = n := by omega
        go_wp2
        go_ret
        exact ⟨rfl, _, rfl, .inr ⟨by omega, fun s hs => HA.out s (by rw [HN.out, List.take_of_length_le (Nat.le_refl _)]; exact hs), by omega, by omega⟩⟩
theorem markS_own (v : Value) (n k base : Nat) (xs : List Value) (w : World) (hown : w.ownsRow base 9 1 v n xs) (h0 : 1 ≤ k) (hk : k + n ≤ 100000000) :
    Calls Try.prog 111 #[v, .int .i64 k] w fun e w' => e = .returned (.int .i64 (k + n : Nat)) ∧ w'.ownsRow base 9 1 v n (marks k n) ∧ w.grownBy w' v.ownBlock := by
  have h0' := hown
  obtain ⟨hl, ⟨rfl, rfl⟩ | ⟨g, cap, cur, rfl, hb, hg, hn, hm, hs, ht⟩⟩ := hown
  · clear h0' hl
    go_enter Try.func111, Try.ntmps111
    go_wp2_with fail
    refine wp_loop_rounds 1 ?_
    rw [rounds_succ]
    go_wp2_with fail
    go_ret
    exact ⟨rfl, by simpa [marks] using World.ownsRow_nil w base _ 1, ⟨rfl, rfl, rfl, Nat.le_refl _, fun _ _ _ => rfl⟩⟩
  · exact markStringS_any g n cap k base xs w h0' h0 hk
theorem heldS_own (v : Value) (n k base : Nat) (w : World) (hown : w.ownsRow base 9 1 v n (marks k n)) (h0 : 1 ≤ k) (hk : k + n ≤ 100000000) :
    Calls Try.prog 112 #[v, .int .i64 k] w fun e w' => e = .returned (.int .i64 (k + n : Nat)) ∧ w.grownBy w' none := by
  have h0' := hown
  obtain ⟨hl, ⟨rfl, rfl⟩ | ⟨g, cap, cur, rfl, hb, hg, hn, hm, hs, ht⟩⟩ := hown
  · clear h0' hl
    go_enter Try.func112, Try.ntmps112
    go_wp2_with fail
    refine wp_loop_rounds 1 ?_
    rw [rounds_succ]
    go_wp2_with fail
    go_ret
    exact ⟨rfl, ⟨rfl, rfl, rfl, Nat.le_refl _, fun _ _ _ => rfl⟩⟩
  · exact heldStringS_any g n cap k base w h0' h0 hk
theorem toStringS_lit (v : Value) (ss : List ByteArray) (w : World) (hrow : Row w v ss.length (ss.map Value.string)) (hn : ss.length ≤ 1048576) :
    Calls Try.prog 114 #[v] w fun e w' => ∃ g : Nat, e = .returned (.slice (some ⟨g, 0, none⟩) ss.length ss.length) ∧ w'.ownsRow w.heap.size 9 1 (.slice (some ⟨g, 0, none⟩) ss.length ss.length) ss.length (ss.map Value.string) ∧ Below w.heap.size w w' :=
  (toStringS_any v ss w hrow hn).mono fun e w' ⟨h1, h2⟩ => ⟨w.heap.size, h1, by
    rw [h2]; exact own_made w _ _ _ (List.length_map _).symm (by unfold maxLen; omega), by
    rw [h2]; exact (Below.refl _ _).alloc (Nat.le_refl _) _⟩
end Go.Proofs.Ytlendmiolhgecaa
