/-
  The laws' helpers at lists of strings: sizes, marks, copies.
-/
import Derived.Test.YtpmjdppipalfcaaFit
import Derived.Test.YtpmjdppipalfcaaMarkS
namespace Go.Proofs.Ytpmjdppipalfcaa
open Go.RowKit Go.Lib
set_option linter.unusedVariables false

theorem markS_own (v : Value) (n k base : Nat) (xs : List Value) (w : World) (hown : w.ownsRow base 9 1 v n xs) (h0 : 1 ≤ k) (hk : k + n ≤ 100000000) :
    Calls Try.prog 36 #[v, .int .i64 k] w fun e w' => e = .returned (.int .i64 (k + n : Nat)) ∧ w'.ownsRow base 9 1 v n (marks k n) ∧ w.grownBy w' v.ownBlock := by
  have h0' := hown
  obtain ⟨hl, ⟨rfl, rfl⟩ | ⟨g, cap, cur, rfl, hb, hg, hn, hm, hs, ht⟩⟩ := hown
  · clear h0' hl
    go_enter Try.func36, Try.ntmps36
    go_wp2_with fail
    refine wp_loop_rounds 1 ?_
    rw [rounds_succ]
    go_wp2_with fail
    go_ret
    exact ⟨rfl, by simpa [marks] using World.ownsRow_nil w base _ 1, ⟨rfl, rfl, rfl, Nat.le_refl _, fun _ _ _ => rfl⟩⟩
  · exact markStringS_any g n cap k base xs w h0' h0 hk
theorem heldS_own (v : Value) (n k base : Nat) (w : World) (hown : w.ownsRow base 9 1 v n (marks k n)) (h0 : 1 ≤ k) (hk : k + n ≤ 100000000) :
    Calls Try.prog 38 #[v, .int .i64 k] w fun e w' => e = .returned (.int .i64 (k + n : Nat)) ∧ w.grownBy w' none := by
  have h0' := hown
  obtain ⟨hl, ⟨rfl, rfl⟩ | ⟨g, cap, cur, rfl, hb, hg, hn, hm, hs, ht⟩⟩ := hown
  · clear h0' hl
    go_enter Try.func38, Try.ntmps38
    go_wp2_with fail
    refine wp_loop_rounds 1 ?_
    rw [rounds_succ]
    go_wp2_with fail
    go_ret
    exact ⟨rfl, ⟨rfl, rfl, rfl, Nat.le_refl _, fun _ _ _ => rfl⟩⟩
  · exact heldStringS_any g n cap k base w h0' h0 hk
end Go.Proofs.Ytpmjdppipalfcaa
