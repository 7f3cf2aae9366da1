/-
  The block of a source.
-/
import Derived.Test.YtlendmiolhgecaaHldR
import Derived.Test.YtlendmiolhgecaaSnd
import Derived.Test.YtlendmiolhgecaaSer
import Derived.Deep.QuietTactic
import Derived.BigQuiet
import Derived.IntWalk
import Derived.Deep.CutRange
import Derived.WalkLawsBesides
import Derived.Lib.SmallJoins
import Derived.Deep.RegionHeld3
namespace Go.Proofs.Ytlendmiolhgecaa
open Go.RowKit Go.Lib Go.Joins
set_option linter.unusedVariables false

theorem isSo : IsBox 29 6 := fun w g cs hn h => run_loadVar_row w g 29 29 cs (0, 0) _ h Try.underlying29 (by rfl) (by rw [hn]; kernel_rfl)
theorem inB_eq {x lo hi : Int} (h : inB x lo hi = false) : ¬ (lo ≤ x ∧ x ≤ hi) := fun e => by rw [inB_yes e.1 e.2] at h; cases h
theorem Bx.store6 {w : World} {R : Nat} {a b c d f g : Value} {t : TypeId} (h : Bx w R #[a, b, c, d, f, g] t) (a' b' c' d' f' g' : Value) :
    Bx ((((((w.setCell ⟨R, 0, none⟩ a').setCell ⟨R, 1, none⟩ b').setCell ⟨R, 2, none⟩ c').setCell ⟨R, 3, none⟩ d').setCell ⟨R, 4, none⟩ f').setCell ⟨R, 5, none⟩ g') R #[a', b', c', d', f', g'] t ∧ w.grownBy ((((((w.setCell ⟨R, 0, none⟩ a').setCell ⟨R, 1, none⟩ b').setCell ⟨R, 2, none⟩ c').setCell ⟨R, 3, none⟩ d').setCell ⟨R, 4, none⟩ f').setCell ⟨R, 5, none⟩ g') (some R) := by
  obtain ⟨a1, b1⟩ := h.set 0 a'
  obtain ⟨a2, b2⟩ := a1.set 1 b'
  obtain ⟨a3, b3⟩ := a2.set 2 c'
  obtain ⟨a4, b4⟩ := a3.set 3 d'
  obtain ⟨a5, b5⟩ := a4.set 4 f'
  obtain ⟨a6, b6⟩ := a5.set 5 g'
  exact ⟨a6, grown_trans (grown_trans (grown_trans (grown_trans (grown_trans b1 b2) b3) b4) b5) b6⟩
theorem FitA.fit11 {v : Value} {n : Nat} (h : FitA v n) : Fit v n := by
  rcases h with ⟨rfl, h0⟩ | ⟨b, o, c, rfl⟩
  · exact .inl ⟨rfl, h0⟩
  · exact .inr ⟨_, _, rfl⟩
theorem fitA_own11 {w : World} {B n z : Nat} {e : TypeId} {v : Value} {xs : List Value} (h : w.ownsRow B e z v n xs) : FitA v n := by
  obtain ⟨hl, ⟨rfl, h0⟩ | ⟨g, c, cur, rfl, _⟩⟩ := h
  · exact .inl ⟨rfl, h0⟩
  · exact .inr ⟨_, _, _, rfl⟩
theorem sw_sizes {l : Sw} (h : swOk l = true) : ∀ x ∈ l.q, x.size ≤ maxLen := fun x hx => by
  have := (itB_iff.1 ((swOk_iff.1 h).2.2.2 x hx)).2
  unfold maxLen
  omega
theorem quiet_sm {P : Program} {f : FuncId} {args : Array Value} {w : World} {n : Nat} {v : Value} (h : Calls P f args (w.drewN n) fun e w' => e = .returned v ∧ w.drewN n = w') : Calls P f args (w.drewN n) fun e w'' => e = .returned v ∧ ∃ m, w'' = w.drewN m :=
  h.mono fun _ _ ⟨he, hm⟩ => ⟨he, n, hm.symm⟩
end Go.Proofs.Ytlendmiolhgecaa
