/-
  Packets in lists: literals of one and two.
-/
import Derived.Test.YtlendmiolhgecaaPksM
namespace Go.Proofs.Ytlendmiolhgecaa
open Go.RowKit Go.Lib Go.Joins
set_option linter.unusedVariables false

/-- A literal of one packet. -/
theorem ownPq_one {w : World} {g base : Nat} {p : Pk} (h : Bx w g #[.int .i64 p.k, .int .i64 p.n, .int .i64 p.t, .int .i64 p.l, .string p.d] 64) (hb : base ≤ g) : w.ownsRow base 64 5 (.slice (some ⟨g, 0, none⟩) 1 1) 1 (pqF [p]) :=
  ⟨rfl, .inr ⟨g, 1, _, rfl, hb, h, Nat.le_refl _, by unfold maxLen; omega, rfl, rfl⟩⟩
end Go.Proofs.Ytlendmiolhgecaa
