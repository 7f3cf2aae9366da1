/-
  A struct by value of four fields, the first of which is a struct of three one-cell fields, the others of one cell each, opened.
-/
import Derived.Test.YtlendmiolhgecaaAgg
import Derived.Deep.Strs
namespace Go.Proofs.Ytlendmiolhgecaa
open Go Go.RowKit Go.Lib Go.ChangeShapes Go.WideShapes Go.Deep
section
variable {H : Type} {enc : TypeId × Value → H} {P : Program} {w : World} {base : Nat} {spare : Nat → Bool} {held : Bool}
theorem open_agg3111 {r : Reach} {b0 : Nat} {t : TypeId} {f0 f1 f2 f3 g0 g1 g2 : Field} {v : Value} {d : DataW H} {p : List MemPlace} (hs : P.underlying t = some (.struct #[f0, f1, f2, f3])) (hs0 : P.underlying f0.type = some (.struct #[g0, g1, g2]))
    (hone : oneCellFields P #[g0, g1, g2] = true) (hf : f0.offset = 0 ∧ f1.offset = 3 ∧ f2.offset = 4 ∧ f3.offset = 5 ∧ P.cellsOf f0.type = 3 ∧ P.cellsOf f1.type = 1 ∧ P.cellsOf f2.type = 1 ∧ P.cellsOf f3.type = 1) (hC : P.cellsOf t = 6)
    (hv : Value.okWide P w r b0 t v) (h : DataW.Trod enc P w base spare held t v d p) :
    ∃ (v0 v1 v2 v3 v4 v5 : Value) (x0 x1 x2 y1 y2 y3 : DataW H × List MemPlace) (n m : Nat), v = .agg #[v0, v1, v2, v3, v4, v5] ∧ d = .agg [.agg [x0.1, x1.1, x2.1], y1.1, y2.1, y3.1] ∧ p = (x0.2 ++ (x1.2 ++ x2.2)) ++ (y1.2 ++ (y2.2 ++ y3.2)) ∧
      DataW.trod enc P w base spare held m g0.type [v0] = some x0 ∧ DataW.trod enc P w base spare held m g1.type [v1] = some x1 ∧ DataW.trod enc P w base spare held m g2.type [v2] = some x2 ∧
      DataW.trod enc P w base spare held n f1.type [v3] = some y1 ∧ DataW.trod enc P w base spare held n f2.type [v4] = some y2 ∧ DataW.trod enc P w base spare held n f3.type [v5] = some y3 := by
  obtain ⟨cs, rfl, hsz⟩ := okWide_struct hs hv
  obtain ⟨c0, c1, c2, c3, c4, c5, rfl⟩ := array6' (hsz.trans hC)
  obtain ⟨fuel, hf2⟩ := h
  obtain ⟨y0, y1, y2, y3, n, hx, _, h0, h1, h2, h3⟩ := Go.Joins.trod_struct4 hs hf2
  obtain ⟨o0, o1, o2, o3, k0, k1, k2, k3⟩ := hf
  have h0' : DataW.trod enc P w base spare held n f0.type [c0, c1, c2] = some y0 := by simpa [Value.cells, o0, k0] using h0
  obtain ⟨x0, x1, x2, m, hx0, _, t0, t1, t2⟩ := trod_struct3 hs0 h0'
  obtain ⟨p0, q0⟩ := hone_of hone 0 g0 rfl
  obtain ⟨p1, q1⟩ := hone_of hone 1 g1 rfl
  obtain ⟨p2, q2⟩ := hone_of hone 2 g2 rfl
  subst hx0
  simp only [Prod.mk.injEq] at hx
  exact ⟨c0, c1, c2, c3, c4, c5, x0, x1, x2, y1, y2, y3, n, m, rfl, hx.1, hx.2, by simpa [p0, q0] using t0, by simpa [p1, q1] using t1, by simpa [p2, q2] using t2,
    by simpa [Value.cells, o1, k1] using h1, by simpa [Value.cells, o2, k2] using h2, by simpa [Value.cells, o3, k3] using h3⟩
end
end Go.Proofs.Ytlendmiolhgecaa
