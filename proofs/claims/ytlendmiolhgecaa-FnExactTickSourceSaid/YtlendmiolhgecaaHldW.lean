/-
  A slice of Holds that came in, as a row.
-/
import Derived.Test.YtlendmiolhgecaaHldR
import Derived.Deep.Slices
import Derived.ChangeArms
namespace Go.Proofs.Ytlendmiolhgecaa
open Go.RowKit Go.Lib
set_option linter.unusedVariables false

instance : Inhabited Hd := ⟨hd0⟩
theorem row_Hd {H : Type} {enc : TypeId × Value → H} {P : Program} {W : World} {t e : TypeId} {f0 f1 : Field} {v : Value} {d : DataW H} {ps : List MemPlace}
    (ht : P.underlying t = some (.slice e)) (he : P.underlying e = some (.struct #[f0, f1])) (hC : P.cellsOf e = 2) (o0 : f0.offset = 0) (o1 : f1.offset = 1)
    (c0 : P.cellsOf f0.type = 1) (c1 : P.cellsOf f1.type = 1) (k0 : P.underlying f0.type = some (.int .i64)) (k1 : P.underlying f1.type = some (.int .i64)) (hv : ∃ a len cap, v = .slice a len cap)
    (h : DataW.Trod enc P W 0 (fun _ => true) true t v d ps) :
    ∃ s : List Hd, Row W v s.length (hdF s) ∧ ∀ r ∈ s, (Lit.int .i64 r.n).wf = true ∧ (Lit.int .i64 r.u).wf = true := by
  obtain ⟨a, len, cap, rfl⟩ := hv
  obtain ⟨fuel, hf⟩ := h
  rcases Go.Deep.open_slice ht hf with ⟨hcs, _⟩ | ⟨x, l, c, m, n, D, Pl, hcs, _, hl, hm, hmm, _, hi⟩
  · simp [Value.cells] at hcs
    obtain ⟨rfl, rfl, rfl⟩ := hcs
    exact ⟨[], ⟨none, 0, rfl, Nat.le_refl _, Nat.zero_le _, fun h => absurd rfl h⟩, by simp⟩
  · simp [Value.cells] at hcs
    obtain ⟨rfl, rfl, rfl⟩ := hcs
    have hlm : len ≤ m := by rw [hmm]; split <;> omega
    have each : ∀ i, i < len → ∃ q : Hd, W.cell? (x.add (i * 2)) = some (.int .i64 q.n) ∧ W.cell? (x.add (i * 2 + 1)) = some (.int .i64 q.u) ∧ (Lit.int .i64 q.n).wf = true ∧ (Lit.int .i64 q.u).wf = true := by
      intro i hil
      obtain ⟨cs', h1, h2⟩ := hi i (by omega)
      rw [hC] at h1
      obtain ⟨_, hlen, hcell⟩ := World.cells?_some h1
      obtain ⟨xs, k, hk, hxy, _, hxl, hg⟩ := DataW.trod_struct he h2
      match xs, hxl, cs', hlen with
      | [y0, y1], _, [v0, v1], _ =>
        have g0 := hg 0 f0 rfl
        have g1 := hg 1 f1 rfl
        simp [o0, c0, o1, c1] at g0 g1
        have e0 := hcell 0 (by omega)
        have e1 := hcell 1 (by omega)
        rw [Go.Deep.add_add] at e0 e1
        obtain ⟨z0, u0, _, t0⟩ := DataW.trod_int k0 g0
        simp only [List.cons.injEq, and_true] at u0
        subst u0
        obtain ⟨z1, u1, _, t1⟩ := DataW.trod_int k1 g1
        simp only [List.cons.injEq, and_true] at u1
        subst u1
        exact ⟨⟨z0, z1⟩, by simpa using e0, by simpa using e1, t0, t1⟩
    obtain ⟨q, hq⟩ := Go.Deep.choose_lt each
    have hlen : ((List.range len).map q).length = len := by simp
    have hfl := hdF_len ((List.range len).map q)
    refine ⟨(List.range len).map q, ⟨some x, cap, by rw [hlen], by omega, hm, fun hne => ?_⟩, fun r hr => ?_⟩
    · have hpos : 0 < len := by
        rcases Nat.eq_zero_or_pos len with h | h
        · subst h; simp [hdF, flatZ] at hne
        · exact h
      obtain ⟨b, off, rfl, hlt⟩ := cell_add (hq 0 hpos).1
      refine ⟨b, off, rfl, hlt, fun i hi => ?_⟩
      rw [hfl, hlen] at hi
      have hj : i / 2 < len := by omega
      obtain ⟨g0, g1, _, _⟩ := hq (i / 2) hj
      rw [addr_add] at g0 g1
      have hget := hdF_at (s := (List.range len).map q) (k := i / 2) (by rw [hlen]; exact hj)
      simp only [List.getElem_map, List.getElem_range] at hget
      obtain ⟨e0, e1⟩ := hget
      have key : W.cell? ⟨b, off + i, none⟩ = (hdF ((List.range len).map q))[i]? := by
        have hmod : i = i / 2 * 2 ∨ i = i / 2 * 2 + 1 := by omega
        rcases hmod with e | e
        · rw [e, e0]; exact g0
        · rw [e, e1]; exact g1
      rw [key, List.getElem?_eq_getElem]
    · obtain ⟨i, hi, rfl⟩ := List.mem_map.1 hr
      have := hq i (List.mem_range.1 hi)
      exact this.2.2
end Go.Proofs.Ytlendmiolhgecaa
