/-
  A slice of structs of two ints that came in, as a row.
-/
import Derived.Test.YtneimcacpbepfaaDoorOwnZ
import Derived.Deep.SlicePairs
import Derived.ChangeArms
namespace Go.Proofs.YtneimcacpbepfaaDoor
open Go.RowKit
set_option linter.unusedVariables false

theorem row_pairs {H : Type} {enc : TypeId × Value → H} {P : Program} {W : World} {t e : TypeId} {k : IntKind} {f0 f1 : Field} {v : Value} {d : DataW H} {ps : List MemPlace}
    (ht : P.underlying t = some (.slice e)) (he : P.underlying e = some (.struct #[f0, f1])) (hC : P.cellsOf e = 2) (o0 : f0.offset = 0) (o1 : f1.offset = 1)
    (c0 : P.cellsOf f0.type = 1) (c1 : P.cellsOf f1.type = 1) (k0 : P.underlying f0.type = some (.int k)) (k1 : P.underlying f1.type = some (.int k)) (hv : ∃ a len cap, v = .slice a len cap)
    (h : DataW.Trod enc P W 0 (fun _ => true) true t v d ps) :
    ∃ s : List (Int × Int), Row W v s.length (flatZ (fun r => [.int k r.1, .int k r.2]) s) ∧ ∀ r ∈ s, (Lit.int k r.1).wf = true ∧ (Lit.int k r.2).wf = true := by
  obtain ⟨a, len, cap, rfl⟩ := hv
  obtain ⟨fuel, hf⟩ := h
  rcases Go.Deep.open_slice_pairs ht he hC o0 o1 c0 c1 hf with ⟨hcs, _⟩ | ⟨x, l, c, m, n, V0, V1, D0, D1, P0, P1, hcs, _, hl, hm, hmm, _, hi⟩
  · simp [Value.cells] at hcs
    obtain ⟨rfl, rfl, rfl⟩ := hcs
    exact ⟨[], ⟨none, 0, rfl, Nat.le_refl _, Nat.zero_le _, fun h => absurd rfl h⟩, by simp⟩
  · simp [Value.cells] at hcs
    obtain ⟨rfl, rfl, rfl⟩ := hcs
    have hlm : len ≤ m := by rw [hmm]; split <;> omega
    have each : ∀ i, i < len → ∃ q : Int × Int, W.cell? (x.add (i * 2)) = some (.int k q.1) ∧ W.cell? (x.add (i * 2 + 1)) = some (.int k q.2) ∧ (Lit.int k q.1).wf = true ∧ (Lit.int k q.2).wf = true := by
      intro i hil
      obtain ⟨h0, h1, t0, t1⟩ := hi i (by omega)
      obtain ⟨z0, e0, _, g0⟩ := DataW.trod_int k0 t0
      obtain ⟨z1, e1, _, g1⟩ := DataW.trod_int k1 t1
      simp only [List.cons.injEq, and_true] at e0 e1
      rw [e0] at h0
      rw [e1] at h1
      exact ⟨(z0, z1), h0, h1, g0, g1⟩
    obtain ⟨q, hq⟩ := Go.Deep.choose_lt each
    have hlen : ((List.range len).map q).length = len := by simp
    have hF : ∀ r : Int × Int, ([.int k r.1, .int k r.2] : List Value).length = 2 := fun _ => rfl
    have hfl := flat_len (f := fun r : Int × Int => [.int k r.1, .int k r.2]) hF ((List.range len).map q)
    refine ⟨(List.range len).map q, ⟨some x, cap, by rw [hlen], by omega, hm, fun hne => ?_⟩, fun r hr => ?_⟩
    · have hpos : 0 < len := by
        rcases Nat.eq_zero_or_pos len with h | h
        · subst h; simp [flatZ] at hne
        · exact h
      obtain ⟨b, off, rfl, hlt⟩ := cell_add (hq 0 hpos).1
      refine ⟨b, off, rfl, hlt, fun i hi => ?_⟩
      rw [hfl, hlen] at hi
      have hj : i / 2 < len := by omega
      obtain ⟨g0, g1, _, _⟩ := hq (i / 2) hj
      rw [addr_add] at g0 g1
      have hget : ∀ j, j < 2 → ((flatZ (fun r : Int × Int => [.int k r.1, .int k r.2]) ((List.range len).map q)))[(i / 2) * 2 + j]? = ([.int k (q (i / 2)).1, .int k (q (i / 2)).2] : List Value)[j]? := fun j hj2 => by
        have := flat_get hF ((List.range len).map q) (i / 2) j (by rw [hlen]; exact hj) hj2
        simpa using this
      have key : W.cell? ⟨b, off + i, none⟩ = (flatZ (fun r : Int × Int => [.int k r.1, .int k r.2]) ((List.range len).map q))[i]? := by
        rcases Nat.mod_two_eq_zero_or_one i with hz | hz
        · have e : i = i / 2 * 2 + 0 := by omega
          rw [e, hget 0 (by omega)]
          rw [Nat.add_zero, g0]
          rfl
        · have e : i = i / 2 * 2 + 1 := by omega
          rw [e, hget 1 (by omega), g1]
          rfl
      rw [key, List.getElem?_eq_getElem]
    · obtain ⟨i, hi, rfl⟩ := List.mem_map.1 hr
      have := hq i (List.mem_range.1 hi)
      exact ⟨this.2.2.1, this.2.2.2⟩
end Go.Proofs.YtneimcacpbepfaaDoor
