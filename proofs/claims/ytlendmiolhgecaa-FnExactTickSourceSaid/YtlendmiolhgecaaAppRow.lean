/-
  'append' onto a row of the call's own, of whatever row of single cells: at a list, and at a step of a region that draws its order.
-/
import Derived.Test.YtlendmiolhgecaaBase
import Derived.Test.YtlendmiolhgecaaOwn
import Derived.Test.YtlendmiolhgecaaFill
import Derived.Maps.AppendAt
import Derived.Laws.AppendOwnNone
import Derived.Deep.RegionHeld3
import Derived.Laws.Slices
import Derived.Laws.Rows
namespace Go.Proofs.Ytlendmiolhgecaa
open Go.RowKit
set_option linter.unusedVariables false

theorem row_news {w : World} {ad : Addr} {m c : Nat} {ys : List Value} (h : Row w (.slice (some ad) m c) m ys) : ∀ j u, ys[j]? = some u → w.cell? (ad.add j) = some u := fun j u hu => by
  obtain ⟨a, cap, e, _, _, h3⟩ := h
  injection e with e1 _ _
  subst e1
  have hne : ys ≠ [] := fun e => by rw [e] at hu; simp at hu
  obtain ⟨b, off, e2, _, hc⟩ := h3 hne
  injection e2 with e2
  subst e2
  obtain ⟨hj, rfl⟩ := List.getElem?_eq_some_iff.1 hu
  rw [addr_add]
  exact hc j hj

theorem step_append_row {P : Program} {w : World} {ops : Array Oper} {o : Oper} {a : Act} {K : Act → World → Prop} {Q : Exit → Act → World → Prop} {E : Prop} (hgd : o.guard = none) (s x : Operand) (t : TypeId)
    (ho : o.op = .call { callee := .builtin .append, args := #[s, x], argTypes := #[t, t] })
    (base : Nat) (e : TypeId) (i : TypeInfo) (z : Value) (bytes : Nat) (ht : P.underlying t = some (.slice e)) (hi : P.info? e = some i) (hz : i.zero = some z)
    (hsize : i.size = 1) (hby : i.bytes = bytes) (hzs : z.cells.size = 1)
    (v : Value) (n : Nat) (xs : List Value) (hs : a.eval s = v) (hown : w.ownsRow base e 1 v n xs)
    (ad : Addr) (m c : Nat) (ys : List Value) (hx : a.eval x = .slice (some ad) m c) (hrow : Row w (.slice (some ad) m c) m ys) (hl : ys.length = m) (h1 : ∀ u ∈ ys, u.oneCell' = true)
    (h63 : n + m ≤ maxLen) (hbytes : (n + m) * bytes ≤ 140737488355328) (hbase : base ≤ w.heap.size)
    (h : ∀ v' w', w'.ownsRow base e 1 v' (n + m) (xs ++ ys) → w.grownBy w' v.ownBlock → (v'.ownBlock = v.ownBlock ∨ v'.ownBlock = some w.heap.size) → K (a.put o.dst v') w') :
    if Region.wanted o (yielded ops a.tmps) = true then Oper.wp P o a w K Q else E := by
  have hw : Region.wanted o (yielded ops a.tmps) = true := by simp [Region.wanted, hgd]
  rw [if_pos hw]
  obtain ⟨v', w', hr, h2, h3, _, h5⟩ := run_append_own_at (P := P) w base t o.type e i z 1 bytes ht hi hz hsize hby hzs (by omega) v n xs hown ad m c ys (by rw [hl, Nat.mul_one]) (row_news hrow) h1 h63 hbytes hbase
  unfold Oper.wp execOp
  simp only [ho, resolve, invoke, builtin, Sem.run_bind, Sem.run_pure, Result.andThen_ok, List.map_toArray, List.map_cons, List.map_nil, hs, hx, hr]
  exact h v' w' h2 h3 h5

/-- An empty literal is a row of the call's own. -/
theorem own_lit {w : World} {g base : Nat} {t : TypeId} (h : w.heap[g]? = some (.cells #[] t (0, 0))) (hb : base ≤ g) : w.ownsRow base t 1 (.slice (some ⟨g, 0, none⟩) 0 0) 0 [] :=
  ⟨by simp, .inr ⟨g, 0, #[], rfl, hb, h, Nat.le_refl _, Nat.zero_le _, by simp, by simp⟩⟩
/-- A literal of one element, read. -/
theorem row_lit {w : World} {g : Nat} {t : TypeId} {x : Value} (h : w.heap[g]? = some (.cells #[x] t (0, 0))) : Row w (.slice (some ⟨g, 0, none⟩) 1 1) 1 [x] := by
  refine ⟨_, 1, rfl, Nat.le_refl _, by unfold maxLen; omega, fun _ => ⟨g, 0, rfl, (Array.getElem?_eq_some_iff.1 h).1, fun i hi => ?_⟩⟩
  have : i = 0 := by simp at hi; omega
  subst this
  simp [World.cell?, h]
theorem heap_grown {w w' : World} {g : Nat} {row : Option Nat} {o : Obj} (hg : w.grownBy w' row) (h : w.heap[g]? = some o) (hr : some g ≠ row) : w'.heap[g]? = some o :=
  (hg.block g (Array.getElem?_eq_some_iff.1 h).1 hr).trans h

/-- The first k of a row. -/
theorem row_head {w : World} {a : Option Addr} {n cap k : Nat} {xs : List Value} (h : Row w (.slice a n cap) n xs) (hk : k ≤ n) : Row w (sliced a 0 k cap 1) k (xs.take k) := by
  obtain ⟨a', cap', e, h1, h2, h3⟩ := h
  injection e with e1 _ e2
  subst e1; subst e2
  by_cases hx : xs.take k = []
  · exact ⟨_, _, by unfold sliced; rfl, by omega, by omega, fun h => absurd hx h⟩
  · obtain ⟨b, off, rfl, hb, hc⟩ := h3 (fun e => hx (by rw [e]; simp))
    refine ⟨some ⟨b, off, none⟩, cap, ?_, by omega, h2, fun _ => ⟨b, off, rfl, hb, fun i hi => ?_⟩⟩
    · unfold sliced
      split <;> simp [Addr.add]
    · rw [List.getElem_take]
      exact hc i (by simp at hi; omega)
theorem row_head' {w : World} {b off n cap k : Nat} {xs : List Value} (h : Row w (.slice (some ⟨b, off, none⟩) n cap) n xs) (hk : k ≤ n) : Row w (.slice (some ⟨b, off, none⟩) k cap) k (xs.take k) := by
  obtain ⟨a', cap', e, h1, h2, h3⟩ := h
  injection e with e1 _ e2
  subst e1; subst e2
  refine ⟨_, cap, rfl, by omega, h2, fun hx => ?_⟩
  obtain ⟨b', off', e, hb, hc⟩ := h3 (fun e => hx (by rw [e]; simp))
  injection e with e
  injection e with e1 e2
  subst e1; subst e2
  refine ⟨b, off, rfl, hb, fun i hi => ?_⟩
  rw [List.getElem_take]
  exact hc i (by simp at hi; omega)
theorem row_tail' {w : World} {b off n cap k : Nat} {xs : List Value} (h : Row w (.slice (some ⟨b, off, none⟩) n cap) n xs) (hk : k ≤ n) : Row w (.slice (some ⟨b, off + k, none⟩) (n - k) (cap - k)) (n - k) (xs.drop k) := by
  obtain ⟨a', cap', e, h1, h2, h3⟩ := h
  injection e with e1 _ e2
  subst e1; subst e2
  refine ⟨_, cap - k, rfl, by omega, by omega, fun hx => ?_⟩
  obtain ⟨b', off', e, hb, hc⟩ := h3 (fun e => hx (by rw [e]; simp))
  injection e with e
  injection e with e1 e2
  subst e1; subst e2
  refine ⟨b, off + k, rfl, hb, fun i hi => ?_⟩
  rw [List.getElem_drop, Nat.add_assoc]
  exact hc (k + i) (by simp at hi; omega)
theorem heap_second (w : World) (A B : Obj) : ((w.alloc A).alloc B).heap[w.heap.size + 1]? = some B := heap_alloc2_new w A B
theorem heap_first (w : World) (A B : Obj) : ((w.alloc A).alloc B).heap[w.heap.size]? = some A := heap_alloc2_old w A B
theorem keep_cell {W0 W : World} {p : Addr} {x : Value} (hx : W0.cell? p = some x) (hp : p.block < W0.heap.size) (h : Below W0.heap.size W0 W) : W.cell? p = some x ∧ Below W0.heap.size W0 W := ⟨(h.cell hp).trans hx, h⟩
theorem below_grown {W0 W W1 : World} {v : Value} (h : Below W0.heap.size W0 W) (hg : W.grownBy W1 v.ownBlock) (ho : ∀ k, v.ownBlock = some k → W0.heap.size ≤ k) : Below W0.heap.size W0 W1 := h.grown hg h.size ho
theorem below_alloc' {W0 W : World} {o : Obj} (h : Below W0.heap.size W0 W) : Below W0.heap.size W0 (W.alloc o) := h.alloc h.size o
theorem one_ints (xs : List Int) : ∀ u ∈ xs.map (Value.int .i64), u.oneCell' = true := by
  intro u hu
  obtain ⟨x, _, rfl⟩ := List.mem_map.1 hu
  rfl
theorem below_size' {W0 W : World} (h : Below W0.heap.size W0 W) : W0.heap.size ≤ W.heap.size := h.size
theorem lit_block {g B n c q : Nat} (hB : B ≤ g) (h : (Value.slice (some ⟨g, 0, none⟩) n c).ownBlock = some q) : B ≤ q := by
  have : g = q := Option.some.inj h
  omega
theorem row_none (w : World) (a : Option Addr) (c : Nat) (hc : c ≤ maxLen) : Row w (.slice a 0 c) 0 [] := ⟨a, c, rfl, Nat.zero_le _, hc, fun h => absurd rfl h⟩
end Go.Proofs.Ytlendmiolhgecaa
