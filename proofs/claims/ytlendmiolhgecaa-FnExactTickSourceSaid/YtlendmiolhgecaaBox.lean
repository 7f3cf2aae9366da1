/-
  Blocks of cells: what lies in them, what a store changes, results that lie in them.
-/
import Derived.Test.YtlendmiolhgecaaProg
import Derived.Test.YtlendmiolhgecaaBase
import Derived.Test.YtlendmiolhgecaaOwn
import Derived.Laws.ResultCell
import Derived.Laws.Rows
import Derived.Laws.Tables
import Derived.Lib.SmallJoins
namespace Go.Proofs.Ytlendmiolhgecaa
open Go.RowKit Go.Lib Go.Joins
set_option linter.unusedVariables false

/-- A block of cells, of a type. -/
def Bx (w : World) (R : Nat) (cs : Array Value) (t : TypeId) : Prop := w.heap[R]? = some (.cells cs t (0, 0))
theorem Bx.at {w : World} {R : Nat} {cs : Array Value} {t : TypeId} (h : Bx w R cs t) (i : Nat) {v : Value} (hv : cs[i]? = some v) : w.cell? ⟨R, i, none⟩ = some v := by
  rw [cell_of_block h]; exact hv
theorem Bx.free {w : World} {R : Nat} {cs : Array Value} {t : TypeId} (h : Bx w R cs t) (i : Nat) : w.frozen? ⟨R, i, none⟩ = false := unfrozen_of_block h i
theorem Bx.lt {w : World} {R : Nat} {cs : Array Value} {t : TypeId} (h : Bx w R cs t) : R < w.heap.size := (Array.getElem?_eq_some_iff.1 h).1
theorem Bx.below {w w' : World} {R B : Nat} {cs : Array Value} {t : TypeId} (h : Bx w R cs t) (hb : Below B w w') (hB : R < B) : Bx w' R cs t := (hb.block R hB).trans h
theorem Bx.new (w : World) (cs : Array Value) (t : TypeId) : Bx (w.alloc (.cells cs t)) w.heap.size cs t := heap_alloc_new w _
theorem Bx.new2 (w : World) (c1 c2 : Array Value) (t1 t2 : TypeId) : Bx ((w.alloc (.cells c1 t1)).alloc (.cells c2 t2)) w.heap.size c1 t1 ∧ Bx ((w.alloc (.cells c1 t1)).alloc (.cells c2 t2)) (w.heap.size + 1) c2 t2 := ⟨heap_alloc2_old w _ _, heap_alloc2_new w _ _⟩
theorem Bx.alloc {w : World} {R : Nat} {cs : Array Value} {t : TypeId} (h : Bx w R cs t) (o : Obj) : Bx (w.alloc o) R cs t := h.below ((Below.refl _ _).alloc (Nat.le_refl _) _) h.lt
theorem Bx.grown {w w' : World} {R : Nat} {cs : Array Value} {t : TypeId} {o : Option Nat} (h : Bx w R cs t) (hg : w.grownBy w' o) (hne : some R ≠ o) : Bx w' R cs t := (hg.block R h.lt (fun e => hne e)).trans h
theorem Bx.drewN {w : World} {R n : Nat} {cs : Array Value} {t : TypeId} (h : Bx w R cs t) : Bx (w.drewN n) R cs t := h
theorem Bx.drew {w : World} {R : Nat} {cs : Array Value} {t : TypeId} (h : Bx w R cs t) : Bx w.drew R cs t := h
theorem Bx.set {w : World} {R : Nat} {cs : Array Value} {t : TypeId} (h : Bx w R cs t) (i : Nat) (v : Value) : Bx (w.setCell ⟨R, i, none⟩ v) R (cs.setIfInBounds i v) t ∧ w.grownBy (w.setCell ⟨R, i, none⟩ v) (some R) := by
  have e1 := setCell_eq_setRow w R i cs t (0, 0) v h
  refine ⟨block_setCell h v, ?_⟩
  rw [e1]
  exact ⟨rfl, rfl, rfl, by simp, fun q _ hne => setRow_other w R q _ (fun e => hne (by rw [e]))⟩
theorem Bx.store2 {w : World} {R : Nat} {a b : Value} {t : TypeId} (h : Bx w R #[a, b] t) (a' b' : Value) :
    Bx ((w.setCell ⟨R, 0, none⟩ a').setCell ⟨R, 1, none⟩ b') R #[a', b'] t ∧ w.grownBy ((w.setCell ⟨R, 0, none⟩ a').setCell ⟨R, 1, none⟩ b') (some R) := by
  obtain ⟨a1, b1⟩ := h.set 0 a'
  obtain ⟨a2, b2⟩ := a1.set 1 b'
  exact ⟨a2, grown_trans b1 b2⟩
theorem Bx.store3 {w : World} {R : Nat} {a b c : Value} {t : TypeId} (h : Bx w R #[a, b, c] t) (a' b' c' : Value) :
    Bx (((w.setCell ⟨R, 0, none⟩ a').setCell ⟨R, 1, none⟩ b').setCell ⟨R, 2, none⟩ c') R #[a', b', c'] t ∧ w.grownBy (((w.setCell ⟨R, 0, none⟩ a').setCell ⟨R, 1, none⟩ b').setCell ⟨R, 2, none⟩ c') (some R) := by
  obtain ⟨a1, b1⟩ := h.set 0 a'
  obtain ⟨a2, b2⟩ := a1.set 1 b'
  obtain ⟨a3, b3⟩ := a2.set 2 c'
  exact ⟨a3, grown_trans (grown_trans b1 b2) b3⟩
theorem Bx.store4 {w : World} {R : Nat} {a b c d : Value} {t : TypeId} (h : Bx w R #[a, b, c, d] t) (a' b' c' d' : Value) :
    Bx ((((w.setCell ⟨R, 0, none⟩ a').setCell ⟨R, 1, none⟩ b').setCell ⟨R, 2, none⟩ c').setCell ⟨R, 3, none⟩ d') R #[a', b', c', d'] t ∧ w.grownBy ((((w.setCell ⟨R, 0, none⟩ a').setCell ⟨R, 1, none⟩ b').setCell ⟨R, 2, none⟩ c').setCell ⟨R, 3, none⟩ d') (some R) := by
  obtain ⟨a1, b1⟩ := h.set 0 a'
  obtain ⟨a2, b2⟩ := a1.set 1 b'
  obtain ⟨a3, b3⟩ := a2.set 2 c'
  obtain ⟨a4, b4⟩ := a3.set 3 d'
  exact ⟨a4, grown_trans (grown_trans (grown_trans b1 b2) b3) b4⟩
theorem Bx.store5 {w : World} {R : Nat} {a b c d f : Value} {t : TypeId} (h : Bx w R #[a, b, c, d, f] t) (a' b' c' d' f' : Value) :
    Bx (((((w.setCell ⟨R, 0, none⟩ a').setCell ⟨R, 1, none⟩ b').setCell ⟨R, 2, none⟩ c').setCell ⟨R, 3, none⟩ d').setCell ⟨R, 4, none⟩ f') R #[a', b', c', d', f'] t ∧ w.grownBy (((((w.setCell ⟨R, 0, none⟩ a').setCell ⟨R, 1, none⟩ b').setCell ⟨R, 2, none⟩ c').setCell ⟨R, 3, none⟩ d').setCell ⟨R, 4, none⟩ f') (some R) := by
  obtain ⟨a1, b1⟩ := h.set 0 a'
  obtain ⟨a2, b2⟩ := a1.set 1 b'
  obtain ⟨a3, b3⟩ := a2.set 2 c'
  obtain ⟨a4, b4⟩ := a3.set 3 d'
  obtain ⟨a5, b5⟩ := a4.set 4 f'
  exact ⟨a5, grown_trans (grown_trans (grown_trans (grown_trans b1 b2) b3) b4) b5⟩
/-- A type whose values are loaded from a block of so many cells. -/
def IsBox (t : TypeId) (n : Nat) : Prop := ∀ (w : World) (g : Nat) (cs : Array Value), cs.size = n → Bx w g cs t → (loadVar t ⟨g, 0, none⟩).run Try.prog w = .ok (.agg cs) w
theorem load_bx {w : World} {g n : Nat} {cs : Array Value} {t : TypeId} (ht : IsBox t n) (hn : cs.size = n) (h : Bx w g cs t) : (loadVar t ⟨g, 0, none⟩).run Try.prog w = .ok (.agg cs) w := ht w g cs hn h
theorem results_bx {fn : Func} {p : Tmp} {t : TypeId} {n : Nat} (h : fn.results = #[.cell p t]) (ht : IsBox t n) (tmps : Array Value) (w : World) (g : Nat) {cs : Array Value} (hn : cs.size = n) (hp : tmps.getD p undef = .pointer (some ⟨g, 0, none⟩)) (hg : Bx w g cs t) :
    (results fn tmps).run Try.prog w = .ok (.agg cs) w := by
  have hp' : tmps[p]?.getD undef = .pointer (some ⟨g, 0, none⟩) := by simpa using hp
  unfold results
  rw [h]
  simp [asAddr, hp', load_bx ht hn hg]
theorem results_bx1 {fn : Func} {p u : Tmp} {t : TypeId} {n : Nat} (h : fn.results = #[.cell p t, .tmp u]) (ht : IsBox t n) (tmps : Array Value) (w : World) (g : Nat) {cs : Array Value} (hn : cs.size = n) (hp : tmps.getD p undef = .pointer (some ⟨g, 0, none⟩)) {x : Value} (hu : tmps.getD u undef = x) (hg : Bx w g cs t) :
    (results fn tmps).run Try.prog w = .ok (.tuple #[.agg cs, x]) w := by
  have hp' : tmps[p]?.getD undef = .pointer (some ⟨g, 0, none⟩) := by simpa using hp
  have hu' : tmps[u]?.getD undef = x := by simpa using hu
  unfold results
  rw [h]
  simp [asAddr, hp', hu', Result.andThen, load_bx ht hn hg]
theorem results_bx2 {fn : Func} {p u q : Tmp} {t : TypeId} {n : Nat} (h : fn.results = #[.cell p t, .tmp u, .tmp q]) (ht : IsBox t n) (tmps : Array Value) (w : World) (g : Nat) {cs : Array Value} (hn : cs.size = n) (hp : tmps.getD p undef = .pointer (some ⟨g, 0, none⟩)) {x y : Value} (hu : tmps.getD u undef = x) (hq : tmps.getD q undef = y) (hg : Bx w g cs t) :
    (results fn tmps).run Try.prog w = .ok (.tuple #[.agg cs, x, y]) w := by
  have hp' : tmps[p]?.getD undef = .pointer (some ⟨g, 0, none⟩) := by simpa using hp
  have hu' : tmps[u]?.getD undef = x := by simpa using hu
  have hq' : tmps[q]?.getD undef = y := by simpa using hq
  unfold results
  rw [h]
  simp [asAddr, hp', hu', hq', Result.andThen, load_bx ht hn hg]
theorem results_bxx {fn : Func} {p q : Tmp} {t s : TypeId} {n m : Nat} (h : fn.results = #[.cell p t, .cell q s]) (ht : IsBox t n) (hs : IsBox s m) (tmps : Array Value) (w : World) (g k : Nat) {cs ds : Array Value} (hn : cs.size = n) (hm : ds.size = m) (hp : tmps.getD p undef = .pointer (some ⟨g, 0, none⟩)) (hq : tmps.getD q undef = .pointer (some ⟨k, 0, none⟩)) (hg : Bx w g cs t) (hk : Bx w k ds s) :
    (results fn tmps).run Try.prog w = .ok (.tuple #[.agg cs, .agg ds]) w := by
  have hp' : tmps[p]?.getD undef = .pointer (some ⟨g, 0, none⟩) := by simpa using hp
  have hq' : tmps[q]?.getD undef = .pointer (some ⟨k, 0, none⟩) := by simpa using hq
  unfold results
  rw [h]
  simp [asAddr, hp', hq', Result.andThen, load_bx ht hn hg, load_bx hs hm hk]
theorem results_bxx1 {fn : Func} {p q u : Tmp} {t s : TypeId} {n m : Nat} (h : fn.results = #[.cell p t, .cell q s, .tmp u]) (ht : IsBox t n) (hs : IsBox s m) (tmps : Array Value) (w : World) (g k : Nat) {cs ds : Array Value} (hn : cs.size = n) (hm : ds.size = m) (hp : tmps.getD p undef = .pointer (some ⟨g, 0, none⟩)) (hq : tmps.getD q undef = .pointer (some ⟨k, 0, none⟩)) {x : Value} (hu : tmps.getD u undef = x) (hg : Bx w g cs t) (hk : Bx w k ds s) :
    (results fn tmps).run Try.prog w = .ok (.tuple #[.agg cs, .agg ds, x]) w := by
  have hp' : tmps[p]?.getD undef = .pointer (some ⟨g, 0, none⟩) := by simpa using hp
  have hq' : tmps[q]?.getD undef = .pointer (some ⟨k, 0, none⟩) := by simpa using hq
  have hu' : tmps[u]?.getD undef = x := by simpa using hu
  unfold results
  rw [h]
  simp [asAddr, hp', hq', hu', Result.andThen, load_bx ht hn hg, load_bx hs hm hk]
/-- The blocks that a call lays for its parameters and results. -/
theorem entry1 (w : World) (c1 : Array Value) (t1 : TypeId) : ∃ W R1, W = w.alloc (.cells c1 t1) ∧ R1 = w.heap.size ∧ Bx W R1 c1 t1 ∧ Below w.heap.size w W :=
  ⟨_, _, rfl, rfl, Bx.new _ _ _, (Below.refl w.heap.size w).alloc (Nat.le_refl _) _⟩
theorem entry2 (w : World) (c1 c2 : Array Value) (t1 t2 : TypeId) : ∃ W R1 R2, W = (w.alloc (.cells c1 t1)).alloc (.cells c2 t2) ∧ R1 = w.heap.size ∧ R2 = w.heap.size + 1 ∧ Bx W R1 c1 t1 ∧ Bx W R2 c2 t2 ∧ Below w.heap.size w W := by
  obtain ⟨h1, h2⟩ := Bx.new2 w c1 c2 t1 t2
  exact ⟨_, _, _, rfl, rfl, rfl, h1, h2, ((Below.refl w.heap.size w).alloc (Nat.le_refl _) _).alloc (by simp) _⟩
theorem entry3 (w : World) (c1 c2 c3 : Array Value) (t1 t2 t3 : TypeId) : ∃ W R1 R2 R3, W = ((w.alloc (.cells c1 t1)).alloc (.cells c2 t2)).alloc (.cells c3 t3) ∧ R1 = w.heap.size ∧ R2 = w.heap.size + 1 ∧ R3 = w.heap.size + 1 + 1 ∧ Bx W R1 c1 t1 ∧ Bx W R2 c2 t2 ∧ Bx W R3 c3 t3 ∧ Below w.heap.size w W := by
  obtain ⟨h1, h2⟩ := Bx.new2 w c1 c2 t1 t2
  have h3 := Bx.new ((w.alloc (.cells c1 t1)).alloc (.cells c2 t2)) c3 t3
  rw [World.size_alloc, World.size_alloc] at h3
  exact ⟨_, _, _, _, rfl, rfl, rfl, rfl, h1.alloc _, h2.alloc _, h3, (((Below.refl w.heap.size w).alloc (Nat.le_refl _) _).alloc (by simp) _).alloc (by simp; omega) _⟩
theorem entry4 (w : World) (c1 c2 c3 c4 : Array Value) (t1 t2 t3 t4 : TypeId) : ∃ W R1 R2 R3 R4, W = (((w.alloc (.cells c1 t1)).alloc (.cells c2 t2)).alloc (.cells c3 t3)).alloc (.cells c4 t4) ∧ R1 = w.heap.size ∧ R2 = w.heap.size + 1 ∧ R3 = w.heap.size + 1 + 1 ∧ R4 = w.heap.size + 1 + 1 + 1 ∧ Bx W R1 c1 t1 ∧ Bx W R2 c2 t2 ∧ Bx W R3 c3 t3 ∧ Bx W R4 c4 t4 ∧ Below w.heap.size w W := by
  obtain ⟨V, R1, R2, R3, rfl, rfl, rfl, rfl, h1, h2, h3, hB⟩ := entry3 w c1 c2 c3 t1 t2 t3
  have h4 := Bx.new (((w.alloc (.cells c1 t1)).alloc (.cells c2 t2)).alloc (.cells c3 t3)) c4 t4
  rw [World.size_alloc, World.size_alloc, World.size_alloc] at h4
  exact ⟨_, _, _, _, _, rfl, rfl, rfl, rfl, rfl, h1.alloc _, h2.alloc _, h3.alloc _, h4, hB.alloc (by simp; omega) _⟩
/-- One element of a row. -/
theorem row_at {w : World} {a : Option Addr} {n cap k : Nat} {xs : List Value} (h : Row w (.slice a n cap) n xs) (hk : k < xs.length) : ∃ b off, a = some ⟨b, off, none⟩ ∧ b < w.heap.size ∧ w.cell? ⟨b, off + k, none⟩ = some xs[k] := by
  obtain ⟨a', cap', e, _, _, h3⟩ := h
  injection e with e1 _ _
  subst e1
  obtain ⟨b, off, e2, hb, hc⟩ := h3 (fun e => by rw [e] at hk; exact absurd hk (Nat.not_lt_zero _))
  exact ⟨b, off, e2, hb, hc k hk⟩
theorem row_string {w : World} {a : Option Addr} {n cap k : Nat} {q : List ByteArray} (h : Row w (.slice a n cap) n (q.map Value.string)) (hk : k < q.length) : ∃ b off, a = some ⟨b, off, none⟩ ∧ b < w.heap.size ∧ w.cell? ⟨b, off + k, none⟩ = some (.string q[k]) := by
  obtain ⟨b, off, e, hb, hc⟩ := row_at h (k := k) (by rw [List.length_map]; exact hk)
  rw [List.getElem_map] at hc
  exact ⟨b, off, e, hb, hc⟩
end Go.Proofs.Ytlendmiolhgecaa
