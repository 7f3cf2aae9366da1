/-
  Rows of elements of several cells, as programs and laws use them: appends at a step of a region that draws and at a list, stores into a block, marks.
-/
import Derived.Test.YtlendmiolhgecaaOwnZ
import Derived.Test.YtlendmiolhgecaaAppRow
import Derived.Laws.Rows
import Derived.Maps.AppendAt
import Derived.Laws.AppendOwnNone
import Derived.Deep.RegionHeld3
import Derived.Lib.SmallJoins
namespace Go.Proofs.Ytlendmiolhgecaa
open Go.RowKit Go.Lib Go.Joins
set_option linter.unusedVariables false

theorem blk_set {w : World} {g i : Nat} {cs : Array Value} {t : TypeId} (h : w.heap[g]? = some (.cells cs t (0, 0))) (v : Value) : (w.setCell ⟨g, i, none⟩ v).heap[g]? = some (.cells (cs.setIfInBounds i v) t (0, 0)) ∧ w.grownBy (w.setCell ⟨g, i, none⟩ v) (some g) := by
  have e1 := setCell_eq_setRow w g i cs t (0, 0) v h
  refine ⟨block_setCell h v, ?_⟩
  rw [e1]
  exact ⟨rfl, rfl, rfl, by simp, fun q _ hne => setRow_other w g q _ (fun e => hne (by rw [e]))⟩
/-- An append of whatever row of elements of several cells at a step of a region that draws. -/
theorem step_append_rowz {P : Program} {w : World} {ops : Array Oper} {o : Oper} {a : Act} {K : Act → World → Prop} {Q : Exit → Act → World → Prop} {E : Prop} (hgd : o.guard = none) (s x : Operand) (t : TypeId)
    (ho : o.op = .call { callee := .builtin .append, args := #[s, x], argTypes := #[t, t] })
    (base : Nat) (e : TypeId) (i : TypeInfo) (z : Value) (sz bytes : Nat) (ht : P.underlying t = some (.slice e)) (hi : P.info? e = some i) (hz : i.zero = some z)
    (hsize : i.size = sz) (hby : i.bytes = bytes) (hzs : z.cells.size = sz) (hsz : 0 < sz)
    (v : Value) (n : Nat) (xs : List Value) (hs : a.eval s = v) (hown : w.ownsRow base e sz v n xs)
    (ad : Addr) (m c : Nat) (ys : List Value) (hx : a.eval x = .slice (some ad) m c) (hrow : Row w (.slice (some ad) m c) m ys) (hl : ys.length = m * sz) (h1 : ∀ u ∈ ys, u.oneCell' = true)
    (h63 : n + m ≤ maxLen) (hbytes : (n + m) * bytes ≤ 140737488355328) (hbase : base ≤ w.heap.size)
    (h : ∀ v' w', w'.ownsRow base e sz v' (n + m) (xs ++ ys) → w.grownBy w' v.ownBlock → (v'.ownBlock = v.ownBlock ∨ v'.ownBlock = some w.heap.size) → K (a.put o.dst v') w') :
    if Region.wanted o (yielded ops a.tmps) = true then Oper.wp P o a w K Q else E := by
  have hw : Region.wanted o (yielded ops a.tmps) = true := by simp [Region.wanted, hgd]
  rw [if_pos hw]
  obtain ⟨v', w', hr, h2, h3, _, h5⟩ := run_append_own_at (P := P) w base t o.type e i z sz bytes ht hi hz hsize hby hzs hsz v n xs hown ad m c ys hl (row_news hrow) h1 h63 hbytes hbase
  unfold Oper.wp execOp
  simp only [ho, resolve, invoke, builtin, Sem.run_bind, Sem.run_pure, Result.andThen_ok, List.map_toArray, List.map_cons, List.map_nil, hs, hx, hr]
  exact h v' w' h2 h3 h5
theorem gr_self (a : World) (row : Option Nat) : a.grownBy a row := ⟨rfl, rfl, rfl, Nat.le_refl _, fun _ _ _ => rfl⟩
theorem gr_drew {a b : World} {row : Option Nat} (h : a.grownBy b row) : a.grownBy b.drew row := ⟨h.os, h.tape, h.output, h.size, h.block⟩
theorem gr_alloc {a b : World} {row : Option Nat} {o : Obj} (h : a.grownBy b row) : a.grownBy (b.alloc o) row := grown_trans h (World.grownBy_alloc _ _ _)
theorem b_a {w wr : World} (h : Below w.heap.size w wr) (o : Obj) : Below w.heap.size w (wr.alloc o) := h.alloc h.size o
theorem b_d {w wr : World} (h : Below w.heap.size w wr) (n : Nat) : Below w.heap.size w (wr.drewN n) := h.trans ((bdrew wr n).mono h.size)
theorem gr_below {w w' : World} {row : Option Nat} (h : Below w.heap.size w w') : w.grownBy w' row := ⟨h.os, h.tape, h.output, h.size, fun k hk _ => h.block k hk⟩
/-- A slice as a program makes it: nil, or in memory. -/
def Fit (v : Value) (n : Nat) : Prop := (v = .slice none 0 0 ∧ n = 0) ∨ ∃ ad c, v = .slice (some ad) n c
theorem fit_own {w : World} {B n z : Nat} {e : TypeId} {v : Value} {xs : List Value} (h : w.ownsRow B e z v n xs) : Fit v n := by
  obtain ⟨hl, ⟨rfl, h0⟩ | ⟨g, c, cur, rfl, _⟩⟩ := h
  · exact .inl ⟨rfl, h0⟩
  · exact .inr ⟨_, _, rfl⟩
theorem fit_some (ad : Addr) (n c : Nat) : Fit (.slice (some ad) n c) n := .inr ⟨_, _, rfl⟩
/-- An append of such a slice to a row of the call's own. -/
theorem wpList_append_fit {P : Program} (w : World) {ops : Array Oper} {rest : List Oper} {o : Oper} {a : Act} {Q : Exit → Act → World → Prop} (hgd : o.guard = none) (s x : Operand) (t : TypeId)
    (ho : o.op = .call { callee := .builtin .append, args := #[s, x], argTypes := #[t, t] })
    (base : Nat) (e : TypeId) (i : TypeInfo) (z : Value) (size bytes : Nat) (ht : P.underlying t = some (.slice e)) (hi : P.info? e = some i) (hz : i.zero = some z)
    (hsize : i.size = size) (hby : i.bytes = bytes) (hzs : z.cells.size = size) (hsz : 0 < size)
    (v : Value) (n : Nat) (xs : List Value) (hs : a.eval s = v) (hown : w.ownsRow base e size v n xs)
    (vx : Value) (m : Nat) (ys : List Value) (hx : a.eval x = vx) (hfit : Fit vx m) (hl : ys.length = m * size) (hrow : Row w vx m ys) (h1 : ∀ u ∈ ys, u.oneCell' = true)
    (h63 : n + m ≤ maxLen) (hbytes : (n + m) * bytes ≤ 140737488355328) (hbase : base ≤ w.heap.size)
    (h : ∀ v' w', w'.ownsRow base e size v' (n + m) (xs ++ ys) → w.grownBy w' v.ownBlock → wpList P ops Q rest (a.put o.dst v') w') :
    wpList P ops Q (o :: rest) a w := by
  rcases hfit with ⟨rfl, rfl⟩ | ⟨ad, c, rfl⟩
  · have hy : ys = [] := List.eq_nil_of_length_eq_zero (by omega)
    subst hy
    refine wpList_append_own_none hgd s x t ho base e i size ht hi v n xs hs hown hx ?_
    exact h v w (by rw [List.append_nil]; exact hown) (gr_self w _)
  · exact wpList_append_own_at w hgd s x t ho base e i z size bytes ht hi hz hsize hby hzs hsz v n xs hs hown ad m c ys hx hl (row_news hrow) h1 h63 hbytes hbase (fun v' w' h2 h3 _ _ => h v' w' h2 h3)
/-- n marks from k on. -/
def marksR (k n : Nat) : List Value := (List.range n).map fun i => .int .i64 ((k + i : Nat) : Int)
theorem marksR_length (k n : Nat) : (marksR k n).length = n := by simp [marksR]
theorem marksR_succ (k j : Nat) : marksR k (j + 1) = marksR k j ++ [.int .i64 ((k + j : Nat) : Int)] := by simp [marksR, List.range_succ]
theorem marksR_at (k n i : Nat) (h : i < n) : (marksR k n)[i]? = some (.int .i64 ((k + i : Nat) : Int)) := by
  unfold marksR
  rw [List.getElem?_map, List.getElem?_range h]; rfl
theorem marksR_set (k j : Nat) (xs : List Value) (h : j < xs.length) : (marksR k j ++ xs.drop j).set j (.int .i64 ((k + j : Nat) : Int)) = marksR k (j + 1) ++ xs.drop (j + 1) := by
  rw [List.set_append_right _ _ (by rw [marksR_length]; omega), marksR_length, Nat.sub_self, List.drop_eq_getElem_cons h, List.set_cons_zero, marksR_succ]
  simp
theorem mkR_eq {x : Value} {k i n : Nat} (h : (marksR k n)[i]? = some x) (hi : i < n) : x = .int .i64 ((k + i : Nat) : Int) := by
  rw [marksR_at k n i hi] at h
  injection h with h
  exact h.symm
theorem marksR_set' (k j : Nat) (xs : List Value) (h : j < xs.length) {m : Int} (hm : m = ((k + j : Nat) : Int)) : (marksR k j ++ xs.drop j).set j (.int .i64 m) = marksR k (j + 1) ++ xs.drop (j + 1) := by
  subst hm
  exact marksR_set k j xs h
theorem litz (w : World) (base : Nat) (t : TypeId) (z : Nat) (h : base ≤ w.heap.size) : (w.alloc (.cells #[] t)).ownsRow base t z (.slice (some ⟨w.heap.size, 0, none⟩) 0 0) 0 [] :=
  ⟨by simp, .inr ⟨w.heap.size, 0, #[], rfl, h, heap_alloc_new w _, Nat.le_refl _, Nat.zero_le _, by simp, by simp⟩⟩
theorem fit_cut {ad : Addr} {a : Option Addr} {n c : Nat} (h : a = some ad) : Fit (.slice a n c) n := by subst h; exact .inr ⟨_, _, rfl⟩
theorem below_call {W0 W w5 : World} (h : Below W0.heap.size W0 W) (l5 : Below W.heap.size W w5) : Below W0.heap.size W0 w5 := h.trans (l5.mono h.size)
theorem ownz_map {α : Type} {f : α → List Value} {w : World} {B n z : Nat} {e : TypeId} {v : Value} {xs ys : List α} (h : w.ownsRow B e z v n (flatZ f xs)) (he : xs = ys) : w.ownsRow B e z v n (flatZ f ys) := he ▸ h
end Go.Proofs.Ytlendmiolhgecaa
