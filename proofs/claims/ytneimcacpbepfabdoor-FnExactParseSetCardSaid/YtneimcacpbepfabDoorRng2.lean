/-
  Sets as ranges: a range added and left out, by the specification.
-/
import Derived.Test.YtneimcacpbepfabDoorRng
import Derived.Test.YtneimcacpbepfabDoorInts
import Derived.Test.YtneimcacpbepfabDoorAppRow
import Derived.Laws.DeepStrings4
import Derived.BigRegion
import Derived.Deep.CutRange
import Derived.Laws.Rows
import Derived.Lib.SmallJoins
import Derived.Maps.AppendAt
import Derived.StillTailTactics
import Derived.Deep.RegionHeld3
namespace Go.Proofs.YtneimcacpbepfabDoor
open Go.RowKit Go.Lib Go.Joins
set_option linter.unusedVariables false

theorem rg_len : ∀ {s : List Rg}, rgCh s → s.length ≤ 65536 := by
  have key : ∀ s : List Rg, rgCh s → (s.length : Int) ≤ sizG s := by
    intro s
    induction s with
    | nil => intro _; exact Int.le_refl _
    | cons a s ih =>
      intro h
      obtain ⟨_, v, hs⟩ := rgCh_cons.1 h
      have := ih hs
      have e : sizG (a :: s) = (a.2 - a.1 + 1) + sizG s := by simp [sizG]
      rw [e, List.length_cons]
      push_cast
      omega
  intro s h
  have := key s h
  have := (siz_nonneg h).2
  omega
theorem infoRg : (Tryd.prog.info? 34).map (fun i => (i.zero, i.size, i.bytes)) = some (some (.agg #[.int .i64 0, .int .i64 0]), 2, 16) := by kernel_rfl
theorem rgF_len (s : List Rg) : (rgF s).length = s.length * 2 := flat_len rgC_len s
theorem rgF_snoc (s : List Rg) (p q : Int) : rgF (s ++ [(p, q)]) = rgF s ++ [.int .i64 p, .int .i64 q] := by
  unfold rgF
  rw [flat_append, flat_one]
  rfl
/-- A struct of two cells in a block. -/
def Rb (w : World) (R : Nat) (x y : Int) : Prop := w.heap[R]? = some (.cells #[.int .i64 x, .int .i64 y] 34 (0, 0))
theorem Rb.cells {w : World} {R : Nat} {x y : Int} (h : Rb w R x y) : w.cell? ⟨R, 0, none⟩ = some (.int .i64 x) ∧ w.cell? ⟨R, 1, none⟩ = some (.int .i64 y) := by
  unfold Rb at h
  constructor <;> simp [World.cell?, h]
theorem Rb.free {w : World} {R : Nat} {x y : Int} (h : Rb w R x y) (i : Nat) : w.frozen? ⟨R, i, none⟩ = false := by
  unfold Rb at h
  simp [World.frozen?, h]
theorem Rb.lt {w : World} {R : Nat} {x y : Int} (h : Rb w R x y) : R < w.heap.size := (Array.getElem?_eq_some_iff.1 h).1
theorem Rb.below {w w' : World} {R B : Nat} {x y : Int} (h : Rb w R x y) (hb : Below B w w') (hB : R < B) : Rb w' R x y := (hb.block R hB).trans h
theorem Rb.gr {w w' : World} {R B : Nat} {x y : Int} (h : Rb w R x y) (hg : w.grownBy w' (some B)) (hne : B ≠ R) : Rb w' R x y := (hg.block R h.lt (by intro e; exact hne (Option.some.inj e).symm)).trans h
theorem blk_set {w : World} {g i : Nat} {cs : Array Value} {t : TypeId} (h : w.heap[g]? = some (.cells cs t (0, 0))) (v : Value) : (w.setCell ⟨g, i, none⟩ v).heap[g]? = some (.cells (cs.setIfInBounds i v) t (0, 0)) ∧ w.grownBy (w.setCell ⟨g, i, none⟩ v) (some g) := by
  have e1 := setCell_eq_setRow w g i cs t (0, 0) v h
  refine ⟨block_setCell h v, ?_⟩
  rw [e1]
  exact ⟨rfl, rfl, rfl, by simp, fun q _ hne => setRow_other w g q _ (fun e => hne (by rw [e]))⟩
theorem Rb.store {w : World} {R : Nat} {x y x' y' : Int} (h : Rb w R x y) :
    Rb ((w.setCell ⟨R, 0, none⟩ (.int .i64 x')).setCell ⟨R, 1, none⟩ (.int .i64 y')) R x' y' ∧ w.grownBy ((w.setCell ⟨R, 0, none⟩ (.int .i64 x')).setCell ⟨R, 1, none⟩ (.int .i64 y')) (some R) := by
  obtain ⟨a0, b0⟩ := blk_set (i := 0) h (.int .i64 x')
  obtain ⟨a1, b1⟩ := blk_set (i := 1) a0 (.int .i64 y')
  refine ⟨?_, grown_trans b0 b1⟩
  unfold Rb
  rw [a1]
  rfl
theorem two_new (w : World) (p q : Int) (t : TypeId) : ∀ j u, [Value.int .i64 p, .int .i64 q][j]? = some u → (w.alloc (.cells #[.int .i64 p, .int .i64 q] t)).cell? ((⟨w.heap.size, 0, none⟩ : Addr).add j) = some u := by
  intro j u hu
  match j, hu with
  | 0, hu => simp at hu; subst hu; simp [Addr.add]
  | 1, hu => simp at hu; subst hu; simp [Addr.add]
/-- What a walk that adds a range has so far: the list drawn up, in block g; the range in its block. -/
structure AddS (W0 wr : World) (g c : Nat) (zs : List Rg) (x y : Int) : Prop where
  own : wr.ownsRow (W0.heap.size + 1) 34 2 (.slice (some ⟨g, 0, none⟩) zs.length c) zs.length (rgF zs)
  blk : Rb wr W0.heap.size x y
  bel : Below W0.heap.size W0 wr
theorem AddS.app {W0 wr w1 : World} {g c : Nat} {zs : List Rg} {x y p q : Int} {v' : Value} {o : Obj} (h : AddS W0 wr g c zs x y)
    (ho : w1.ownsRow (W0.heap.size + 1) 34 2 v' (zs.length + 1) (rgF zs ++ [.int .i64 p, .int .i64 q])) (hg : (wr.alloc o).grownBy w1 (some g)) :
    ∃ g' c', v' = .slice (some ⟨g', 0, none⟩) (zs ++ [(p, q)]).length c' ∧ AddS W0 w1 g' c' (zs ++ [(p, q)]) x y := by
  obtain ⟨g', c', rfl⟩ := ownz_form ho (by omega)
  have hgk : W0.heap.size + 1 ≤ g := (h.own.lt g rfl).1
  have e : (zs ++ [(p, q)]).length = zs.length + 1 := by simp
  refine ⟨g', c', by rw [e], ⟨?_, ?_, ?_⟩⟩
  · rw [e, rgF_snoc]
    exact ho
  · exact Rb.gr ((heap_alloc_old wr o h.blk.lt).trans h.blk) hg (by omega)
  · exact (h.bel.alloc h.bel.size o).grown hg (by have := h.bel.size; simp; omega) (fun k hk => by have e2 : g = k := Option.some.inj hk; omega)
theorem AddS.put {W0 wr : World} {g c : Nat} {zs : List Rg} {x y x' y' : Int} (h : AddS W0 wr g c zs x y) :
    AddS W0 ((wr.setCell ⟨W0.heap.size, 0, none⟩ (.int .i64 x')).setCell ⟨W0.heap.size, 1, none⟩ (.int .i64 y')) g c zs x' y' := by
  obtain ⟨a, b⟩ := h.blk.store (x' := x') (y' := y')
  exact ⟨ownz_cur h.own b (by omega), a, h.bel.grown b h.bel.size (fun k hk => by have e : W0.heap.size = k := Option.some.inj hk; omega)⟩
theorem AddS.drewN {W0 wr : World} {g c : Nat} {zs : List Rg} {x y : Int} (h : AddS W0 wr g c zs x y) (n : Nat) : AddS W0 (wr.drewN n) g c zs x y :=
  ⟨ownz_below h.own (bdrew wr n) (Nat.le_refl _), h.blk, h.bel.trans ((bdrew wr n).mono h.bel.size)⟩
theorem addS_new (w : World) (f t : Int) : AddS w ((w.alloc (.cells #[.int .i64 f, .int .i64 t] 34)).alloc (.cells #[] 34)) (w.heap.size + 1) 0 [] f t := by
  refine ⟨?_, ?_, ((Below.refl _ _).alloc (Nat.le_refl _) _).alloc (by simp) _⟩
  · have h : ((w.alloc (.cells #[.int .i64 f, .int .i64 t] 34)).alloc (.cells #[] 34)).ownsRow (w.alloc (.cells #[.int .i64 f, .int .i64 t] 34)).heap.size 34 2 (.slice (some ⟨(w.alloc (.cells #[.int .i64 f, .int .i64 t] 34)).heap.size, 0, none⟩) 0 0) 0 [] := World.ownsRow_made _ #[] 0 (Nat.le_refl _) (Nat.zero_le _) rfl
    rw [show (w.alloc (.cells #[.int .i64 f, .int .i64 t] 34)).heap.size = w.heap.size + 1 by simp] at h
    exact h
  · exact (heap_alloc_old _ _ (by simp)).trans (heap_alloc_new w _)
/-- An append of whatever row of elements of several cells at a step of a region that draws. -/
theorem step_append_rowz {P : Program} {w : World} {ops : Array Oper} {o : Oper} {a : Act} {K : Act → World → Prop} {Q : Exit → Act → World → Prop} {E : Prop} (hgd : o.guard = none) (s x : Operand) (t : TypeId)
    (ho : o.op = .call { callee := .builtin .append, args := #[s, x], argTypes := #[t, t] })
    (base : Nat) (e : TypeId) (i : TypeInfo) (z : Value) (sz bytes : Nat) (ht : P.underlying t = some (.slice e)) (hi : P.info? e = some i) (hz : i.zero = some z)
    (hsize : i.size = sz) (hby : i.bytes = bytes) (hzs : z.cells.size = sz) (hsz : 0 < sz)
    (v : Value) (n : Nat) (xs : List Value) (hs : a.eval s = v) (hown : w.ownsRow base e sz v n xs)
    (ad : Addr) (m c : Nat) (ys : List Value) (hx : a.eval x = .slice (some ad) m c) (hrow : Row w (.slice (some ad) m c) m ys) (hl : ys.length = m * sz) (h1 : ∀ u ∈ ys, u.oneCell' = true)
    (h63 : n + m ≤ maxLen) (hbytes : (n + m) * bytes ≤ 140737488355328) (hbase : base ≤ w.heap.size)
    (h : ∀ v' w', w'.ownsRow base e sz v' (n + m) (xs ++ ys) → w.grownBy w' v.ownBlock → (v'.ownBlock = v.ownBlock ∨ v'.ownBlock = some w.heap.size) → K (a.put o.dst v') w') :
    if Region.wanted o (yielded ops a.tmps) = true then Oper.wp P o a w K Q else E := by
  have hw : Region.wanted o (yielded ops a.tmps) = true := by simp [Region.wanted, hgd]
  rw [if_pos hw]
  obtain ⟨v', w', hr, h2, h3, _, h5⟩ := run_append_own_at (P := P) w base t o.type e i z sz bytes ht hi hz hsize hby hzs hsz v n xs hown ad m c ys hl (row_news hrow) h1 h63 hbytes hbase
  unfold Oper.wp execOp
  simp only [ho, resolve, invoke, builtin, Sem.run_bind, Sem.run_pure, Result.andThen_ok, List.map_toArray, List.map_cons, List.map_nil, hs, hx, hr]
  exact h v' w' h2 h3 h5
theorem row_lit2 {w : World} {g : Nat} {t : TypeId} {x y : Value} (h : w.heap[g]? = some (.cells #[x, y] t (0, 0))) : Row w (.slice (some ⟨g, 0, none⟩) 1 1) 1 [x, y] := by
  refine ⟨some ⟨g, 0, none⟩, 1, rfl, Nat.le_refl _, by decide, fun _ => ⟨g, 0, rfl, (Array.getElem?_eq_some_iff.1 h).1, fun i hi => ?_⟩⟩
  match i, hi with
  | 0, _ => simp [World.cell?, h]
  | 1, _ => simp [World.cell?, h]
theorem gr_self (a : World) (row : Option Nat) : a.grownBy a row := ⟨rfl, rfl, rfl, Nat.le_refl _, fun _ _ _ => rfl⟩
theorem gr_drew {a b : World} {row : Option Nat} (h : a.grownBy b row) : a.grownBy b.drew row := ⟨h.os, h.tape, h.output, h.size, h.block⟩
theorem gr_alloc {a b : World} {row : Option Nat} {o : Obj} (h : a.grownBy b row) : a.grownBy (b.alloc o) row := grown_trans h (World.grownBy_alloc _ _ _)
/-- What a region that appends to row g holds: four cells of other blocks, and that all else is as it was. -/
def Held4 (W : World) (g : Nat) (a1 a2 a3 a4 : Addr) (p q f t : Int) (w' : World) : Prop :=
  w'.cell? a1 = some (.int .i64 p) ∧ w'.cell? a2 = some (.int .i64 q) ∧ w'.cell? a3 = some (.int .i64 f) ∧ w'.cell? a4 = some (.int .i64 t) ∧ W.grownBy w' (some g)
theorem held4 {W w' : World} {g b o1 o2 R : Nat} {p q f t : Int} (h1 : W.cell? ⟨b, o1, none⟩ = some (.int .i64 p)) (h2 : W.cell? ⟨b, o2, none⟩ = some (.int .i64 q)) (h3 : W.cell? ⟨R, 0, none⟩ = some (.int .i64 f)) (h4 : W.cell? ⟨R, 1, none⟩ = some (.int .i64 t)) (hb : b ≠ g) (hR : R ≠ g) (hg : W.grownBy w' (some g)) :
    w'.cell? ⟨b, o1, none⟩ = some (.int .i64 p) ∧ w'.cell? ⟨b, o2, none⟩ = some (.int .i64 q) ∧ w'.cell? ⟨R, 0, none⟩ = some (.int .i64 f) ∧ w'.cell? ⟨R, 1, none⟩ = some (.int .i64 t) ∧ W.grownBy w' (some g) :=
  ⟨hg.cell h1 (by intro e; exact hb (Option.some.inj e)), hg.cell h2 (by intro e; exact hb (Option.some.inj e)), hg.cell h3 (by intro e; exact hR (Option.some.inj e)), hg.cell h4 (by intro e; exact hR (Option.some.inj e)), hg⟩
theorem AddS.app2 {W0 wr w1 : World} {g c : Nat} {zs : List Rg} {x y p q : Int} {v' : Value} (h : AddS W0 wr g c zs x y)
    (ho : w1.ownsRow (W0.heap.size + 1) 34 2 v' (zs.length + 1) (rgF zs ++ [.int .i64 p, .int .i64 q])) (hg : wr.grownBy w1 (some g)) :
    ∃ g' c', v' = .slice (some ⟨g', 0, none⟩) (zs ++ [(p, q)]).length c' ∧ AddS W0 w1 g' c' (zs ++ [(p, q)]) x y := by
  obtain ⟨g', c', rfl⟩ := ownz_form ho (by omega)
  have hgk : W0.heap.size + 1 ≤ g := (h.own.lt g rfl).1
  have e : (zs ++ [(p, q)]).length = zs.length + 1 := by simp
  refine ⟨g', c', by rw [e], ⟨?_, ?_, ?_⟩⟩
  · rw [e, rgF_snoc]
    exact ho
  · exact h.blk.gr hg (by omega)
  · exact h.bel.grown hg h.bel.size (fun k hk => by have e2 : g = k := Option.some.inj hk; omega)
/-- What is still to be drawn up: nothing of the range is lost. -/
def addR (d : Bool) (zs l : List Rg) (x y : Int) (goal : List Rg) : Prop := if d = true then zs ++ l = goal ∧ ∀ z ∈ l, y + 1 < z.1 else zs ++ addG l (x, y) = goal
theorem addR_before {zs l goal : List Rg} {p q x y : Int} (h : addR false zs ((p, q) :: l) x y goal) (hlt : q + 1 < x) : addR false (zs ++ [(p, q)]) l x y goal := by
  unfold addR at h ⊢
  simp only [Bool.false_eq_true, if_false] at h ⊢
  rw [← h, addG]
  simp [hlt]
theorem addR_not {zs l goal : List Rg} {p q x y : Int} (h : addR true zs ((p, q) :: l) x y goal) : y + 1 < p := by
  unfold addR at h
  simp only [if_true] at h
  exact h.2 (p, q) (List.mem_cons_self ..)
theorem addR_done {zs l goal : List Rg} {p q x y : Int} (h : addR true zs ((p, q) :: l) x y goal) : addR true (zs ++ [(p, q)]) l x y goal := by
  unfold addR at h ⊢
  simp only [if_true] at h ⊢
  exact ⟨by rw [← h.1]; simp, fun z hz => h.2 z (List.mem_cons_of_mem _ hz)⟩
theorem addR_now {zs l goal : List Rg} {p q x y : Int} (hc : rgCh ((p, q) :: l)) (h : addR false zs ((p, q) :: l) x y goal) (h1 : ¬ q + 1 < x) (h2 : y + 1 < p) : addR true (zs ++ [(x, y)] ++ [(p, q)]) l x y goal := by
  unfold addR at h ⊢
  simp only [Bool.false_eq_true, if_false, if_true] at h ⊢
  rw [← h, addG]
  have hv := rgCh_cons.1 hc
  refine ⟨by simp [h1, h2], fun z hz => ?_⟩
  have := hv.1 z hz
  simp only at this hv
  omega
theorem addR_join {zs l goal : List Rg} {p q x y : Int} (h : addR false zs ((p, q) :: l) x y goal) (h1 : ¬ q + 1 < x) (h2 : ¬ y + 1 < p) : addR false zs l (min x p) (max y q) goal := by
  unfold addR at h ⊢
  simp only [Bool.false_eq_true, if_false] at h ⊢
  rw [← h, addG]
  simp [h1, h2]
theorem addR_end {zs goal : List Rg} {x y : Int} (h : addR true zs [] x y goal) : zs = goal := by
  unfold addR at h
  simpa using h.1
theorem addR_last {zs goal : List Rg} {x y : Int} (h : addR false zs [] x y goal) : zs ++ [(x, y)] = goal := by
  unfold addR at h
  simpa [addG] using h
theorem addR_len {d : Bool} {zs l goal : List Rg} {x y : Int} (h : addR d zs l x y goal) : zs.length ≤ goal.length := by
  unfold addR at h
  split at h
  · rw [← h.1]; simp
  · rw [← h]; simp
end Go.Proofs.YtneimcacpbepfabDoor
