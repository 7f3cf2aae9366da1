/-
  Sets as ranges: a range added and left out, by the specification.
-/
import Derived.Test.YtneimcacpbepfaaGreatDoorRng
import Derived.Test.YtneimcacpbepfaaGreatDoorInts
import Derived.Test.YtneimcacpbepfaaGreatDoorAppRow
import Derived.Laws.DeepStrings4
import Derived.BigRegion
import Derived.Deep.CutRange
import Derived.Laws.Rows
import Derived.Lib.SmallJoins
import Derived.Maps.AppendAt
import Derived.StillTailTactics
import Derived.Deep.RegionHeld3
namespace Go.Proofs.YtneimcacpbepfaaGreatDoor
open Go.RowKit Go.Lib Go.Joins
set_option linter.unusedVariables false

theorem rg_len : ∀ {s : List Rg}, rgCh s → s.length ≤ 65536 := by
  have key : ∀ s : List Rg, rgCh s → (s.length : Int) ≤ sizG s := by
    intro s
    induction s with
    | nil => intro _; exact Int.le_refl _
    | cons a s ih =>
      intro h
      obtain ⟨_, v, hs⟩ := rgCh_cons.1 h
      have := ih hs
      have e : sizG (a :: s) = (a.2 - a.1 + 1) + sizG s := by simp [sizG]
      rw [e, List.length_cons]
      push_cast
      omega
  intro s h
  have := key s h
  have := (siz_nonneg h).2
  omega
theorem infoRg : (Tryz.prog.info? 47).map (fun i => (i.zero, i.size, i.bytes)) = some (some (.agg #[.int .i64 0, .int .i64 0]), 2, 16) := by kernel_rfl
theorem rgF_len (s : List Rg) : (rgF s).length = s.length * 2 := flat_len rgC_len s
theorem rgF_snoc (s : List Rg) (p q : Int) : rgF (s ++ [(p, q)]) = rgF s ++ [.int .i64 p, .int .i64 q] := by
  unfold rgF
  rw [flat_append, flat_one]
  rfl
/-- A struct of two cells in a block. -/
def Rb (w : World) (R : Nat) (x y : Int) : Prop := w.heap[R]? = some (.cells #[.int .i64 x, .int .i64 y] 47 (0, 0))
theorem Rb.cells {w : World} {R : Nat} {x y : Int} (h : Rb w R x y) : w.cell? ⟨R, 0, none⟩ = some (.int .i64 x) ∧ w.cell? ⟨R, 1, none⟩ = some (.int .i64 y) := by
  unfold Rb at h
  constructor <;> simp [World.cell?, h]
theorem Rb.free {w : World} {R : Nat} {x y : Int} (h : Rb w R x y) (i : Nat) : w.frozen? ⟨R, i, none⟩ = false := by
  unfold Rb at h
  simp [World.frozen?, h]
theorem Rb.lt {w : World} {R : Nat} {x y : Int} (h : Rb w R x y) : R < w.heap.size := (Array.getElem?_eq_some_iff.1 h).1
theorem Rb.below {w w' : World} {R B : Nat} {x y : Int} (h : Rb w R x y) (hb : Below B w w') (hB : R < B) : Rb w' R x y := (hb.block R hB).trans h
theorem Rb.gr {w w' : World} {R B : Nat} {x y : Int} (h : Rb w R x y) (hg : w.grownBy w' (some B)) (hne : B ≠ R) : Rb w' R x y := (hg.block R h.lt (by intro e; exact hne (Option.some.inj e).symm)).trans h
theorem blk_set {w : World} {g i : Nat} {cs : Array Value} {t : TypeId} (h : w.heap[g]? = some (.cells cs t (0, 0))) (v : Value) : (w.setCell ⟨g, i, none⟩ v).heap[g]? = some (.cells (cs.setIfInBounds i v) t (0, 0)) ∧ w.grownBy (w.setCell ⟨g, i, none⟩ v) (some g) := by
  have e1 := setCell_eq_setRow w g i cs t (0, 0) v h
  refine ⟨block_setCell h v, ?_⟩
  rw [e1]
  exact ⟨rfl, rfl, rfl, by simp, fun q _ hne => setRow_other w g q _ (fun e => hne (by rw [e]))⟩
theorem Rb.store {w : World} {R : Nat} {x y x' y' : Int} (h : Rb w R x y) :
    Rb ((w.setCell ⟨R, 0, none⟩ (.int .i64 x')).setCell ⟨R, 1, none⟩ (.int .i64 y')) R x' y' ∧ w.grownBy ((w.setCell ⟨R, 0, none⟩ (.int .i64 x')).setCell ⟨R, 1, none⟩ (.int .i64 y')) (some R) := by
  obtain ⟨a0, b0⟩ := blk_set (i := 0) h (.int .i64 x')
  obtain ⟨a1, b1⟩ := blk_set (i := 1) a0 (.int .i64 y')
  refine ⟨?_, grown_trans b0 b1⟩
  unfold Rb
  rw [a1]
  rfl
theorem two_new (w : World) (p q : Int) (t : TypeId) : ∀ j u, [Value.int .i64 p, .int .i64 q][j]? = some u → (w.alloc (.cells #[.int .i64 p, .int .i64 q] t)).cell? ((⟨w.heap.size, 0, none⟩ : Addr).add j) = some u := by
  intro j u hu
  match j, hu with
  | 0, hu => simp at hu; subst hu; simp [Addr.add]
  | 1, hu => simp at hu; subst hu; simp [Addr.add]
/-- What a walk that adds a range has so far: the list drawn up, in block g; the range in its block. -/
structure AddS (W0 wr : World) (g c : Nat) (zs : List Rg) (x y : Int) : Prop where
  own : wr.ownsRow (W0.heap.size + 1) 47 2 (.slice (some ⟨g, 0, none⟩) zs.length c) zs.length (rgF zs)
  blk : Rb wr W0.heap.size x y
  bel : Below W0.heap.size W0 wr
theorem AddS.app {W0 wr w1 : World} {g c : Nat} {zs : List Rg} {x y p q : Int} {v' : Value} {o : Obj} (h : AddS W0 wr g c zs x y)
    (ho : w1.ownsRow (W0.heap.size + 1) 47 2 v' (zs.length + 1) (rgF zs ++ [.int .i64 p, .int .i64 q])) (hg : (wr.alloc o).grownBy w1 (some g)) :
    ∃ g' c', v' = .slice (some ⟨g', 0, none⟩) (zs ++ [(p, q)]).length c' ∧ AddS W0 w1 g' c' (zs ++ [(p, q)]) x y := by
  obtain ⟨g', c', rfl⟩ := ownz_form ho (by omega)
  have hgk : W0.heap.size + 1 ≤ g := (h.own.lt g rfl).1
  have e : (zs ++ [(p, q)]).length = zs.length + 1 := by simp
  refine ⟨g', c', by rw [e], ⟨?_, ?_, ?_⟩⟩
  · rw [e, rgF_snoc]
    exact ho
  · exact Rb.gr ((heap_alloc_old wr o h.blk.lt).trans h.blk) hg (by omega)
  · exact (h.bel.alloc h.bel.size o).grown hg (by have := h.bel.size; simp; omega) (fun k hk => by have e2 : g = k := Option.some.inj hk; omega)
theorem AddS.put {W0 wr : World} {g c : Nat} {zs : List Rg} {x y x' y' : Int} (h : AddS W0 wr g c zs x y) :
    AddS W0 ((wr.setCell ⟨W0.heap.size, 0, none⟩ (.int .i64 x')).setCell ⟨W0.heap.size, 1, none⟩ (.int .i64 y')) g c zs x' y' := by
  obtain ⟨a, b⟩ := h.blk.store (x' := x') (y' := y')
  exact ⟨ownz_cur h.own b (by omega), a, h.bel.grown b h.bel.size (fun k hk => by have e : W0.heap.size = k := Option.some.inj hk; omega)⟩
theorem AddS.drewN {W0 wr : World} {g c : Nat} {zs : List Rg} {x y : Int} (h : AddS W0 wr g c zs x y) (n : Nat) : AddS W0 (wr.drewN n) g c zs x y :=
  ⟨ownz_below h.own (bdrew wr n) (Nat.le_refl _), h.blk, h.bel.trans ((bdrew wr n).mono h.bel.size)⟩
theorem addS_new (w : World) (f t : Int) : AddS w ((w.alloc (.cells #[.int .i64 f, .int .i64 t] 47)).alloc (.cells #[] 47)) (w.heap.size + 1) 0 [] f t := by
  refine ⟨?_, ?_, ((Below.refl _ _).alloc (Nat.le_refl _) _).alloc (by simp) _⟩
  · have h : ((w.alloc (.cells #[.int .i64 f, .int .i64 t] 47)).alloc (.cells #[] 47)).ownsRow (w.alloc (.cells #[.int .i64 f, .int .i64 t] 47)).heap.size 47 2 (.slice (some ⟨(w.alloc (.cells #[.int .i64 f, .int .i64 t] 47)).heap.size, 0, none⟩) 0 0) 0 [] := World.ownsRow_made _ #[] 0 (Nat.le_refl _) (Nat.zero_le _) rfl
    rw [show (w.alloc (.cells #[.int .i64 f, .int .i64 t] 47)).heap.size = w.heap.size + 1 by simp] at h
    exact h
  · exact (heap_alloc_old _ _ (by simp)).trans (heap_alloc_new w _)
/-- An append of whatever row of elements of several cells at a step of a region that draws. -/
theorem step_append_rowz {P : Program} {w : World} {ops : Array Oper} {o : Oper} {a : Act} {K : Act → World → Prop} {Q : Exit → Act → World → Prop} {E : Prop} (hgd : o.guard = none) (s x : Operand) (t : TypeId)
    (ho : o.op = .call { callee := .builtin .append, args := #[s, x], argTypes := #[t, t] })
    (base : Nat) (e : TypeId) (i : TypeInfo) (z : Value) (sz bytes : Nat) (ht : P.underlying t = some (.slice e)) (hi : P.info? e = some i) (hz : i.zero = some z)
    (hsize : i.size = sz) (hby : i.bytes = bytes) (hzs : z.cells.size = sz) (hsz : 0 < sz)
    (v : Value) (n : Nat) (xs : List Value) (hs : a.eval s = v) (hown : w.ownsRow base e sz v n xs)
    (ad : Addr) (m c : Nat) (ys : List Value) (hx : a.eval x = .slice (some ad) m c) (hrow : Row w (.slice (some ad) m c) m ys) (hl : ys.length = m * sz) (h1 : ∀ u ∈ ys, u.oneCell' = true)
    (h63 : n + m ≤ maxLen) (hbytes : (n + m) * bytes ≤ 140737488355328) (hbase : base ≤ w.heap.size)
    (h : ∀ v' w', w'.ownsRow base e sz v' (n + m) (xs ++ ys) → w.grownBy w' v.ownBlock → (v'.ownBlock = v.ownBlock ∨ v'.ownBlock = some w.heap.size) → K (a.put o.dst v') w') :
    if Region.wanted o (yielded ops a.tmps) = true then Oper.wp P o a w K Q else E := by
  have hw : Region.wanted o (yielded ops a.tmps) = true := by simp [Region.wanted, hgd]
  rw [if_pos hw]
  obtain ⟨v', w', hr, h2, h3, _, h5⟩ := run_append_own_at (P := P) w base t o.type e i z sz bytes ht hi hz hsize hby hzs hsz v n xs hown ad m c ys hl (row_news hrow) h1 h63 hbytes hbase
  unfold Oper.wp execOp
  simp only [ho, resolve, invoke, builtin, Sem.run_bind, Sem.run_pure, Result.andThen_ok, List.map_toArray, List.map_cons, List.map_nil, hs, hx, hr]
  exact h v' w' h2 h3 h5
theorem row_lit2 {w : World} {g : Nat} {t : TypeId} {x y : Value} (h : w.heap[g]? = some (.cells #[x, y] t (0, 0))) : Row w (.slice (some ⟨g, 0, none⟩) 1 1) 1 [x, y] := by
  refine ⟨some ⟨g, 0, none⟩, 1, rfl, Nat.le_refl _, by decide, fun _ => ⟨g, 0, rfl, (Array.getElem?_eq_some_iff.1 h).1, fun i hi => ?_⟩⟩
  match i, hi with
  | 0, _ => simp [World.cell?, h]
  | 1, _ => simp [World.cell?, h]
theorem gr_self (a : World) (row : Option Nat) : a.grownBy a row := ⟨rfl, rfl, rfl, Nat.le_refl _, fun _ _ _ => rfl⟩
theorem gr_drew {a b : World} {row : Option Nat} (h : a.grownBy b row) : a.grownBy b.drew row := ⟨h.os, h.tape, h.output, h.size, h.block⟩
theorem gr_alloc {a b : World} {row : Option Nat} {o : Obj} (h : a.grownBy b row) : a.grownBy (b.alloc o) row := grown_trans h (World.grownBy_alloc _ _ _)
/-- What a region that appends to row g holds: four cells of other blocks, and that all else is as it was. -/
def Held4 (W : World) (g : Nat) (a1 a2 a3 a4 : Addr) (p q f t : Int) (w' : World) : Prop :=
  w'.cell? a1 = some (.int .i64 p) ∧ w'.cell? a2 = some (.int .i64 q) ∧ w'.cell? a3 = some (.int .i64 f) ∧ w'.cell? a4 = some (.int .i64 t) ∧ W.grownBy w' (some g)
theorem held4 {W w' : World} {g b o1 o2 R : Nat} {p q f t : Int} (h1 : W.cell? ⟨b, o1, none⟩ = some (.int .i64 p)) (h2 : W.cell? ⟨b, o2, none⟩ = some (.int .i64 q)) (h3 : W.cell? ⟨R, 0, none⟩ = some (.int .i64 f)) (h4 : W.cell? ⟨R, 1, none⟩ = some (.int .i64 t)) (hb : b ≠ g) (hR : R ≠ g) (hg : W.grownBy w' (some g)) :
    w'.cell? ⟨b, o1, none⟩ = some (.int .i64 p) ∧ w'.cell? ⟨b, o2, none⟩ = some (.int .i64 q) ∧ w'.cell? ⟨R, 0, none⟩ = some (.int .i64 f) ∧ w'.cell? ⟨R, 1, none⟩ = some (.int .i64 t) ∧ W.grownBy w' (some g) :=
  ⟨hg.cell h1 (by intro e; exact hb (Option.some.inj e)), hg.cell h2 (by intro e; exact hb (Option.some.inj e)), hg.cell h3 (by intro e; exact hR (Option.some.inj e)), hg.cell h4 (by intro e; exact hR (Option.some.inj e)), hg⟩
theorem AddS.app2 {W0 wr w1 : World} {g c : Nat} {zs : List Rg} {x y p q : Int} {v' : Value} (h : AddS W0 wr g c zs x y)
    (ho : w1.ownsRow (W0.heap.size + 1) 47 2 v' (zs.length + 1) (rgF zs ++ [.int .i64 p, .int .i64 q])) (hg : wr.grownBy w1 (some g)) :
    ∃ g' c', v' = .slice (some ⟨g', 0, none⟩) (zs ++ [(p, q)]).length c' ∧ AddS W0 w1 g' c' (zs ++ [(p, q)]) x y := by
  obtain ⟨g', c', rfl⟩ := ownz_form ho (by omega)
  have hgk : W0.heap.size + 1 ≤ g := (h.own.lt g rfl).1
  have e : (zs ++ [(p, q)]).length = zs.length + 1 := by simp
  refine ⟨g', c', by rw [e], ⟨?_, ?_, ?_⟩⟩
  · rw [e, rgF_snoc]
    exact ho
  · exact h.blk.gr hg (by omega)
  · exact h.bel.grown hg h.bel.size (fun k hk => by have e2 : g = k := Option.some.inj hk; omega)
/-- What is still to be drawn up: nothing of the range is lost. -/
def addR (d : Bool) (zs l : List Rg) (x y : Int) (goal : List Rg) : Prop := if d = true then zs ++ l = goal ∧ ∀ z ∈ l, y + 1 < z.1 else zs ++ addG l (x, y) = goal
theorem addR_before {zs l goal : List Rg} {p q x y : Int} (h : addR false zs ((p, q) :: l) x y goal) (hlt : q + 1 < x) : addR false (zs ++ [(p, q)]) l x y goal := by
  unfold addR at h ⊢
  simp only [Bool.false_eq_true, if_false] at h ⊢
  rw [← h, addG]
  simp [hlt]
theorem addR_not {zs l goal : List Rg} {p q x y : Int} (h : addR true zs ((p, q) :: l) x y goal) : y + 1 < p := by
  unfold addR at h
  simp only [if_true] at h
  exact h.2 (p, q) (List.mem_cons_self ..)
theorem addR_done {zs l goal : List Rg} {p q x y : Int} (h : addR true zs ((p, q) :: l) x y goal) : addR true (zs ++ [(p, q)]) l x y goal := by
  unfold addR at h ⊢
  simp only [if_true] at h ⊢
  exact ⟨by rw [← h.1]; simp, fun z hz => h.2 z (List.mem_cons_of_mem _ hz)⟩
theorem addR_now {zs l goal : List Rg} {p q x y : Int} (hc : rgCh ((p, q) :: l)) (h : addR false zs ((p, q) :: l) x y goal) (h1 : ¬ q + 1 < x) (h2 : y + 1 < p) : addR true (zs ++ [(x, y)] ++ [(p, q)]) l x y goal := by
  unfold addR at h ⊢
  simp only [Bool.false_eq_true, if_false, if_true] at h ⊢
  rw [← h, addG]
  have hv := rgCh_cons.1 hc
  refine ⟨by simp [h1, h2], fun z hz => ?_⟩
  have := hv.1 z hz
  simp only at this hv
  omega
theorem addR_join {zs l goal : List Rg} {p q x y : Int} (h : addR false zs ((p, q) :: l) x y goal) (h1 : ¬ q + 1 < x) (h2 : ¬ y + 1 < p) : addR false zs l (min x p) (max y q) goal := by
  unfold addR at h ⊢
  simp only [Bool.false_eq_true, if_false] at h ⊢
  rw [← h, addG]
  simp [h1, h2]
theorem addR_end {zs goal : List Rg} {x y : Int} (h : addR true zs [] x y goal) : zs = goal := by
  unfold addR at h
  simpa using h.1
theorem addR_last {zs goal : List Rg} {x y : Int} (h : addR false zs [] x y goal) : zs ++ [(x, y)] = goal := by
  unfold addR at h
  simpa [addG] using h
theorem addR_len {d : Bool} {zs l goal : List Rg} {x y : Int} (h : addR d zs l x y goal) : zs.length ≤ goal.length := by
  unfold addR at h
  split at h
  · rw [← h.1]; simp
  · rw [← h]; simp
set_option maxRecDepth 100000 in
set_option maxHeartbeats 4000000 in
theorem l5Add_any (v : Value) (s : List Rg) (f t : Int) (w : World) (hrow : Row w v s.length (rgF s)) (hc : rgCh s) (h0 : 0 ≤ f) (h1 : f ≤ t) (h2 : t ≤ 65535) :
    Calls Tryz.prog 28 #[v, .agg #[.int .i64 f, .int .i64 t]] w fun e w' => ∃ v', e = .returned v' ∧ w'.ownsRow w.heap.size 47 2 v' (addG s (f, t)).length (rgF (addG s (f, t))) ∧ Below w.heap.size w w' := by
  obtain ⟨i0, hi, hz0, hz1, hz2⟩ := info_parts infoRg
  have hlen := rg_len (addG_good s (f, t) hc h0 h1 h2).1
  have hR0 : addR false [] s f t (addG s (f, t)) := by unfold addR; simp
  obtain ⟨a, cap, rfl, hc1, hm1, hcell⟩ := rg_open hrow
  have HC := Lib.hid hcell
  have HCh := Lib.hid hc
  unfold maxLen at hm1
  have hA0 := addS_new w f t
  have HA0 := Lib.hid hA0
  have HR0 := Lib.hid hR0
  generalize addG s (f, t) = goal at *
  obtain ⟨n, hN⟩ : ∃ n, n = s.length := ⟨_, rfl⟩
  rw [← hN] at hc1 ⊢
  have HN := Lib.hid hN
  clear hcell hrow hc hA0 hR0 hN
  go_enter Tryz.func28, Tryz.ntmps28
  go_wp2_with fail
  go_loopw [5, 6, 7] (fun o d i wr => ∃ (k g c : Nat) (dd : Bool) (zs : List Rg) (x y : Int), k ≤ n ∧ i = .int .i64 k ∧ d = .bool dd ∧ o = .slice (some ⟨g, 0, none⟩) zs.length c ∧ 0 ≤ x ∧ x ≤ y ∧ y ≤ 65535 ∧ Hid (AddS w wr g c zs x y) ∧ Hid (addR dd zs (s.drop k) x y goal)) (fun _ _ i _ => n - (intOf i).toNat)
  case atStart => exact ⟨0, w.heap.size + 1, 0, false, [], f, t, Nat.zero_le _, rfl, rfl, rfl, h0, h1, h2, HA0, HR0⟩
  case round =>
    clear HA0 HR0
    obtain ⟨k, g, c, dd, zs, x, y, hk, rfl, rfl, rfl, x0, xy, y1, HA, HR⟩ := hrel
    have hzl := addR_len HR.out
    by_cases hkn : k < n
    · have hks : k < s.length := by rw [← HN.out]; exact hkn
      obtain ⟨b, off, rfl, hb, hf, ht⟩ := HC.out k hks
      have hf1 : wr.cell? ⟨b, off + k * 2, none⟩ = some (.int .i64 s[k].1) := (HA.out.bel.cell hb).trans hf
      have ht1 : wr.cell? ⟨b, off + k * 2 + 1, none⟩ = some (.int .i64 s[k].2) := (HA.out.bel.cell hb).trans ht
      have hv := HCh.out.2 s[k] (List.getElem_mem hks)
      have hdr : s.drop k = s[k] :: s.drop (k + 1) := List.drop_eq_getElem_cons hks
      have hch : rgCh (s[k] :: s.drop (k + 1)) := by rw [← hdr]; exact ⟨HCh.out.1.sublist (List.drop_sublist ..), fun r hr => HCh.out.2 r (List.mem_of_mem_drop hr)⟩
      rw [hdr] at HR
      clear hdr
      obtain ⟨p, q, hpq⟩ : ∃ p q, s[k] = (p, q) := ⟨_, _, rfl⟩
      rw [hpq] at hf1 ht1 hv HR hch hf ht
      simp only at hf1 ht1 hv hf ht
      obtain ⟨p0, pq, q1⟩ := hv
      have HCk := Lib.hid hch
      clear hpq hch
      obtain ⟨r0, r1⟩ := HA.out.blk.cells
      have z0 := HA.out.blk.free 0
      have z1 := HA.out.blk.free 1
      have wq : IntKind.i64.wrap (q + 1) = q + 1 := IntWalk.i64_in _ (by omega)
      have wy : IntKind.i64.wrap (y + 1) = y + 1 := IntWalk.i64_in _ (by omega)
      by_cases hA : q + 1 < x
      · have hdA : decide (q + 1 < x) = true := decide_eq_true hA
        cases dd with
        | true => exact absurd (addR_not HR.out) (by omega)
        | false =>
          have HR2 := Lib.hid (addR_before HR.out hA)
          go_wp2_with fail
          go_quiet (fail)
          have HA1 := Lib.hid (HA.out.drewN nq)
          have hf2 : (wr.drewN nq).cell? ⟨b, off + k * 2, none⟩ = some (.int .i64 p) := hf1
          have ht2 : (wr.drewN nq).cell? ⟨b, off + k * 2 + 1, none⟩ = some (.int .i64 q) := ht1
          obtain ⟨wq, hwq⟩ : ∃ W9, W9 = wr.drewN nq := ⟨_, rfl⟩
          rw [← hwq] at HA1 hf2 ht2 ⊢
          clear hwq hf1 ht1 HA r0 r1 z0 z1
          have hf1 := hf2
          have ht1 := ht2
          clear hf2 ht2
          obtain ⟨r0, r1⟩ := HA1.out.blk.cells
          have z0 := HA1.out.blk.free 0
          have z1 := HA1.out.blk.free 1
          go_wp2_with (at_builtin; refine wpList_append_own _ rfl _ _ 24 rfl (w.heap.size + 1) 47 i0 (.agg #[.int .i64 0, .int .i64 0]) 2 16 Tryz.underlying24 hi hz0 hz1 hz2 rfl (by decide) _ _ _ rfl (HA1.out.own.alloc _) ⟨wq.heap.size, 0, none⟩ 1 1 [.int .i64 p, .int .i64 q] rfl rfl (two_new _ _ _ _) (by intro u hu; simp at hu; rcases hu with rfl | rfl <;> rfl) (by unfold maxLen; omega) (by omega) (by have := HA1.out.bel.size; simp; omega) ?_; intro v' w4 hown' hgrow _)
          obtain ⟨g', c', rfl, hs'⟩ := HA1.out.app hown' hgrow
          have HA2 := Lib.hid hs'
          clear hown' hgrow hs'
          go_roundw
          case rel => exact ⟨k + 1, g', c', false, zs ++ [(p, q)], x, y, by omega, by go_num, rfl, rfl, x0, xy, y1, HA2, HR2⟩
          case measure => (simp [intOf]; omega)
      · have hdA : decide (q + 1 < x) = false := decide_eq_false hA
        by_cases hB : y + 1 < p
        · have hdB : decide (y + 1 < p) = true := decide_eq_true hB
          cases dd with
          | true =>
            have HR2 := Lib.hid (addR_done HR.out)
            go_wp2_with fail
            go_quiet (fail)
            have HA1 := Lib.hid (HA.out.drewN nq)
            have hf2 : (wr.drewN nq).cell? ⟨b, off + k * 2, none⟩ = some (.int .i64 p) := hf1
            have ht2 : (wr.drewN nq).cell? ⟨b, off + k * 2 + 1, none⟩ = some (.int .i64 q) := ht1
            obtain ⟨wq, hwq⟩ : ∃ W9, W9 = wr.drewN nq := ⟨_, rfl⟩
            rw [← hwq] at HA1 hf2 ht2 ⊢
            clear hwq hf1 ht1 HA r0 r1 z0 z1
            have hf1 := hf2
            have ht1 := ht2
            clear hf2 ht2
            obtain ⟨r0, r1⟩ := HA1.out.blk.cells
            have z0 := HA1.out.blk.free 0
            have z1 := HA1.out.blk.free 1
            go_wp2_with fail
            go_quiet (fail)
            have HA2 := Lib.hid (HA1.out.drewN nq)
            have hf2 : (wq.drewN nq).cell? ⟨b, off + k * 2, none⟩ = some (.int .i64 p) := hf1
            have ht2 : (wq.drewN nq).cell? ⟨b, off + k * 2 + 1, none⟩ = some (.int .i64 q) := ht1
            obtain ⟨wp, hwq⟩ : ∃ W9, W9 = wq.drewN nq := ⟨_, rfl⟩
            rw [← hwq] at HA2 hf2 ht2 ⊢
            clear hwq hf1 ht1 HA1 r0 r1 z0 z1
            have hf1 := hf2
            have ht1 := ht2
            clear hf2 ht2
            obtain ⟨r0, r1⟩ := HA2.out.blk.cells
            have z0 := HA2.out.blk.free 0
            have z1 := HA2.out.blk.free 1
            go_wp2_with (at_builtin; refine wpList_append_own _ rfl _ _ 24 rfl (w.heap.size + 1) 47 i0 (.agg #[.int .i64 0, .int .i64 0]) 2 16 Tryz.underlying24 hi hz0 hz1 hz2 rfl (by decide) _ _ _ rfl (HA2.out.own.alloc _) ⟨wp.heap.size, 0, none⟩ 1 1 [.int .i64 p, .int .i64 q] rfl rfl (two_new _ _ _ _) (by intro u hu; simp at hu; rcases hu with rfl | rfl <;> rfl) (by unfold maxLen; omega) (by omega) (by have := HA2.out.bel.size; simp; omega) ?_; intro v' w4 hown' hgrow _)
            obtain ⟨g', c', rfl, hs'⟩ := HA2.out.app hown' hgrow
            have HA3 := Lib.hid hs'
            clear hown' hgrow hs'
            go_roundw
            case rel => exact ⟨k + 1, g', c', true, zs ++ [(p, q)], x, y, by omega, by go_num, rfl, rfl, x0, xy, y1, HA3, HR2⟩
            case measure => (simp [intOf]; omega)
          | false =>
            have HR2 := Lib.hid (addR_now HCk.out HR.out hA hB)
            have hl2 : (zs ++ [(x, y)]).length + 1 ≤ goal.length := by have := addR_len HR2.out; simpa using this
            go_wp2_with fail
            go_quiet (fail)
            have HA1 := Lib.hid (HA.out.drewN nq)
            have hf2 : (wr.drewN nq).cell? ⟨b, off + k * 2, none⟩ = some (.int .i64 p) := hf1
            have ht2 : (wr.drewN nq).cell? ⟨b, off + k * 2 + 1, none⟩ = some (.int .i64 q) := ht1
            obtain ⟨wq, hwq⟩ : ∃ W9, W9 = wr.drewN nq := ⟨_, rfl⟩
            rw [← hwq] at HA1 hf2 ht2 ⊢
            clear hwq hf1 ht1 HA r0 r1 z0 z1
            have hf1 := hf2
            have ht1 := ht2
            clear hf2 ht2
            obtain ⟨r0, r1⟩ := HA1.out.blk.cells
            have z0 := HA1.out.blk.free 0
            have z1 := HA1.out.blk.free 1
            go_wp2_with fail
            go_quiet (fail)
            have HA2 := Lib.hid (HA1.out.drewN nq)
            have hf2 : (wq.drewN nq).cell? ⟨b, off + k * 2, none⟩ = some (.int .i64 p) := hf1
            have ht2 : (wq.drewN nq).cell? ⟨b, off + k * 2 + 1, none⟩ = some (.int .i64 q) := ht1
            obtain ⟨wp, hwq⟩ : ∃ W9, W9 = wq.drewN nq := ⟨_, rfl⟩
            rw [← hwq] at HA2 hf2 ht2 ⊢
            clear hwq hf1 ht1 HA1 r0 r1 z0 z1
            have hf1 := hf2
            have ht1 := ht2
            clear hf2 ht2
            obtain ⟨r0, r1⟩ := HA2.out.blk.cells
            have z0 := HA2.out.blk.free 0
            have z1 := HA2.out.blk.free 1
            go_wp2_with (first | (at_builtin; refine wpList_append_own _ rfl _ _ 24 rfl (w.heap.size + 1) 47 i0 (.agg #[.int .i64 0, .int .i64 0]) 2 16 Tryz.underlying24 hi hz0 hz1 hz2 rfl (by decide) _ _ _ rfl (H5.out.own.alloc _) ⟨w5.heap.size, 0, none⟩ 1 1 [.int .i64 p, .int .i64 q] rfl rfl (two_new _ _ _ _) (by intro u hu; simp at hu; rcases hu with rfl | rfl <;> rfl) (by unfold maxLen; omega) (by omega) (by have := H5.out.bel.size; simp; omega) ?_; intro v' w6 hown' hgrow _) | (at_builtin; refine wpList_append_own _ rfl _ _ 24 rfl (w.heap.size + 1) 47 i0 (.agg #[.int .i64 0, .int .i64 0]) 2 16 Tryz.underlying24 hi hz0 hz1 hz2 rfl (by decide) _ _ _ rfl (HA2.out.own.alloc _) ⟨wp.heap.size, 0, none⟩ 1 1 [.int .i64 x, .int .i64 y] rfl rfl (two_new _ _ _ _) (by intro u hu; simp at hu; rcases hu with rfl | rfl <;> rfl) (by unfold maxLen; omega) (by omega) (by have := HA2.out.bel.size; simp; omega) ?_; intro v' w5 hown' hgrow _; obtain ⟨g5, c5, rfl, hs5⟩ := HA2.out.app hown' hgrow; obtain ⟨zs5, hz5⟩ : ∃ zs5, zs5 = zs ++ [(x, y)] := ⟨_, rfl⟩; rw [← hz5] at hs5 HR2 hl2 ⊢; clear hz5; have H5 := Lib.hid hs5; have hf5 : w5.cell? ⟨b, off + k * 2, none⟩ = some (.int .i64 p) := (hs5.bel.cell hb).trans hf; have ht5 : w5.cell? ⟨b, off + k * 2 + 1, none⟩ = some (.int .i64 q) := (hs5.bel.cell hb).trans ht; clear hown' hgrow hs5 hf1 ht1 r0 r1 z0 z1))
            obtain ⟨g6, c6, rfl, hs6⟩ := H5.out.app hown' hgrow
            have H6 := Lib.hid hs6
            clear hown' hgrow hs6
            go_roundw
            case rel => exact ⟨k + 1, g6, c6, true, zs5 ++ [(p, q)], x, y, by omega, by go_num, rfl, rfl, x0, xy, y1, H6, HR2⟩
            case measure => (simp [intOf]; omega)
        · have hdB : decide (y + 1 < p) = false := decide_eq_false hB
          cases dd with
          | true => exact absurd (addR_not HR.out) hB
          | false =>
            have HR2 := Lib.hid (addR_join HR.out hA hB)
            go_wp2_with fail
            go_quiet (fail)
            have HA1 := Lib.hid (HA.out.drewN nq)
            have hf2 : (wr.drewN nq).cell? ⟨b, off + k * 2, none⟩ = some (.int .i64 p) := hf1
            have ht2 : (wr.drewN nq).cell? ⟨b, off + k * 2 + 1, none⟩ = some (.int .i64 q) := ht1
            obtain ⟨wq, hwq⟩ : ∃ W9, W9 = wr.drewN nq := ⟨_, rfl⟩
            rw [← hwq] at HA1 hf2 ht2 ⊢
            clear hwq hf1 ht1 HA r0 r1 z0 z1
            have hf1 := hf2
            have ht1 := ht2
            clear hf2 ht2
            obtain ⟨r0, r1⟩ := HA1.out.blk.cells
            have z0 := HA1.out.blk.free 0
            have z1 := HA1.out.blk.free 1
            go_wp2_with fail
            go_quiet (fail)
            have HA2 := Lib.hid (HA1.out.drewN nq)
            have hf2 : (wq.drewN nq).cell? ⟨b, off + k * 2, none⟩ = some (.int .i64 p) := hf1
            have ht2 : (wq.drewN nq).cell? ⟨b, off + k * 2 + 1, none⟩ = some (.int .i64 q) := ht1
            obtain ⟨wp, hwq⟩ : ∃ W9, W9 = wq.drewN nq := ⟨_, rfl⟩
            rw [← hwq] at HA2 hf2 ht2 ⊢
            clear hwq hf1 ht1 HA1 r0 r1 z0 z1
            have hf1 := hf2
            have ht1 := ht2
            clear hf2 ht2
            obtain ⟨r0, r1⟩ := HA2.out.blk.cells
            have z0 := HA2.out.blk.free 0
            have z1 := HA2.out.blk.free 1
            go_wp2_with fail
            refine wp_region_still_tail 17 (by kernel_rfl) (by kernel_rfl) ?_
            have HA3 := Lib.hid (HA2.out.drewN 1)
            have hf2 : (wp.drewN 1).cell? ⟨b, off + k * 2, none⟩ = some (.int .i64 p) := hf1
            have ht2 : (wp.drewN 1).cell? ⟨b, off + k * 2 + 1, none⟩ = some (.int .i64 q) := ht1
            obtain ⟨wd, hwd⟩ : ∃ W9, W9 = wp.drewN 1 := ⟨_, rfl⟩
            rw [← hwd] at HA3 hf2 ht2
            have hwd2 : ({ wp with drawn := wp.drawn + 1 } : World) = wd := hwd.symm
            rw [hwd2]
            clear hwd hwd2 hf1 ht1 HA2 r0 r1 z0 z1
            obtain ⟨r0, r1⟩ := HA3.out.blk.cells
            have z0 := HA3.out.blk.free 0
            have z1 := HA3.out.blk.free 1
            simp only [List.take_succ_cons, List.take_zero, List.drop_succ_cons, List.drop_zero]
            repeat still_step
            still_call ((l1Least_any _ _ _).mono fun e w' h => ⟨h.1, h.2.symm⟩)
            repeat still_step
            still_call ((l1Most_any _ _ _).mono fun e w' h => ⟨h.1, h.2.symm⟩)
            repeat still_step
            refine wpStill_nil ?_
            go_wp2_with fail
            have HA4 := Lib.hid (HA3.out.put (x' := min x p) (y' := max y q))
            go_roundw
            case rel => exact ⟨k + 1, g, c, false, zs, min x p, max y q, by omega, by go_num, rfl, rfl, by omega, by omega, by omega, HA4, HR2⟩
            case measure => (simp [intOf]; omega)
    · obtain rfl : k = n := by omega
      have hdn : s.drop k = [] := List.drop_eq_nil_of_le (by rw [HN.out]; exact Nat.le_refl _)
      rw [hdn] at HR
      clear hdn
      cases dd with
      | true =>
        have HE := Lib.hid (addR_end HR.out)
        go_wp2_with fail
        go_ret
        exact ⟨_, rfl, by rw [← HE.out]; exact ownz_base HA.out.own (by omega), HA.out.bel⟩
      | false =>
        have HE := Lib.hid (addR_last HR.out)
        have hl2 : zs.length + 1 ≤ goal.length := by rw [← HE.out]; simp
        obtain ⟨r0, r1⟩ := HA.out.blk.cells
        go_wp2_with (at_builtin; refine wpList_append_own _ rfl _ _ 24 rfl (w.heap.size + 1) 47 i0 (.agg #[.int .i64 0, .int .i64 0]) 2 16 Tryz.underlying24 hi hz0 hz1 hz2 rfl (by decide) _ _ _ rfl (HA.out.own.alloc _) ⟨wr.heap.size, 0, none⟩ 1 1 [.int .i64 x, .int .i64 y] rfl rfl (two_new _ _ _ _) (by intro u hu; simp at hu; rcases hu with rfl | rfl <;> rfl) (by unfold maxLen; omega) (by omega) (by have := HA.out.bel.size; simp; omega) ?_; intro v' w4 hown' hgrow _)
        obtain ⟨g', c', rfl, hs'⟩ := HA.out.app hown' hgrow
        have HA2 := Lib.hid hs'
        clear hown' hgrow hs'
        go_wp2_with fail
        go_ret
        exact ⟨_, rfl, by rw [← HE.out]; exact ownz_base HA2.out.own (by omega), HA2.out.bel⟩
end Go.Proofs.YtneimcacpbepfaaGreatDoor
