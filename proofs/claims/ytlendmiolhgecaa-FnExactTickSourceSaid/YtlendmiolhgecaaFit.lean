/-
  Slices as a program makes them, rows of the call's own: small facts.
-/
import Derived.Test.YtlendmiolhgecaaStrs
import Derived.Test.YtlendmiolhgecaaAppRow
import Derived.Laws.AppendOwnNone
import Derived.Laws.OwnMore
import Derived.Lib.SliceRun
namespace Go.Proofs.Ytlendmiolhgecaa
open Go.RowKit Go.Lib
set_option linter.unusedVariables false

theorem one_strs (xs : List ByteArray) : ∀ u ∈ xs.map Value.string, u.oneCell' = true := by
  intro u hu
  obtain ⟨x, _, rfl⟩ := List.mem_map.1 hu
  rfl
theorem below_call7 {W0 W w5 : World} (h : Below W0.heap.size W0 W) (l5 : Below W.heap.size W w5) : Below W0.heap.size W0 w5 := h.trans (l5.mono h.size)
/-- A slice as a program makes it: nil, or in memory. -/
def FitS (v : Value) (n : Nat) : Prop := (v = .slice none 0 0 ∧ n = 0) ∨ ∃ ad c, v = .slice (some ad) n c
theorem fitS_own {w : World} {B n z : Nat} {e : TypeId} {v : Value} {xs : List Value} (h : w.ownsRow B e z v n xs) : FitS v n := by
  obtain ⟨hl, ⟨rfl, h0⟩ | ⟨g, c, cur, rfl, _⟩⟩ := h
  · exact .inl ⟨rfl, h0⟩
  · exact .inr ⟨_, _, rfl⟩
/-- An append of such a slice to a row of the call's own. -/
theorem wpList_append_fitS {P : Program} (w : World) {ops : Array Oper} {rest : List Oper} {o : Oper} {a : Act} {Q : Exit → Act → World → Prop} (hgd : o.guard = none) (s x : Operand) (t : TypeId)
    (ho : o.op = .call { callee := .builtin .append, args := #[s, x], argTypes := #[t, t] })
    (base : Nat) (e : TypeId) (i : TypeInfo) (z : Value) (size bytes : Nat) (ht : P.underlying t = some (.slice e)) (hi : P.info? e = some i) (hz : i.zero = some z)
    (hsize : i.size = size) (hby : i.bytes = bytes) (hzs : z.cells.size = size) (hsz : 0 < size)
    (v : Value) (n : Nat) (xs : List Value) (hs : a.eval s = v) (hown : w.ownsRow base e size v n xs)
    (vx : Value) (m : Nat) (ys : List Value) (hx : a.eval x = vx) (hfit : FitS vx m) (hl : ys.length = m * size) (hrow : Row w vx m ys) (h1 : ∀ u ∈ ys, u.oneCell' = true)
    (h63 : n + m ≤ maxLen) (hbytes : (n + m) * bytes ≤ 140737488355328) (hbase : base ≤ w.heap.size)
    (h : ∀ v' w', w'.ownsRow base e size v' (n + m) (xs ++ ys) → w.grownBy w' v.ownBlock → wpList P ops Q rest (a.put o.dst v') w') :
    wpList P ops Q (o :: rest) a w := by
  rcases hfit with ⟨rfl, rfl⟩ | ⟨ad, c, rfl⟩
  · have hy : ys = [] := List.eq_nil_of_length_eq_zero (by omega)
    subst hy
    refine wpList_append_own_none hgd s x t ho base e i size ht hi v n xs hs hown hx ?_
    exact h v w (by rw [List.append_nil]; exact hown) (World.grownBy.refl w _)
  · exact wpList_append_own_at w hgd s x t ho base e i z size bytes ht hi hz hsize hby hzs hsz v n xs hs hown ad m c ys hx hl (row_news hrow) h1 h63 hbytes hbase (fun v' w' h2 h3 _ _ => h v' w' h2 h3)
/-- An append of a slice that may be nil, at a step of a region that draws; and which block it leads to. -/
theorem step_append_fitT {P : Program} {w : World} {ops : Array Oper} {o : Oper} {a : Act} {K : Act → World → Prop} {Q : Exit → Act → World → Prop} {E : Prop} (hgd : o.guard = none) (s x : Operand) (t : TypeId)
    (ho : o.op = .call { callee := .builtin .append, args := #[s, x], argTypes := #[t, t] })
    (base : Nat) (e : TypeId) (i : TypeInfo) (z : Value) (bytes : Nat) (ht : P.underlying t = some (.slice e)) (hi : P.info? e = some i) (hz : i.zero = some z)
    (hsize : i.size = 1) (hby : i.bytes = bytes) (hzs : z.cells.size = 1)
    (v : Value) (n : Nat) (xs : List Value) (hs : a.eval s = v) (hown : w.ownsRow base e 1 v n xs)
    (vx : Value) (m : Nat) (ys : List Value) (hx : a.eval x = vx) (hfit : FitS vx m) (hrow : Row w vx m ys) (hl : ys.length = m) (h1 : ∀ u ∈ ys, u.oneCell' = true)
    (h63 : n + m ≤ maxLen) (hbytes : (n + m) * bytes ≤ 140737488355328) (hbase : base ≤ w.heap.size)
    (h : ∀ v' w', w'.ownsRow base e 1 v' (n + m) (xs ++ ys) → w.grownBy w' v.ownBlock → (v'.ownBlock = v.ownBlock ∨ v'.ownBlock = some w.heap.size) → K (a.put o.dst v') w') :
    if Region.wanted o (yielded ops a.tmps) = true then Oper.wp P o a w K Q else E := by
  rcases hfit with ⟨rfl, rfl⟩ | ⟨ad, c, rfl⟩
  · have hy : ys = [] := List.eq_nil_of_length_eq_zero hl
    subst hy
    have hw : Region.wanted o (yielded ops a.tmps) = true := by simp [Region.wanted, hgd]
    rw [if_pos hw]
    have hr := run_append_owned_none (P := P) (w := w) base t o.type e i 1 ht hi v n xs hown
    unfold Oper.wp execOp
    simp only [ho, resolve, invoke, builtin, Sem.run_bind, Sem.run_pure, Result.andThen_ok, List.map_toArray, List.map_cons, List.map_nil, hs, hx, hr]
    exact h v w (by rw [List.append_nil]; exact hown) (World.grownBy.refl w _) (.inl rfl)
  · exact step_append_row hgd s x t ho base e i z bytes ht hi hz hsize hby hzs v n xs hs hown ad m c ys hx hrow hl h1 h63 hbytes hbase h
/-- The first elements of a row of the call's own. -/
theorem own_head {w : World} {B k n : Nat} {e : TypeId} {g c : Nat} {xs : List Value} (h : w.ownsRow B e 1 (.slice (some ⟨g, 0, none⟩) n c) n xs) (hk : k ≤ n) : w.ownsRow B e 1 (.slice (some ⟨g, 0, none⟩) k c) k (xs.take k) := by
  obtain ⟨hl, ⟨h0, _⟩ | ⟨g', cap, cur, e1, hb, hg, hn, hm, hs, ht⟩⟩ := h
  · cases h0
  · injection e1 with e1 _ e3
    injection e1 with e1
    injection e1 with e1 _ _
    subst e1; subst e3
    refine ⟨by rw [List.length_take]; omega, .inr ⟨g, c, cur, rfl, hb, hg, by omega, hm, hs, ?_⟩⟩
    rw [← ht, List.take_take, Nat.mul_one, Nat.mul_one, Nat.min_eq_left hk]
/-- A slice as a program makes it: nil, or somewhere in a block. -/
def FitA (v : Value) (n : Nat) : Prop := (v = .slice none 0 0 ∧ n = 0) ∨ ∃ b off c, v = .slice (some ⟨b, off, none⟩) n c
theorem fitA_own {w : World} {B n : Nat} {e : TypeId} {v : Value} {xs : List Value} (h : w.ownsRow B e 1 v n xs) : FitA v n := by
  obtain ⟨hl, ⟨rfl, h0⟩ | ⟨g, c, cur, rfl, _⟩⟩ := h
  · exact .inl ⟨rfl, h0⟩
  · exact .inr ⟨_, _, _, rfl⟩
theorem FitA.fitS {v : Value} {n : Nat} (h : FitA v n) : FitS v n := by
  rcases h with h | ⟨b, off, c, h⟩
  · exact .inl h
  · exact .inr ⟨_, _, h⟩
/-- A row of the call's own, as a slice value. -/
theorem own_someS0 {w : World} {B n : Nat} {e : TypeId} {v : Value} {xs : List Value} (h : w.ownsRow B e 1 v n xs) : ∃ a c, v = .slice a n c ∧ n ≤ c ∧ c ≤ maxLen := by
  obtain ⟨hl, ⟨rfl, rfl⟩ | ⟨g, c, cur, rfl, _, _, hn, hm, _⟩⟩ := h
  · exact ⟨none, 0, rfl, Nat.le_refl _, Nat.zero_le _⟩
  · exact ⟨_, c, rfl, hn, hm⟩
theorem below_litS {w w1 : World} {t : TypeId} (hg : (w.alloc (.cells #[] t)).grownBy w1 (Value.slice (some ⟨w.heap.size, 0, none⟩) 0 0).ownBlock) : Below w.heap.size w w1 :=
  ((Below.refl w.heap.size w).alloc (Nat.le_refl _) _).grown hg (by simp) (fun k hk => by have e : w.heap.size = k := Option.some.inj hk; omega)
theorem below_none {w w' : World} (h : w.grownBy w' none) : Below w.heap.size w w' := (Below.refl _ _).grown h (Nat.le_refl _) (fun k hk => by cases hk)
theorem fitA_some (g n : Nat) : FitA (.slice (some ⟨g, 0, none⟩) n n) n := .inr ⟨_, _, _, rfl⟩
theorem bdrewN (B : Nat) (w : World) (n : Nat) : Below B w (w.drewN n) := ⟨rfl, rfl, rfl, Nat.le_refl _, fun _ _ => rfl⟩
theorem row_slice {w : World} {ab ao n cap k : Nat} {q : List ByteArray} (h : Row w (.slice (some ⟨ab, ao, none⟩) n cap) n (q.map Value.string)) (hn : n = q.length) (hk : k ≤ n) :
    Row w (.slice (some ⟨ab, ao, none⟩) k cap) (q.take k).length ((q.take k).map Value.string) ∧
    ∃ o2, (if cap = k then (some ⟨ab, ao, none⟩ : Option Addr) else some ⟨ab, ao + k, none⟩) = some ⟨ab, o2, none⟩ ∧ Row w (.slice (some ⟨ab, o2, none⟩) (n - k) (cap - k)) (q.drop k).length ((q.drop k).map Value.string) := by
  subst hn
  constructor
  · have h2 := row_head' h hk
    rw [← List.map_take] at h2
    rw [List.length_take, Nat.min_eq_left hk]
    exact h2
  · have h2 := row_tail' h hk
    rw [← List.map_drop] at h2
    rw [List.length_drop]
    by_cases hcap : cap = k
    · refine ⟨ao, if_pos hcap, ?_⟩
      obtain ⟨a9, c9, e9, k1, k2, _⟩ := h2
      injection e9 with _ _ e9
      have hz : (q.drop k).map Value.string = [] := List.eq_nil_of_length_eq_zero (by rw [List.length_map, List.length_drop]; omega)
      rw [hz]
      exact ⟨_, _, rfl, by omega, by unfold maxLen; omega, fun hh => absurd rfl hh⟩
    · exact ⟨ao + k, if_neg hcap, h2⟩
theorem heap_new_drew (w : World) (o : Obj) : ((w.alloc o).drew).heap[w.heap.size]? = some o := heap_alloc_new w o
theorem app_grown {W w3 : World} {o : Obj} {v : Value} (h : (W.alloc o).grownBy w3 v.ownBlock) : W.grownBy w3 v.ownBlock := grown_trans (World.grownBy_alloc _ _ _) h
theorem app_apart {W : World} {o : Obj} {v v3 : Value} (hat : v3.ownBlock = v.ownBlock ∨ v3.ownBlock = some (W.alloc o).heap.size) {R : Nat} (hR : R < W.heap.size) (h : ∀ k, v.ownBlock = some k → k ≠ R) : ∀ k, v3.ownBlock = some k → k ≠ R := by
  intro k hk
  rcases hat with e | e
  · exact h k (e.symm.trans hk)
  · rw [e, World.size_alloc] at hk
    have := Option.some.inj hk
    omega
theorem quietF {P : Program} {f : FuncId} {args : Array Value} {w : World} {v : Value} {d : Nat} (h : Calls P f args (w.drewN d) fun e w' => e = .returned v ∧ w.drewN d = w') :
    Calls P f args (w.drewN d) fun e w'' => e = .returned v ∧ ∃ n, w'' = w.drewN n := h.mono fun e w'' ⟨h1, h2⟩ => ⟨h1, d, h2.symm⟩
end Go.Proofs.Ytlendmiolhgecaa
