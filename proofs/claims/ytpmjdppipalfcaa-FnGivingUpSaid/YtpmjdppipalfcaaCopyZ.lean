/-
  copy into a row of the call's own, elements of several cells; no program.
-/
import Derived.Test.YtpmjdppipalfcaaAppZ
import Derived.Laws.CopyRow
import Derived.Laws.IdiomCopy
namespace Go.Proofs.Ytpmjdppipalfcaa
open Go.RowKit Go.Lib Go.Joins
set_option linter.unusedVariables false

theorem run_copy_rowz {P : Program} (w : World) (dT sT ty elem : TypeId) (z g dLen dCap : Nat) (a : Addr) (sLen sCap : Nat) (cur : Array Value) (t : TypeId) (cs : List Value)
    (hu : P.underlying dT = some (.slice elem)) (hs : (P.info? elem).map (·.size) = some z)
    (hg : w.heap[g]? = some (.cells cur t (0, 0))) (hn : cs.length = Nat.min sLen dLen * z)
    (hsrc : ∀ j v, cs[j]? = some v → w.cell? (a.add j) = some v) (hfit : cs.length ≤ cur.size) (h1 : ∀ v ∈ cs, v.oneCell' = true) :
    (Builtin.copy_ #[dT, sT] ty #[.slice (some ⟨g, 0, none⟩) dLen dCap, .slice (some a) sLen sCap]).run P w =
      .ok (goInt (Nat.min sLen dLen)) (w.setRow g (cs ++ cur.toList.drop cs.length).toArray) := by
  have hl := run_loadCells_list (P := P) w a cs hsrc
  have hst := run_storeCells_at P g 0 t cs 0 cur w hg (by simpa using hfit) h1
  rw [Nat.add_zero, Nat.zero_add, List.take_zero, List.nil_append] at hst
  cases hq : P.info? elem with
  | none => simp [hq] at hs
  | some i =>
    have hi : i.size = z := by simpa [hq] using hs
    rw [hn] at hl
    obtain ⟨mm, hmm⟩ : ∃ mm, mm = Nat.min sLen dLen := ⟨_, rfl⟩
    rw [← hmm] at hl ⊢
    have hl2 : (loadCells a (mm * i.size)).run P w = .ok cs.toArray w := by rw [hi]; exact hl
    simp [Builtin.copy_, run_underlying hu, Builtin.lenOf, Builtin.firstCells, sizeOf, typeInfo, hq, ← hmm, hl2, hst]
theorem run_copy_nilz {P : Program} (w : World) (dT sT ty elem : TypeId) (g dLen dCap : Nat) (hu : P.underlying dT = some (.slice elem)) (hs : ((P.info? elem).map (·.size)).isSome = true) :
    (Builtin.copy_ #[dT, sT] ty #[.slice (some ⟨g, 0, none⟩) dLen dCap, .slice none 0 0]).run P w = .ok (goInt 0) w := by
  cases hq : P.info? elem with
  | none => simp [hq] at hs
  | some i => simp [Builtin.copy_, run_underlying hu, Builtin.lenOf, Builtin.firstCells, sizeOf, typeInfo, hq, storeCells]
/-- All of a slice is copied to the head of a row of the call's own. -/
theorem run_copy_ownz {P : Program} (w : World) (dT sT ty e : TypeId) (z : Nat) (hu : P.underlying dT = some (.slice e)) (hs : (P.info? e).map (·.size) = some z) (base n g cap : Nat) (xs : List Value)
    (hown : w.ownsRow base e z (.slice (some ⟨g, 0, none⟩) n cap) n xs) (vx : Value) (m : Nat) (ys : List Value) (hfit : Fit vx m) (hrow : Row w vx m ys) (hl : ys.length = m * z) (hm : m ≤ n) (h1 : ∀ u ∈ ys, u.oneCell' = true) :
    ∃ w', (Builtin.copy_ #[dT, sT] ty #[.slice (some ⟨g, 0, none⟩) n cap, vx]).run P w = .ok (goInt m) w' ∧ w'.ownsRow base e z (.slice (some ⟨g, 0, none⟩) n cap) n (ys ++ xs.drop ys.length) ∧ w.grownBy w' (some g) := by
  rcases hfit with ⟨rfl, rfl⟩ | ⟨ad, c, rfl⟩
  · have hy : ys = [] := List.eq_nil_of_length_eq_zero (by omega)
    subst hy
    exact ⟨w, run_copy_nilz w dT sT ty e g n cap hu (by rw [hs]; rfl), by simpa using hown, gr_self w _⟩
  · obtain ⟨hxl, ⟨h0, _⟩ | ⟨g', cap', cur, hv, hb, hg, hnc, hmx, hsz, ht⟩⟩ := hown
    · cases h0
    · injection hv with hv1 _ hv2
      injection hv1 with hv1
      injection hv1 with hv1 _ _
      subst hv1 hv2
      have hmin : Nat.min m n = m := Nat.min_eq_left hm
      have hmz : m * z ≤ n * z := Nat.mul_le_mul_right z hm
      have hnz : n * z ≤ cap * z := Nat.mul_le_mul_right z hnc
      have hr := run_copy_rowz (P := P) w dT sT ty e z g n cap ad m c cur e ys hu hs hg (by rw [hmin]; exact hl) (row_news hrow) (by omega) h1
      rw [hmin] at hr
      refine ⟨_, hr, ⟨?_, .inr ⟨g, cap, _, rfl, hb, setRow_heap w g cur _ e (0, 0) hg, hnc, hmx, ?_, ?_⟩⟩, rfl, rfl, rfl, by simp [World.setRow], fun k _ hne => setRow_other w g k _ (fun e => hne (by rw [e]))⟩
      · rw [List.length_append, List.length_drop]; omega
      · simp; omega
      · rw [← ht, List.take_append, hl, List.take_of_length_le (by omega)]
        congr 1
        rw [List.drop_take]
/-- .. as a law for a list of operations. -/
theorem wpList_copy_ownz {P : Program} {w : World} {ops : Array Oper} {rest : List Oper} {o : Oper} {a : Act} {Q : Exit → Act → World → Prop} (hgd : o.guard = none) (d s : Operand) (dT sT : TypeId)
    (ho : o.op = .call { callee := .builtin .copy, args := #[d, s], argTypes := #[dT, sT] }) (e : TypeId) (z : Nat) (hu : P.underlying dT = some (.slice e)) (hs : (P.info? e).map (·.size) = some z) (base n g cap : Nat) (xs : List Value)
    (hd : a.eval d = .slice (some ⟨g, 0, none⟩) n cap) (hown : w.ownsRow base e z (.slice (some ⟨g, 0, none⟩) n cap) n xs) (vx : Value) (m : Nat) (ys : List Value) (hx : a.eval s = vx) (hfit : Fit vx m) (hrow : Row w vx m ys) (hl : ys.length = m * z) (hm : m ≤ n) (h1 : ∀ u ∈ ys, u.oneCell' = true)
    (h : ∀ w', w'.ownsRow base e z (.slice (some ⟨g, 0, none⟩) n cap) n (ys ++ xs.drop ys.length) → w.grownBy w' (some g) → wpList P ops Q rest (a.put o.dst (goInt m)) w') : wpList P ops Q (o :: rest) a w := by
  refine wpList_plain hgd fun K hK => ?_
  obtain ⟨w', hrun, h2, h3⟩ := run_copy_ownz (P := P) w dT sT o.type e z hu hs base n g cap xs hown vx m ys hfit hrow hl hm h1
  unfold Oper.wp
  simp [execOp, ho, resolve, invoke, builtin, hd, hx, hrun, Result.andThen]
  exact hK _ _ (h w' h2 h3)
end Go.Proofs.Ytpmjdppipalfcaa
