/-
  Ranges over functions whose iterators lean on further iterators: a contract that names the list that comes, and the law for who ranges over it. No program.
-/
import Derived.RangeFuncWrites
import Derived.RangeFuncNested
import Derived.RangeFuncBound
import Derived.RangeFuncCalls
import Derived.RangeFuncLeaves
import Derived.RangeFuncBox
namespace Go.Proofs.Ytejdphfcogfcmaa
open Go Go.RowKit
set_option linter.unusedVariables false

/-- What a round keeps: all that lay below n₀; from block B on whatever is no cells; and the cells of the types T. -/
structure KeepL (t : TypeId → Prop) (n₀ B : Nat) (W W' : World) : Prop where
  below : Below n₀ W W'
  same : ∀ (k : Nat) (o : Obj), W.heap[k]? = some o → ((B ≤ k ∧ o.isCells = false) ∨ ∃ cs ty fz, o = .cells cs ty fz ∧ t ty) → W'.heap[k]? = some o
theorem KeepL.refl (t : TypeId → Prop) (n₀ B : Nat) (W : World) : KeepL t n₀ B W W := ⟨Below.refl _ _, fun _ _ h _ => h⟩
theorem KeepL.trans {t : TypeId → Prop} {n₀ B : Nat} {X Y Z : World} (h : KeepL t n₀ B X Y) (k : KeepL t n₀ B Y Z) : KeepL t n₀ B X Z :=
  ⟨h.below.trans k.below, fun i o hi ho => k.same i o (h.same i o hi ho) ho⟩
theorem KeepL.low {t : TypeId → Prop} {n₀ m₀ B : Nat} {X Y : World} (h : KeepL t n₀ B X Y) (hm : m₀ ≤ n₀) : KeepL t m₀ B X Y := ⟨h.below.mono hm, h.same⟩
theorem KeepL.mono {t : TypeId → Prop} {n₀ B B' : Nat} {X Y : World} (h : KeepL t n₀ B X Y) (hB : B ≤ B') : KeepL t n₀ B' X Y := ⟨h.below, fun i o hi ho => h.same i o hi (ho.elim (fun q => .inl ⟨Nat.le_trans hB q.1, q.2⟩) .inr)⟩
/-- A step that turns one block at most, which holds cells of another make. -/
theorem KeepL.grown {t : TypeId → Prop} {n₀ B : Nat} {X Y : World} {row : Option Nat} (hg : X.grownBy Y row) (hn : n₀ ≤ X.heap.size) (hr : ∀ k, row = some k → n₀ ≤ k)
    (ho : ∀ k o, row = some k → X.heap[k]? = some o → ∃ cs ty fz, o = .cells cs ty fz ∧ ¬ t ty) : KeepL t n₀ B X Y :=
  ⟨(Below.refl _ _).grown hg hn hr, fun k o hk h => (hg.block k (Array.getElem?_eq_some_iff.1 hk).1 (fun e => by
    obtain ⟨cs, ty, fz, e1, h2⟩ := ho k o e.symm hk
    subst e1
    rcases h with ⟨_, h⟩ | ⟨cs', ty', fz', h, h3⟩
    · cases h
    · cases h; exact h2 h3)).trans hk⟩
theorem KeepL.alloc {t : TypeId → Prop} {n₀ B : Nat} (X : World) (hn : n₀ ≤ X.heap.size) (o : Obj) : KeepL t n₀ B X (X.alloc o) :=
  KeepL.grown (World.grownBy_alloc X o none) hn (fun k e => by cases e) (fun k o e => by cases e)
theorem KeepL.putLoop {t : TypeId → Prop} {n₀ B : Nat} {X : World} {l : Nat} {r : Loop} (o : Obj) (hn : n₀ ≤ l) (hl : l < B) (hX : n₀ ≤ X.heap.size) (hr : X.heap[l]? = some (.loop r)) : KeepL t n₀ B X (X.putObj l o) :=
  ⟨(Below.refl _ _).grown (grownBy_putObj' X l o) hX (fun k e => by cases e; exact hn), fun k o' h ho => (World.putObj_heap_other (fun e => by
    subst e
    rcases ho with ⟨h1, _⟩ | ⟨cs, ty, fz, h1, _⟩
    · omega
    · rw [hr] at h; cases h; cases h1)).trans h⟩

/-- The contract of an iterator that gives the elements of L in their order, unless a round says 'no more'. -/
def SeqL {α : Type} (P : Program) (g : Nat) (lb : Array Value) (encs : α → Array Value) (t : TypeId → Prop) (n₀ : Nat) (L : List α) (w : World) : Prop :=
  ∀ (l m : Nat) (J Jx : List α → World → Prop) (W : World), Below w.heap.size w W → n₀ ≤ W.heap.size → OwnFrom W.heap.size J → OwnFrom W.heap.size Jx →
    (∀ (m' : Nat) pre x W1, J pre W1 → pre ++ [x] <+: L → YieldAt Fence.wide m' P l (encs x) W1 fun e W' =>
      (e = .returned (.bool true) ∧ J (pre ++ [x]) W' ∧ KeepL t n₀ W.heap.size W1 W') ∨ (e = .returned (.bool false) ∧ Jx (pre ++ [x]) W' ∧ KeepL t 0 W.heap.size W1 W')) →
    J [] W →
    CallsIn Fence.wide m P g (#[.func (.yield l) #[] #[]] ++ lb) W fun e W' => (∃ v, e = .returned v) ∧ (J L W' ∨ ∃ pre, pre <+: L ∧ Jx pre W')
theorem SeqL.later {α : Type} {P : Program} {g : Nat} {lb : Array Value} {encs : α → Array Value} {t : TypeId → Prop} {n₀ : Nat} {L : List α} {w w' : World} (h : SeqL P g lb encs t n₀ L w) (hb : Below w.heap.size w w') : SeqL P g lb encs t n₀ L w' :=
  fun l m J Jx W hW hn hJ hJx hY h0 => h l m J Jx W (hb.trans (hW.mono hb.size)) hn hJ hJx hY h0

/-- How the body of a round may be left. -/
def postL {α : Type} (t : TypeId → Prop) (n₀ B : Nat) (I : List α → World → Prop) (Ix : Code → List α → World → Prop) (xs : List α) (W : World) : Exit → Act → World → Prop
  | .normal, _, W' => KeepL t n₀ B W W' ∧ I xs W'
  | .ret, _, W' => KeepL t 0 B W W' ∧ Ix .ret xs W'
  | .exit id, _, W' => KeepL t 0 B W W' ∧ Ix (.exit id) xs W'
  | .goto g, _, W' => KeepL t 0 B W W' ∧ Ix (.goto g) xs W'
  | .panic _, _, _ => False
  | .outgrown, _, _ => False
theorem ownFrom_up {β : Type} {B B' : Nat} {I : β → World → Prop} (h : OwnFrom B I) (hB : B ≤ B') : OwnFrom B' I := fun s W W' row hs hg hr => h s W W' row hs hg (fun r e => ⟨Nat.le_trans hB (hr r e).1, (hr r e).2⟩)

/-- **The law for who ranges over such an iterator.** -/
theorem range_L {P : Program} {n : Nat} {α : Type} {gop : Operand} {ps : Array Tmp} {assign body : Code} {Q : Exit → Act → World → Prop} {a : Act} {w : World}
    {gf : Nat} {lb : Array Value} (hg : a.eval gop = .func (.func gf) #[] lb) (eg : ∀ args w, (callFunc gf args).run P w = .ok (.enter gf args) w)
    {encs : α → Array Value} {t : TypeId → Prop} {n₀ : Nat} {L : List α} {w0 : World} (hseq : SeqL P gf lb encs t n₀ L w0) (hb0 : Below w0.heap.size w0 w) (hn : n₀ ≤ w.heap.size) (hps : ∀ x, (encs x).size = ps.size)
    (I : List α → World → Prop) (Ix : Code → List α → World → Prop) (hI : OwnFrom w.heap.size I) (hIx : ∀ c, OwnFrom w.heap.size (Ix c)) (h0 : I [] w) (a₁ : α → Act)
    (hassign : ∀ (m l : Nat) (x : α) (W : World) (K : Act → World → Prop), K (a₁ x) W →
      assign.wpIn (Fence.wide.inRound l) m P (Exit.then K (fun _ _ _ => False)) { tmps := (ps.zip (encs x)).foldl (fun t (p, v) => t.setIfInBounds p v) a.tmps, defers := [] } W)
    (hbody : ∀ (m l : Nat) (pre : List α) (x : α) (W : World), I pre W → pre ++ [x] <+: L → body.wpIn (Fence.wide.inRound l) m P (postL t n₀ w.heap.size I Ix (pre ++ [x]) W) (a₁ x) W)
    (hdone : ∀ (D : Nat) (W : World), w.heap.size ≤ D → I L W → W.heap[D]? = some (.deferred (some [])) → Q .normal { a with defers := { target := .collected D, args := #[] } :: a.defers } W)
    (hstop : ∀ (D : Nat) (c : Code) (pre : List α) (W : World), w.heap.size ≤ D → pre <+: L → Ix c pre W → W.heap[D]? = some (.deferred (some [])) → c.wpIn Fence.wide n P Q { a with defers := { target := .collected D, args := #[] } :: a.defers } W) :
    (Code.rangeFunc gop ps assign body).wpIn Fence.wide n P Q a w := by
  refine wpIn_rangeFunc fun fn hfn => ?_
  obtain ⟨rec, hrec⟩ : ∃ rec : LoopState → Option Code → Loop, rec = fun st pe => { state := st, pending := pe, fn, tmps := a.tmps, params := ps, assign, body, defers := w.heap.size } := ⟨_, rfl⟩
  obtain ⟨W1, hW1⟩ : ∃ W1, (w.alloc (.deferred (some []))).alloc (.loop (rec .ready none)) = W1 := ⟨_, rfl⟩
  have hs1 : W1.heap.size = w.heap.size + 2 := by rw [← hW1]; simp
  have rdy : W1.heap[w.heap.size + 1]? = some (.loop (rec .ready none)) := by
    rw [← hW1]
    have := World.alloc_heap_new (w.alloc (.deferred (some []))) (.loop (rec .ready none))
    rwa [World.size_alloc] at this
  have dfr : W1.heap[w.heap.size]? = some (.deferred (some [])) := by
    rw [← hW1]; exact (Below.heap_alloc _ _ _ (by simp)).trans (World.alloc_heap_new w _)
  have hI1 : I [] W1 := by rw [← hW1]; exact hI.alloc _ (hI.alloc _ h0)
  have hb1 : Below w0.heap.size w0 W1 := by
    rw [← hW1]; exact hb0.trans ((((Below.refl _ w).alloc (Nat.le_refl _) _).alloc (by simp) _).mono hb0.size)
  refine ⟨w.heap.size + 1, [{ target := .collected w.heap.size, args := #[] }], W1, { target := .fn (.func gf) lb, args := #[.func (.yield (w.heap.size + 1)) #[] #[]] }, W1, gf,
    #[.func (.yield (w.heap.size + 1)) #[] #[]] ++ lb, W1, ?_, ?_, fun _ _ => trivial, ?_, fun h => (by cases h), ?_⟩
  · rw [← hW1, hrec]; exact run_enterLoop_outer _ _ _ _ _
  · simp only [resolve, hg]
    simp [go_sem]
  · simp [invoke, go_sem, eg]
  -- a block below the call's world lies through whatever the iterator turns
  have low : ∀ {A B : World} {row : Option Nat} {k : Nat} {o : Obj}, A.grownBy B row → (∀ r, row = some r → W1.heap.size ≤ r ∧ ∃ o : Obj, A.heap[r]? = some o ∧ o.isCells = false) → k < W1.heap.size → A.heap[k]? = some o → B.heap[k]? = some o :=
    fun hg' hr hk h => (hg'.block _ (Array.getElem?_eq_some_iff.1 h).1 (fun e => by have := (hr _ e.symm).1; omega)).trans h
  refine (hseq (w.heap.size + 1) _
    (fun pre W => I pre W ∧ W.heap[w.heap.size + 1]? = some (.loop (rec .ready none)) ∧ W.heap[w.heap.size]? = some (.deferred (some [])))
    (fun pre W => ∃ c, Ix c pre W ∧ W.heap[w.heap.size + 1]? = some (.loop (rec .done (some c))) ∧ W.heap[w.heap.size]? = some (.deferred (some [])))
    W1 hb1 (by omega)
    (fun s A B row hs hg' hr => ⟨ownFrom_up hI (by omega : w.heap.size ≤ W1.heap.size) s A B row hs.1 hg' hr, low hg' hr (by omega) hs.2.1, low hg' hr (by omega) hs.2.2⟩)
    (fun s A B row hs hg' hr => by
      obtain ⟨c, hc, hl, hk⟩ := hs
      exact ⟨c, ownFrom_up (hIx c) (by omega : w.heap.size ≤ W1.heap.size) s A B row hc hg' hr, low hg' hr (by omega) hl, low hg' hr (by omega) hk⟩)
    ?_ ⟨hI1, rdy, dfr⟩).mono ?_
  · -- one round
    rintro m' pre x W ⟨hi, hl, hk⟩ hpre
    have hlt : w.heap.size + 1 < W.heap.size := (Array.getElem?_eq_some_iff.1 hl).1
    have hy := run_yield (P := P) (args := encs x) hl (by rw [hrec]; exact hps x)
    rw [hrec] at hy
    refine ⟨fn, _, assign, body, hy, roundIn_of_wpIn hfn (hassign m' _ x W _ ⟨_, run_beginRound hl (by rw [hrec]), ?_⟩)⟩
    have hl2 : (W.putObj (w.heap.size + 1) (.loop { rec .ready none with state := .busy })).heap[w.heap.size + 1]? = some (.loop { rec .ready none with state := .busy }) := World.putObj_heap_same hlt
    have hk2 : (W.putObj (w.heap.size + 1) (.loop { rec .ready none with state := .busy })).heap[w.heap.size]? = some (.deferred (some [])) := (World.putObj_heap_other (by omega)).trans hk
    have q2 : KeepL t n₀ W1.heap.size W (W.putObj (w.heap.size + 1) (.loop { rec .ready none with state := .busy })) := KeepL.putLoop _ (by omega) (by omega) (by omega) hl
    refine wpIn_mono (hbody m' _ pre x _ (hI.putObj _ hi (by omega) hl rfl) hpre) ?_
    have fin : ∀ (m₀ : Nat) (_ : m₀ ≤ n₀) (jump : Option Code) (W3 : World), KeepL t m₀ w.heap.size (W.putObj (w.heap.size + 1) (.loop { rec .ready none with state := .busy })) W3 →
        (Instr.endRound (w.heap.size + 1) jump).run P W3 = .ok (.bool jump.isNone) (W3.putObj (w.heap.size + 1) (.loop (rec (if jump.isNone then .ready else .done) jump))) ∧
        W3.heap[w.heap.size + 1]? = some (.loop { rec .ready none with state := .busy }) ∧
        (W3.putObj (w.heap.size + 1) (.loop (rec (if jump.isNone then .ready else .done) jump))).heap[w.heap.size + 1]? = some (.loop (rec (if jump.isNone then .ready else .done) jump)) ∧
        (W3.putObj (w.heap.size + 1) (.loop (rec (if jump.isNone then .ready else .done) jump))).heap[w.heap.size]? = some (.deferred (some [])) ∧
        KeepL t m₀ W1.heap.size W (W3.putObj (w.heap.size + 1) (.loop (rec (if jump.isNone then .ready else .done) jump))) := fun m₀ hm₀ jump W3 hk3 => by
      have hl3 := hk3.same _ _ hl2 (.inl ⟨by omega, rfl⟩)
      have hlt3 := (Array.getElem?_eq_some_iff.1 hl3).1
      have := run_endRound (P := P) jump hl3
      rw [hrec] at this ⊢
      exact ⟨this, by rw [hrec] at hl3; exact hl3, World.putObj_heap_same hlt3, (World.putObj_heap_other (by omega)).trans (hk3.same _ _ hk2 (.inl ⟨Nat.le_refl _, rfl⟩)),
        ((q2.low hm₀).trans (by rw [hrec] at hk3 ⊢; exact hk3.mono (by omega))).trans (KeepL.putLoop _ (by omega) (by omega) (by omega) hl3)⟩
    rintro e a3 W3 hp
    cases e with
    | normal =>
      obtain ⟨hk3, hi3⟩ := hp
      obtain ⟨hr, hl3, hl4, hk4, hq⟩ := fin n₀ (Nat.le_refl _) none W3 hk3
      exact ⟨_, _, hr, .inl ⟨rfl, ⟨hI.putObj _ hi3 (by omega) hl3 rfl, hl4, hk4⟩, hq⟩⟩
    | ret =>
      obtain ⟨hk3, hi3⟩ := hp
      obtain ⟨hr, hl3, hl4, hk4, hq⟩ := fin 0 (Nat.zero_le _) (some .ret) W3 hk3
      exact ⟨_, _, hr, .inr ⟨rfl, ⟨.ret, (hIx _).putObj _ hi3 (by omega) hl3 rfl, hl4, hk4⟩, hq⟩⟩
    | exit id =>
      obtain ⟨hk3, hi3⟩ := hp
      obtain ⟨hr, hl3, hl4, hk4, hq⟩ := fin 0 (Nat.zero_le _) (some (.exit id)) W3 hk3
      exact ⟨_, _, hr, .inr ⟨rfl, ⟨.exit id, (hIx _).putObj _ hi3 (by omega) hl3 rfl, hl4, hk4⟩, hq⟩⟩
    | goto g =>
      obtain ⟨hk3, hi3⟩ := hp
      obtain ⟨hr, hl3, hl4, hk4, hq⟩ := fin 0 (Nat.zero_le _) (some (.goto g)) W3 hk3
      exact ⟨_, _, hr, .inr ⟨rfl, ⟨.goto g, (hIx _).putObj _ hi3 (by omega) hl3 rfl, hl4, hk4⟩, hq⟩⟩
    | panic ch => exact hp.elim
    | outgrown => exact hp.elim
  · -- behind the iterator
    rintro e W2 ⟨⟨v, rfl⟩, (⟨hi, hl, hk⟩ | ⟨pre, hSp, c, hi, hl, hk⟩)⟩
    · exact ⟨none, _, by have := run_endLoop (P := P) hl (by rw [hrec]; simp); rw [hrec] at this; exact this, hdone _ _ (Nat.le_refl _) (hI.putObj _ hi (by omega) hl rfl) ((World.putObj_heap_other (by omega)).trans hk)⟩
    · exact ⟨some c, _, by have := run_endLoop (P := P) hl (by rw [hrec]; simp); rw [hrec] at this; exact this, hstop _ c pre _ (Nat.le_refl _) hSp ((hIx c).putObj _ hi (by omega) hl rfl) ((World.putObj_heap_other (by omega)).trans hk)⟩
end Go.Proofs.Ytejdphfcogfcmaa
