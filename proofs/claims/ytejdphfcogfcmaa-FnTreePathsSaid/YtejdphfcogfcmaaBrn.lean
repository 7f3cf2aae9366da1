/-
  Branches: how they lie in memory; the program's branchAt draws them up.
-/
import Derived.Test.YtejdphfcogfcmaaTreeI2
import Derived.Test.YtejdphfcogfcmaaOwnZ
import Derived.Deep.RegionLaw
import Derived.Laws.Rows
namespace Go.Proofs.Ytejdphfcogfcmaa
open Go.RowKit Go.Lib Go.Joins
set_option linter.unusedVariables false

/-- The list of the branches below a node, as it lies in blocks that D lets in. -/
def BrS (p : List Int) (W : World) (D : Nat → Prop) : Nat → Int → Value → Prop
  | 0, _, _ => True
  | f + 1, n, s => ∃ a cap, s = .slice a (chl p n).length cap ∧ (chl p n).length ≤ cap ∧ cap ≤ maxLen ∧ ∀ i (h : i < (chl p n).length), ∃ (g off : Nat) (cur : Array Value) (fz : Nat × Nat) (a' : Option Addr) (n' c' : Nat), a = some ⟨g, off, none⟩ ∧ D g ∧ W.heap[g]? = some (.cells cur 60 fz) ∧
      W.cell? ⟨g, off + i * 2, none⟩ = some (.int .i64 (chl p n)[i]) ∧ W.cell? ⟨g, off + (i * 2 + 1), none⟩ = some (.slice a' n' c') ∧ BrS p W D f (chl p n)[i] (.slice a' n' c')
theorem BrS.kept {p : List Int} {W W' : World} {D D' : Nat → Prop} (hD : ∀ k, D k → D' k) (hk : ∀ k cur fz, D k → W.heap[k]? = some (.cells cur 60 fz) → W'.heap[k]? = W.heap[k]?) : ∀ {f : Nat} {n : Int} {s : Value}, BrS p W D f n s → BrS p W' D' f n s
  | 0, _, _, _ => trivial
  | f + 1, n, s, h => by
    obtain ⟨a, cap, e, h1, h2, hc⟩ := h
    refine ⟨a, cap, e, h1, h2, fun i hi => ?_⟩
    obtain ⟨g, off, cur, fz, a', n', c', e1, e2, e3, e4, e5, e6⟩ := hc i hi
    have hb := hk g cur fz e2 e3
    exact ⟨g, off, cur, fz, a', n', c', e1, hD g e2, hb.trans e3, (World.cell?_of_block hb).trans e4, (World.cell?_of_block hb).trans e5, BrS.kept hD hk e6⟩
theorem BrS.form {p : List Int} {W : World} {D : Nat → Prop} {f : Nat} {n : Int} {s : Value} (h : BrS p W D (f + 1) n s) : ∃ a cap, s = .slice a (chl p n).length cap ∧ (chl p n).length ≤ cap ∧ cap ≤ maxLen := by
  obtain ⟨a, cap, e, h1, h2, _⟩ := h
  exact ⟨a, cap, e, h1, h2⟩
def span (lo hi : Nat) : Nat → Prop := fun k => lo ≤ k ∧ k < hi
/-- The cells of branches drawn up so far. -/
def brC (r : Int × Value) : List Value := [.int .i64 r.1, r.2]
theorem brC_len (r : Int × Value) : (brC r).length = 2 := rfl
def brF (zs : List (Int × Value)) : List Value := flatZ brC zs
theorem brF_snoc (zs : List (Int × Value)) (x : Int) (s : Value) : brF (zs ++ [(x, s)]) = brF zs ++ [.int .i64 x, s] := by
  unfold brF
  rw [flat_append, flat_one]
  rfl
theorem infoBr : (Try.prog.info? 60).map (fun i => (i.zero, i.size, i.bytes)) = some (some (.agg #[.int .i64 0, .slice none 0 0]), 2, 32) := by kernel_rfl
/-- A branch that is being drawn up in box R5, its list sv; W2: the world ahead of the loop. -/
structure BrI (p : List Int) (f : Nat) (W2 wr : World) (R5 : Nat) (n : Int) (sv : Value) (zs : List (Int × Value)) : Prop where
  grow : W2.grownBy wr (some R5)
  lt : R5 < W2.heap.size
  box : wr.heap[R5]? = some (.cells #[.int .i64 n, sv] 60 (0, 0))
  own : wr.ownsRow W2.heap.size 60 2 sv zs.length (brF zs)
  kids : ∀ r ∈ zs, ∃ lo hi a' n' c', W2.heap.size ≤ lo ∧ hi ≤ wr.heap.size ∧ (∀ g, sv.ownBlock = some g → ¬ span lo hi g) ∧ r.2 = .slice a' n' c' ∧ BrS p wr (span lo hi) f r.1 r.2
theorem BrI.cells {p : List Int} {f : Nat} {W2 wr : World} {R5 : Nat} {n : Int} {sv : Value} {zs : List (Int × Value)} (h : BrI p f W2 wr R5 n sv zs) : wr.cell? ⟨R5, 0, none⟩ = some (.int .i64 n) ∧ wr.cell? ⟨R5, 1, none⟩ = some sv ∧ (∀ j, wr.frozen? ⟨R5, j, none⟩ = false) := by
  refine ⟨?_, ?_, fun j => ?_⟩
  · simp [World.cell?, h.box]
  · simp [World.cell?, h.box]
  · simp [World.frozen?, h.box]
/-- A step that turns nothing that lay. -/
theorem BrI.below {p : List Int} {f : Nat} {W2 wr w1 : World} {R5 : Nat} {n : Int} {sv : Value} {zs : List (Int × Value)} (h : BrI p f W2 wr R5 n sv zs) (l : Below wr.heap.size wr w1) : BrI p f W2 w1 R5 n sv zs := by
  refine ⟨grown_trans h.grow ⟨l.os, l.tape, l.output, l.size, fun k hk _ => l.block k hk⟩, h.lt, (l.block R5 (Array.getElem?_eq_some_iff.1 h.box).1).trans h.box, ownz_below h.own l (Nat.le_refl _), fun r hr => ?_⟩
  obtain ⟨lo, hi, a', n', c', h1, h2, h3, h4, h5⟩ := h.kids r hr
  exact ⟨lo, hi, a', n', c', h1, Nat.le_trans h2 l.size, h3, h4, h5.kept (fun _ q => q) (fun k cur fz hd _ => l.block k (by have := hd.2; omega))⟩
/-- One branch more: the list has grown, the box is still to be set. -/
theorem BrI.app {p : List Int} {f : Nat} {W2 wr w4 w6 : World} {R5 : Nat} {n x : Int} {sv v' : Value} {zs : List (Int × Value)} {a' : Option Addr} {n' c' : Nat} (h : BrI p f W2 wr R5 n sv zs) (l : Below wr.heap.size wr w4)
    (hs : BrS p w4 (span wr.heap.size w4.heap.size) f x (.slice a' n' c'))
    (ho : w6.ownsRow W2.heap.size 60 2 v' (zs.length + 1) (brF zs ++ [.int .i64 x, .slice a' n' c'])) (hg : (w4.alloc (.cells #[.int .i64 x, .slice a' n' c'] 60)).grownBy w6 sv.ownBlock)
    (hat : v'.ownBlock = sv.ownBlock ∨ v'.ownBlock = some (w4.alloc (.cells #[.int .i64 x, .slice a' n' c'] 60)).heap.size) :
    ∃ g6 c6, v' = .slice (some ⟨g6, 0, none⟩) (zs.length + 1) c6 ∧ w6.heap[R5]? = some (.cells #[.int .i64 n, sv] 60 (0, 0)) ∧ W2.grownBy w6 (some R5) ∧
      BrI p f W2 (w6.setCell ⟨R5, 1, none⟩ (.slice (some ⟨g6, 0, none⟩) (zs.length + 1) c6)) R5 n (.slice (some ⟨g6, 0, none⟩) (zs.length + 1) c6) (zs ++ [(x, .slice a' n' c')]) := by
  have h4 := h.below l
  have e1 : (zs ++ [(x, Value.slice a' n' c')]).length = zs.length + 1 := by simp
  have hsz4 := l.size
  have hszW := h.grow.size
  have hneR : ∀ g, sv.ownBlock = some g → g ≠ R5 := fun g hg5 e => by have := (h.own.lt g hg5).1; have := h.lt; omega
  have hbx : w6.heap[R5]? = some (.cells #[.int .i64 n, sv] 60 (0, 0)) := by
    refine (hg.block R5 (by simp; have := (Array.getElem?_eq_some_iff.1 h4.box).1; omega) (fun e => hneR R5 e.symm rfl)).trans ?_
    exact (Below.heap_alloc _ _ _ (Array.getElem?_eq_some_iff.1 h4.box).1).trans h4.box
  have hgW : W2.grownBy w6 (some R5) := by
    have g1 : W2.grownBy (w4.alloc (.cells #[.int .i64 x, .slice a' n' c'] 60)) (some R5) := grown_trans h4.grow (World.grownBy_alloc _ _ _)
    refine ⟨hg.os.trans g1.os, hg.tape.trans g1.tape, hg.output.trans g1.output, Nat.le_trans g1.size hg.size, fun k hk hne => ?_⟩
    refine (hg.block k (Nat.lt_of_lt_of_le hk g1.size) (fun e => ?_)).trans (g1.block k hk hne)
    have := (h.own.lt k e.symm).1
    omega
  obtain ⟨g6, c6, rfl⟩ := ownz_form ho (by omega)
  have hg6 := (ho.lt g6 rfl).1
  have hne6 : g6 ≠ R5 := by have := h.lt; omega
  have q6 : w6.grownBy (w6.setCell ⟨R5, 1, none⟩ (.slice (some ⟨g6, 0, none⟩) (zs.length + 1) c6)) (some R5) :=
    ⟨rfl, rfl, rfl, by show w6.heap.size ≤ (w6.heap.modify _ _).size; rw [Array.size_modify]; exact Nat.le_refl _, fun k _ hk => Below.heap_setCell _ _ _ k (fun e => hk (by rw [e]))⟩
  have hfar : ∀ lo hi, hi ≤ w4.heap.size → (∀ g, sv.ownBlock = some g → ¬ span lo hi g) → W2.heap.size ≤ lo → (∀ g, g6 = g → ¬ span lo hi g) ∧ ∀ k, span lo hi k → (w6.setCell ⟨R5, 1, none⟩ (.slice (some ⟨g6, 0, none⟩) (zs.length + 1) c6)).heap[k]? = w4.heap[k]? := by
    intro lo hi h1 h2 h3
    refine ⟨fun g e hsp => ?_, fun k hk => ?_⟩
    · subst e
      rcases hat with e2 | e2
      · exact h2 g6 e2.symm hsp
      · have e3 : g6 = (w4.alloc (.cells #[.int .i64 x, .slice a' n' c'] 60)).heap.size := Option.some.inj e2
        rw [World.size_alloc] at e3
        have := hsp.2
        omega
    · have k1 := hk.1
      have k2 := hk.2
      have hR := h.lt
      refine (q6.block k (by have := hg.size; simp at this; omega) (fun e => by have := Option.some.inj e; omega)).trans ?_
      refine (hg.block k (by simp; omega) (fun e => h2 k e.symm hk)).trans ?_
      exact Below.heap_alloc _ _ _ (by omega)
  refine ⟨g6, c6, rfl, hbx, hgW, grown_trans hgW q6, h.lt, ?_, ?_, fun r hr => ?_⟩
  · have hlt := (Array.getElem?_eq_some_iff.1 hbx).1
    rw [setCell_eq_setRow w6 R5 1 #[.int .i64 n, sv] 60 (0, 0) _ hbx]
    exact setRow_heap w6 R5 _ _ _ _ hbx
  · rw [e1, brF_snoc]
    exact ho.kept q6 (.inr (fun e => hne6 (Option.some.inj e)))
  · rcases List.mem_append.1 hr with hr | hr
    · obtain ⟨lo, hi, a2, n2, c2, h1, h2, h3, h4', h5⟩ := h.kids r hr
      obtain ⟨f1, f2⟩ := hfar lo hi (by omega) h3 h1
      have hsz6 : w6.heap.size ≤ (w6.setCell ⟨R5, 1, none⟩ (.slice (some ⟨g6, 0, none⟩) (zs.length + 1) c6)).heap.size := q6.size
      have hs46 := hg.size
      simp at hs46
      exact ⟨lo, hi, a2, n2, c2, h1, by omega, fun g e => f1 g (Option.some.inj e), h4', h5.kept (fun _ q => q) (fun k cur fz hd _ => (f2 k hd).trans (l.block k (by have := hd.2; omega)))⟩
    · rw [List.mem_singleton] at hr
      subst hr
      obtain ⟨f1, f2⟩ := hfar wr.heap.size w4.heap.size (Nat.le_refl _) (fun g e hsp => by have := (h.own.lt g e).2; have := hsp.1; omega) hszW
      have hsz6 : w6.heap.size ≤ (w6.setCell ⟨R5, 1, none⟩ (.slice (some ⟨g6, 0, none⟩) (zs.length + 1) c6)).heap.size := q6.size
      have hs46 := hg.size
      simp at hs46
      exact ⟨wr.heap.size, w4.heap.size, a', n', c', hszW, by omega, fun g e => f1 g (Option.some.inj e), rfl, hs.kept (fun _ q => q) (fun k cur fz hd _ => f2 k hd)⟩
end Go.Proofs.Ytejdphfcogfcmaa
