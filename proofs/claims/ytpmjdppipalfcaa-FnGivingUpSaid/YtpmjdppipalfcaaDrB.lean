/-
  A struct with a slice that is being drawn: its block, the result's block, its row, beside the cursor.
-/
import Derived.Test.YtpmjdppipalfcaaDrawSer
import Derived.Test.YtpmjdppipalfcaaDrawn
import Derived.Test.YtpmjdppipalfcaaFit
import Derived.Test.YtpmjdppipalfcaaBox
namespace Go.Proofs.Ytpmjdppipalfcaa
open Go.RowKit Go.Lib Go.Joins
set_option linter.unusedVariables false

theorem some_neB {a b : Nat} (h : a ≠ b) : (some a : Option Nat) ≠ some b := fun e => h (Option.some.inj e)
theorem pickZ_any (B m : Nat) (x : Int) (z : List Int) (w : World) (h : Cu w B z m) (hm : m ≤ 900000) (h0 : 1 ≤ x) (hx : x ≤ 65536) :
    Calls Try.prog 82 #[.pointer (some ⟨B, 0, none⟩), .int .i64 x] w fun e w' => ∃ b : Nat, (b : Int) < x ∧ e = .returned (.int .i64 b) ∧ Cu w' B z (m + 2) ∧ w.grownBy w' (some B) := by
  obtain ⟨n, rfl⟩ : ∃ n : Nat, x = n := ⟨x.toNat, by omega⟩
  exact (pick_any B m n z w h hm (by omega) (by omega)).mono (fun e w' ⟨b, hb, he, hc, hg⟩ => ⟨b, by omega, he, hc, hg⟩)
theorem grown_anyB {w w' : World} {o : Option Nat} (h : w.grownBy w' none) : w.grownBy w' o := ⟨h.os, h.tape, h.output, h.size, fun k hk _ => h.block k hk (by simp)⟩
theorem gdrewB (W : World) (row : Option Nat) : W.grownBy W.drew row := ⟨rfl, rfl, rfl, Nat.le_refl _, fun _ _ _ => rfl⟩
structure DrB (w0 w : World) (B : Nat) (z : List Int) (m R Q : Nat) (cs zs : Array Value) (t et : TypeId) (u : Nat) (v : Value) (n : Nat) (xs : List Value) : Prop where
  cur : Cu w B z m
  box : Bx w R cs t
  res : Bx w Q zs t
  own : w.ownsRow w0.heap.size et u v n xs
  gr : w0.grownBy w (some B)
  hB : B < w0.heap.size
  hR : w0.heap.size ≤ R
  hQ : w0.heap.size ≤ Q
  ne : R ≠ Q
  nv : ∀ k, v.ownBlock = some k → k ≠ R ∧ k ≠ Q
variable {w0 w w' w1 : World} {B m m' R Q n u : Nat} {z : List Int} {cs zs : Array Value} {t et : TypeId} {v v' : Value} {xs : List Value}
theorem DrB.call (h : DrB w0 w B z m R Q cs zs t et u v n xs) (hc : Cu w' B z m') (hg : w.grownBy w' (some B)) : DrB w0 w' B z m' R Q cs zs t et u v n xs := by
  have hB := h.hB
  refine ⟨hc, h.box.grown hg (some_neB (by have := h.hR; omega)), h.res.grown hg (some_neB (by have := h.hQ; omega)), h.own.kept hg ?_, g_trans h.gr hg, hB, h.hR, h.hQ, h.ne, h.nv⟩
  cases hv : v.ownBlock with
  | none => exact .inl rfl
  | some k => exact .inr (some_neB (by have := (h.own.lt k hv).1; omega))
theorem DrB.mono (h : DrB w0 w B z m R Q cs zs t et u v n xs) (hm : m ≤ m') : DrB w0 w B z m' R Q cs zs t et u v n xs := ⟨h.cur.mono hm, h.box, h.res, h.own, h.gr, h.hB, h.hR, h.hQ, h.ne, h.nv⟩
theorem DrB.drew (h : DrB w0 w B z m R Q cs zs t et u v n xs) : DrB w0 w.drew B z m R Q cs zs t et u v n xs := h.call (h.cur.grown (gdrewB _ _)) (gdrewB _ _)
theorem DrB.alloc (h : DrB w0 w B z m R Q cs zs t et u v n xs) (o : Obj) : DrB w0 (w.alloc o) B z m R Q cs zs t et u v n xs := h.call (h.cur.grown (World.grownBy_alloc _ _ none)) (World.grownBy_alloc _ _ _)
/-- One cell of the block is set. -/
theorem DrB.put (h : DrB w0 w B z m R Q cs zs t et u v n xs) (i : Nat) (x : Value) : DrB w0 (w.setCell ⟨R, i, none⟩ x) B z m R Q (cs.setIfInBounds i x) zs t et u v n xs := by
  obtain ⟨p1, q1⟩ := h.box.set i x
  refine ⟨h.cur.grown' q1 (fun k hk => by have e2 : R = k := Option.some.inj hk; have := h.hR; have := h.hB; omega), p1, h.res.grown q1 (some_neB (Ne.symm h.ne)), h.own.kept q1 ?_, g_fresh h.gr q1 h.hR, h.hB, h.hR, h.hQ, h.ne, h.nv⟩
  cases hv : v.ownBlock with
  | none => exact .inl rfl
  | some k => exact .inr (some_neB (h.nv k hv).1)
/-- The row is grown; cell i of the block is set to it. -/
theorem DrB.app {o : Obj} {n' : Nat} {xs' : List Value} (h : DrB w0 w B z m R Q cs zs t et u v n xs) (i : Nat)
    (ho : w1.ownsRow w0.heap.size et u v' n' xs') (hg : (w.alloc o).grownBy w1 v.ownBlock) (hat : v'.ownBlock = v.ownBlock ∨ v'.ownBlock = some (w.alloc o).heap.size) :
    Bx w1 R cs t ∧ DrB w0 (w1.setCell ⟨R, i, none⟩ v') B z m R Q (cs.setIfInBounds i v') zs t et u v' n' xs' := by
  have ha := h.alloc o
  have hbR := ha.box.grown hg (fun e => (h.nv R e.symm).1 rfl)
  have hbQ := ha.res.grown hg (fun e => (h.nv Q e.symm).2 rfl)
  have hlR := ha.box.lt
  have hlQ := ha.res.lt
  have hB := h.hB
  have hcur : Cu w1 B z m := ha.cur.grown' hg (fun k hk => by have := (h.own.lt k hk).1; omega)
  have hgr : w0.grownBy w1 (some B) := by
    have g1 := ha.gr
    cases hv : v.ownBlock with
    | none => rw [hv] at hg; exact g_trans g1 (grown_anyB hg)
    | some k => rw [hv] at hg; exact g_fresh g1 hg (h.own.lt k hv).1
  have hnv : ∀ k, v'.ownBlock = some k → k ≠ R ∧ k ≠ Q := fun k hk => by
    rcases hat with h1 | h1
    · exact h.nv k (h1.symm.trans hk)
    · have e := Option.some.inj (h1.symm.trans hk)
      omega
  obtain ⟨p1, q1⟩ := hbR.set i v'
  refine ⟨hbR, hcur.grown' q1 (fun k hk => by have e2 : R = k := Option.some.inj hk; have := h.hR; omega), p1, hbQ.grown q1 (some_neB (Ne.symm h.ne)), ?_, g_fresh hgr q1 h.hR, hB, h.hR, h.hQ, h.ne, hnv⟩
  refine ho.kept q1 ?_
  cases hv : v'.ownBlock with
  | none => exact .inl rfl
  | some k => exact .inr (some_neB (hnv k hv).1)
/-- The block is laid behind the first calls. -/
theorem DrB.start {W : World} (hB : B < w.heap.size) (hc : Cu W B z m) (hg : (w.alloc (.cells zs t)).grownBy W (some B)) :
    DrB w (W.alloc (.cells cs t)) B z m W.heap.size w.heap.size cs zs t et 1 (.slice none 0 0) 0 [] := by
  have hq := (Bx.new w zs t).grown hg (some_neB (by omega))
  have hs := hq.lt
  refine ⟨hc.grown (World.grownBy_alloc _ _ none), Bx.new _ _ _, hq.alloc _, World.ownsRow_nil _ _ _ _, g_trans (g_trans (World.grownBy_alloc _ _ _) hg) (World.grownBy_alloc _ _ _), hB, by omega, Nat.le_refl _, by omega, fun k hk => by cases hk⟩
theorem cu_box {v : Value} (h : Bx w B #[v, .int .i64 0, .int .u64 0] 83) (hB : w0.heap.size ≤ B) (hb : Below w0.heap.size w0 w) (hrow : Row w0 v z.length (z.map (Value.int .u8))) (hz : ∀ x ∈ z, 0 ≤ x ∧ x < 256) : Cu w B z 0 := by
  refine ⟨⟨v, 0, 0, h, Nat.le_refl _, by decide, hrow.below hb (Nat.le_refl _), ?_⟩, hz⟩
  obtain ⟨a, cap, rfl, r1, r2, r3⟩ := hrow
  intro a' c' e hpos
  injection e with e1 _ _
  obtain ⟨b, off, rfl, hlt, _⟩ := r3 (by intro e; have := congrArg List.length e; simp at this; rw [this] at hpos; simp at hpos)
  injection e1 with e1
  subst e1
  show b < B
  omega
theorem cu_below (h : Cu w B z m) (hb : Below w.heap.size w w') : Cu w' B z m := h.grown ⟨hb.os, hb.tape, hb.output, hb.size, fun k hk _ => hb.block k hk⟩
end Go.Proofs.Ytpmjdppipalfcaa
