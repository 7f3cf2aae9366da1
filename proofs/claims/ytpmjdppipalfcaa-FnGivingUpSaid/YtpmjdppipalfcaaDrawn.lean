/-
  Lists that a draw has drawn so far, beside its cursor.
-/
import Derived.Test.YtpmjdppipalfcaaAmong
import Derived.Test.YtpmjdppipalfcaaAppRow
import Derived.Test.YtpmjdppipalfcaaInts
import Derived.Laws.DeepStrings4
import Derived.Maps.AppendAt
namespace Go.Proofs.Ytpmjdppipalfcaa
open Go.RowKit
set_option linter.unusedVariables false

theorem gbelow {w w' : World} {B0 B : Nat} (h : w.grownBy w' (some B)) (hB : B0 ≤ w.heap.size) (hr : B0 ≤ B) : Below B0 w w' := (Below.refl B0 w).grown h hB (fun k e => by cases e; exact hr)
theorem g_fresh {a b c : World} {row : Option Nat} {k : Nat} (h1 : a.grownBy b row) (h2 : b.grownBy c (some k)) (hk : a.heap.size ≤ k) : a.grownBy c row :=
  ⟨h2.os.trans h1.os, h2.tape.trans h1.tape, h2.output.trans h1.output, Nat.le_trans h1.size h2.size, fun q hq hn => (h2.block q (Nat.lt_of_lt_of_le hq h1.size) (by intro e; have : q = k := Option.some.inj e; omega)).trans (h1.block q hq hn)⟩
theorem own_cur {w w' : World} {base n B : Nat} {e : TypeId} {v : Value} {xs : List Value} (h : w.ownsRow base e 1 v n xs) (hg : w.grownBy w' (some B)) (hB : B < base) : w'.ownsRow base e 1 v n xs := by
  refine h.kept hg ?_
  cases hv : v.ownBlock with
  | none => exact .inl rfl
  | some k =>
    refine .inr fun e => ?_
    have := (h.lt k hv).1
    have e2 : k = B := Option.some.inj e
    omega

/-- A list that has been drawn so far: its slice lies in block g, behind the cursor's; its numbers are small. -/
def Drawn (w0 w : World) (B : Nat) (z : List Int) (m g c : Nat) (zs : List Int) : Prop :=
  w.ownsRow w0.heap.size 3 1 (.slice (some ⟨g, 0, none⟩) zs.length c) zs.length (zs.map (Value.int .i64)) ∧ Cu w B z m ∧ w0.grownBy w (some B) ∧ (∀ x ∈ zs, -1 ≤ x ∧ x ≤ 65536) ∧ B < w0.heap.size

theorem Drawn.cur {w0 w w' : World} {B m m' g c : Nat} {z zs : List Int} (h : Drawn w0 w B z m g c zs) (hc : Cu w' B z m') (hg : w.grownBy w' (some B)) : Drawn w0 w' B z m' g c zs :=
  ⟨own_cur h.1 hg h.2.2.2.2, hc, g_trans h.2.2.1 hg, h.2.2.2.1, h.2.2.2.2⟩
theorem Drawn.mono {w0 w : World} {B m m' g c : Nat} {z zs : List Int} (h : Drawn w0 w B z m g c zs) (hm : m ≤ m') : Drawn w0 w B z m' g c zs :=
  ⟨h.1, h.2.1.mono hm, h.2.2.1, h.2.2.2.1, h.2.2.2.2⟩
/-- One number more. -/
theorem Drawn.app {w0 w w1 : World} {B m g c : Nat} {z zs : List Int} {x : Int} {v' : Value} (h : Drawn w0 w B z m g c zs) (x0 : -1 ≤ x) (x1 : x ≤ 65536)
    (ho : w1.ownsRow w0.heap.size 3 1 v' (zs.length + 1) (zs.map (Value.int .i64) ++ [.int .i64 x])) (hg : (w.alloc (.cells #[.int .i64 x] 3)).grownBy w1 (some g)) :
    ∃ g' c', v' = .slice (some ⟨g', 0, none⟩) (zs ++ [x]).length c' ∧ Drawn w0 w1 B z m g' c' (zs ++ [x]) := by
  obtain ⟨g', c', rfl⟩ := own_form ho (by omega)
  have hgk : w0.heap.size ≤ g := (h.1.lt g rfl).1
  have e : (zs ++ [x]).length = zs.length + 1 := by simp
  refine ⟨g', c', by rw [e], ?_, ?_, ?_, ?_, h.2.2.2.2⟩
  · rw [e, List.map_append, List.map_singleton]
    exact ho
  · exact (h.2.1.grown (World.grownBy_alloc _ _ none)).grown' hg (fun k hk => by have e2 : g = k := Option.some.inj hk; have := h.2.2.2.2; omega)
  · exact g_fresh (g_trans h.2.2.1 (World.grownBy_alloc _ _ _)) hg hgk
  · intro y hy
    rcases List.mem_append.1 hy with hy | hy
    · exact h.2.2.2.1 y hy
    · simp at hy; omega
end Go.Proofs.Ytpmjdppipalfcaa
