/-
  Holds: rows of holds, the block of a hold.
-/
import Derived.Test.YtlendmiolhgecaaOwnZ
import Derived.Test.YtlendmiolhgecaaSrcMath
import Derived.Test.YtlendmiolhgecaaSer
import Derived.Test.YtlendmiolhgecaaAppRow
import Derived.Test.YtlendmiolhgecaaBox
import Derived.Deep.RegionHeld3
import Derived.Deep.CutRange
import Derived.Deep.QuietTactic
import Derived.BigQuiet
namespace Go.Proofs.Ytlendmiolhgecaa
open Go.RowKit Go.Lib Go.Joins
set_option linter.unusedVariables false

def hdC (t : Hd) : List Value := [.int .i64 t.n, .int .i64 t.u]
theorem hdC_len (t : Hd) : (hdC t).length = 2 := rfl
/-- The cells of a list of holds. -/
def hdF (s : List Hd) : List Value := flatZ hdC s
theorem hdF_len (s : List Hd) : (hdF s).length = s.length * 2 := flat_len hdC_len s
theorem hd_open {w : World} {v : Value} {s : List Hd} (hrow : Row w v s.length (hdF s)) :
    ∃ a cap, v = .slice a s.length cap ∧ s.length ≤ cap ∧ cap ≤ maxLen ∧ ∀ k (h : k < s.length), ∃ b off, a = some ⟨b, off, none⟩ ∧ b < w.heap.size ∧ w.cell? ⟨b, off + k * 2, none⟩ = some (.int .i64 s[k].n) ∧ w.cell? ⟨b, off + k * 2 + 1, none⟩ = some (.int .i64 s[k].u) := by
  obtain ⟨a, cap, rfl, h1, h2, h3⟩ := rowz_open hdC_len (by omega) hrow
  refine ⟨a, cap, rfl, h1, h2, fun k h => ?_⟩
  obtain ⟨b, off, rfl, hb, hc⟩ := h3 k h
  exact ⟨b, off, rfl, hb, by simpa using hc 0 _ rfl, by simpa [Nat.add_assoc] using hc 1 _ rfl⟩
theorem row_hd {w : World} {a : Option Addr} {cap : Nat} {s : List Hd} {k : Nat} (hrow : Row w (.slice a s.length cap) s.length (hdF s)) (h : k < s.length) :
    ∃ b off, a = some ⟨b, off, none⟩ ∧ b < w.heap.size ∧ w.cell? ⟨b, off + k * 2, none⟩ = some (.int .i64 s[k].n) ∧ w.cell? ⟨b, off + k * 2 + 1, none⟩ = some (.int .i64 s[k].u) := by
  obtain ⟨a2, c2, e, _, _, h3⟩ := hd_open hrow
  injection e with e1 e2 e3
  subst e1
  exact h3 k h
/-- A hold as a value. -/
def hdV (t : Hd) : Value := .agg #[.int .i64 t.n, .int .i64 t.u]
/-- The block of a hold. -/
def Hb (w : World) (R : Nat) (t : Hd) : Prop := w.heap[R]? = some (.cells #[.int .i64 t.n, .int .i64 t.u] 82 (0, 0))
theorem Hb.cells {w : World} {R : Nat} {t : Hd} (h : Hb w R t) : w.cell? ⟨R, 0, none⟩ = some (.int .i64 t.n) ∧ w.cell? ⟨R, 1, none⟩ = some (.int .i64 t.u) := by
  unfold Hb at h
  refine ⟨?_, ?_⟩ <;> simp [World.cell?, h]
theorem Hb.lt {w : World} {R : Nat} {t : Hd} (h : Hb w R t) : R < w.heap.size := (Array.getElem?_eq_some_iff.1 h).1
theorem Hb.below {w w' : World} {R B : Nat} {t : Hd} (h : Hb w R t) (hb : Below B w w') (hB : R < B) : Hb w' R t := (hb.block R hB).trans h
theorem Hb.new (w : World) (t : Hd) : Hb (w.alloc (.cells #[.int .i64 t.n, .int .i64 t.u] 82)) w.heap.size t := heap_alloc_new w _
theorem isHd : IsBox 82 2 := fun w g cs hn h => run_loadVar_row w g 82 82 cs (0, 0) _ h Try.underlying82 (by rfl) (by rw [hn]; kernel_rfl)
end Go.Proofs.Ytlendmiolhgecaa
