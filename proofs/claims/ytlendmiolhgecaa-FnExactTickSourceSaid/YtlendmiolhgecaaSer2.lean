/-
  Serials: 'AfterSerial', 'SerialGap', 'IsBefore', 'InSpan', 'LaterSerial' of both packages.
-/
import Derived.Test.YtlendmiolhgecaaSer
namespace Go.Proofs.Ytlendmiolhgecaa
open Go.RowKit Go.Lib

theorem ret_ib {a b : Int} {c d : Bool} (h : a = b) (h' : c = d) : Ending.returned (.tuple #[.int .i64 a, .bool c]) = .returned (.tuple #[.int .i64 b, .bool d]) := by rw [h, h']
theorem ret_bb {a b : Bool} {c d : Bool} (h : a = b) (h' : c = d) : Ending.returned (.tuple #[.bool a, .bool c]) = .returned (.tuple #[.bool b, .bool d]) := by rw [h, h']

def aftOk (x n : Int) : Bool := serB x && inB n (-65536) 65536
def aftV (x n : Int) : Int := if aftOk x n = true then aftI x n else 0
def gapOk (a b : Int) : Bool := serB a && serB b
def gapV (a b : Int) : Int := if gapOk a b = true then gapI a b else 0
def befB (a b : Int) : Bool := inB (gapI a b) 1 32767
def befV (a b : Int) : Bool := gapOk a b && befB a b
def spanOk (x a n : Int) : Bool := serB x && (serB a && inB n 0 65536)
def spanV (x a n : Int) : Bool := spanOk x a n && decide (gapI a x < n)
def latV (a b : Int) : Int := if gapOk a b = true then (if befB a b = true then b else a) else 0

theorem aftOk_bd {x n : Int} (h : aftOk x n = true) : 0 ≤ x ∧ x ≤ 65535 ∧ -65536 ≤ n ∧ n ≤ 65536 := by
  unfold aftOk at h
  simp only [Bool.and_eq_true] at h
  have := serB_bd h.1
  have := inB_bd h.2
  omega
theorem gapOk_bd {a b : Int} (h : gapOk a b = true) : 0 ≤ a ∧ a ≤ 65535 ∧ 0 ≤ b ∧ b ≤ 65535 := by
  unfold gapOk at h
  simp only [Bool.and_eq_true] at h
  have := serB_bd h.1
  have := serB_bd h.2
  omega
theorem spanOk_bd {x a n : Int} (h : spanOk x a n = true) : 0 ≤ x ∧ x ≤ 65535 ∧ 0 ≤ a ∧ a ≤ 65535 ∧ 0 ≤ n ∧ n ≤ 65536 := by
  unfold spanOk at h
  simp only [Bool.and_eq_true] at h
  have := serB_bd h.1
  have := serB_bd h.2.1
  have := inB_bd h.2.2
  omega

theorem row_two (w : World) (a b : Int) : Row (w.alloc (.cells #[.int .i64 a, .int .i64 b] 3)) (.slice (some ⟨w.heap.size, 0, none⟩) 2 2) [a, b].length ([a, b].map (Value.int .i64)) :=
  row_made w [.int .i64 a, .int .i64 b] 3 2 rfl (by unfold maxLen; omega)

end Go.Proofs.Ytlendmiolhgecaa
