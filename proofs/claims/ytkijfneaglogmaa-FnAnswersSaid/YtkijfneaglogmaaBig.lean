/-
  'vBig' of the laws.
-/
import Derived.Test.YtkijfneaglogmaaProg
import Derived.Test.YtkijfneaglogmaaBase
import Derived.Laws.AppendOwn
namespace Go.Proofs.Ytkijfneaglogmaa
open Go.RowKit

theorem vBigI_any (a : Option Addr) (n cap : Nat) (w : World) :
    Calls Try.prog 14 #[.slice a n cap] w fun e w' => e = .returned (.bool (decide ((65536 : Int) < n))) ∧ w = w' := by
  go_enter Try.func14, Try.ntmps14
  go_wp2
  go_ret
  exact ⟨rfl, rfl⟩
theorem vBig_row (v : Value) (n : Nat) (xs : List Value) (r : Bool) {w0 : World} (h : Row w0 v n xs) (hr : decide ((65536 : Int) < n) = r) (w : World) :
    Calls Try.prog 14 #[v] w fun e w' => e = .returned (.bool r) ∧ w = w' := by
  obtain ⟨a, cap, rfl, _⟩ := h
  rw [← hr]
  exact vBigI_any a n cap w
theorem own_slice_i {w : World} {base n : Nat} {e : TypeId} {v : Value} {xs : List Value} (h : w.ownsRow base e 1 v n xs) : ∃ a cap, v = .slice a n cap := by
  obtain ⟨hl, ⟨rfl, rfl⟩ | ⟨g, cap, cur, rfl, _⟩⟩ := h
  · exact ⟨_, _, rfl⟩
  · exact ⟨_, _, rfl⟩
end Go.Proofs.Ytkijfneaglogmaa
