/-
  LessString of both packages.
-/
import Derived.Test.YtjdlkkhkaobpnaaProg
import Derived.Test.YtjdlkkhkaobpnaaBase
namespace Go.Proofs.Ytjdlkkhkaobpnaa
open Go.RowKit

/-- Whether one text is before another. -/
def lessB (a b : ByteArray) : Bool := Op.bytesLess a.toList b.toList

theorem bytesLess_asymm : ∀ (l m : List UInt8), Op.bytesLess l m = true → Op.bytesLess m l = false
  | [], [], h => by simp [Op.bytesLess] at h
  | [], _ :: _, _ => by simp [Op.bytesLess]
  | _ :: _, [], h => by simp [Op.bytesLess] at h
  | x :: l, y :: m, h => by
    simp only [Op.bytesLess, Bool.or_eq_true, Bool.and_eq_true, decide_eq_true_eq, beq_iff_eq] at h
    simp only [Op.bytesLess, Bool.or_eq_false_iff, Bool.and_eq_false_iff, decide_eq_false_iff_not, beq_eq_false_iff_ne]
    rcases h with h | ⟨rfl, h⟩
    · have h1 := UInt8.lt_iff_toNat_lt.1 h
      refine ⟨fun h2 => ?_, .inl (fun e => ?_)⟩
      · have := UInt8.lt_iff_toNat_lt.1 h2; omega
      · subst e; omega
    · refine ⟨fun h2 => ?_, .inr (bytesLess_asymm l m h)⟩
      have := UInt8.lt_iff_toNat_lt.1 h2; omega
theorem less_asymm (a b : ByteArray) (h : lessB a b = true) : lessB b a = false := bytesLess_asymm _ _ h

theorem implLess_any (a b : ByteArray) (w : World) :
    Calls Try.prog 15 #[.string a, .string b] w fun e w' => e = .returned (.bool (lessB a b)) ∧ w = w' := by
  go_enter Try.func15, Try.ntmps15
  go_wp2
  go_ret
  exact ⟨rfl, rfl⟩
theorem specLess_any (a b : ByteArray) (w : World) :
    Calls Try.prog 16 #[.string a, .string b] w fun e w' => e = .returned (.bool (lessB a b)) ∧ w = w' := by
  go_enter Try.func16, Try.ntmps16
  go_wp2
  go_ret
  exact ⟨rfl, rfl⟩
end Go.Proofs.Ytjdlkkhkaobpnaa
