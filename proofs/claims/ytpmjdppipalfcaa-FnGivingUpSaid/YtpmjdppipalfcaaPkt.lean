/-
  Packets: letters, validity, check, octets, digits and texts of the specification.
-/
import Derived.Test.YtpmjdppipalfcaaPktMath
import Derived.Test.YtpmjdppipalfcaaInts
import Derived.Test.YtpmjdppipalfcaaAppRow
import Derived.Laws.DeepStrings4
import Derived.Maps.AppendAt
import Derived.Deep.QuietTactic
import Derived.BigQuiet
import Derived.IntWalk
import Derived.WalkLawsBesides
import Derived.WalkArith
namespace Go.Proofs.Ytpmjdppipalfcaa
open Go.RowKit Go.Lib
set_option linter.unusedVariables false

/-- A packet as a value. -/
def pv (k n t l : Int) (d : ByteArray) : Value := .agg #[.int .i64 k, .int .i64 n, .int .i64 t, .int .i64 l, .string d]
theorem ltr_lo {s : ByteArray} {k : Nat} (hk : k < s.size) (h : s[k].toNat < 97) : ltrB s = false := by
  unfold ltrB
  rw [Bool.eq_false_iff]
  intro e
  rw [List.all_eq_true] at e
  have := e s[k] (by have e2 : s[k] = s.data.toList[k]'hk := rfl; rw [e2]; exact List.getElem_mem _)
  unfold letB at this
  simp only [Bool.and_eq_true, decide_eq_true_eq] at this
  omega
theorem ltr_hi {s : ByteArray} {k : Nat} (hk : k < s.size) (h : 122 < s[k].toNat) : ltrB s = false := by
  unfold ltrB
  rw [Bool.eq_false_iff]
  intro e
  rw [List.all_eq_true] at e
  have := e s[k] (by have e2 : s[k] = s.data.toList[k]'hk := rfl; rw [e2]; exact List.getElem_mem _)
  unfold letB at this
  simp only [Bool.and_eq_true, decide_eq_true_eq] at this
  omega
def ltrT (s : ByteArray) (k : Nat) : Bool := (s.data.toList.take k).all letB
theorem ltrT_succ {s : ByteArray} {k : Nat} (hk : k < s.size) (h : ltrT s k = true) (h0 : 97 ≤ s[k].toNat) (h1 : s[k].toNat ≤ 122) : ltrT s (k + 1) = true := by
  have hk' : k < s.data.toList.length := hk
  have e2 : s[k] = s.data.toList[k]'hk := rfl
  unfold ltrT at h ⊢
  rw [List.take_succ_eq_append_getElem hk', List.all_append, h, ← e2]
  simp [letB, h0, h1]
theorem ltrT_all (s : ByteArray) : ltrT s s.size = ltrB s := by
  unfold ltrT ltrB
  rw [show s.data.toList.take s.size = s.data.toList from List.take_of_length_le (Nat.le_refl _)]

set_option maxHeartbeats 400000 in
theorem l4Letters_any (s : ByteArray) (m : Nat) (w : World) (hs : s.size ≤ maxLen) (hm : m ≤ 1000) :
    Calls Try.prog 63 #[.string s, .int .i64 m] w fun e w' => e = .returned (.bool (ltrB s && decide (s.size ≤ m))) ∧ w = w' := by
  unfold maxLen at hs
  go_enter Try.func63, Try.ntmps63
  go_wp2_with fail
  go_loop [5] (fun i => ∃ k : Nat, k ≤ s.size ∧ i = .int .i64 k ∧ Hid (ltrT s k = true)) (fun i => s.size - (intOf i).toNat)
  case atStart => exact ⟨0, Nat.zero_le _, rfl, Lib.hid (by simp [ltrT])⟩
  case round =>
    obtain ⟨k, hk, rfl, HL⟩ := hrel
    by_cases hks : k < s.size
    · have hu : s[k].toNat < 256 := s[k].toNat_lt
      by_cases h0 : s[k].toNat < 97
      · have h0' : (s[k].toNat : Int) < 97 := by omega
        have HF := Lib.hid (ltr_lo hks h0)
        go_wp2_with fail
        go_ret
        exact ⟨ret_bool (by rw [HF.out]; rfl), rfl⟩
      · have h0' : ¬ (s[k].toNat : Int) < 97 := by omega
        by_cases h1 : 122 < s[k].toNat
        · have h1' : (122 : Int) < (s[k].toNat : Int) := by omega
          have HF := Lib.hid (ltr_hi hks h1)
          go_wp2_with fail
          go_ret
          exact ⟨ret_bool (by rw [HF.out]; rfl), rfl⟩
        · have h1' : ¬ (122 : Int) < (s[k].toNat : Int) := by omega
          have HS := Lib.hid (ltrT_succ hks HL.out (by omega) (by omega))
          go_wp2_with fail
          go_round
          case rel => exact ⟨k + 1, by omega, by go_num, HS⟩
          case measure => simp [intOf]; omega
    · obtain rfl : k = s.size := by omega
      have HF : Hid (ltrB s = true) := Lib.hid (by rw [← ltrT_all]; exact HL.out)
      go_wp2_with fail
      go_ret
      refine ⟨ret_bool ?_, rfl⟩
      rw [HF.out, Bool.true_and]
theorem str_ne {d : ByteArray} (h : d.size ≠ 0) : (d.toList == ([] : List UInt8)) = false := by
  rw [beq_eq_false_iff_ne]
  intro e
  apply h
  rw [ByteArray.toList_eq] at e
  have := congrArg List.length e
  exact this
theorem str_empty_eq (d : ByteArray) (h : d.size = 0) : d = ⟨#[]⟩ := by
  apply ByteArray.ext
  exact Array.eq_empty_of_size_eq_zero h
end Go.Proofs.Ytpmjdppipalfcaa
