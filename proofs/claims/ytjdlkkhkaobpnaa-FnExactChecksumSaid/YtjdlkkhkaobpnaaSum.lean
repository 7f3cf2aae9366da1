/-
  The walks of the checksum functions: what the calls return.
-/
import Derived.Test.YtjdlkkhkaobpnaaProg
import Derived.Test.YtjdlkkhkaobpnaaMath1
import Derived.WalkKit
import Derived.Lib.Hide
import Derived.ShapedOpen
namespace Go.Proofs.Ytjdlkkhkaobpnaa
open Go.RowKit Go.Lib

theorem ret_int {k : IntKind} {a b : Int} (h : a = b) : Ending.returned (.int k a) = .returned (.int k b) := by rw [h]

set_option maxHeartbeats 400000 in
theorem l1Sum_any (s : ByteArray) (w : World) (hs : s.size ≤ maxLen) :
    Calls Try.prog 35 #[.string s] w fun e w' => e = .returned (.int .i64 (M.ck s.data.toList)) ∧ w = w' := by
  unfold maxLen at hs
  go_enter Try.func35, Try.ntmps35
  go_wp2
  go_loop [3, 4] (fun n i => ∃ k : Nat, k ≤ s.size ∧ i = .int .i64 k ∧ n = .int .i64 (M.ck (s.data.toList.take k))) (fun _ i => s.size - (intOf i).toNat)
  case atStart => exact ⟨0, Nat.zero_le _, rfl, rfl⟩
  case round =>
    obtain ⟨k, hk, rfl, rfl⟩ := hrel
    obtain ⟨hb0, hb1⟩ := M.ck_bd (s.data.toList.take k)
    by_cases hlt : k < s.size
    · have HS := Lib.hid (M.ck_take s k hlt)
      have hu : s[k].toNat < 256 := s[k].toNat_lt
      go_wp2
      go_round
      case rel => exact ⟨k + 1, by omega, by go_num, by rw [HS.out]⟩
      case measure => simp [intOf]; omega
    · go_wp2
      go_ret
      have : k = s.size := by omega
      exact ⟨ret_int (by rw [this, M.take_all]), rfl⟩

/-- 'Checksum' of both packages: its two results. -/
def ckOut (s : ByteArray) : Value := if s.size ≤ 4000 then .tuple #[.int .i64 (M.ck s.data.toList), .bool true] else .tuple #[.int .i64 0, .bool false]
theorem ckOut_yes {s : ByteArray} (h : s.size ≤ 4000) : ckOut s = .tuple #[.int .i64 (M.ck s.data.toList), .bool true] := if_pos h
theorem ckOut_no {s : ByteArray} (h : ¬ s.size ≤ 4000) : ckOut s = .tuple #[.int .i64 0, .bool false] := if_neg h

theorem specChecksum_any (s : ByteArray) (w : World) (hs : s.size ≤ maxLen) :
    Calls Try.prog 23 #[.string s] w fun e w' => e = .returned (ckOut s) ∧ w = w' := by
  by_cases h : s.size ≤ 4000
  · rw [ckOut_yes h]
    go_enter Try.func23, Try.ntmps23
    go_wp2_with (go_at_call 35; refine (l1Sum_any _ _ hs).mono ?_; rintro e w' ⟨rfl, rfl⟩)
    go_ret2
    exact ⟨rfl, rfl⟩
  · rw [ckOut_no h]
    go_enter Try.func23, Try.ntmps23
    go_wp2_with fail
    go_ret2
    exact ⟨rfl, rfl⟩

set_option maxHeartbeats 400000 in
theorem implChecksum_any (s : ByteArray) (w : World) (hs : s.size ≤ maxLen) :
    Calls Try.prog 24 #[.string s] w fun e w' => e = .returned (ckOut s) ∧ w = w' := by
  unfold maxLen at hs
  by_cases h : s.size ≤ 4000
  · rw [ckOut_yes h]
    go_enter Try.func24, Try.ntmps24
    go_wp2
    go_loop [4, 11] (fun n i => ∃ k : Nat, k ≤ s.size ∧ i = .int .i64 k ∧ n = .int .i64 (M.ck (s.data.toList.take k))) (fun _ i => s.size - (intOf i).toNat)
    case atStart => exact ⟨0, Nat.zero_le _, rfl, rfl⟩
    case round =>
      obtain ⟨k, hk, rfl, rfl⟩ := hrel
      obtain ⟨hb0, hb1⟩ := M.ck_bd (s.data.toList.take k)
      by_cases hlt : k < s.size
      · have HS := Lib.hid (M.ck_take s k hlt)
        have hu : s[k].toNat < 256 := s[k].toNat_lt
        go_wp2
        go_round
        case rel => exact ⟨k + 1, by omega, by go_num, by rw [HS.out]⟩
        case measure => simp [intOf]; omega
      · go_wp2
        go_ret2
        obtain rfl : k = s.size := by omega
        exact ⟨by rw [M.take_all]; rfl, rfl⟩
  · rw [ckOut_no h]
    go_enter Try.func24, Try.ntmps24
    go_wp2
    go_ret2
    exact ⟨rfl, rfl⟩

set_option maxHeartbeats 400000 in
theorem fnExactChecksum_walk (w : World) (a0 : ByteArray) (w0 : a0.size ≤ maxLen) (_hsh : w.ShapedOpen Try.prog) :
    Calls Try.prog 7 #[.string a0] w fun e w' => e = .returned (.bool true) ∧ Below w.heap.size w w' := by
  by_cases h : a0.size ≤ 4000
  all_goals
    go_enter Try.func7, Try.ntmps7
    go_wp2_with (first | (go_at_call 23; refine (specChecksum_any _ _ w0).mono ?_; rintro e w' ⟨rfl, rfl⟩; first | rw [ckOut_yes h] | rw [ckOut_no h]) | (go_at_call 24; refine (implChecksum_any _ _ w0).mono ?_; rintro e w' ⟨rfl, rfl⟩; first | rw [ckOut_yes h] | rw [ckOut_no h]))
    all_goals
      go_ret
      exact ⟨rfl, Below.refl _ _⟩
end Go.Proofs.Ytjdlkkhkaobpnaa
