/-
  The walks of the checksum functions: what the calls return.
-/
import Derived.Test.YtjdlkkhkaobpnaaDoorProg
import Derived.Test.YtjdlkkhkaobpnaaDoorBase
import Derived.Test.YtjdlkkhkaobpnaaDoorMath1
import Derived.WalkKit
import Derived.Lib.Hide
import Derived.ShapedOpen
namespace Go.Proofs.YtjdlkkhkaobpnaaDoor
open Go.RowKit Go.Lib

set_option maxHeartbeats 400000 in
theorem l1Sum_any (s : ByteArray) (w : World) (hs : s.size ≤ maxLen) :
    Calls Tryd.prog 43 #[.string s] w fun e w' => e = .returned (.int .i64 (M.ck s.data.toList)) ∧ w = w' := by
  unfold maxLen at hs
  go_enter Tryd.func43, Tryd.ntmps43
  go_wp2
  go_loop [3, 4] (fun n i => ∃ k : Nat, k ≤ s.size ∧ i = .int .i64 k ∧ n = .int .i64 (M.ck (s.data.toList.take k))) (fun _ i => s.size - (intOf i).toNat)
  case atStart => exact ⟨0, Nat.zero_le _, rfl, rfl⟩
  case round =>
    obtain ⟨k, hk, rfl, rfl⟩ := hrel
    obtain ⟨hb0, hb1⟩ := M.ck_bd (s.data.toList.take k)
    by_cases hlt : k < s.size
    · have HS := Lib.hid (M.ck_take s k hlt)
      have hu : s[k].toNat < 256 := s[k].toNat_lt
      go_wp2
      go_round
      case rel => exact ⟨k + 1, by omega, by go_num, by rw [HS.out]⟩
      case measure => simp [intOf]; omega
    · go_wp2
      go_ret
      have : k = s.size := by omega
      exact ⟨ret_int (by rw [this, M.take_all]), rfl⟩

/-- 'Checksum' of both packages: its two results. -/
def ckOut (s : ByteArray) : Value := if s.size ≤ 4000 then .tuple #[.int .i64 (M.ck s.data.toList), .bool true] else .tuple #[.int .i64 0, .bool false]
theorem ckOut_yes {s : ByteArray} (h : s.size ≤ 4000) : ckOut s = .tuple #[.int .i64 (M.ck s.data.toList), .bool true] := if_pos h
theorem ckOut_no {s : ByteArray} (h : ¬ s.size ≤ 4000) : ckOut s = .tuple #[.int .i64 0, .bool false] := if_neg h

set_option maxHeartbeats 400000 in
theorem implChecksum_any (s : ByteArray) (w : World) (hs : s.size ≤ maxLen) :
    Calls Tryd.prog 31 #[.string s] w fun e w' => e = .returned (ckOut s) ∧ w = w' := by
  unfold maxLen at hs
  by_cases h : s.size ≤ 4000
  · rw [ckOut_yes h]
    go_enter Tryd.func31, Tryd.ntmps31
    go_wp2
    go_loop [4, 11] (fun n i => ∃ k : Nat, k ≤ s.size ∧ i = .int .i64 k ∧ n = .int .i64 (M.ck (s.data.toList.take k))) (fun _ i => s.size - (intOf i).toNat)
    case atStart => exact ⟨0, Nat.zero_le _, rfl, rfl⟩
    case round =>
      obtain ⟨k, hk, rfl, rfl⟩ := hrel
      obtain ⟨hb0, hb1⟩ := M.ck_bd (s.data.toList.take k)
      by_cases hlt : k < s.size
      · have HS := Lib.hid (M.ck_take s k hlt)
        have hu : s[k].toNat < 256 := s[k].toNat_lt
        go_wp2
        go_round
        case rel => exact ⟨k + 1, by omega, by go_num, by rw [HS.out]⟩
        case measure => simp [intOf]; omega
      · go_wp2
        go_ret2
        obtain rfl : k = s.size := by omega
        exact ⟨by rw [M.take_all]; rfl, rfl⟩
  · rw [ckOut_no h]
    go_enter Tryd.func31, Tryd.ntmps31
    go_wp2
    go_ret2
    exact ⟨rfl, rfl⟩

end Go.Proofs.YtjdlkkhkaobpnaaDoor
