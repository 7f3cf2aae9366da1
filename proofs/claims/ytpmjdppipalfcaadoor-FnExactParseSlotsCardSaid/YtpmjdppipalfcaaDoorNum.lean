/-
  The numerals: what 'l1Num' of the specification returns.
-/
import Derived.Test.YtpmjdppipalfcaaDoorProg
import Derived.Test.YtpmjdppipalfcaaDoorBase
import Derived.Lib.ItoaNum
import Derived.Deep.QuietTactic
import Derived.BigQuiet
import Derived.IntWalk
import Derived.ShutString
import Derived.Laws.Concat
import Derived.Laws.DeepStrings4
namespace Go.Proofs.YtpmjdppipalfcaaDoor
open Go.RowKit

theorem str_append (a b : List UInt8) : (⟨a.toArray⟩ ++ ⟨b.toArray⟩ : ByteArray) = ⟨(a ++ b).toArray⟩ := by
  apply ByteArray.ext; simp

theorem digit_piece (u : Nat) (h : u < 10) : ((⟨#[48, 49, 50, 51, 52, 53, 54, 55, 56, 57]⟩ : ByteArray).extract u (u + 1)) = ⟨#[UInt8.ofNat (48 + u)]⟩ := by
  have : ∀ i : Fin 10, ((⟨#[48, 49, 50, 51, 52, 53, 54, 55, 56, 57]⟩ : ByteArray).extract i.val (i.val + 1)) = ⟨#[UInt8.ofNat (48 + i.val)]⟩ := by decide +kernel
  exact this ⟨u, h⟩


set_option maxRecDepth 100000 in
set_option maxHeartbeats 400000 in
theorem l1Num_small (u : Nat) (h : u < 10) (w : World) :
    Calls Tryd.prog 80 #[.int .i64 u] w fun e w' => e = .returned (.string ⟨(Lib.decDigits u).toArray⟩) ∧ ∃ k, w' = w.drewN k := by
  have HD := Lib.hid (Lib.decDigits_one h)
  have hp := Lib.hid (digit_piece u h)
  go_enter Tryd.func80, Tryd.ntmps80
  go_wp2
  go_ret
  exact ⟨ret_str (by rw [HD.out]; exact hp.out), 0, rfl⟩

theorem nDigits_le (u : Nat) : Lib.nDigits u ≤ u + 1 := by
  induction u using Nat.strongRecOn with
  | ind u ih =>
    by_cases h : u < 10
    · rw [Lib.nDigits_small h]; omega
    · rw [Lib.nDigits_big h]; have := ih (u / 10) (by omega); omega

theorem num_wrap1 (u : Nat) (h : u < 1000000000000000000) : IntKind.i64.wrap ((u : Int) / 10) = (u : Int) / 10 := IntWalk.i64_in _ (by omega)
theorem num_tmod (u : Nat) : (u : Int).tmod 10 = (u : Int) % 10 := Int.tmod_eq_emod_of_nonneg (by omega)
theorem num_wrap2 (u : Nat) : IntKind.i64.wrap ((u : Int) % 10 + 1) = (u : Int) % 10 + 1 := IntWalk.i64_in _ (by omega)

set_option maxRecDepth 100000 in
set_option maxHeartbeats 400000 in
theorem l1Num_nat : ∀ (d u : Nat), u < 10 ^ (d + 1) → u < 1000000000000000000 → ∀ (w : World),
    Calls Tryd.prog 80 #[.int .i64 u] w fun e w' => e = .returned (.string ⟨(Lib.decDigits u).toArray⟩) ∧ ∃ k, w' = w.drewN k := by
  intro d
  induction d with
  | zero => intro u h _ w; exact l1Num_small u (by simpa using h) w
  | succ d ih =>
    intro u h hb w
    by_cases h10 : u < 10
    · exact l1Num_small u h10 w
    have HD : Hid (Lib.decDigits u = Lib.decDigits (u / 10) ++ [UInt8.ofNat (48 + u % 10)]) := by
      rw [Lib.decDigits, dif_neg h10]; exact Lib.hid rfl
    have HB := Lib.hid hb
    have hp := Lib.hid (digit_piece (u % 10) (by omega))
    have ih2 := ih (u / 10) (by rw [Nat.pow_succ] at h; omega) (by omega)
    rw [show ((u / 10 : Nat) : Int) = (u : Int) / 10 from by omega] at ih2
    have IH := Lib.hid ih2
    clear ih ih2 h hb
    have b0 : 0 ≤ (u : Int) / 10 := by omega
    have c0 : 0 ≤ (u : Int) % 10 := by omega
    have c1 : (u : Int) % 10 < 10 := by omega
    have c2 : 0 ≤ (u : Int) % 10 + 1 := by omega
    have c3 : (u : Int) % 10 + 1 ≤ 10 := by omega
    have c4 : (u : Int) % 10 ≤ (u : Int) % 10 + 1 := by omega
    have t0 : ((u : Int) % 10).toNat = u % 10 := by omega
    have t1 : ((u : Int) % 10 + 1).toNat = u % 10 + 1 := by omega
    have e1 := num_tmod u
    have w0 := num_wrap1 u HB.out
    have w1 := num_wrap2 u
    have hadd : ∀ W : World, (Op.stringOp .add ⟨(Lib.decDigits (u / 10)).toArray⟩ ((⟨#[48, 49, 50, 51, 52, 53, 54, 55, 56, 57]⟩ : ByteArray).extract (u % 10) (u % 10 + 1))).run Tryd.prog W = .ok (.string ⟨(Lib.decDigits u).toArray⟩) W := fun W => by
      rw [hp.out, HD.out, ← str_append]
      exact run_string_add_sum W _ _ (by
        have h1 := nDigits_le (u / 10)
        have h2 := HB.out
        rw [size_of_list, Lib.decDigits_length]
        show _ + 1 ≤ _
        omega)
    clear HB HD hp
    go_enter Tryd.func80, Tryd.ntmps80
    go_wp2_with fail
    go_quiet ((go_at_call 80; exact Calls.quiet_of (IH.out _)))
    all_goals go_wp2
    all_goals go_ret
    all_goals exact ⟨rfl, _, rfl⟩

theorem nat_of (n : Int) (h : 0 ≤ n) : ∃ u : Nat, n = u := ⟨n.toNat, by omega⟩
theorem lt_pow18 (u : Nat) (h : u < 1000000000000000000) : u < 10 ^ (17 + 1) := h
theorem itoa_neg (u : Nat) (h : 0 < u) : Lib.itoa (-(u : Int)) = 45 :: Lib.decDigits u := by
  unfold Lib.itoa
  rw [if_pos (by omega)]; congr 2; omega
theorem itoa_nat (u : Nat) : Lib.itoa (u : Int) = Lib.decDigits u := by
  unfold Lib.itoa
  rw [if_neg (by omega)]; congr 1

/-- What 'l1Num' returns: the decimal numeral. -/
theorem l1Num_any (n : Int) (h0 : -1000000000000000000 < n) (h1 : n < 1000000000000000000) (w : World) :
    Calls Tryd.prog 80 #[.int .i64 n] w fun e w' => e = .returned (.string ⟨(Lib.itoa n).toArray⟩) ∧ ∃ k, w' = w.drewN k := by
  by_cases hn : 0 ≤ n
  · obtain ⟨u, rfl⟩ := nat_of n hn
    rw [itoa_nat]
    exact l1Num_nat 17 u (lt_pow18 u (by omega)) (by omega) w
  · obtain ⟨u, hu⟩ := nat_of (-n) (by omega)
    obtain rfl : n = -(u : Int) := by omega
    have hu0 : 0 < u := by omega
    have hc := l1Num_nat 17 u (lt_pow18 u (by omega)) (by omega)
    rw [itoa_neg u hu0]
    have hneg : -(u : Int) < 0 := by omega
    have hw : IntKind.i64.wrap (u : Int) = u := IntWalk.i64_in _ (by omega)
    have hadd : ∀ W : World, (Op.stringOp .add ⟨#[45]⟩ ⟨(Lib.decDigits u).toArray⟩).run Tryd.prog W = .ok (.string ⟨(45 :: Lib.decDigits u).toArray⟩) W := fun W => by
      rw [show (45 :: Lib.decDigits u) = [45] ++ Lib.decDigits u from rfl, ← str_append]
      exact run_string_add_sum W _ _ (by
        have h1 := nDigits_le u
        rw [size_of_list, size_of_list, Lib.decDigits_length]
        show 1 + _ ≤ _
        omega)
    have HC := Lib.hid hc
    clear hc h0 h1 hn hu
    go_enter Tryd.func80, Tryd.ntmps80
    go_wp2_with (go_at_call 80; refine (HC.out _).mono ?_; rintro e w' ⟨rfl, k, rfl⟩)
    go_ret
    exact ⟨rfl, _, rfl⟩

theorem l1In_num (x a b : Int) (w : World) :
    Calls Tryd.prog 69 #[.int .i64 x, .int .i64 a, .int .i64 b] w fun e w' => e = .returned (.bool (decide (a ≤ x ∧ x ≤ b))) ∧ w = w' := by
  by_cases h : a ≤ x
  · by_cases h2 : x ≤ b
    all_goals
      go_enter Tryd.func69, Tryd.ntmps69
      go_wp2
      go_ret
      exact ⟨by simp [h, h2], rfl⟩
  · go_enter Tryd.func69, Tryd.ntmps69
    go_wp2
    go_ret
    exact ⟨by simp; omega, rfl⟩

/-- FormatInt of both packages. -/
def fmtOut (n : Int) : Value := if -999999 ≤ n ∧ n ≤ 999999 then .tuple #[.string ⟨(Lib.itoa n).toArray⟩, .bool true] else .tuple #[.string ⟨#[]⟩, .bool false]
theorem fmtOut_yes {n : Int} (h : -999999 ≤ n ∧ n ≤ 999999) : fmtOut n = .tuple #[.string ⟨(Lib.itoa n).toArray⟩, .bool true] := if_pos h
theorem fmtOut_no {n : Int} (h : ¬ (-999999 ≤ n ∧ n ≤ 999999)) : fmtOut n = .tuple #[.string ⟨#[]⟩, .bool false] := if_neg h

end Go.Proofs.YtpmjdppipalfcaaDoor
