/-
  Words: the functions of numbers and of lists of numbers, of both packages.
-/
import Derived.Test.YtofpajbfajcjgaaWordMath
import Derived.Test.YtofpajbfajcjgaaSer2
import Derived.Test.YtofpajbfajcjgaaIdx
import Derived.Test.YtofpajbfajcjgaaOwn
import Derived.WalkArith
import Derived.Laws.BitsAllLaws
namespace Go.Proofs.Ytofpajbfajcjgaa
open Go.RowKit Go.Lib
set_option linter.unusedVariables false

theorem row_one (w : World) (a : Int) : Row (w.alloc (.cells #[.int .i64 a] 3)) (.slice (some ⟨w.heap.size, 0, none⟩) 1 1) [a].length ([a].map (Value.int .i64)) :=
  row_made w [.int .i64 a] 3 1 rfl (by unfold maxLen; omega)
theorem row_three (w : World) (a b c : Int) : Row (w.alloc (.cells #[.int .i64 a, .int .i64 b, .int .i64 c] 3)) (.slice (some ⟨w.heap.size, 0, none⟩) 3 3) [a, b, c].length ([a, b, c].map (Value.int .i64)) :=
  row_made w [.int .i64 a, .int .i64 b, .int .i64 c] 3 3 rfl (by unfold maxLen; omega)

def outB (x : Int) : Bool := !serB x
theorem outB_lo {x : Int} (h : x < 0) : outB x = true := by unfold outB; rw [serB_no (by omega)]; rfl
theorem outB_hi {x : Int} (h : 65535 < x) : outB x = true := by unfold outB; rw [serB_no (by omega)]; rfl
theorem outB_in {x : Int} (h0 : 0 ≤ x) (h1 : x ≤ 65535) : outB x = false := by unfold outB; rw [serB_yes h0 h1]; rfl
theorem outB_any (xs : List Int) : (!xs.any outB) = xs.all serB := by
  induction xs with
  | nil => rfl
  | cons x xs ih =>
    rw [List.any_cons, List.all_cons, Bool.not_or, ih]
    unfold outB
    rw [Bool.not_not]

theorem areWords1_any (x : Int) (w : World) :
    Calls Try.prog 63 #[.int .i64 x] w fun e w' => e = .returned (.bool (outB x)) ∧ w = w' := by
  by_cases h0 : x < 0
  · go_enter Try.func63, Try.ntmps63
    go_wp2
    go_ret
    exact ⟨ret_bool (outB_lo h0).symm, rfl⟩
  · by_cases h1 : 65535 < x
    · go_enter Try.func63, Try.ntmps63
      go_wp2
      go_ret
      exact ⟨ret_bool (outB_hi h1).symm, rfl⟩
    · go_enter Try.func63, Try.ntmps63
      go_wp2
      go_ret
      exact ⟨ret_bool (outB_in (by omega) (by omega)).symm, rfl⟩
theorem areWords_any (v : Value) (xs : List Int) (w : World) (hrow : Row w v xs.length (xs.map (Value.int .i64))) :
    Calls Try.prog 50 #[v] w fun e w' => e = .returned (.bool (xs.all serB)) ∧ w = w' := by
  have eg : ∀ args w, (callFunc 63 args).run Try.prog w = .ok (.enter 63 args) w := enters_of Try.func63 (by kernel_rfl) rfl
  have HI := Lib.hid (containsFunc_any outB v xs 63 #[] w hrow eg (fun x => areWords1_any x w))
  obtain ⟨a, cap, rfl, _, _, _⟩ := row_open hrow
  have HB := Lib.hid (outB_any xs)
  clear hrow eg
  generalize xs.any outB = r at HI HB
  go_enter Try.func50, Try.ntmps50
  go_wp2_with (go_at_call 62; refine HI.out.mono ?_; rintro e w' ⟨rfl, rfl⟩)
  go_ret
  exact ⟨ret_bool HB.out, rfl⟩
set_option maxHeartbeats 400000 in
theorem addedWords_any (v : Value) (xs : List Int) (w : World) (hrow : Row w v xs.length (xs.map (Value.int .i64))) (hall : xs.all serB = true) :
    Calls Try.prog 51 #[v] w fun e w' => e = .returned (.int .i64 (sumW xs)) ∧ w = w' := by
  obtain ⟨a, cap, rfl, hc1, hc2, hcell⟩ := row_open hrow
  unfold maxLen at hc2
  have HC := Lib.hid hcell
  have HA := Lib.hid hall
  clear hcell hrow hall
  obtain ⟨n, hN⟩ : ∃ n, n = xs.length := ⟨_, rfl⟩
  rw [← hN] at hc1 ⊢
  have HN := Lib.hid hN
  clear hN
  go_enter Try.func51, Try.ntmps51
  go_wp2_with fail
  go_loop [3, 8] (fun s i => ∃ (k : Nat) (c : Int), k ≤ n ∧ i = .int .i64 k ∧ s = .int .i64 c ∧ 0 ≤ c ∧ c ≤ 65535 ∧ Hid (sumW (xs.take k) = c)) (fun _ i => n - (intOf i).toNat)
  case atStart => exact ⟨0, 0, Nat.zero_le _, rfl, rfl, Int.le_refl _, by omega, Lib.hid rfl⟩
  case round =>
    obtain ⟨k, c, hk, rfl, rfl, c0, c1, HS⟩ := hrel
    by_cases hkn : k < n
    · have hks : k < xs.length := by rw [← HN.out]; exact hkn
      obtain ⟨b, off, rfl, hb, hc⟩ := HC.out k hks
      obtain ⟨x0, x1⟩ := word_mem HA.out (List.getElem_mem hks)
      obtain ⟨u, hu⟩ : ∃ u, u = xs[k] := ⟨_, rfl⟩
      rw [← hu] at hc x0 x1
      have HT : Hid (sumW (xs.take (k + 1)) = addW c u) := Lib.hid (by rw [sum_take hks hu, HS.out])
      clear hu
      by_cases hm : 65535 < c + u
      · go_wp2_with fail
        go_round
        case rel => exact ⟨k + 1, c + u - 65535, by omega, by go_num, rfl, by omega, by omega, Lib.hid (by rw [HT.out]; exact if_pos hm)⟩
        case measure => simp [intOf]; omega
      · go_wp2_with fail
        go_round
        case rel => exact ⟨k + 1, c + u, by omega, by go_num, rfl, by omega, by omega, Lib.hid (by rw [HT.out]; exact if_neg hm)⟩
        case measure => simp [intOf]; omega
    · obtain rfl : k = n := by omega
      go_wp2_with fail
      go_ret
      exact ⟨ret_int (by rw [← HS.out, HN.out, List.take_of_length_le (Nat.le_refl _)]), rfl⟩
theorem implAddW_any (a b : Int) (w : World) :
    Calls Try.prog 34 #[.int .i64 a, .int .i64 b] w fun e w' => e = .returned (.tuple #[.int .i64 (addV a b), .bool (addOk a b)]) ∧ Below w.heap.size w w' := by
  have hs : [a, b].all serB = addOk a b := by simp [addOk]
  have HA := Lib.hid (areWords_any _ [a, b] _ (row_two w a b))
  rw [hs] at HA
  cases ho : addOk a b with
  | false =>
    have HV : Hid (addV a b = 0) := Lib.hid (by unfold addV; rw [ho]; rfl)
    rw [ho] at HA
    clear ho hs
    go_enter Try.func34, Try.ntmps34
    go_wp2_with (go_at_call 50; refine HA.out.mono ?_; rintro e w' ⟨rfl, rfl⟩)
    go_ret2
    exact ⟨ret_ib HV.out.symm rfl, (Below.refl _ _).alloc (Nat.le_refl _) _⟩
  | true =>
    obtain ⟨a0, a1, b0, b1⟩ := addOk_bd ho
    have HV : Hid (addV a b = sumW [a, b]) := Lib.hid (by
      unfold addV; rw [if_pos ho]
      show addW a b = addW (addW 0 a) b
      rw [addW_zero a1])
    rw [ho] at HA hs
    have HD : Hid (∀ (w : World) (g : Nat), g = w.heap.size → Calls Try.prog 51 #[.slice (some ⟨g, 0, none⟩) 2 2] (w.alloc (.cells #[.int .i64 a, .int .i64 b] 3)) fun e w' => e = .returned (.int .i64 (sumW [a, b])) ∧ w.alloc (.cells #[.int .i64 a, .int .i64 b] 3) = w') := Lib.hid (fun w g hg => by subst hg; exact addedWords_any _ [a, b] _ (row_two w a b) hs)
    clear ho hs
    generalize sumW [a, b] = r at HV HD
    go_enter Try.func34, Try.ntmps34
    go_wp2_with (first | (go_at_call 50; refine HA.out.mono ?_; rintro e w' ⟨rfl, rfl⟩) | (go_at_call 51; refine (HD.out _ _ (by simp)).mono ?_; rintro e w' ⟨rfl, rfl⟩))
    go_ret2
    exact ⟨ret_ib HV.out.symm rfl, ((Below.refl _ _).alloc (Nat.le_refl _) _).alloc (by simp) _⟩
theorem implUpd_any (c o n : Int) (w : World) :
    Calls Try.prog 28 #[.int .i64 c, .int .i64 o, .int .i64 n] w fun e w' => e = .returned (.tuple #[.int .i64 (updV c o n), .bool (updOk c o n)]) ∧ Below w.heap.size w w' := by
  have hs : [c, o, n].all serB = updOk c o n := by simp [updOk]
  have HA := Lib.hid (areWords_any _ [c, o, n] _ (row_three w c o n))
  rw [hs] at HA
  cases ho : updOk c o n with
  | false =>
    have HV : Hid (updV c o n = 0) := Lib.hid (by unfold updV; rw [ho]; rfl)
    rw [ho] at HA
    clear ho hs
    go_enter Try.func28, Try.ntmps28
    go_wp2_with (go_at_call 50; refine HA.out.mono ?_; rintro e w' ⟨rfl, rfl⟩)
    go_ret2
    exact ⟨ret_ib HV.out.symm rfl, (Below.refl _ _).alloc (Nat.le_refl _) _⟩
  | true =>
    obtain ⟨a0, a1, b0, b1, c0, c1⟩ := updOk_bd ho
    have HV : Hid (updV c o n = 65535 - sumW [65535 - c, 65535 - o, n]) := Lib.hid (by
      unfold updV; rw [if_pos ho]
      show _ = 65535 - addW (addW (addW 0 (65535 - c)) (65535 - o)) n
      rw [addW_zero (by omega)])
    rw [ho] at HA
    have hall : [65535 - c, 65535 - o, n].all serB = true := by
      simp only [List.all_cons, List.all_nil, Bool.and_true, Bool.and_eq_true]
      exact ⟨serB_yes (by omega) (by omega), serB_yes (by omega) (by omega), serB_yes c0 c1⟩
    have HD : Hid (∀ (w : World) (g : Nat), g = w.heap.size → Calls Try.prog 51 #[.slice (some ⟨g, 0, none⟩) 3 3] (w.alloc (.cells #[.int .i64 (65535 - c), .int .i64 (65535 - o), .int .i64 n] 3)) fun e w' => e = .returned (.int .i64 (sumW [65535 - c, 65535 - o, n])) ∧ w.alloc (.cells #[.int .i64 (65535 - c), .int .i64 (65535 - o), .int .i64 n] 3) = w') := Lib.hid (fun w g hg => by subst hg; exact addedWords_any _ [65535 - c, 65535 - o, n] _ (row_three w (65535 - c) (65535 - o) n) hall)
    obtain ⟨s0, s1⟩ := sum_bd hall
    clear ho hs hall
    generalize sumW [65535 - c, 65535 - o, n] = r at HV HD s0 s1
    go_enter Try.func28, Try.ntmps28
    go_wp2_with (first | (go_at_call 50; refine HA.out.mono ?_; rintro e w' ⟨rfl, rfl⟩) | (go_at_call 51; refine (HD.out _ _ (by simp)).mono ?_; rintro e w' ⟨rfl, rfl⟩))
    go_ret2
    exact ⟨ret_ib HV.out.symm rfl, ((Below.refl _ _).alloc (Nat.le_refl _) _).alloc (by simp) _⟩
theorem ret_u16 {a b : Int} (h : a = b) : Ending.returned (.int .u16 a) = .returned (.int .u16 b) := by rw [h]
theorem swp_or {x : Int} (h0 : 0 ≤ x) (h1 : x ≤ 65535) : bits BinOp.or IntKind.u16 (x / 256) (IntKind.u16.wrap (x * 256)) = swp x := by
  have e1 : IntKind.u16.wrap (x * 256) = x % 256 * 256 := by
    have : IntKind.u16.wrap (x * 256) = (x * 256) % 65536 := by simp [IntKind.wrap, IntKind.signed, IntKind.bits]
    rw [this]; omega
  rw [e1, u16_or _ _ (by omega) (by omega) (by omega) (by omega)]
  obtain ⟨h, hh⟩ : ∃ h : Nat, (h : Int) = x / 256 := ⟨(x / 256).toNat, by omega⟩
  obtain ⟨l, hl⟩ : ∃ l : Nat, (l : Int) = x % 256 := ⟨(x % 256).toNat, by omega⟩
  have hlt : h < 2 ^ 8 := by omega
  have e2 : (x % 256 * 256).toNat = l <<< 8 := by rw [Nat.shiftLeft_eq]; omega
  have e3 : (x / 256).toNat = h := by omega
  rw [e2, e3, Nat.or_comm, ← Nat.shiftLeft_add_eq_or_of_lt hlt, Nat.shiftLeft_eq]
  unfold swp
  omega
theorem rev16_any (x : Int) (w : World) (h0 : 0 ≤ x) (h1 : x ≤ 65535) :
    Calls Try.prog 52 #[.int .u16 x] w fun e w' => e = .returned (.int .u16 (swp x)) ∧ w = w' := by
  go_enter Try.func52, Try.ntmps52
  go_wp2
  go_ret
  exact ⟨ret_u16 (swp_or h0 h1), rfl⟩
theorem implSwap_any (x : Int) (w : World) :
    Calls Try.prog 24 #[.int .i64 x] w fun e w' => e = .returned (.tuple #[.int .i64 (swpV x), .bool (serB x)]) ∧ Below w.heap.size w w' := by
  have hs : [x].all serB = serB x := by simp
  have HA := Lib.hid (areWords_any _ [x] _ (row_one w x))
  rw [hs] at HA
  cases ho : serB x with
  | false =>
    have HV : Hid (swpV x = 0) := Lib.hid (by unfold swpV; rw [ho]; rfl)
    rw [ho] at HA
    clear ho hs
    go_enter Try.func24, Try.ntmps24
    go_wp2_with (go_at_call 50; refine HA.out.mono ?_; rintro e w' ⟨rfl, rfl⟩)
    go_ret2
    exact ⟨ret_ib HV.out.symm rfl, (Below.refl _ _).alloc (Nat.le_refl _) _⟩
  | true =>
    obtain ⟨x0, x1⟩ := serB_bd ho
    obtain ⟨y0, y1⟩ := swp_bd x0 x1
    have HV : Hid (swpV x = swp x) := Lib.hid (if_pos ho)
    rw [ho] at HA
    have HD := Lib.hid (fun w => rev16_any x w x0 x1)
    clear ho hs
    generalize swp x = r at HV HD y0 y1
    go_enter Try.func24, Try.ntmps24
    go_wp2_with (first | (go_at_call 50; refine HA.out.mono ?_; rintro e w' ⟨rfl, rfl⟩) | (go_at_call 52; refine (HD.out _).mono ?_; rintro e w' ⟨rfl, rfl⟩))
    go_ret2
    exact ⟨ret_ib HV.out.symm rfl, (Below.refl _ _).alloc (Nat.le_refl _) _⟩
end Go.Proofs.Ytofpajbfajcjgaa
