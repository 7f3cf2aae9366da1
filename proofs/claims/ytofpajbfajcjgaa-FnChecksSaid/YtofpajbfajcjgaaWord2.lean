/-
  Words: the functions of the specification, and of both packages on lists of words.
-/
import Derived.Test.YtofpajbfajcjgaaWord
import Derived.Test.YtofpajbfajcjgaaInts
import Derived.Test.YtofpajbfajcjgaaAppRow
import Derived.Laws.DeepStrings4
import Derived.Maps.AppendAt
namespace Go.Proofs.Ytofpajbfajcjgaa
open Go.RowKit Go.Lib
set_option linter.unusedVariables false

theorem sndV_is (xs : List Int) : decide (sumV xs = 65535) = sndV xs := by
  unfold sndV
  cases h : wOk xs with
  | false => rw [sumV_no h]; rfl
  | true => rw [sumV_yes h]; rfl
theorem sumV_snd (xs : List Int) : ((sumV xs == (65535 : Int)) : Bool) = sndV xs := by rw [← sndV_is]; exact rfl

theorem l3Word_any (x : Int) (w : World) :
    Calls Try.prog 56 #[.int .i64 x] w fun e w' => e = .returned (.bool (serB x)) ∧ w = w' := by
  go_enter Try.func56, Try.ntmps56
  go_wp2_with (go_at_call 64; refine (l1In_any _ _ _ _).mono ?_; rintro e w' ⟨rfl, rfl⟩)
  go_ret
  exact ⟨rfl, rfl⟩
theorem l3Add_any (a b : Int) (w : World) (a0 : 0 ≤ a) (a1 : a ≤ 65535) (b0 : 0 ≤ b) (b1 : b ≤ 65535) :
    Calls Try.prog 57 #[.int .i64 a, .int .i64 b] w fun e w' => e = .returned (.int .i64 (addW a b)) ∧ w = w' := by
  by_cases h : 65535 < a + b
  · have HV : Hid (addW a b = a + b - 65535) := Lib.hid (if_pos h)
    go_enter Try.func57, Try.ntmps57
    go_wp2
    go_ret
    exact ⟨ret_int HV.out.symm, rfl⟩
  · have HV : Hid (addW a b = a + b) := Lib.hid (if_neg h)
    go_enter Try.func57, Try.ntmps57
    go_wp2
    go_ret
    exact ⟨ret_int HV.out.symm, rfl⟩
theorem specAddW_any (a b : Int) (w : World) :
    Calls Try.prog 39 #[.int .i64 a, .int .i64 b] w fun e w' => e = .returned (.tuple #[.int .i64 (addV a b), .bool (addOk a b)]) ∧ w = w' := by
  cases hx : serB a with
  | false =>
    have HO : Hid (addOk a b = false) := Lib.hid (by unfold addOk; rw [hx]; rfl)
    go_enter Try.func39, Try.ntmps39
    go_wp2_with (go_at_call 56; refine (l3Word_any _ _).mono ?_; rintro e w' ⟨rfl, rfl⟩)
    go_ret2
    exact ⟨ret_ib (by unfold addV; rw [HO.out]; rfl) HO.out.symm, rfl⟩
  | true =>
    cases hn : serB b with
    | false =>
      have HO : Hid (addOk a b = false) := Lib.hid (by unfold addOk; rw [hx, hn]; rfl)
      go_enter Try.func39, Try.ntmps39
      go_wp2_with (go_at_call 56; refine (l3Word_any _ _).mono ?_; rintro e w' ⟨rfl, rfl⟩)
      go_ret2
      exact ⟨ret_ib (by unfold addV; rw [HO.out]; rfl) HO.out.symm, rfl⟩
    | true =>
      have ho : addOk a b = true := by unfold addOk; rw [hx, hn]; rfl
      obtain ⟨h1, h2, h3, h4⟩ := addOk_bd ho
      have HO := Lib.hid ho
      clear ho
      go_enter Try.func39, Try.ntmps39
      go_wp2_with (first | (go_at_call 56; refine (l3Word_any _ _).mono ?_; rintro e w' ⟨rfl, rfl⟩) | (go_at_call 57; refine (l3Add_any _ _ _ h1 h2 h3 h4).mono ?_; rintro e w' ⟨rfl, rfl⟩))
      go_ret2
      exact ⟨ret_ib (by unfold addV; rw [if_pos HO.out]) HO.out.symm, rfl⟩
theorem specUpd_any (c o n : Int) (w : World) :
    Calls Try.prog 29 #[.int .i64 c, .int .i64 o, .int .i64 n] w fun e w' => e = .returned (.tuple #[.int .i64 (updV c o n), .bool (updOk c o n)]) ∧ w = w' := by
  cases hc : serB c with
  | false =>
    have HO : Hid (updOk c o n = false) := Lib.hid (by unfold updOk; rw [hc]; rfl)
    go_enter Try.func29, Try.ntmps29
    go_wp2_with (go_at_call 56; refine (l3Word_any _ _).mono ?_; rintro e w' ⟨rfl, rfl⟩)
    go_ret2
    exact ⟨ret_ib (by unfold updV; rw [HO.out]; rfl) HO.out.symm, rfl⟩
  | true =>
    cases hn : serB o with
    | false =>
      have HO : Hid (updOk c o n = false) := Lib.hid (by unfold updOk; rw [hc, hn]; rfl)
      go_enter Try.func29, Try.ntmps29
      go_wp2_with (go_at_call 56; refine (l3Word_any _ _).mono ?_; rintro e w' ⟨rfl, rfl⟩)
      go_ret2
      exact ⟨ret_ib (by unfold updV; rw [HO.out]; rfl) HO.out.symm, rfl⟩
    | true =>
      cases hm : serB n with
      | false =>
        have HO : Hid (updOk c o n = false) := Lib.hid (by unfold updOk; rw [hc, hn, hm]; rfl)
        go_enter Try.func29, Try.ntmps29
        go_wp2_with (go_at_call 56; refine (l3Word_any _ _).mono ?_; rintro e w' ⟨rfl, rfl⟩)
        go_ret2
        exact ⟨ret_ib (by unfold updV; rw [HO.out]; rfl) HO.out.symm, rfl⟩
      | true =>
        have ho : updOk c o n = true := by unfold updOk; rw [hc, hn, hm]; rfl
        obtain ⟨c0, c1, o0, o1, n0, n1⟩ := updOk_bd ho
        have HV : Hid (updV c o n = 65535 - addW (addW (65535 - c) (65535 - o)) n) := Lib.hid (if_pos ho)
        have HO := Lib.hid ho
        obtain ⟨p0, p1⟩ := addW_bd (a := 65535 - c) (b := 65535 - o) (by omega) (by omega) (by omega) (by omega)
        obtain ⟨q0, q1⟩ := addW_bd (a := addW (65535 - c) (65535 - o)) (b := n) p0 p1 n0 n1
        clear ho
        go_enter Try.func29, Try.ntmps29
        go_wp2_with (first | (go_at_call 56; refine (l3Word_any _ _).mono ?_; rintro e w' ⟨rfl, rfl⟩) | (go_at_call 57; refine (l3Add_any _ _ _ (by omega) (by omega) (by omega) (by omega)).mono ?_; rintro e w' ⟨rfl, rfl⟩))
        go_ret2
        exact ⟨ret_ib HV.out.symm HO.out.symm, rfl⟩
theorem specSwap_any (x : Int) (w : World) :
    Calls Try.prog 41 #[.int .i64 x] w fun e w' => e = .returned (.tuple #[.int .i64 (swpV x), .bool (serB x)]) ∧ w = w' := by
  cases ho : serB x with
  | false =>
    have HV : Hid (swpV x = 0) := Lib.hid (by unfold swpV; rw [ho]; rfl)
    go_enter Try.func41, Try.ntmps41
    go_wp2_with (go_at_call 56; refine (l3Word_any _ _).mono ?_; rintro e w' ⟨rfl, rfl⟩)
    go_ret2
    exact ⟨ret_ib HV.out.symm rfl, rfl⟩
  | true =>
    obtain ⟨x0, x1⟩ := serB_bd ho
    have HV : Hid (swpV x = swp x) := Lib.hid (if_pos ho)
    go_enter Try.func41, Try.ntmps41
    go_wp2_with (go_at_call 56; refine (l3Word_any _ _).mono ?_; rintro e w' ⟨rfl, rfl⟩)
    go_ret2
    exact ⟨ret_ib (by rw [HV.out]; unfold swp; omega) rfl, rfl⟩
set_option maxHeartbeats 400000 in
theorem l3Good_any (v : Value) (xs : List Int) (w : World) (hrow : Row w v xs.length (xs.map (Value.int .i64))) :
    Calls Try.prog 47 #[v] w fun e w' => e = .returned (.bool (wOk xs)) ∧ w = w' := by
  obtain ⟨p, cap, rfl, hc1, hc2, hcell⟩ := row_open hrow
  unfold maxLen at hc2
  have HC := Lib.hid hcell
  clear hcell hrow
  obtain ⟨n, hN⟩ : ∃ n, n = xs.length := ⟨_, rfl⟩
  rw [← hN] at hc1 ⊢
  have HN := Lib.hid hN
  clear hN
  go_enter Try.func47, Try.ntmps47
  go_wp2_with fail
  go_loop [3] (fun i => ∃ k : Nat, k ≤ n ∧ i = .int .i64 k ∧ Hid ((xs.take k).all serB = true)) (fun i => n - (intOf i).toNat)
  case atStart => exact ⟨0, Nat.zero_le _, rfl, Lib.hid (by simp)⟩
  case round =>
    obtain ⟨k, hk, rfl, HA⟩ := hrel
    by_cases hkn : k < n
    · have hks : k < xs.length := by rw [← HN.out]; exact hkn
      obtain ⟨b, off, rfl, hb, hc⟩ := HC.out k hks
      obtain ⟨u, hu⟩ : ∃ u, u = xs[k] := ⟨_, rfl⟩
      rw [← hu] at hc
      have HU := Lib.hid hu
      clear hu
      have HS : Hid ((xs.take (k + 1)).all serB = serB u) := Lib.hid (by
        rw [List.take_succ_eq_append_getElem hks, List.all_append, HA.out, ← HU.out]; simp)
      cases hs : serB u with
      | true =>
        go_wp2_with (go_at_call 56; refine (l3Word_any _ _).mono ?_; rintro e w' ⟨rfl, rfl⟩)
        go_round
        case rel => exact ⟨k + 1, by omega, by go_num, Lib.hid (by rw [HS.out, hs])⟩
        case measure => simp [intOf]; omega
      | false =>
        go_wp2_with (go_at_call 56; refine (l3Word_any _ _).mono ?_; rintro e w' ⟨rfl, rfl⟩)
        go_ret
        refine ⟨ret_bool ?_, rfl⟩
        unfold wOk
        rw [← List.take_append_drop (k + 1) xs, List.all_append, HS.out, hs]
        simp
    · obtain rfl : k = n := by omega
      go_wp2_with fail
      go_ret
      refine ⟨ret_bool ?_, rfl⟩
      have ha := HA.out
      have hN := HN.out
      rw [hN, List.take_of_length_le (Nat.le_refl _)] at ha
      unfold wOk
      rw [ha, ← hN, Bool.and_true]
      by_cases h : k ≤ 40
      · rw [decide_eq_true h, decide_eq_true (by omega)]
      · rw [decide_eq_false h, decide_eq_false (by omega)]
set_option maxHeartbeats 400000 in
theorem l3Sum_any (v : Value) (xs : List Int) (w : World) (hrow : Row w v xs.length (xs.map (Value.int .i64))) (hall : xs.all serB = true) :
    Calls Try.prog 49 #[v] w fun e w' => e = .returned (.int .i64 (sumW xs)) ∧ w = w' := by
  obtain ⟨a, cap, rfl, hc1, hc2, hcell⟩ := row_open hrow
  unfold maxLen at hc2
  have HC := Lib.hid hcell
  have HA := Lib.hid hall
  clear hcell hrow hall
  obtain ⟨n, hN⟩ : ∃ n, n = xs.length := ⟨_, rfl⟩
  rw [← hN] at hc1 ⊢
  have HN := Lib.hid hN
  clear hN
  go_enter Try.func49, Try.ntmps49
  go_wp2_with fail
  go_loop [3, 4] (fun s i => ∃ (k : Nat) (c : Int), k ≤ n ∧ i = .int .i64 k ∧ s = .int .i64 c ∧ 0 ≤ c ∧ c ≤ 65535 ∧ Hid (sumW (xs.take k) = c)) (fun _ i => n - (intOf i).toNat)
  case atStart => exact ⟨0, 0, Nat.zero_le _, rfl, rfl, Int.le_refl _, by omega, Lib.hid rfl⟩
  case round =>
    obtain ⟨k, c, hk, rfl, rfl, c0, c1, HS⟩ := hrel
    by_cases hkn : k < n
    · have hks : k < xs.length := by rw [← HN.out]; exact hkn
      obtain ⟨b, off, rfl, hb, hc⟩ := HC.out k hks
      obtain ⟨x0, x1⟩ := word_mem HA.out (List.getElem_mem hks)
      obtain ⟨u, hu⟩ : ∃ u, u = xs[k] := ⟨_, rfl⟩
      rw [← hu] at hc x0 x1
      have HT : Hid (sumW (xs.take (k + 1)) = addW c u) := Lib.hid (by rw [sum_take hks hu, HS.out])
      have HD := Lib.hid (fun w => l3Add_any c u w c0 c1 x0 x1)
      obtain ⟨d0, d1⟩ := addW_bd c0 c1 x0 x1
      generalize addW c u = d at HT HD d0 d1
      clear hu
      go_wp2_with (go_at_call 57; refine (HD.out _).mono ?_; rintro e w' ⟨rfl, rfl⟩)
      go_round
      case rel => exact ⟨k + 1, d, by omega, by go_num, rfl, d0, d1, HT⟩
      case measure => simp [intOf]; omega
    · obtain rfl : k = n := by omega
      go_wp2_with fail
      go_ret
      exact ⟨ret_int (by rw [← HS.out, HN.out, List.take_of_length_le (Nat.le_refl _)]), rfl⟩
theorem specSum_any (v : Value) (xs : List Int) (w : World) (hrow : Row w v xs.length (xs.map (Value.int .i64))) :
    Calls Try.prog 21 #[v] w fun e w' => e = .returned (.tuple #[.int .i64 (sumV xs), .bool (wOk xs)]) ∧ w = w' := by
  have HG := Lib.hid (fun w h => l3Good_any v xs w h)
  have HR := Lib.hid hrow
  cases ho : wOk xs with
  | false =>
    have HV := Lib.hid (sumV_no ho)
    obtain ⟨p, cap, rfl, _⟩ := row_open hrow
    rw [ho] at HG
    clear hrow
    go_enter Try.func21, Try.ntmps21
    go_wp2_with (go_at_call 47; refine (HG.out _ HR.out).mono ?_; rintro e w' ⟨rfl, rfl⟩)
    go_ret2
    exact ⟨ret_ib HV.out.symm rfl, rfl⟩
  | true =>
    have HV := Lib.hid (sumV_yes ho)
    have HS := Lib.hid (fun w h => l3Sum_any v xs w h (wOk_all ho))
    obtain ⟨p, cap, rfl, _⟩ := row_open hrow
    rw [ho] at HG
    clear hrow
    go_enter Try.func21, Try.ntmps21
    go_wp2_with (first | (go_at_call 47; refine (HG.out _ HR.out).mono ?_; rintro e w' ⟨rfl, rfl⟩) | (go_at_call 49; refine (HS.out _ HR.out).mono ?_; rintro e w' ⟨rfl, rfl⟩))
    go_ret2
    exact ⟨ret_ib HV.out.symm rfl, rfl⟩
theorem specChk_any (v : Value) (xs : List Int) (w : World) (hrow : Row w v xs.length (xs.map (Value.int .i64))) :
    Calls Try.prog 22 #[v] w fun e w' => e = .returned (.tuple #[.int .i64 (chkV xs), .bool (wOk xs)]) ∧ w = w' := by
  have HG := Lib.hid (fun w h => l3Good_any v xs w h)
  have HR := Lib.hid hrow
  cases ho : wOk xs with
  | false =>
    have HV : Hid (chkV xs = 0) := Lib.hid (by unfold chkV; rw [ho]; rfl)
    obtain ⟨p, cap, rfl, _⟩ := row_open hrow
    rw [ho] at HG
    clear hrow
    go_enter Try.func22, Try.ntmps22
    go_wp2_with (go_at_call 47; refine (HG.out _ HR.out).mono ?_; rintro e w' ⟨rfl, rfl⟩)
    go_ret2
    exact ⟨ret_ib HV.out.symm rfl, rfl⟩
  | true =>
    have HV : Hid (chkV xs = 65535 - sumW xs) := Lib.hid (if_pos ho)
    have HS := Lib.hid (fun w h => l3Sum_any v xs w h (wOk_all ho))
    obtain ⟨s0, s1⟩ := sum_bd (wOk_all ho)
    obtain ⟨p, cap, rfl, _⟩ := row_open hrow
    rw [ho] at HG
    generalize sumW xs = s at HV HS s0 s1
    clear hrow
    go_enter Try.func22, Try.ntmps22
    go_wp2_with (first | (go_at_call 47; refine (HG.out _ HR.out).mono ?_; rintro e w' ⟨rfl, rfl⟩) | (go_at_call 49; refine (HS.out _ HR.out).mono ?_; rintro e w' ⟨rfl, rfl⟩))
    go_ret2
    exact ⟨ret_ib HV.out.symm rfl, rfl⟩
theorem specSnd_any (v : Value) (xs : List Int) (w : World) (hrow : Row w v xs.length (xs.map (Value.int .i64))) :
    Calls Try.prog 26 #[v] w fun e w' => e = .returned (.tuple #[.bool (sndV xs), .bool (wOk xs)]) ∧ w = w' := by
  have HG := Lib.hid (fun w h => l3Good_any v xs w h)
  have HR := Lib.hid hrow
  cases ho : wOk xs with
  | false =>
    have HV : Hid (sndV xs = false) := Lib.hid (by unfold sndV; rw [ho]; rfl)
    obtain ⟨p, cap, rfl, _⟩ := row_open hrow
    rw [ho] at HG
    clear hrow
    go_enter Try.func26, Try.ntmps26
    go_wp2_with (go_at_call 47; refine (HG.out _ HR.out).mono ?_; rintro e w' ⟨rfl, rfl⟩)
    go_ret2
    exact ⟨ret_bb HV.out.symm rfl, rfl⟩
  | true =>
    have HV : Hid ((sumW xs == 65535) = sndV xs) := Lib.hid (by unfold sndV; rw [ho]; rfl)
    have HS := Lib.hid (fun w h => l3Sum_any v xs w h (wOk_all ho))
    obtain ⟨p, cap, rfl, _⟩ := row_open hrow
    rw [ho] at HG
    generalize sumW xs = s at HV HS
    clear hrow
    go_enter Try.func26, Try.ntmps26
    go_wp2_with (first | (go_at_call 47; refine (HG.out _ HR.out).mono ?_; rintro e w' ⟨rfl, rfl⟩) | (go_at_call 49; refine (HS.out _ HR.out).mono ?_; rintro e w' ⟨rfl, rfl⟩))
    go_ret2
    exact ⟨ret_bb HV.out rfl, rfl⟩
theorem implSum_any (v : Value) (xs : List Int) (w : World) (hrow : Row w v xs.length (xs.map (Value.int .i64))) :
    Calls Try.prog 19 #[v] w fun e w' => e = .returned (.tuple #[.int .i64 (sumV xs), .bool (wOk xs)]) ∧ w = w' := by
  have HR := Lib.hid hrow
  have HA := Lib.hid (areWords_any v xs w hrow)
  obtain ⟨p, cap, rfl, _⟩ := row_open hrow
  by_cases hl : xs.length ≤ 40
  · have hl' : ¬ (40 : Int) < xs.length := by omega
    cases ho : xs.all serB with
    | false =>
      have hw : wOk xs = false := by unfold wOk; rw [ho, Bool.and_false]
      have HV := Lib.hid (sumV_no hw)
      rw [ho] at HA
      rw [hw]
      clear hrow ho hw
      go_enter Try.func19, Try.ntmps19
      go_wp2_with (go_at_call 50; refine HA.out.mono ?_; rintro e w' ⟨rfl, rfl⟩)
      go_ret2
      exact ⟨ret_ib HV.out.symm rfl, rfl⟩
    | true =>
      have hw : wOk xs = true := wOk_yes ho hl
      have HV := Lib.hid (sumV_yes hw)
      have HS := Lib.hid (addedWords_any _ xs w hrow ho)
      rw [ho] at HA
      rw [hw]
      clear hrow ho hw
      go_enter Try.func19, Try.ntmps19
      go_wp2_with (first | (go_at_call 50; refine HA.out.mono ?_; rintro e w' ⟨rfl, rfl⟩) | (go_at_call 51; refine HS.out.mono ?_; rintro e w' ⟨rfl, rfl⟩))
      go_ret2
      exact ⟨ret_ib HV.out.symm rfl, rfl⟩
  · have hl' : (40 : Int) < xs.length := by omega
    have hw : wOk xs = false := by unfold wOk; rw [decide_eq_false hl, Bool.false_and]
    have HV := Lib.hid (sumV_no hw)
    rw [hw]
    clear hrow hw hl
    go_enter Try.func19, Try.ntmps19
    go_wp2_with fail
    go_ret2
    exact ⟨ret_ib HV.out.symm rfl, rfl⟩
theorem implChk_any (v : Value) (xs : List Int) (w : World) (hrow : Row w v xs.length (xs.map (Value.int .i64))) :
    Calls Try.prog 20 #[v] w fun e w' => e = .returned (.tuple #[.int .i64 (chkV xs), .bool (wOk xs)]) ∧ w = w' := by
  have HA := Lib.hid (implSum_any v xs w hrow)
  obtain ⟨p, cap, rfl, _⟩ := row_open hrow
  cases ho : wOk xs with
  | false =>
    have HV : Hid (chkV xs = 0) := Lib.hid (by unfold chkV; rw [ho]; rfl)
    rw [ho] at HA
    clear hrow ho
    go_enter Try.func20, Try.ntmps20
    go_wp2_with (go_at_call 19; refine HA.out.mono ?_; rintro e w' ⟨rfl, rfl⟩)
    go_ret2
    exact ⟨ret_ib HV.out.symm rfl, rfl⟩
  | true =>
    have HV : Hid (chkV xs = 65535 - sumV xs) := Lib.hid (by rw [sumV_yes ho]; exact if_pos ho)
    obtain ⟨s0, s1⟩ := sumV_bd xs
    rw [ho] at HA
    generalize sumV xs = s at HV HA s0 s1
    clear hrow ho
    go_enter Try.func20, Try.ntmps20
    go_wp2_with (go_at_call 19; refine HA.out.mono ?_; rintro e w' ⟨rfl, rfl⟩)
    go_ret2
    exact ⟨ret_ib HV.out.symm rfl, rfl⟩
theorem implSnd_any (v : Value) (xs : List Int) (w : World) (hrow : Row w v xs.length (xs.map (Value.int .i64))) :
    Calls Try.prog 23 #[v] w fun e w' => e = .returned (.tuple #[.bool (sndV xs), .bool (wOk xs)]) ∧ w = w' := by
  have HA := Lib.hid (implSum_any v xs w hrow)
  have HV := Lib.hid (sumV_snd xs)
  obtain ⟨p, cap, rfl, _⟩ := row_open hrow
  generalize sumV xs = s at HV HA
  clear hrow
  go_enter Try.func23, Try.ntmps23
  go_wp2_with (go_at_call 19; refine HA.out.mono ?_; rintro e w' ⟨rfl, rfl⟩)
  go_ret2
  exact ⟨ret_bb HV.out rfl, rfl⟩
end Go.Proofs.Ytofpajbfajcjgaa
