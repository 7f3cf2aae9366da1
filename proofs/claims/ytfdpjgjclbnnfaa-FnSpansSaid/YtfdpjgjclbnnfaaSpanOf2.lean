/-
  'SpanOf' of both packages: the functions themselves, and the exact law.
-/
import Derived.Test.YtfdpjgjclbnnfaaSpanOf
namespace Go.Proofs.Ytfdpjgjclbnnfaa
open Go.RowKit Go.Lib
set_option linter.unusedVariables false

theorem ret_iib {a b c d : Int} {x y : Bool} (h : a = b) (h' : c = d) (h'' : x = y) : Ending.returned (.tuple #[.int .i64 a, .int .i64 c, .bool x]) = .returned (.tuple #[.int .i64 b, .int .i64 d, .bool y]) := by rw [h, h', h'']
theorem step_less {xs : List Int} {f s a : Int} (h : cntI a xs < s) : bestStep xs (f, s) a = (a, cntI a xs) := if_pos (.inl h)
theorem step_tie {xs : List Int} {f s a : Int} (h : cntI a xs = s) (h' : a < f) : bestStep xs (f, s) a = (a, cntI a xs) := if_pos (.inr ⟨h, h'⟩)
theorem step_not {xs : List Int} {f s a : Int} (h : ¬ cntI a xs < s) (h' : ¬ (cntI a xs = s ∧ a < f)) : bestStep xs (f, s) a = (f, s) := if_neg (fun h2 => h2.elim h h')
theorem soV_no {xs : List Int} (h : soOk xs = false) : soV xs = (0, 0) := by unfold soV; rw [h]; rfl
theorem soV_yes {xs : List Int} (h : soOk xs = true) : soV xs = bestI xs xs.length := if_pos h

set_option maxHeartbeats 1000000 in
theorem implSpanOf_any (v : Value) (xs : List Int) (w : World) (hrow : Row w v xs.length (xs.map (Value.int .i64))) :
    Calls Try.prog 38 #[v] w fun e w' => e = .returned (.tuple #[.int .i64 (soV xs).1, .int .i64 (soV xs).2, .bool (soOk xs)]) ∧ w = w' := by
  have hrow0 := Lib.hid hrow
  obtain ⟨p, cap, rfl, hc1, hc2, hcell⟩ := row_open hrow
  unfold maxLen at hc2
  have HC := Lib.hid hcell
  clear hcell hrow
  have HAr := Lib.hid (areSerials_any _ xs w hrow0.out)
  cases ho : soOk xs with
  | false =>
    rw [soV_no ho]
    by_cases hz : xs.length = 0
    · have hz' : ((xs.length : Int) == 0) = true := by simp [hz]
      go_enter Try.func38, Try.ntmps38
      go_wp2_with fail
      go_ret3
      exact ⟨rfl, rfl⟩
    · have hz' : ((xs.length : Int) == 0) = false := by simp; intro e; exact hz (by rw [e]; rfl)
      by_cases hb : (20 : Int) < xs.length
      · have hb' : decide ((20 : Int) < xs.length) = true := decide_eq_true hb
        clear ho
        go_enter Try.func38, Try.ntmps38
        go_wp2_with fail
        go_ret3
        exact ⟨rfl, rfl⟩
      · have ha : xs.all serB = false := by
          cases h : xs.all serB with
          | false => rfl
          | true =>
            unfold soOk listOk at ho
            rw [h, decide_eq_true (by omega)] at ho
            have : xs ≠ [] := fun e => hz (by rw [e]; rfl)
            simp [this] at ho
        have hb' : decide ((20 : Int) < xs.length) = false := decide_eq_false hb
        rw [ha] at HAr
        clear ho ha
        go_enter Try.func38, Try.ntmps38
        go_wp2_with (go_at_call 51; refine HAr.out.mono ?_; rintro e w' ⟨rfl, rfl⟩)
        go_ret3
        exact ⟨rfl, rfl⟩
  | true =>
    rw [soV_yes ho]
    have hall : xs.all serB = true := by unfold soOk listOk at ho; simp only [Bool.and_eq_true] at ho; exact ho.2.2
    have h20 : xs.length ≤ 20 := by unfold soOk listOk at ho; simp only [Bool.and_eq_true] at ho; exact of_decide_eq_true ho.2.1
    have hne : 0 < xs.length := by
      cases xs with
      | nil => cases ho
      | cons x xs => simp
    have hz' : ((xs.length : Int) == 0) = false := by simp; intro e; rw [e] at hne; simp at hne
    have hb' : decide ((20 : Int) < xs.length) = false := decide_eq_false (by omega)
    rw [hall] at HAr
    have HAll := Lib.hid hall
    clear ho hall
    have HCF := Lib.hid (fun a h0 h1 => countFrom_any a _ xs w hrow0.out h0 h1 HAll.out)
    obtain ⟨n, hN⟩ : ∃ n, n = xs.length := ⟨_, rfl⟩
    rw [← hN] at hc1 hz' hb' h20 HAr HCF ⊢
    have HN := Lib.hid hN
    clear hN hne
    go_enter Try.func38, Try.ntmps38
    go_wp2_with (go_at_call 51; refine HAr.out.mono ?_; rintro e w' ⟨rfl, rfl⟩)
    clear hz' hb'
    go_loop [5, 6, 25] (fun f s i => ∃ (k : Nat) (a b : Int), k ≤ n ∧ i = .int .i64 k ∧ f = .int .i64 a ∧ s = .int .i64 b ∧ Hid (bestI xs k = (a, b))) (fun _ _ i => n - (intOf i).toNat)
    case atStart => exact ⟨0, 0, 65537, Nat.zero_le _, rfl, rfl, rfl, Lib.hid rfl⟩
    case round =>
      obtain ⟨k, a, b, hk, rfl, rfl, rfl, HB⟩ := hrel
      by_cases hkn : k < n
      · have hks : k < xs.length := by rw [← HN.out]; exact hkn
        obtain ⟨blk, off, rfl, hb, hc⟩ := HC.out k hks
        obtain ⟨x0, x1⟩ := ser_at HAll.out hks
        obtain ⟨u, hu⟩ : ∃ u, u = xs[k] := ⟨_, rfl⟩
        rw [← hu] at hc x0 x1
        have HT : Hid (bestI xs (k + 1) = bestStep xs (a, b) u) := Lib.hid (by rw [best_take hks hu, HB.out])
        have HU := Lib.hid (HCF.out u x0 x1)
        clear hu
        have H1 := Lib.hid (@step_less xs a b u)
        have H2 := Lib.hid (@step_tie xs a b u)
        have H3 := Lib.hid (@step_not xs a b u)
        generalize cntI u xs = c at HU H1 H2 H3
        by_cases hl : c < b
        · go_wp2_with (go_at_call 62; refine HU.out.mono ?_; rintro e w' ⟨rfl, rfl⟩)
          go_round
          case rel => exact ⟨k + 1, u, c, by omega, by go_num, rfl, rfl, Lib.hid (by rw [HT.out, H1.out hl])⟩
          case measure => simp [intOf]; omega
        · by_cases he : c = b
          · subst he
            by_cases hf : u < a
            · go_wp2_with (go_at_call 62; refine HU.out.mono ?_; rintro e w' ⟨rfl, rfl⟩)
              go_round
              case rel => exact ⟨k + 1, u, c, by omega, by go_num, rfl, rfl, Lib.hid (by rw [HT.out, H2.out (by first | exact trivial | rfl) hf])⟩
              case measure => simp [intOf]; omega
            · go_wp2_with (go_at_call 62; refine HU.out.mono ?_; rintro e w' ⟨rfl, rfl⟩)
              go_round
              case rel => exact ⟨k + 1, a, c, by omega, by go_num, rfl, rfl, Lib.hid (by rw [HT.out, H3.out (by omega) (by omega)])⟩
              case measure => simp [intOf]; omega
          · have he' : (c == b) = false := by simpa using he
            have HE := Lib.hid he
            clear he
            go_wp2_with (go_at_call 62; refine HU.out.mono ?_; rintro e w' ⟨rfl, rfl⟩)
            go_round
            case rel => exact ⟨k + 1, a, b, by omega, by go_num, rfl, rfl, Lib.hid (by rw [HT.out, H3.out (by omega) (fun h => HE.out h.1)])⟩
            case measure => simp [intOf]; omega
      · obtain rfl : k = n := by omega
        go_wp2_with fail
        go_ret3
        exact ⟨ret_iib (by rw [HB.out]) (by rw [HB.out]) rfl, rfl⟩
set_option maxHeartbeats 1000000 in
theorem l2List_any (v : Value) (xs : List Int) (w : World) (hrow : Row w v xs.length (xs.map (Value.int .i64))) :
    Calls Try.prog 61 #[v] w fun e w' => e = .returned (.bool (listOk xs)) ∧ w = w' := by
  obtain ⟨p, cap, rfl, hc1, hc2, hcell⟩ := row_open hrow
  unfold maxLen at hc2
  have HC := Lib.hid hcell
  clear hcell hrow
  obtain ⟨n, hN⟩ : ∃ n, n = xs.length := ⟨_, rfl⟩
  rw [← hN] at hc1 ⊢
  have HN := Lib.hid hN
  clear hN
  go_enter Try.func61, Try.ntmps61
  go_wp2_with fail
  go_loop [3] (fun i => ∃ k : Nat, k ≤ n ∧ k ≤ 21 ∧ i = .int .i64 k ∧ Hid ((xs.take k).all serB = true)) (fun i => n - (intOf i).toNat)
  case atStart => exact ⟨0, Nat.zero_le _, by omega, rfl, Lib.hid (by simp)⟩
  case round =>
    obtain ⟨k, hk, hk21, rfl, HA⟩ := hrel
    by_cases hkn : k < n
    · by_cases hk20 : k ≤ 20
      · have hks : k < xs.length := by rw [← HN.out]; exact hkn
        obtain ⟨b, off, rfl, hb, hc⟩ := HC.out k hks
        obtain ⟨u, hu⟩ : ∃ u, u = xs[k] := ⟨_, rfl⟩
        rw [← hu] at hc
        have HU := Lib.hid hu
        clear hu
        have HS : Hid ((xs.take (k + 1)).all serB = serB u) := Lib.hid (by
          rw [List.take_succ_eq_append_getElem hks, List.all_append, HA.out, ← HU.out]; simp)
        cases hs : serB u with
        | true =>
          go_wp2_with (go_at_call 48; refine (l2Good_any _ _).mono ?_; rintro e w' ⟨rfl, rfl⟩)
          go_round
          case rel => exact ⟨k + 1, by omega, by omega, by go_num, Lib.hid (by rw [HS.out, hs])⟩
          case measure => simp [intOf]; omega
        | false =>
          go_wp2_with (go_at_call 48; refine (l2Good_any _ _).mono ?_; rintro e w' ⟨rfl, rfl⟩)
          go_ret
          refine ⟨ret_bool ?_, rfl⟩
          unfold listOk
          rw [← List.take_append_drop (k + 1) xs, List.all_append, HS.out, hs]
          simp
      · go_wp2_with fail
        go_ret
        refine ⟨ret_bool ?_, rfl⟩
        unfold listOk
        have hN := HN.out
        have e1 : decide ((n : Int) ≤ 20) = false := decide_eq_false (by omega)
        have e2 : decide (xs.length ≤ 20) = false := decide_eq_false (by omega)
        rw [e2]
        first | rfl | (rw [e1]; rfl) | simp_all
    · obtain rfl : k = n := by omega
      go_wp2_with fail
      go_ret
      refine ⟨ret_bool ?_, rfl⟩
      unfold listOk
      have hN := HN.out
      have h := HA.out
      rw [hN, List.take_of_length_le (Nat.le_refl _)] at h
      rw [h, Bool.and_true, ← hN, Bool.eq_iff_iff]
      simp
      try omega
end Go.Proofs.Ytfdpjgjclbnnfaa
