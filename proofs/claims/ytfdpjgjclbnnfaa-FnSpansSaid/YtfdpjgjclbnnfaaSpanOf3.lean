/-
  'SpanOf' of the specification, and the exact law.
-/
import Derived.Test.YtfdpjgjclbnnfaaSpanOf2
namespace Go.Proofs.Ytfdpjgjclbnnfaa
open Go.RowKit Go.Lib
set_option linter.unusedVariables false

theorem quiet_eq {P : Program} {f : FuncId} {args : Array Value} {w : World} {n : Nat} {v : Value}
    (h : Calls P f args (w.drewN n) fun e w' => e = .returned v ∧ w.drewN n = w') : Calls P f args (w.drewN n) fun e w'' => e = .returned v ∧ ∃ m, w'' = w.drewN m :=
  h.mono fun _ _ ⟨he, hm⟩ => ⟨he, n, hm.symm⟩

theorem l1Most_any (x y : Int) (w : World) :
    Calls Try.prog 63 #[.int .i64 x, .int .i64 y] w fun e w' => e = .returned (.int .i64 (max x y)) ∧ w = w' := by
  by_cases h : y < x
  · go_enter Try.func63, Try.ntmps63
    go_wp2
    go_ret
    exact ⟨ret_int (by omega), rfl⟩
  · go_enter Try.func63, Try.ntmps63
    go_wp2
    go_ret
    exact ⟨ret_int (by omega), rfl⟩
set_option maxHeartbeats 2000000 in
theorem specSpanOf_any (v : Value) (xs : List Int) (w : World) (hrow : Row w v xs.length (xs.map (Value.int .i64))) :
    Calls Try.prog 39 #[v] w fun e w' => e = .returned (.tuple #[.int .i64 (soV xs).1, .int .i64 (soV xs).2, .bool (soOk xs)]) ∧ ∃ q, w' = w.drewN q := by
  have hrow0 := Lib.hid hrow
  obtain ⟨p, cap, rfl, hc1, hc2, hcell⟩ := row_open hrow
  unfold maxLen at hc2
  have HC := Lib.hid hcell
  clear hcell hrow
  have HL := Lib.hid (l2List_any _ xs w hrow0.out)
  cases ho : soOk xs with
  | false =>
    rw [soV_no ho]
    cases hl : listOk xs with
    | false =>
      rw [hl] at HL
      clear ho hl
      go_enter Try.func39, Try.ntmps39
      go_wp2_with (go_at_call 61; refine HL.out.mono ?_; rintro e w' ⟨rfl, rfl⟩)
      go_ret3
      exact ⟨rfl, 0, rfl⟩
    | true =>
      have hz : xs = [] := by
        cases xs with
        | nil => rfl
        | cons x xs => unfold soOk at ho; rw [hl] at ho; simp at ho
      rw [hl] at HL
      subst hz
      clear ho hl
      go_enter Try.func39, Try.ntmps39
      go_wp2_with (go_at_call 61; refine HL.out.mono ?_; rintro e w' ⟨rfl, rfl⟩)
      go_ret3
      exact ⟨rfl, 0, rfl⟩
  | true =>
    rw [soV_yes ho]
    have hlo : listOk xs = true := by unfold soOk at ho; simp only [Bool.and_eq_true] at ho; exact ho.2
    have hall : xs.all serB = true := by unfold soOk listOk at ho; simp only [Bool.and_eq_true] at ho; exact ho.2.2
    have h20 : xs.length ≤ 20 := by unfold soOk listOk at ho; simp only [Bool.and_eq_true] at ho; exact of_decide_eq_true ho.2.1
    have hne : 0 < xs.length := by
      cases xs with
      | nil => cases ho
      | cons x xs => simp
    have hz' : ((xs.length : Int) == 0) = false := by simp; intro e; rw [e] at hne; simp at hne
    have HNE : Hid (xs ≠ []) := Lib.hid (fun e => by rw [e] at hne; simp at hne)
    rw [hlo] at HL
    have HAll := Lib.hid hall
    clear ho hall hlo
    obtain ⟨n, hN⟩ : ∃ n, n = xs.length := ⟨_, rfl⟩
    rw [← hN] at hc1 hz' h20 HL ⊢
    have HN := Lib.hid hN
    clear hN hne
    go_enter Try.func39, Try.ntmps39
    go_wp2_with (go_at_call 61; refine HL.out.mono ?_; rintro e w' ⟨rfl, rfl⟩)
    clear hz'
    go_loopw [5, 6, 7] (fun f s i wr => ∃ (k : Nat) (a b : Int), k ≤ n ∧ i = .int .i64 k ∧ f = .int .i64 a ∧ s = .int .i64 b ∧ Hid (bestI xs k = (a, b)) ∧ Hid (∃ q, wr = w.drewN q)) (fun _ _ i _ => n - (intOf i).toNat)
    case atStart => exact ⟨0, 0, 65537, Nat.zero_le _, rfl, rfl, rfl, Lib.hid rfl, Lib.hid ⟨0, rfl⟩⟩
    case round =>
      obtain ⟨k, a, b, hk, rfl, rfl, rfl, HB, HW⟩ := hrel
      obtain ⟨wo, rfl⟩ : ∃ wo : World, wo = wr := ⟨_, rfl⟩
      by_cases hkn : k < n
      · have hks : k < xs.length := by rw [← HN.out]; exact hkn
        obtain ⟨blk, off, rfl, hb, hc⟩ := HC.out k hks
        obtain ⟨x0, x1⟩ := ser_at HAll.out hks
        obtain ⟨u, hu⟩ : ∃ u, u = xs[k] := ⟨_, rfl⟩
        rw [← hu] at hc x0 x1
        have HT : Hid (bestI xs (k + 1) = bestStep xs (a, b) u) := Lib.hid (by rw [best_take hks hu, HB.out])
        clear hu
        have HCell : Hid (∀ wx : World, (∃ q, wx = w.drewN q) → wx.cell? ⟨blk, off + k, none⟩ = some (.int .i64 u)) := Lib.hid (fun wx ⟨q, h⟩ => by rw [h]; exact hc)
        clear hc
        go_wp2_with fail
        go_loopw [8, 9] (fun m j wr => ∃ (i : Nat), i ≤ n ∧ j = .int .i64 i ∧ m = .int .i64 (mostI u (xs.take i)) ∧ Hid (∃ q, wr = w.drewN q)) (fun _ j _ => n - (intOf j).toNat)
        case atStart => exact ⟨0, Nat.zero_le _, rfl, rfl, HW⟩
        case round =>
          obtain ⟨i, hi, rfl, rfl, HW2⟩ := hrel
          have hcu := HCell.out wr HW2.out
          by_cases hin : i < n
          · have his : i < xs.length := by rw [← HN.out]; exact hin
            obtain ⟨blk2, off2, he, hb2, hc2'⟩ := HC.out i his
            obtain ⟨rfl, rfl⟩ : blk = blk2 ∧ off = off2 := by injection he with he; injection he with h1 h2; exact ⟨h1, h2⟩
            obtain ⟨y0, y1⟩ := ser_at HAll.out his
            obtain ⟨y, hy⟩ : ∃ y, y = xs[i] := ⟨_, rfl⟩
            rw [← hy] at hc2' y0 y1
            have hcy : wr.cell? ⟨blk, off + i, none⟩ = some (.int .i64 y) := by obtain ⟨q, hq⟩ := HW2.out; rw [hq]; exact hc2'
            have HM := Lib.hid (most_take (a := u) his hy)
            have HG := Lib.hid (fun w => l2Gap_any u y w x0 x1 y0 y1)
            clear hy hc2' he
            generalize mostI u (xs.take i) = m at HM ⊢
            generalize gapI u y = g at HM HG
            go_wp2_with fail
            go_quiet (first | (go_at_call 57; exact quiet_eq (HG.out _)) | (go_at_call 63; exact quiet_eq (l1Most_any _ _ _)))
            go_wp2_with fail
            go_roundw
            case rel => exact ⟨i + 1, by omega, by go_num, vint HM.out.symm, Lib.hid (by obtain ⟨q, hq⟩ := HW2.out; rw [hq, World.drewN_drewN]; exact ⟨_, rfl⟩)⟩
            case measure => simp [intOf]; omega
          · obtain rfl : i = n := by omega
            have hct := cnt_most u xs HNE.out
            have hfull : xs.take i = xs := by rw [HN.out, List.take_of_length_le (Nat.le_refl _)]
            obtain ⟨m0, m1⟩ := most_bd u xs
            rw [hfull]
            have H1 := Lib.hid (@step_less xs a b u)
            have H2 := Lib.hid (@step_tie xs a b u)
            have H3 := Lib.hid (@step_not xs a b u)
            rw [hct] at H1 H2 H3
            generalize mostI u xs = m at H1 H2 H3 m0 m1 ⊢
            clear hct hfull
            by_cases hl : m + 1 < b
            · go_wp2_with fail
              go_roundw
              case rel => exact ⟨k + 1, u, m + 1, by omega, by go_num, rfl, rfl, Lib.hid (by rw [HT.out, H1.out hl]), HW2⟩
              case measure => simp [intOf]; omega
            · by_cases he : m + 1 = b
              · have hle : ¬ m + 1 < b := hl
                by_cases hf : u < a
                · subst he
                  go_wp2_with fail
                  go_roundw
                  case rel => exact ⟨k + 1, u, m + 1, by omega, by go_num, rfl, rfl, Lib.hid (by rw [HT.out, H2.out (by first | exact trivial | rfl) hf]), HW2⟩
                  case measure => simp [intOf]; omega
                · subst he
                  go_wp2_with fail
                  go_roundw
                  case rel => exact ⟨k + 1, a, m + 1, by omega, by go_num, rfl, rfl, Lib.hid (by rw [HT.out, H3.out (by omega) (by omega)]), HW2⟩
                  case measure => simp [intOf]; omega
              · have he' : (m + 1 == b) = false := by simpa using he
                have HE := Lib.hid he
                clear he
                go_wp2_with fail
                go_roundw
                case rel => exact ⟨k + 1, a, b, by omega, by go_num, rfl, rfl, Lib.hid (by rw [HT.out, H3.out (by omega) (fun h => HE.out h.1)]), HW2⟩
                case measure => simp [intOf]; omega
      · obtain rfl : k = n := by omega
        go_wp2_with fail
        go_ret3
        exact ⟨ret_iib (by rw [HB.out]) (by rw [HB.out]) rfl, HW.out⟩
set_option maxRecDepth 100000 in
set_option maxHeartbeats 2000000 in
theorem fnExactSpanOf_walk (w : World) (v0 : Value) (z0 : List Int) (w0 : Row w v0 z0.length (z0.map (Value.int .i64))) (b0 : ∀ z ∈ z0, (Lit.int .i64 z).wf = true) (_hsh : w.ShapedOpen Try.prog) :
    Calls Try.prog 13 #[v0] w fun e w' => e = .returned (.bool true) ∧ Below w.heap.size w w' := by
  obtain ⟨p, cap, rfl, hc1, hc2, _⟩ := row_open w0
  unfold maxLen at hc2
  by_cases hn : z0.length ≤ 1048576
  · have hn' : (z0.length : Int) ≤ 1048576 := by omega
    have HW0 := Lib.hid w0
    clear w0 b0
    have HIm := Lib.hid (fun v w h => implSpanOf_any v z0 w h)
    have HSp := Lib.hid (fun v w h => specSpanOf_any v z0 w h)
    generalize (soV z0).1 = x1 at HIm HSp
    generalize (soV z0).2 = x2 at HIm HSp
    generalize soOk z0 = x3 at HIm HSp
    go_enter Try.func13, Try.ntmps13
    go_wp2_with fail
    refine (toIntS_row _ z0 w HW0.out hn).mono ?_
    rintro e W1 ⟨u1, rfl, r1, l1⟩
    go_wp2_with fail
    refine (HSp.out u1 _ r1).mono ?_
    rintro e W2 ⟨rfl, q2, rfl⟩
    have b2 := l1.trans ((bdrew W1 q2).mono l1.size)
    go_wp2_with fail
    refine (toIntS_row _ z0 _ (HW0.out.below b2 (Nat.le_refl _)) hn).mono ?_
    rintro e W3 ⟨u3, rfl, r3, l3⟩
    have b3 := b2.trans (l3.mono b2.size)
    go_wp2_with fail
    refine (HIm.out u3 _ r3).mono ?_
    rintro e W4 ⟨rfl, rfl⟩
    go_wp2_with fail
    refine (toIntS_row _ z0 _ (HW0.out.below b3 (Nat.le_refl _)) hn).mono ?_
    rintro e W5 ⟨u5, rfl, r5, l5⟩
    have r6 := r3.below l5 (Nat.le_refl _)
    have b5 := b3.trans (l5.mono b3.size)
    go_wp2_with fail
    refine (eqIntS_any u3 u5 z0 z0 _ r6 r5).mono ?_
    rintro e W6 ⟨rfl, k, rfl⟩
    go_wp2_with fail
    go_ret
    exact ⟨rfl, b5.trans ((bdrew _ _).mono b5.size)⟩
  · have hn' : ¬ (z0.length : Int) ≤ 1048576 := by omega
    clear w0 b0 hn
    go_enter Try.func13, Try.ntmps13
    go_wp2_with fail
    go_ret
    exact ⟨rfl, Below.refl _ _⟩
end Go.Proofs.Ytfdpjgjclbnnfaa
