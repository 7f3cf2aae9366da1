/-
  Packets: letters, validity, check, octets, digits and texts of the specification.
-/
import Derived.Test.YtlendmiolhgecaaPktMath
import Derived.Test.YtlendmiolhgecaaInts
import Derived.Test.YtlendmiolhgecaaAppRow
import Derived.Laws.DeepStrings4
import Derived.Maps.AppendAt
import Derived.Deep.QuietTactic
import Derived.BigQuiet
import Derived.IntWalk
import Derived.WalkLawsBesides
import Derived.WalkArith
namespace Go.Proofs.Ytlendmiolhgecaa
open Go.RowKit Go.Lib
set_option linter.unusedVariables false

/-- A packet as a value. -/
def pv (k n t l : Int) (d : ByteArray) : Value := .agg #[.int .i64 k, .int .i64 n, .int .i64 t, .int .i64 l, .string d]
theorem ltr_lo {s : ByteArray} {k : Nat} (hk : k < s.size) (h : s[k].toNat < 97) : ltrB s = false := by
  unfold ltrB
  rw [Bool.eq_false_iff]
  intro e
  rw [List.all_eq_true] at e
  have := e s[k] (by have e2 : s[k] = s.data.toList[k]'hk := rfl; rw [e2]; exact List.getElem_mem _)
  unfold letB at this
  simp only [Bool.and_eq_true, decide_eq_true_eq] at this
  omega
theorem ltr_hi {s : ByteArray} {k : Nat} (hk : k < s.size) (h : 122 < s[k].toNat) : ltrB s = false := by
  unfold ltrB
  rw [Bool.eq_false_iff]
  intro e
  rw [List.all_eq_true] at e
  have := e s[k] (by have e2 : s[k] = s.data.toList[k]'hk := rfl; rw [e2]; exact List.getElem_mem _)
  unfold letB at this
  simp only [Bool.and_eq_true, decide_eq_true_eq] at this
  omega
def ltrT (s : ByteArray) (k : Nat) : Bool := (s.data.toList.take k).all letB
theorem ltrT_succ {s : ByteArray} {k : Nat} (hk : k < s.size) (h : ltrT s k = true) (h0 : 97 ≤ s[k].toNat) (h1 : s[k].toNat ≤ 122) : ltrT s (k + 1) = true := by
  have hk' : k < s.data.toList.length := hk
  have e2 : s[k] = s.data.toList[k]'hk := rfl
  unfold ltrT at h ⊢
  rw [List.take_succ_eq_append_getElem hk', List.all_append, h, ← e2]
  simp [letB, h0, h1]
theorem ltrT_all (s : ByteArray) : ltrT s s.size = ltrB s := by
  unfold ltrT ltrB
  rw [show s.data.toList.take s.size = s.data.toList from List.take_of_length_le (Nat.le_refl _)]

set_option maxHeartbeats 400000 in
theorem l4Letters_any (s : ByteArray) (m : Nat) (w : World) (hs : s.size ≤ maxLen) (hm : m ≤ 1000) :
    Calls Try.prog 78 #[.string s, .int .i64 m] w fun e w' => e = .returned (.bool (ltrB s && decide (s.size ≤ m))) ∧ w = w' := by
  unfold maxLen at hs
  go_enter Try.func78, Try.ntmps78
  go_wp2_with fail
  go_loop [5] (fun i => ∃ k : Nat, k ≤ s.size ∧ i = .int .i64 k ∧ Hid (ltrT s k = true)) (fun i => s.size - (intOf i).toNat)
  case atStart => exact ⟨0, Nat.zero_le _, rfl, Lib.hid (by simp [ltrT])⟩
  case round =>
    obtain ⟨k, hk, rfl, HL⟩ := hrel
    by_cases hks : k < s.size
    · have hu : s[k].toNat < 256 := s[k].toNat_lt
      by_cases h0 : s[k].toNat < 97
      · have h0' : (s[k].toNat : Int) < 97 := by omega
        have HF := Lib.hid (ltr_lo hks h0)
        go_wp2_with fail
        go_ret
        exact ⟨ret_bool (by rw [HF.out]; rfl), rfl⟩
      · have h0' : ¬ (s[k].toNat : Int) < 97 := by omega
        by_cases h1 : 122 < s[k].toNat
        · have h1' : (122 : Int) < (s[k].toNat : Int) := by omega
          have HF := Lib.hid (ltr_hi hks h1)
          go_wp2_with fail
          go_ret
          exact ⟨ret_bool (by rw [HF.out]; rfl), rfl⟩
        · have h1' : ¬ (122 : Int) < (s[k].toNat : Int) := by omega
          have HS := Lib.hid (ltrT_succ hks HL.out (by omega) (by omega))
          go_wp2_with fail
          go_round
          case rel => exact ⟨k + 1, by omega, by go_num, HS⟩
          case measure => simp [intOf]; omega
    · obtain rfl : k = s.size := by omega
      have HF : Hid (ltrB s = true) := Lib.hid (by rw [← ltrT_all]; exact HL.out)
      go_wp2_with fail
      go_ret
      refine ⟨ret_bool ?_, rfl⟩
      rw [HF.out, Bool.true_and]
theorem str_ne {d : ByteArray} (h : d.size ≠ 0) : (d.toList == ([] : List UInt8)) = false := by
  rw [beq_eq_false_iff_ne]
  intro e
  apply h
  rw [ByteArray.toList_eq] at e
  have := congrArg List.length e
  exact this
theorem str_empty_eq (d : ByteArray) (h : d.size = 0) : d = ⟨#[]⟩ := by
  apply ByteArray.ext
  exact Array.eq_empty_of_size_eq_zero h
set_option maxHeartbeats 1000000 in
theorem l4Good_any (k n t l : Int) (d : ByteArray) (w : World) (hd : d.size ≤ maxLen) :
    Calls Try.prog 126 #[pv k n t l d] w fun e w' => e = .returned (.bool (pktOk k n t l d)) ∧ Below w.heap.size w w' := by
  have HB := Lib.hid (((Below.refl w.heap.size w).alloc (Nat.le_refl _) (.cells #[.int .i64 k, .int .i64 n, .int .i64 t, .int .i64 l, .string d] 64)))
  have HL := Lib.hid (fun w => l4Letters_any d 8 w hd (by omega))
  have hpo : pktOk k n t l d = (inB k 1 5 && (serB n && (serB t && (serB l && (decide (gapI t l ≤ 32767) && (ltrB d && (decide (d.size ≤ 8) && (decide (d.size = 0) || inB k 1 2)))))))) := rfl
  unfold pv
  cases hk : inB k 1 5 with
  | false =>
    have HO := Lib.hid (show pktOk k n t l d = false by rw [hpo, hk]; simp)
    clear hpo
    go_enter Try.func126, Try.ntmps126
    go_wp2_with (first | (go_at_call 97; refine (l1In_any _ _ _ _).mono ?_; rintro e w' ⟨rfl, rfl⟩) | (go_at_call 66; refine (l2Good_any _ _).mono ?_; rintro e w' ⟨rfl, rfl⟩))
    go_ret
    exact ⟨ret_bool HO.out.symm, HB.out⟩
  | true =>
    cases hn : serB n with
    | false =>
      have HO := Lib.hid (show pktOk k n t l d = false by rw [hpo, hk, hn]; simp)
      clear hpo
      go_enter Try.func126, Try.ntmps126
      go_wp2_with (first | (go_at_call 97; refine (l1In_any _ _ _ _).mono ?_; rintro e w' ⟨rfl, rfl⟩) | (go_at_call 66; refine (l2Good_any _ _).mono ?_; rintro e w' ⟨rfl, rfl⟩))
      go_ret
      exact ⟨ret_bool HO.out.symm, HB.out⟩
    | true =>
      cases ht : serB t with
      | false =>
        have HO := Lib.hid (show pktOk k n t l d = false by rw [hpo, hk, hn, ht]; simp)
        clear hpo
        go_enter Try.func126, Try.ntmps126
        go_wp2_with (first | (go_at_call 97; refine (l1In_any _ _ _ _).mono ?_; rintro e w' ⟨rfl, rfl⟩) | (go_at_call 66; refine (l2Good_any _ _).mono ?_; rintro e w' ⟨rfl, rfl⟩))
        go_ret
        exact ⟨ret_bool HO.out.symm, HB.out⟩
      | true =>
        cases hl : serB l with
        | false =>
          have HO := Lib.hid (show pktOk k n t l d = false by rw [hpo, hk, hn, ht, hl]; simp)
          clear hpo
          go_enter Try.func126, Try.ntmps126
          go_wp2_with (first | (go_at_call 97; refine (l1In_any _ _ _ _).mono ?_; rintro e w' ⟨rfl, rfl⟩) | (go_at_call 66; refine (l2Good_any _ _).mono ?_; rintro e w' ⟨rfl, rfl⟩))
          go_ret
          exact ⟨ret_bool HO.out.symm, HB.out⟩
        | true =>
          obtain ⟨t0, t1⟩ := serB_bd ht
          obtain ⟨l0, l1⟩ := serB_bd hl
          obtain ⟨k0, k1⟩ := inB_bd hk
          have HGa := Lib.hid (fun w => l2Gap_any t l w t0 t1 l0 l1)
          obtain ⟨g0, g1⟩ := gapI_bd t l
          by_cases hg : gapI t l ≤ 32767
          · have hg' : ¬ (32767 : Int) < gapI t l := by omega
            have hgd : decide (gapI t l ≤ 32767) = true := decide_eq_true hg
            generalize gapI t l = ga at HGa hg' g0 g1 hpo hgd hg
            cases hL : ltrB d && decide (d.size ≤ 8) with
            | false =>
              rw [hL] at HL
              have hpo2 : pktOk k n t l d = false := by
                rw [hpo, hk, hn, ht, hl, hgd]
                cases h1 : ltrB d with
                | false => rfl
                | true =>
                  rw [h1, Bool.true_and] at hL
                  rw [hL]; rfl
              have HO := Lib.hid hpo2
              clear hpo hpo2 hL hg hgd
              go_enter Try.func126, Try.ntmps126
              go_wp2_with (first | (go_at_call 97; refine (l1In_any _ _ _ _).mono ?_; rintro e w' ⟨rfl, rfl⟩) | (go_at_call 66; refine (l2Good_any _ _).mono ?_; rintro e w' ⟨rfl, rfl⟩) | (go_at_call 94; refine (HGa.out _).mono ?_; rintro e w' ⟨rfl, rfl⟩) | (go_at_call 78; refine (HL.out _).mono ?_; rintro e w' ⟨rfl, rfl⟩))
              go_ret
              exact ⟨ret_bool HO.out.symm, HB.out⟩
            | true =>
              rw [hL] at HL
              have hpo2 : pktOk k n t l d = (decide (d.size = 0) || inB k 1 2) := by
                rw [Bool.and_eq_true] at hL
                rw [hpo, hk, hn, ht, hl, hgd, hL.1, hL.2]; try rfl
              clear hpo hL hg hgd
              by_cases hz : d.size = 0
              · have HO := Lib.hid (hpo2.trans (by rw [decide_eq_true hz, Bool.true_or]))
                obtain rfl := str_empty_eq d hz
                clear hpo2 hz
                go_enter Try.func126, Try.ntmps126
                go_wp2_with (first | (go_at_call 97; refine (l1In_any _ _ _ _).mono ?_; rintro e w' ⟨rfl, rfl⟩) | (go_at_call 66; refine (l2Good_any _ _).mono ?_; rintro e w' ⟨rfl, rfl⟩) | (go_at_call 94; refine (HGa.out _).mono ?_; rintro e w' ⟨rfl, rfl⟩) | (go_at_call 78; refine (HL.out _).mono ?_; rintro e w' ⟨rfl, rfl⟩))
                go_ret
                exact ⟨ret_bool HO.out.symm, HB.out⟩
              · have hpo3 := hpo2.trans (by rw [decide_eq_false hz, Bool.false_or])
                have hne : (d.toList == ([] : List UInt8)) = false := str_ne hz
                by_cases hk12 : k ≤ 2
                · rcases (by omega : k = 1 ∨ k = 2) with rfl | rfl
                  all_goals
                    have HO := Lib.hid (hpo3.trans (inB_yes (by omega) (by omega)))
                    clear hpo2 hpo3 hz
                    go_enter Try.func126, Try.ntmps126
                    go_wp2_with (first | (go_at_call 97; refine (l1In_any _ _ _ _).mono ?_; rintro e w' ⟨rfl, rfl⟩) | (go_at_call 66; refine (l2Good_any _ _).mono ?_; rintro e w' ⟨rfl, rfl⟩) | (go_at_call 94; refine (HGa.out _).mono ?_; rintro e w' ⟨rfl, rfl⟩) | (go_at_call 78; refine (HL.out _).mono ?_; rintro e w' ⟨rfl, rfl⟩))
                    go_ret
                    exact ⟨ret_bool HO.out.symm, HB.out⟩
                · have HO := Lib.hid (hpo3.trans (inB_no (by omega)))
                  have e1 : (k == 1) = false := by simp; omega
                  have e2 : (k == 2) = false := by simp; omega
                  clear hpo2 hpo3 hz
                  go_enter Try.func126, Try.ntmps126
                  go_wp2_with (first | (go_at_call 97; refine (l1In_any _ _ _ _).mono ?_; rintro e w' ⟨rfl, rfl⟩) | (go_at_call 66; refine (l2Good_any _ _).mono ?_; rintro e w' ⟨rfl, rfl⟩) | (go_at_call 94; refine (HGa.out _).mono ?_; rintro e w' ⟨rfl, rfl⟩) | (go_at_call 78; refine (HL.out _).mono ?_; rintro e w' ⟨rfl, rfl⟩))
                  go_ret
                  exact ⟨ret_bool HO.out.symm, HB.out⟩
          · have hg' : (32767 : Int) < gapI t l := by omega
            have hgd : decide (gapI t l ≤ 32767) = false := decide_eq_false hg
            have HO := Lib.hid (show pktOk k n t l d = false by rw [hpo, hk, hn, ht, hl, hgd]; rfl)
            clear hpo hgd hg
            generalize gapI t l = ga at HGa hg' g0 g1
            go_enter Try.func126, Try.ntmps126
            go_wp2_with (first | (go_at_call 97; refine (l1In_any _ _ _ _).mono ?_; rintro e w' ⟨rfl, rfl⟩) | (go_at_call 66; refine (l2Good_any _ _).mono ?_; rintro e w' ⟨rfl, rfl⟩) | (go_at_call 94; refine (HGa.out _).mono ?_; rintro e w' ⟨rfl, rfl⟩) | (go_at_call 78; refine (HL.out _).mono ?_; rintro e w' ⟨rfl, rfl⟩))
            go_ret
            exact ⟨ret_bool HO.out.symm, HB.out⟩
end Go.Proofs.Ytlendmiolhgecaa
