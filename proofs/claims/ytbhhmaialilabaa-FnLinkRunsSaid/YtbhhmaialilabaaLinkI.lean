/-
  Links: the program's letters and validity.
-/
import Derived.Test.YtbhhmaialilabaaLink2
import Derived.Test.YtbhhmaialilabaaIdxS
import Derived.Deep.LoopGhost
import Derived.WalkMore
namespace Go.Proofs.Ytbhhmaialilabaa
open Go.RowKit Go.Lib Go.Joins
set_option linter.unusedVariables false

/-- Whether a text can be the letters of a link. -/
def areB (f : ByteArray) : Bool := decide (f.size ≤ 40) && f.data.toList.all letB
theorem areB_long {f : ByteArray} (h : ¬ f.size ≤ 40) : areB f = false := by unfold areB; rw [decide_eq_false h]; rfl
theorem areB_yes {f : ByteArray} (h : f.size ≤ 40) (h2 : ∀ b ∈ f.data.toList, 0 ≤ fateN b) : areB f = true := by
  unfold areB
  rw [decide_eq_true h, Bool.true_and, List.all_eq_true]
  exact fun b hb => decide_eq_true (h2 b hb)
theorem areB_no {f : ByteArray} {b : UInt8} (hb : b ∈ f.data.toList) (h : ¬ 0 ≤ fateN b) : areB f = false := by
  unfold areB
  cases e : f.data.toList.all letB with
  | false => rw [Bool.and_false]
  | true =>
    rw [List.all_eq_true] at e
    exact absurd (of_decide_eq_true (e b hb)) h
theorem lkOk_are (l : Lk) : lkOk l = (!(decide (8 < l.q.length) || l.q.any fun s => !shortB s) && (areB l.f && (decide (0 ≤ l.u) && decide (l.u ≤ l.f.size)))) := by
  unfold lkOk areB
  have e1 : (l.q.any fun s => !shortB s) = !(l.q.all shortB) := by
    rw [List.any_eq_not_all_not]; simp
  rw [e1]
  have e2 : decide (8 < l.q.length) = !decide (l.q.length ≤ 8) := by
    by_cases h : l.q.length ≤ 8
    · rw [decide_eq_true h, decide_eq_false (by omega)]; rfl
    · rw [decide_eq_false h, decide_eq_true (by omega)]; rfl
  rw [e2]
  cases l.q.all shortB <;> cases decide (l.q.length ≤ 8) <;> cases l.f.data.toList.all letB <;> cases decide (l.f.size ≤ 40) <;> simp
theorem newOk_are (f : ByteArray) : newOk f = areB f := by
  show lkOk ⟨[], f, 0⟩ = _
  rw [lkOk_are]
  have h : (decide ((0 : Int) ≤ 0) && decide ((0 : Int) ≤ (f.size : Int))) = true := by rw [decide_eq_true (by omega), decide_eq_true (by omega)]; rfl
  show (!(decide (8 < 0) || false) && (areB f && _)) = _
  simp
theorem tooLong_any (s : ByteArray) (w : World) :
    Calls Try.prog 59 #[.string s] w fun e w' => e = .returned (.bool (!shortB s)) ∧ w = w' := by
  by_cases h : s.size ≤ 60
  · have h' : ¬ (60 : Int) < (s.size : Int) := by omega
    have hs : shortB s = true := decide_eq_true h
    rw [hs]
    clear hs
    go_enter Try.func59, Try.ntmps59
    go_wp2_with fail
    go_ret
    exact ⟨rfl, rfl⟩
  · have h' : (60 : Int) < (s.size : Int) := by omega
    have hs : shortB s = false := decide_eq_false h
    rw [hs]
    clear hs
    go_enter Try.func59, Try.ntmps59
    go_wp2_with fail
    go_ret
    exact ⟨rfl, rfl⟩
theorem fateI_four (x : Int) : (x = 107 ∨ x = 108 ∨ x = 100 ∨ x = 115) → 0 ≤ fateI x := by
  rintro (rfl | rfl | rfl | rfl) <;> decide
theorem fateI_none {x : Int} (h1 : x ≠ 107) (h2 : x ≠ 108) (h3 : x ≠ 100) (h4 : x ≠ 115) : ¬ 0 ≤ fateI x := by
  unfold fateI
  rw [if_neg h1, if_neg h2, if_neg h3, if_neg h4]
  decide
theorem bdrewN (B : Nat) (w : World) (n : Nat) : Below B w (w.drewN n) := ⟨rfl, rfl, rfl, Nat.le_refl _, fun _ _ => rfl⟩
theorem byte_neq {x : Int} {n : Int} (h : x ≠ n) : (x == n) = false := by simp; exact h
set_option maxRecDepth 100000 in
set_option maxHeartbeats 4000000 in
theorem areFates_any (f : ByteArray) (w : World) :
    Calls Try.prog 66 #[.string f] w fun e w' => e = .returned (.bool (areB f)) ∧ Below w.heap.size w w' := by
  by_cases h40 : f.size ≤ 40
  rotate_left
  · have h40' : (40 : Int) < (f.size : Int) := by omega
    have HE := Lib.hid (areB_long h40)
    clear h40
    go_enter Try.func66, Try.ntmps66
    go_wp2_with fail
    go_step3
    go_wp2_with fail
    try rw [Exit.noGoto_ret]
    go_ret
    exact ⟨ret_bool HE.out.symm, Below.refl _ _⟩
  have h40' : ¬ (40 : Int) < (f.size : Int) := by omega
  obtain ⟨n, hN⟩ : ∃ n, n = f.size := ⟨_, rfl⟩
  have HN := Lib.hid hN
  have HY := Lib.hid (areB_yes h40)
  have HNo := Lib.hid (fun (b : UInt8) (hb : b ∈ f.data.toList) (h : ¬ 0 ≤ fateN b) => areB_no hb h)
  clear hN h40
  go_enter Try.func66, Try.ntmps66
  go_wp2_with fail
  go_step3
  go_wp2_with fail
  go_step3
  go_wp2_with fail
  go_loopg [10] n (fun g i wr => ∃ k : Nat, k + g = n ∧ i = .int .i64 k ∧ Hid (∀ b ∈ f.data.toList.take k, 0 ≤ fateN b) ∧ Hid (Below w.heap.size w wr))
  case atStart => exact ⟨0, by omega, rfl, Lib.hid (by simp), Lib.hid (Below.refl _ _)⟩
  case round =>
    obtain ⟨k, hkg, rfl, HA, HB⟩ := hrel
    cases gk with
    | zero =>
      have hkz : ¬ ((k : Int) < (f.size : Int)) := by have := HN.out; omega
      have HE := Lib.hid (HY.out (fun b hb => HA.out b (by rw [List.take_of_length_le (by have := HN.out; simp; omega)]; exact hb)))
      clear HA HY HNo
      go_wp2_with fail
      try rw [Exit.noGoto_ret]
      go_ret
      exact ⟨ret_bool HE.out.symm, HB.out⟩
    | succ g =>
      have hkf : k < f.size := by have := HN.out; omega
      have hkz : ((k : Int) < (f.size : Int)) := by omega
      have HP : Hid (0 ≤ fateI (f[k].toNat : Int) → ∀ b ∈ f.data.toList.take (k + 1), 0 ≤ fateN b) := Lib.hid (fun h b hb => by
        rw [bytes_take hkf] at hb
        rcases List.mem_append.1 hb with hb | hb
        · exact HA.out b hb
        · rw [List.mem_singleton.1 hb, fateN_eq]; exact h)
      have HQ : Hid (¬ 0 ≤ fateI (f[k].toNat : Int) → areB f = false) := Lib.hid (fun h => HNo.out f[k] (by
          have : f[k] = f.data.toList[k]'(by simpa using hkf) := rfl
          rw [this]
          exact List.getElem_mem _) (by rw [fateN_eq]; omega))
      obtain ⟨x, hx⟩ : ∃ x : Int, x = (f[k].toNat : Int) := ⟨_, rfl⟩
      rw [← hx] at HP HQ
      have hx2 := hx.symm
      clear hx HA HNo HY
      by_cases e0 : x = 107
      · subst e0
        have HA2 := Lib.hid (HP.out (by decide))
        clear HP HQ
        go_wp2_with fail
        refine wp_loop_rounds 5 ?_
        rw [rounds_succ]
        go_wp2_with fail
        go_quiet (fail)
        go_wp2_with fail
        go_roundg g
        case rel => exact ⟨k + 1, by omega, by go_num, HA2, Lib.hid (HB.out.trans (by (first | exact Below.refl _ _ | exact bdrewN _ _ _ | exact (bdrewN _ _ _).trans (bdrewN _ _ _))))⟩
        case measure => omega
      have n0 : (x == 107) = false := byte_neq e0
      by_cases e1 : x = 108
      · subst e1
        have HA2 := Lib.hid (HP.out (by decide))
        clear HP HQ
        go_wp2_with fail
        refine wp_loop_rounds 5 ?_
        rw [rounds_succ]
        go_wp2_with fail
        go_quiet (fail)
        go_wp2_with fail
        rw [rounds_succ]
        go_wp2_with fail
        go_quiet (fail)
        go_wp2_with fail
        go_roundg g
        case rel => exact ⟨k + 1, by omega, by go_num, HA2, Lib.hid (HB.out.trans (by (first | exact Below.refl _ _ | exact bdrewN _ _ _ | exact (bdrewN _ _ _).trans (bdrewN _ _ _))))⟩
        case measure => omega
      have n1 : (x == 108) = false := byte_neq e1
      by_cases e2 : x = 100
      · subst e2
        have HA2 := Lib.hid (HP.out (by decide))
        clear HP HQ
        go_wp2_with fail
        refine wp_loop_rounds 5 ?_
        rw [rounds_succ]
        go_wp2_with fail
        go_quiet (fail)
        go_wp2_with fail
        rw [rounds_succ]
        go_wp2_with fail
        go_quiet (fail)
        go_wp2_with fail
        rw [rounds_succ]
        go_wp2_with fail
        go_quiet (fail)
        go_wp2_with fail
        go_roundg g
        case rel => exact ⟨k + 1, by omega, by go_num, HA2, Lib.hid (HB.out.trans (by (first | exact Below.refl _ _ | exact bdrewN _ _ _ | exact (bdrewN _ _ _).trans (bdrewN _ _ _))))⟩
        case measure => omega
      have n2 : (x == 100) = false := byte_neq e2
      by_cases e3 : x = 115
      · subst e3
        have HA2 := Lib.hid (HP.out (by decide))
        clear HP HQ
        go_wp2_with fail
        refine wp_loop_rounds 5 ?_
        rw [rounds_succ]
        go_wp2_with fail
        go_quiet (fail)
        go_wp2_with fail
        rw [rounds_succ]
        go_wp2_with fail
        go_quiet (fail)
        go_wp2_with fail
        rw [rounds_succ]
        go_wp2_with fail
        go_quiet (fail)
        go_wp2_with fail
        rw [rounds_succ]
        go_wp2_with fail
        go_quiet (fail)
        go_wp2_with fail
        go_roundg g
        case rel => exact ⟨k + 1, by omega, by go_num, HA2, Lib.hid (HB.out.trans (by (first | exact Below.refl _ _ | exact bdrewN _ _ _ | exact (bdrewN _ _ _).trans (bdrewN _ _ _))))⟩
        case measure => omega
      have n3 : (x == 115) = false := byte_neq e3
      have HE := Lib.hid (HQ.out (fateI_none e0 e1 e2 e3))
      have m0 : (x == (((⟨#[107, 108, 100, 115]⟩ : ByteArray)[0]'(by decide)).toNat : Int)) = false := n0
      have m1 : (x == (((⟨#[107, 108, 100, 115]⟩ : ByteArray)[1]'(by decide)).toNat : Int)) = false := n1
      have m2 : (x == (((⟨#[107, 108, 100, 115]⟩ : ByteArray)[2]'(by decide)).toNat : Int)) = false := n2
      have m3 : (x == (((⟨#[107, 108, 100, 115]⟩ : ByteArray)[3]'(by decide)).toNat : Int)) = false := n3
      clear HP HQ e0 e1 e2 e3 n0 n1 n2 n3
      go_wp2_with fail
      refine wp_loop_rounds 5 ?_
      rw [rounds_succ]
      go_wp2_with fail
      go_quiet (fail)
      go_wp2_with fail
      rw [rounds_succ]
      go_wp2_with fail
      go_quiet (fail)
      go_wp2_with fail
      rw [rounds_succ]
      go_wp2_with fail
      go_quiet (fail)
      go_wp2_with fail
      rw [rounds_succ]
      go_wp2_with fail
      go_quiet (fail)
      go_wp2_with fail
      rw [rounds_succ]
      go_wp2_with fail
      try rw [Exit.noGoto_ret]
      go_ret
      exact ⟨ret_bool HE.out.symm, HB.out.trans (by (first | exact Below.refl _ _ | exact bdrewN _ _ _ | exact (bdrewN _ _ _).trans (bdrewN _ _ _)))⟩
end Go.Proofs.Ytbhhmaialilabaa
