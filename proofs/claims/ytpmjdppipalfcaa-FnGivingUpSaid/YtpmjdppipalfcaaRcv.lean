/-
  Receive windows: the specification's functions that read.
-/
import Derived.Test.YtpmjdppipalfcaaRcvB
import Derived.Test.YtpmjdppipalfcaaSer
import Derived.Test.YtpmjdppipalfcaaPkt
import Derived.Deep.QuietTactic
import Derived.BigQuiet
import Derived.IntWalk
import Derived.Deep.CutRange
import Derived.WalkLawsBesides
import Derived.Lib.SmallJoins
import Derived.Deep.RegionHeld3
namespace Go.Proofs.Ytpmjdppipalfcaa
open Go.RowKit Go.Lib Go.Joins
set_option linter.unusedVariables false

theorem rwOk_no {w : Rw} (h : ¬ ((0 ≤ w.x ∧ w.x ≤ 65535) ∧ w.q.length ≤ 8 ∧ (∀ s ∈ w.q, slOk s = true) ∧ firstB w.q = true ∧ lastB w.q = true)) : rwOk w = false := by
  cases e : rwOk w with
  | false => rfl
  | true => exact absurd (rwOk_iff.1 e) h
theorem size_zero {s : ByteArray} (h : s.size = 0) : s = ⟨#[]⟩ := by
  apply ByteArray.ext
  exact Array.eq_empty_of_size_eq_zero h
theorem toList_ne {s : ByteArray} (h : ¬ s.size = 0) : (s.toList == ([] : List UInt8)) = false := by
  rw [beq_eq_false_iff_ne]
  intro e
  have := congrArg List.length e
  rw [ByteArray.toList_eq] at this
  exact h (by simpa using this)
set_option maxRecDepth 100000 in
set_option maxHeartbeats 8000000 in
theorem l10Good_any (v : Value) (l : Rw) (w : World) (hrow : Row w v l.q.length (slF l.q)) (hs : ∀ s ∈ l.q, s.s.size ≤ maxLen) :
    Calls Try.prog 47 #[.agg #[.int .i64 l.x, v]] w fun e w' => e = .returned (.bool (rwOk l)) ∧ Below w.heap.size w w' := by
  obtain ⟨x, q⟩ := l
  dsimp only at hrow hs ⊢
  obtain ⟨a, cap, rfl, hc1, hm1, _⟩ := sl_open hrow
  unfold maxLen at hm1
  have HP := Lib.hid hrow
  clear hrow
  have HS := Lib.hid hs
  clear hs
  obtain ⟨W0, R_T, hW0, hR_T, hX_T, hB0⟩ := entry1 w #[.int .i64 x, .slice a q.length cap] 26
  have HW0 := Lib.hid hW0
  have HB0 := Lib.hid hB0
  have HR_T := Lib.hid hR_T
  have HX_T := Lib.hid hX_T
  clear hW0 hB0 hR_T hX_T
  have c1_T_0 := HX_T.out.at 0 (v := .int .i64 x) rfl
  have c1_T_1 := HX_T.out.at 1 (v := .slice a q.length cap) rfl
  have hle : ∀ (k : Nat), (k : Int) = (k : Int) := fun _ => rfl
  have HNo := Lib.hid (@rwOk_no ⟨x, q⟩)
  have HSer := Lib.hid (fun (W1 : World) => l2Good_any x W1)
  cases h1 : serB x with
  | false =>
    rw [h1] at HSer
    have HE : Hid (rwOk ⟨x, q⟩ = false) := Lib.hid (HNo.out (fun h => by have := h.1; rw [serB_yes this.1 this.2] at h1; cases h1))
    clear HNo
    go_enter Try.func47, Try.ntmps47
    go_upto_region 1 with fail
    rw [← HW0.out, ← HR_T.out]
    go_wp2_with fail
    refine (HSer.out _).mono ?_
    rintro e _ ⟨rfl, rfl⟩
    go_wp2_with fail
    go_ret
    exact ⟨ret_bool HE.out.symm, HB0.out⟩
  | true =>
    rw [h1] at HSer
    by_cases h3 : q.length ≤ 8
    rotate_left
    · have h3' : (8 : Int) < (q.length : Int) := by omega
      have HE : Hid (rwOk ⟨x, q⟩ = false) := Lib.hid (HNo.out (fun h => by exact h3 h.2.1))
      clear HNo
      go_enter Try.func47, Try.ntmps47
      go_upto_region 1 with fail
      rw [← HW0.out, ← HR_T.out]
      go_wp2_with fail
      refine (HSer.out _).mono ?_
      rintro e _ ⟨rfl, rfl⟩
      go_wp2_with fail
      go_ret
      exact ⟨ret_bool HE.out.symm, HB0.out⟩
    have h3' : ¬ (8 : Int) < (q.length : Int) := by omega
    have HYes : Hid ((∀ s ∈ q, slOk s = true) → firstB q = true → lastB q = true → rwOk ⟨x, q⟩ = true) := Lib.hid (fun h i j => rwOk_iff.2 ⟨serB_bd h1, h3, h, i, j⟩)
    clear h1
    go_enter Try.func47, Try.ntmps47
    go_upto_region 1 with fail
    rw [← HW0.out, ← HR_T.out]
    go_wp2_with fail
    refine (HSer.out _).mono ?_
    rintro e _ ⟨rfl, rfl⟩
    go_wp2_with fail
    go_loop [4] (fun i => ∃ k : Nat, k ≤ q.length ∧ i = .int .i64 k ∧ Hid (∀ s ∈ q.take k, slOk s = true)) (fun i => q.length - (RowKit.intOf i).toNat)
    case atStart => exact ⟨0, Nat.zero_le _, rfl, Lib.hid (by simp)⟩
    case round =>
      obtain ⟨k, hk, rfl, HA⟩ := hrel
      by_cases hkn : k < q.length
      · obtain ⟨b, off, rfl, hb, d0, d1⟩ := row_sl HP.out hkn
        have e0 := (HB0.out.cell (p := ⟨b, off + k * 2, none⟩) hb).trans d0
        have e1 := (HB0.out.cell (p := ⟨b, off + k * 2 + 1, none⟩) hb).trans d1
        clear d0 d1
        have HL := Lib.hid (fun (W1 : World) => l4Letters_any q[k].s 8 W1 (HS.out _ (List.getElem_mem hkn)) (by omega))
        have HPk : Hid (slOk q[k] = true → ∀ s ∈ q.take (k + 1), slOk s = true) := Lib.hid (fun h s hs => by
          rw [List.take_succ_eq_append_getElem hkn] at hs
          rcases List.mem_append.1 hs with hs | hs
          · exact HA.out s hs
          · rw [List.mem_singleton.1 hs]; exact h)
        have HQ : Hid (slOk q[k] = false → rwOk ⟨x, q⟩ = false) := Lib.hid (fun h => HNo.out (fun hh => by have := hh.2.2.1 _ (List.getElem_mem hkn); rw [h] at this; cases this))
        have hsl : slOk q[k] = ((ltrB q[k].s && decide (q[k].s.size ≤ 8)) && (q[k].h || decide (q[k].s.size = 0))) := rfl
        rw [hsl] at HPk HQ
        clear hsl
        generalize (ltrB q[k].s && decide (q[k].s.size ≤ 8)) = it at HL HPk HQ
        generalize q[k].s = s at e1 HL HPk HQ
        generalize q[k].h = hv at e0 HPk HQ
        cases it with
        | false =>
          have HE := Lib.hid (HQ.out rfl)
          clear HPk HQ HA HYes HNo
          go_wp2_with fail
          refine (HL.out _).mono ?_
          rintro e _ ⟨rfl, rfl⟩
          go_wp2_with fail
          go_ret
          exact ⟨ret_bool HE.out.symm, HB0.out⟩
        | true =>
          cases hv with
          | true =>
            have HA2 := Lib.hid (HPk.out rfl)
            clear HPk HQ HA HYes HNo
            go_wp2_with fail
            refine (HL.out _).mono ?_
            rintro e _ ⟨rfl, rfl⟩
            go_wp2_with fail
            go_round
            case rel => exact ⟨k + 1, by omega, by go_num, HA2⟩
            case measure => (simp [RowKit.intOf]; omega)
          | false =>
            by_cases hz : s.size = 0
            · obtain rfl := size_zero hz
              have HA2 := Lib.hid (HPk.out rfl)
              clear HPk HQ HA HYes HNo
              go_wp2_with fail
              refine (HL.out _).mono ?_
              rintro e _ ⟨rfl, rfl⟩
              go_wp2_with fail
              go_round
              case rel => exact ⟨k + 1, by omega, by go_num, HA2⟩
              case measure => (simp [RowKit.intOf]; omega)
            · rw [decide_eq_false hz] at HPk HQ
              have hne : (s.toList == ([] : List UInt8)) = false := toList_ne hz
              have HE := Lib.hid (HQ.out rfl)
              clear HPk HQ HA HYes HNo
              go_wp2_with fail
              refine (HL.out _).mono ?_
              rintro e _ ⟨rfl, rfl⟩
              go_wp2_with fail
              go_ret
              exact ⟨ret_bool HE.out.symm, HB0.out⟩
      · obtain rfl : k = q.length := by omega
        have HY2 : Hid (firstB q = true → lastB q = true → rwOk ⟨x, q⟩ = true) := Lib.hid (HYes.out (fun s hs => HA.out s (by rw [List.take_of_length_le (Nat.le_refl _)]; exact hs)))
        clear HA HYes
        by_cases hz : q.length = 0
        · have HE := Lib.hid (HY2.out (by rw [first_has]; rw [List.length_eq_zero_iff] at hz; rw [hz]; rfl) (by rw [List.length_eq_zero_iff] at hz; rw [hz]; rfl))
          clear HY2 HNo
          go_wp2_with fail
          go_ret
          exact ⟨ret_bool HE.out.symm, HB0.out⟩
        · obtain ⟨b, off, rfl, hb, d0, d1⟩ := row_sl (k := 0) HP.out (by omega)
          obtain ⟨b2, off2, e2, hb2, d2, d3⟩ := row_sl (k := q.length - 1) HP.out (by omega)
          injection e2 with e2
          injection e2 with e3 e4
          subst e3 e4
          have e0 := (HB0.out.cell (p := ⟨b, off + 0 * 2, none⟩) hb).trans d0
          have e2 := (HB0.out.cell (p := ⟨b, off + (q.length - 1) * 2, none⟩) hb).trans d2
          rw [Nat.zero_mul, Nat.add_zero] at e0
          clear d0 d1 d2 d3
          have hf : firstB q = !(q[0]'(by omega)).h := by rw [first_has]; unfold hasQ; rw [List.getElem?_eq_getElem (by omega)]
          have hl : lastB q = (q[q.length - 1]'(by omega)).h := by rw [last_has, decide_eq_false hz, Bool.false_or]; unfold hasQ; rw [List.getElem?_eq_getElem (by omega)]
          generalize (q[0]'(by omega)).h = f1 at e0 hf
          generalize (q[q.length - 1]'(by omega)).h = f2 at e2 hl
          have HE : Hid (rwOk ⟨x, q⟩ = (!f1 && f2)) := Lib.hid (by
            cases f1 with
            | true => exact HNo.out (fun h => by rw [hf] at h; cases h.2.2.2.1)
            | false =>
              cases f2 with
              | false => exact HNo.out (fun h => by rw [hl] at h; cases h.2.2.2.2)
              | true => exact HY2.out hf hl)
          clear HY2 HNo hf hl
          have hz0 : ((q.length : Int) == 0) = false := by rw [beq_eq_false_iff_ne]; omega
          cases f1 <;> cases f2 <;> (go_wp2_with fail; go_ret; exact ⟨ret_bool HE.out.symm, HB0.out⟩)
end Go.Proofs.Ytpmjdppipalfcaa
