/-
  Timers: slices.BinarySearchFunc, where a timer is.
-/
import Derived.Test.YtoehedogdbafpaaTimI
namespace Go.Proofs.Ytoehedogdbafpaa
open Go.RowKit Go.Lib Go.Joins
set_option linter.unusedVariables false

set_option maxRecDepth 100000 in
set_option maxHeartbeats 2000000 in
theorem bsearchT_any (v : Value) (s : List Tm) (x : Int) (w : World) (hrow : Row w v s.length (tmF s)) (hasc : Asc s) (hn : s.length ≤ 1000) :
    Calls Try.prog 86 #[v, .int .i64 x, .func (.func 87) #[] #[]] w fun e w' => e = .returned (.tuple #[.int .i64 (plc s x), .bool (fnd s x)]) ∧ Below w.heap.size w w' := by
  have eg : ∀ args w, (callFunc 87 args).run Try.prog w = .ok (.enter 87 args) w := enters_of Try.func87 (by kernel_rfl) rfl
  obtain ⟨a, cap, rfl, hc1, hm1, hcell⟩ := tm_open hrow
  have HC := Lib.hid hcell
  have HA := Lib.hid hasc
  unfold maxLen at hm1
  clear hcell hrow hasc
  obtain ⟨n, hN⟩ : ∃ n, n = s.length := ⟨_, rfl⟩
  rw [← hN] at hn hc1 ⊢
  have HN := Lib.hid hN
  clear hN
  go_enter Try.func86, Try.ntmps86
  go_wp2_with fail
  go_loopw [9, 10] (fun i j wr => ∃ p q : Nat, p ≤ q ∧ q ≤ n ∧ i = .int .i64 p ∧ j = .int .i64 q ∧ Hid (∀ k (h : k < s.length), k < p → s[k].i < x) ∧ Hid (∀ k (h : k < s.length), q ≤ k → x ≤ s[k].i) ∧ Hid (Below w.heap.size w wr)) (fun i j _ => (intOf j).toNat - (intOf i).toNat)
  case atStart => exact ⟨0, n, by omega, by omega, rfl, rfl, Lib.hid (fun k h hk => absurd hk (Nat.not_lt_zero _)), Lib.hid (fun k h hk => by have := HN.out; omega), Lib.hid (Below.refl _ _)⟩
  case round =>
    obtain ⟨p, q, hpq, hqn, rfl, rfl, HP, HQ, HB⟩ := hrel
    by_cases hlt : p < q
    · obtain ⟨m, hm1', hm2, hmm⟩ : ∃ m : Nat, p ≤ m ∧ m < q ∧ ((p : Int) + (q : Int)) / 2 = (m : Int) := ⟨(p + q) / 2, by omega, by omega, by omega⟩
      have hw : IntKind.i64.wrap ((p : Int) + (q : Int)) = (p : Int) + (q : Int) := IntWalk.i64_in _ (by omega)
      have hms : m < s.length := by rw [← HN.out]; omega
      obtain ⟨b, off, rfl, hb, q0, q1, q2⟩ := HC.out m hms
      have r0 := (HB.out.cell hb).trans q0
      have r1 := (HB.out.cell hb).trans q1
      have r2 := (HB.out.cell hb).trans q2
      have HLo := Lib.hid (fun h => @asc_lo s HA.out x m hms h)
      have HHi : Hid (¬ s[m].i < x → ∀ k (h : k < s.length), m ≤ k → x ≤ s[k].i) := Lib.hid (fun h k hk hm => Int.not_lt.1 (asc_hi HA.out hms h k hk hm))
      have HKy := Lib.hid (placeKey_any s[m] x)
      clear q0 q1 q2
      generalize s[m] = t at r0 r1 r2 HLo HHi HKy
      have hmI : (m : Int) < (n : Int) := by omega
      have HMm := Lib.hid (And.intro hm1' hm2)
      clear hms hm1' hm2
      by_cases hx : t.i < x
      · have HP2 := Lib.hid (HLo.out hx)
        rw [cmpZ_lt hx] at HKy
        clear HLo HHi HP hx
        go_wp2_with (go_at_call 87; refine (HKy.out _).mono ?_; rintro e w1 ⟨rfl, l1⟩; have HB1 := Lib.hid (HB.out.trans (l1.mono HB.out.size)); clear l1)
        go_roundw
        case rel => exact ⟨m + 1, q, by have := HMm.out; omega, hqn, by go_num, rfl, HP2, HQ, HB1⟩
        case measure => (have := HMm.out; simp [intOf]; omega)
      · have HQ2 := Lib.hid (HHi.out hx)
        have hc := cmpZ_ge hx
        generalize cmpZ t.i x = c at HKy hc
        clear HLo HHi HQ hx
        go_wp2_with (go_at_call 87; refine (HKy.out _).mono ?_; rintro e w1 ⟨rfl, l1⟩; have HB1 := Lib.hid (HB.out.trans (l1.mono HB.out.size)); clear l1)
        go_roundw
        case rel => exact ⟨p, m, by have := HMm.out; omega, by have := HMm.out; omega, rfl, rfl, HP, HQ2, HB1⟩
        case measure => (have := HMm.out; simp [intOf]; omega)
    · obtain rfl : p = q := by omega
      have hpl : plc s x = p := plc_at (by rw [← HN.out]; exact hqn) HP.out (by first | exact HQ.out | exact fun k h hk => Int.not_lt.2 (HQ.out k h hk))
      by_cases hpn : p < n
      · have hps : p < s.length := by rw [← HN.out]; exact hpn
        obtain ⟨b, off, rfl, hb, q0, q1, q2⟩ := HC.out p hps
        have r0 := (HB.out.cell hb).trans q0
        have r1 := (HB.out.cell hb).trans q1
        have r2 := (HB.out.cell hb).trans q2
        have hf : fnd s x = (cmpZ s[p].i x == 0) := by
          rw [cmpZ_eq]; unfold fnd; rw [hpl, List.getElem?_eq_getElem hps]
        have HKy := Lib.hid (placeKey_any s[p] x)
        have HF := Lib.hid (And.intro hpl hf)
        clear q0 q1 q2 hf hpl
        generalize s[p] = t at r0 r1 r2 HKy HF
        clear hps
        generalize cmpZ t.i x = c at HKy HF
        go_wp2_with (go_at_call 87; refine (HKy.out _).mono ?_; rintro e w1 ⟨rfl, l1⟩; have HB1 := Lib.hid (HB.out.trans (l1.mono HB.out.size)); clear l1)
        go_ret2
        exact ⟨by rw [HF.out.1, HF.out.2]; rfl, HB1.out⟩
      · have hf : fnd s x = false := by
          unfold fnd; rw [hpl, List.getElem?_eq_none (by rw [← HN.out]; omega)]
        have HF := Lib.hid (And.intro hpl hf)
        clear hpl hf
        obtain rfl : p = n := by omega
        go_wp2_with fail
        go_ret2
        exact ⟨by rw [HF.out.1, HF.out.2]; rfl, HB.out⟩
set_option maxRecDepth 100000 in
theorem placeOf_any (v : Value) (s : List Tm) (x : Int) (w : World) (hrow : Row w v s.length (tmF s)) (hasc : Asc s) (hn : s.length ≤ 1000) :
    Calls Try.prog 73 #[v, .int .i64 x] w fun e w' => e = .returned (.tuple #[.int .i64 (plc s x), .bool (fnd s x)]) ∧ Below w.heap.size w w' := by
  have HB := Lib.hid (bsearchT_any v s x w hrow hasc hn)
  clear hrow hasc hn
  generalize plc s x = p at HB ⊢
  generalize fnd s x = b at HB ⊢
  go_enter Try.func73, Try.ntmps73
  go_wp2_with fail
  refine HB.out.mono ?_
  rintro e w1 ⟨rfl, l1⟩
  go_wp2_with fail
  go_ret2
  exact ⟨rfl, l1⟩
end Go.Proofs.Ytoehedogdbafpaa
