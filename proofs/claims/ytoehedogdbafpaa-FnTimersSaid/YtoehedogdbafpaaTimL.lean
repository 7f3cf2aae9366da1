/-
  The laws' rTimers at equal lists.
-/
import Derived.Test.YtoehedogdbafpaaTimS
import Derived.Deep.RegionHeld3
import Derived.BigQuiet
import Derived.Deep.QuietTactic
namespace Go.Proofs.Ytoehedogdbafpaa
open Go.RowKit Go.Lib Go.Joins
set_option linter.unusedVariables false

set_option maxRecDepth 100000 in
set_option maxHeartbeats 4000000 in
theorem rTimers_same (v1 v2 : Value) (s : List Tm) (w : World) (h1 : Row w v1 s.length (tmF s)) (h2 : Row w v2 s.length (tmF s)) :
    Calls Try.prog 18 #[v1, v2] w fun e w' => e = .returned (.bool true) ∧ Below w.heap.size w w' := by
  obtain ⟨a1, c1, rfl, hc1, hm1, hcell1⟩ := tm_open h1
  obtain ⟨a2, c2, rfl, hc2, hm2, hcell2⟩ := tm_open h2
  have HC1 := Lib.hid hcell1
  have HC2 := Lib.hid hcell2
  clear hcell1 hcell2 h1 h2
  unfold maxLen at hm1 hm2
  obtain ⟨n, hN⟩ : ∃ n, n = s.length := ⟨_, rfl⟩
  rw [← hN] at hc1 hc2 ⊢
  have HN := Lib.hid hN
  clear hN
  have HR0 := Lib.hid (Below.refl w.heap.size w)
  go_enter Try.func18, Try.ntmps18
  go_wp2_with fail
  go_loopw [5] (fun i wr => ∃ k : Nat, k ≤ n ∧ i = .int .i64 k ∧ Hid (Below w.heap.size w wr)) (fun i _ => n - (intOf i).toNat)
  case atStart => exact ⟨0, Nat.zero_le _, rfl, HR0⟩
  case round =>
    clear HR0
    obtain ⟨k, hk, rfl, HB⟩ := hrel
    by_cases hkn : k < n
    · have hks : k < s.length := by rw [← HN.out]; exact hkn
      obtain ⟨b1, o1, rfl, hb1, p0, p1, p2⟩ := HC1.out k hks
      obtain ⟨b2, o2, rfl, hb2, p3, p4, p5⟩ := HC2.out k hks
      have q0 := (HB.out.cell hb1).trans p0
      have q1 := (HB.out.cell hb1).trans p1
      have q2 := (HB.out.cell hb1).trans p2
      have q3 := (HB.out.cell hb2).trans p3
      have q4 := (HB.out.cell hb2).trans p4
      have q5 := (HB.out.cell hb2).trans p5
      clear p0 p1 p2 p3 p4 p5
      generalize s[k].i = x0 at q0 q3
      generalize s[k].d = x1 at q1 q4
      generalize s[k].p = x2 at q2 q5
      go_wp2_with fail
      go_quiet (fail)
      go_wp2_with fail
      go_roundw
      case rel => exact ⟨k + 1, by omega, by go_num, Lib.hid (b_d HB.out _)⟩
      case measure => (simp [intOf]; omega)
    · obtain rfl : k = n := by omega
      go_wp2_with fail
      go_ret
      exact ⟨rfl, HB.out⟩
end Go.Proofs.Ytoehedogdbafpaa
