/-
  Receive windows: the specification's functions that read.
-/
import Derived.Test.YtpmjdppipalfcaaDoorRcv
import Derived.Deep.QuietTactic
import Derived.BigQuiet
import Derived.IntWalk
import Derived.Deep.CutRange
import Derived.WalkLawsBesides
import Derived.Lib.SmallJoins
import Derived.Deep.RegionHeld3
namespace Go.Proofs.YtpmjdppipalfcaaDoor
open Go.RowKit Go.Lib Go.Joins
set_option linter.unusedVariables false

set_option maxRecDepth 100000 in
set_option maxHeartbeats 1000000 in
theorem specIsRw_any (v : Value) (l : Rw) (w : World) (hrow : Row w v l.q.length (slF l.q)) (hs : ∀ s ∈ l.q, s.s.size ≤ maxLen) :
    Calls Tryd.prog 13 #[.agg #[.int .i64 l.x, v]] w fun e w' => e = .returned (.bool (rwOk l)) ∧ Below w.heap.size w w' := by
  obtain ⟨x, q⟩ := l
  dsimp only at hrow hs ⊢
  obtain ⟨a, cap, rfl, hc1, hm1, _⟩ := sl_open hrow
  unfold maxLen at hm1
  have HP := Lib.hid hrow
  clear hrow
  have HS := Lib.hid hs
  clear hs
  obtain ⟨W0, R_T, hW0, hR_T, hX_T, hB0⟩ := entry1 w #[.int .i64 x, .slice a q.length cap] 26
  have HW0 := Lib.hid hW0
  have HB0 := Lib.hid hB0
  have HR_T := Lib.hid hR_T
  have HX_T := Lib.hid hX_T
  clear hW0 hB0 hR_T hX_T
  have c1_T_0 := HX_T.out.at 0 (v := .int .i64 x) rfl
  have c1_T_1 := HX_T.out.at 1 (v := .slice a q.length cap) rfl
  have HG := Lib.hid (l10Good_any (.slice a q.length cap) ⟨x, q⟩ W0 (HP.out.below HB0.out (Nat.le_refl _)) HS.out)
  generalize rwOk ⟨x, q⟩ = ok at HG ⊢
  go_enter Tryd.func13, Tryd.ntmps13
  go_upto_region 1 with fail
  rw [← HW0.out, ← HR_T.out]
  go_wp2_with fail
  refine (HG.out).mono ?_
  rintro e W2 ⟨rfl, l2⟩
  clear c1_T_0 c1_T_1
  have HB_3 := Lib.hid (HB0.out.trans (l2.mono HB0.out.size))
  have T_3 := Lib.hid (HX_T.out.below l2 HX_T.out.lt)
  clear l2
  have c4_T_0 := T_3.out.at 0 (v := .int .i64 x) rfl
  have c4_T_1 := T_3.out.at 1 (v := .slice a q.length cap) rfl
  go_wp2_with fail
  go_ret
  exact ⟨rfl, HB_3.out⟩
set_option maxRecDepth 100000 in
set_option maxHeartbeats 1000000 in
theorem l10Reach_any (v : Value) (l : Rw) (w : World) (hrow : Row w v l.q.length (slF l.q)) (n : Int) (hx : 0 ≤ l.x ∧ l.x ≤ 65535) (hn : 0 ≤ n ∧ n ≤ 65535) :
    Calls Tryd.prog 42 #[.agg #[.int .i64 l.x, v], .int .i64 n] w fun e w' => e = .returned (.bool (reachB l n)) ∧ Below w.heap.size w w' := by
  obtain ⟨x, q⟩ := l
  dsimp only at hrow ⊢
  obtain ⟨a, cap, rfl, hc1, hm1, _⟩ := sl_open hrow
  unfold maxLen at hm1
  have HP := Lib.hid hrow
  clear hrow
  dsimp only at hx
  have HGp := Lib.hid (fun (W1 : World) => l2Gap_any x n W1 hx.1 hx.2 hn.1 hn.2)
  have HBf := Lib.hid (fun (W1 : World) => l2Before_any n x W1 hn.1 hn.2 hx.1 hx.2)
  obtain ⟨k, hk⟩ : ∃ k : Nat, gapI x n = (k : Int) := ⟨(gapI x n).toNat, by have := gapI_bd x n; omega⟩
  have hh : reachB ⟨x, q⟩ n = (befB n x || decide ((k : Int) < 8)) := by
    show (befB n x || decide (gapI x n < 8)) = _
    rw [hk]
  rw [hk] at HGp
  generalize befB n x = bf at HBf hh
  rw [hh]
  clear hh hk hx hn
  obtain ⟨W0, R_T, hW0, hR_T, hX_T, hB0⟩ := entry1 w #[.int .i64 x, .slice a q.length cap] 26
  have HW0 := Lib.hid hW0
  have HB0 := Lib.hid hB0
  have HR_T := Lib.hid hR_T
  have HX_T := Lib.hid hX_T
  clear hW0 hB0 hR_T hX_T
  have c12_T_0 := HX_T.out.at 0 (v := .int .i64 x) rfl
  have c12_T_1 := HX_T.out.at 1 (v := .slice a q.length cap) rfl
  cases bf with
  | true =>
    go_enter Tryd.func42, Tryd.ntmps42
    go_upto_region 1 with fail
    rw [← HW0.out, ← HR_T.out]
    go_wp2_with fail
    refine (HBf.out _).mono ?_
    rintro e _ ⟨rfl, rfl⟩
    go_wp2_with fail
    go_ret
    exact ⟨rfl, HB0.out⟩
  | false =>
    by_cases h8 : (k : Int) < 8
    · rw [decide_eq_true h8]
      go_enter Tryd.func42, Tryd.ntmps42
      go_upto_region 1 with fail
      rw [← HW0.out, ← HR_T.out]
      go_wp2_with fail
      refine (HBf.out _).mono ?_
      rintro e _ ⟨rfl, rfl⟩
      go_wp2_with fail
      refine (HGp.out _).mono ?_
      rintro e _ ⟨rfl, rfl⟩
      go_wp2_with fail
      go_ret
      exact ⟨by simp <;> omega, HB0.out⟩
    · rw [decide_eq_false h8]
      go_enter Tryd.func42, Tryd.ntmps42
      go_upto_region 1 with fail
      rw [← HW0.out, ← HR_T.out]
      go_wp2_with fail
      refine (HBf.out _).mono ?_
      rintro e _ ⟨rfl, rfl⟩
      go_wp2_with fail
      refine (HGp.out _).mono ?_
      rintro e _ ⟨rfl, rfl⟩
      go_wp2_with fail
      go_ret
      exact ⟨by simp <;> omega, HB0.out⟩
end Go.Proofs.YtpmjdppipalfcaaDoor
