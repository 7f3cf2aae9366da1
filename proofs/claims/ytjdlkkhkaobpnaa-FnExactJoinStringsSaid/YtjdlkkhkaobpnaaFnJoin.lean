/-
  The walk of the exact law of JoinStrings.
-/
import Derived.Test.YtjdlkkhkaobpnaaJoin
import Derived.Test.YtjdlkkhkaobpnaaStrs
namespace Go.Proofs.Ytjdlkkhkaobpnaa
open Go.RowKit

theorem joinOut_form (ps : List ByteArray) (sep : ByteArray) : ∃ s b, joinOut ps sep = .tuple #[.string s, .bool b] := by
  unfold joinOut
  split
  · exact ⟨_, _, rfl⟩
  · exact ⟨_, _, rfl⟩

set_option maxHeartbeats 1000000 in
theorem fnExactJoinStrings_walk (w : World) (v0 : Value) (s0 : List ByteArray) (w0 : Row w v0 s0.length (s0.map Value.string)) (b0 : ∀ s ∈ s0, s.size ≤ maxLen) (a1 : ByteArray) (w1 : a1.size ≤ maxLen) (_hsh : w.ShapedOpen Try.prog) :
    Calls Try.prog 5 #[v0, .string a1] w fun e w' => e = .returned (.bool true) ∧ Below w.heap.size w w' := by
  unfold maxLen at w1
  by_cases hs : a1.size ≤ 1048576
  · obtain ⟨js, jb, hj⟩ := joinOut_form s0 a1
    have HJ := Lib.hid hj
    clear hj
    go_enter Try.func5, Try.ntmps5
    go_wp2_with fail
    refine (szStringS_any v0 s0 w w0 b0 1048576 (by omega)).mono ?_
    rintro e w' ⟨rfl, r, rfl, hr⟩
    have HR := Lib.hid hr
    clear hr
    by_cases hneg : r < 0
    · go_wp2_with fail
      go_ret
      exact ⟨rfl, Below.refl _ _⟩
    · have hfit : s0.length ≤ 1048576 ∧ (∀ s ∈ s0, s.size ≤ 1048576) := by
        rcases HR.out with h | ⟨h1, h2, _⟩
        · exact absurd h hneg
        · exact ⟨h1, h2⟩
      have HN := Lib.hid hfit.1
      have HP := Lib.hid hfit.2
      clear hfit
      go_wp2_with fail
      refine (toStringS_row v0 s0 _ w0 HN.out).mono ?_
      rintro e W1 ⟨u1, rfl, r1, l1⟩
      go_wp2_with fail
      refine (specJoin_any u1 s0 a1 _ r1 HN.out HP.out hs).mono ?_
      rintro e W2 ⟨rfl, l2⟩
      have x2 := w0.below (l1.trans (l2.mono l1.size)) (Nat.le_refl _)
      rw [HJ.out]
      go_wp2_with fail
      refine (toStringS_row v0 s0 _ x2 HN.out).mono ?_
      rintro e W3 ⟨u3, rfl, r3, l3⟩
      go_wp2_with fail
      refine (implJoin_any u3 s0 a1 _ r3 HN.out HP.out hs).mono ?_
      rintro e W4 ⟨rfl, l4⟩
      have b4 := (l1.trans (l2.mono l1.size)).trans ((l3.mono (l1.trans (l2.mono l1.size)).size).trans (l4.mono (Nat.le_trans (l1.trans (l2.mono l1.size)).size l3.size)))
      have x4 := w0.below b4 (Nat.le_refl _)
      have r4 := r3.below l4 (Nat.le_refl _)
      rw [HJ.out]
      go_wp2_with fail
      refine (toStringS_row v0 s0 _ x4 HN.out).mono ?_
      rintro e W5 ⟨u5, rfl, r5, l5⟩
      have r6 := r4.below l5 (Nat.le_refl _)
      go_wp2_with fail
      refine (eqStringS_any u3 u5 s0 s0 _ r6 r5).mono ?_
      rintro e W6 ⟨rfl, k, rfl⟩
      go_wp2_with fail
      go_ret
      exact ⟨rfl, (b4.trans (l5.mono b4.size)).trans ((bdrew _ _).mono (Nat.le_trans b4.size l5.size))⟩
  · go_enter Try.func5, Try.ntmps5
    go_wp2_with fail
    go_ret
    exact ⟨rfl, Below.refl _ _⟩
end Go.Proofs.Ytjdlkkhkaobpnaa
