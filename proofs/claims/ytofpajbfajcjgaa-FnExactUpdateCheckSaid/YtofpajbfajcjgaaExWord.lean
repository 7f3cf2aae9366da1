/-
  The exact laws of AddWords, UpdateCheck, SwapWord, WordSum, WordCheck and IsSoundList.
-/
import Derived.Test.YtofpajbfajcjgaaWord2
import Derived.WalkLawsBesides
namespace Go.Proofs.Ytofpajbfajcjgaa
open Go.RowKit Go.Lib
set_option linter.unusedVariables false

set_option maxRecDepth 100000 in
set_option maxHeartbeats 2000000 in
theorem fnExactAddWords_walk (w : World) (a0 : Int) (w0 : (Lit.int .i64 a0).wf = true) (a1 : Int) (w1 : (Lit.int .i64 a1).wf = true) (_hsh : w.ShapedOpen Try.prog) :
    Calls Try.prog 5 #[.int .i64 a0, .int .i64 a1] w fun e w' => e = .returned (.bool true) ∧ Below w.heap.size w w' := by
  have HSp := Lib.hid (fun (W : World) => specAddW_any a0 a1 W)
  have HIm := Lib.hid (fun (W : World) => implAddW_any a0 a1 W)
  generalize addV a0 a1 = r0 at HSp HIm
  generalize addOk a0 a1 = r1 at HSp HIm
  have HT := Lib.hid (show ((1 : Int)) = ((1 : Nat) : Int) from rfl)
  go_enter Try.func5, Try.ntmps5
  go_wp2_with fail
  refine (HSp.out  _ ).mono ?_
  rintro e W1 ⟨rfl, rfl⟩
  go_wp2_with fail
  refine (HIm.out  _ ).mono ?_
  rintro e W2 ⟨rfl, l2⟩
  have HB2 := Lib.hid l2
  clear l2
  go_wp2_with fail
  go_ret
  exact ⟨rfl, HB2.out⟩

set_option maxRecDepth 100000 in
set_option maxHeartbeats 2000000 in
theorem fnExactUpdateCheck_walk (w : World) (a0 : Int) (w0 : (Lit.int .i64 a0).wf = true) (a1 : Int) (w1 : (Lit.int .i64 a1).wf = true) (a2 : Int) (w2 : (Lit.int .i64 a2).wf = true) (_hsh : w.ShapedOpen Try.prog) :
    Calls Try.prog 10 #[.int .i64 a0, .int .i64 a1, .int .i64 a2] w fun e w' => e = .returned (.bool true) ∧ Below w.heap.size w w' := by
  have HSp := Lib.hid (fun (W : World) => specUpd_any a0 a1 a2 W)
  have HIm := Lib.hid (fun (W : World) => implUpd_any a0 a1 a2 W)
  generalize updV a0 a1 a2 = r0 at HSp HIm
  generalize updOk a0 a1 a2 = r1 at HSp HIm
  have HT := Lib.hid (show ((1 : Int)) = ((1 : Nat) : Int) from rfl)
  go_enter Try.func10, Try.ntmps10
  go_wp2_with fail
  refine (HSp.out  _ ).mono ?_
  rintro e W1 ⟨rfl, rfl⟩
  go_wp2_with fail
  refine (HIm.out  _ ).mono ?_
  rintro e W2 ⟨rfl, l2⟩
  have HB2 := Lib.hid l2
  clear l2
  go_wp2_with fail
  go_ret
  exact ⟨rfl, HB2.out⟩

set_option maxRecDepth 100000 in
set_option maxHeartbeats 2000000 in
theorem fnExactSwapWord_walk (w : World) (a0 : Int) (w0 : (Lit.int .i64 a0).wf = true) (_hsh : w.ShapedOpen Try.prog) :
    Calls Try.prog 11 #[.int .i64 a0] w fun e w' => e = .returned (.bool true) ∧ Below w.heap.size w w' := by
  have HSp := Lib.hid (fun (W : World) => specSwap_any a0 W)
  have HIm := Lib.hid (fun (W : World) => implSwap_any a0 W)
  generalize swpV a0 = r0 at HSp HIm
  generalize serB a0 = r1 at HSp HIm
  have HT := Lib.hid (show ((1 : Int)) = ((1 : Nat) : Int) from rfl)
  go_enter Try.func11, Try.ntmps11
  go_wp2_with fail
  refine (HSp.out  _ ).mono ?_
  rintro e W1 ⟨rfl, rfl⟩
  go_wp2_with fail
  refine (HIm.out  _ ).mono ?_
  rintro e W2 ⟨rfl, l2⟩
  have HB2 := Lib.hid l2
  clear l2
  go_wp2_with fail
  go_ret
  exact ⟨rfl, HB2.out⟩

set_option maxRecDepth 100000 in
set_option maxHeartbeats 2000000 in
theorem fnExactWordSum_walk (w : World) (v0 : Value) (z0 : List Int) (w0 : Row w v0 z0.length (z0.map (Value.int .i64))) (b0 : ∀ z ∈ z0, (Lit.int .i64 z).wf = true) (_hsh : w.ShapedOpen Try.prog) :
    Calls Try.prog 6 #[v0] w fun e w' => e = .returned (.bool true) ∧ Below w.heap.size w w' := by
  obtain ⟨p0, cap0, rfl, hc10, hc20, _⟩ := row_open w0
  unfold maxLen at hc20
  by_cases hn0 : z0.length ≤ 1048576
  rotate_left
  · have hn0' : ¬ (z0.length : Int) ≤ 1048576 := by omega
    go_enter Try.func6, Try.ntmps6
    go_wp2_with fail
    go_ret
    exact ⟨rfl, Below.refl _ _⟩
  have hn0' : (z0.length : Int) ≤ 1048576 := by omega
  have HR0 := Lib.hid w0
  have HN0 := Lib.hid hn0
  clear w0 b0
  have HSp := Lib.hid (fun (g0 : Nat) (W : World) (h0 : Row W (.slice (some ⟨g0, 0, none⟩) z0.length z0.length) z0.length (z0.map (Value.int .i64))) => specSum_any (.slice (some ⟨g0, 0, none⟩) z0.length z0.length) z0 W h0)
  have HIm := Lib.hid (fun (g0 : Nat) (W : World) (h0 : Row W (.slice (some ⟨g0, 0, none⟩) z0.length z0.length) z0.length (z0.map (Value.int .i64))) => implSum_any (.slice (some ⟨g0, 0, none⟩) z0.length z0.length) z0 W h0)
  generalize sumV z0 = r0 at HSp HIm
  generalize wOk z0 = r1 at HSp HIm
  have HT := Lib.hid (show ((1 : Int)) = ((1 : Nat) : Int) from rfl)
  go_enter Try.func6, Try.ntmps6
  go_wp2_with fail
  refine (toIntS_lit _ z0 _ (HR0.out.below (Below.refl _ _) (Nat.le_refl _)) HN0.out).mono ?_
  rintro e W1 ⟨g_s0, rfl, o_s0, l1⟩
  have O_s0 := Lib.hid o_s0
  have HB1 := Lib.hid l1
  clear o_s0 l1
  go_wp2_with fail
  refine (HSp.out g_s0 _ (row_own O_s0.out)).mono ?_
  rintro e W2 ⟨rfl, rfl⟩
  clear O_s0
  go_wp2_with fail
  refine (toIntS_lit _ z0 _ (HR0.out.below HB1.out (Nat.le_refl _)) HN0.out).mono ?_
  rintro e W3 ⟨g_x0, rfl, o_x0, l3⟩
  have O_x0 := Lib.hid (own_base o_x0 (HB1.out.size))
  have HB3 := Lib.hid (HB1.out.trans (l3.mono HB1.out.size))
  clear HB1
  clear o_x0 l3
  go_wp2_with fail
  refine (HIm.out g_x0 _ (row_own O_x0.out)).mono ?_
  rintro e W4 ⟨rfl, rfl⟩
  go_wp2_with fail
  refine (toIntS_lit _ z0 _ (HR0.out.below HB3.out (Nat.le_refl _)) HN0.out).mono ?_
  rintro e W5 ⟨g_y0, rfl, o_y0, l5⟩
  have ap_x0_y0 : ∀ k, (.slice (some ⟨g_x0, 0, none⟩) z0.length z0.length : Value).ownBlock = some k → (.slice (some ⟨g_y0, 0, none⟩) z0.length z0.length : Value).ownBlock ≠ some k := fun k h1 h2 => absurd (O_x0.out.lt k h1).2 (Nat.not_lt.2 (o_y0.lt k h2).1)
  have O_y0 := Lib.hid (own_base o_y0 (HB3.out.size))
  have HB5 := Lib.hid (HB3.out.trans (l5.mono HB3.out.size))
  have x0_5 := Lib.hid (own_below O_x0.out l5 (Nat.le_refl _))
  clear O_x0
  clear HB3
  clear o_y0 l5
  go_wp2_with fail
  refine (eqIntS_any _ _ z0 z0 _ (row_own x0_5.out) (row_own O_y0.out)).mono ?_
  rintro e W6 ⟨rfl, k6, hw6⟩
  have l6 : Below W5.heap.size W5 W6 := by rw [hw6]; exact bdrew _ _
  clear hw6
  have HB6 := Lib.hid (HB5.out.trans (l6.mono HB5.out.size))
  have x0_6 := Lib.hid (own_below x0_5.out l6 (Nat.le_refl _))
  clear x0_5
  have y0_6 := Lib.hid (own_below O_y0.out l6 (Nat.le_refl _))
  clear O_y0
  clear HB5
  clear l6
  clear y0_6
  go_wp2_with fail
  go_ret
  exact ⟨rfl, HB6.out⟩

set_option maxRecDepth 100000 in
set_option maxHeartbeats 2000000 in
theorem fnExactWordCheck_walk (w : World) (v0 : Value) (z0 : List Int) (w0 : Row w v0 z0.length (z0.map (Value.int .i64))) (b0 : ∀ z ∈ z0, (Lit.int .i64 z).wf = true) (_hsh : w.ShapedOpen Try.prog) :
    Calls Try.prog 7 #[v0] w fun e w' => e = .returned (.bool true) ∧ Below w.heap.size w w' := by
  obtain ⟨p0, cap0, rfl, hc10, hc20, _⟩ := row_open w0
  unfold maxLen at hc20
  by_cases hn0 : z0.length ≤ 1048576
  rotate_left
  · have hn0' : ¬ (z0.length : Int) ≤ 1048576 := by omega
    go_enter Try.func7, Try.ntmps7
    go_wp2_with fail
    go_ret
    exact ⟨rfl, Below.refl _ _⟩
  have hn0' : (z0.length : Int) ≤ 1048576 := by omega
  have HR0 := Lib.hid w0
  have HN0 := Lib.hid hn0
  clear w0 b0
  have HSp := Lib.hid (fun (g0 : Nat) (W : World) (h0 : Row W (.slice (some ⟨g0, 0, none⟩) z0.length z0.length) z0.length (z0.map (Value.int .i64))) => specChk_any (.slice (some ⟨g0, 0, none⟩) z0.length z0.length) z0 W h0)
  have HIm := Lib.hid (fun (g0 : Nat) (W : World) (h0 : Row W (.slice (some ⟨g0, 0, none⟩) z0.length z0.length) z0.length (z0.map (Value.int .i64))) => implChk_any (.slice (some ⟨g0, 0, none⟩) z0.length z0.length) z0 W h0)
  generalize chkV z0 = r0 at HSp HIm
  generalize wOk z0 = r1 at HSp HIm
  have HT := Lib.hid (show ((1 : Int)) = ((1 : Nat) : Int) from rfl)
  go_enter Try.func7, Try.ntmps7
  go_wp2_with fail
  refine (toIntS_lit _ z0 _ (HR0.out.below (Below.refl _ _) (Nat.le_refl _)) HN0.out).mono ?_
  rintro e W1 ⟨g_s0, rfl, o_s0, l1⟩
  have O_s0 := Lib.hid o_s0
  have HB1 := Lib.hid l1
  clear o_s0 l1
  go_wp2_with fail
  refine (HSp.out g_s0 _ (row_own O_s0.out)).mono ?_
  rintro e W2 ⟨rfl, rfl⟩
  clear O_s0
  go_wp2_with fail
  refine (toIntS_lit _ z0 _ (HR0.out.below HB1.out (Nat.le_refl _)) HN0.out).mono ?_
  rintro e W3 ⟨g_x0, rfl, o_x0, l3⟩
  have O_x0 := Lib.hid (own_base o_x0 (HB1.out.size))
  have HB3 := Lib.hid (HB1.out.trans (l3.mono HB1.out.size))
  clear HB1
  clear o_x0 l3
  go_wp2_with fail
  refine (HIm.out g_x0 _ (row_own O_x0.out)).mono ?_
  rintro e W4 ⟨rfl, rfl⟩
  go_wp2_with fail
  refine (toIntS_lit _ z0 _ (HR0.out.below HB3.out (Nat.le_refl _)) HN0.out).mono ?_
  rintro e W5 ⟨g_y0, rfl, o_y0, l5⟩
  have ap_x0_y0 : ∀ k, (.slice (some ⟨g_x0, 0, none⟩) z0.length z0.length : Value).ownBlock = some k → (.slice (some ⟨g_y0, 0, none⟩) z0.length z0.length : Value).ownBlock ≠ some k := fun k h1 h2 => absurd (O_x0.out.lt k h1).2 (Nat.not_lt.2 (o_y0.lt k h2).1)
  have O_y0 := Lib.hid (own_base o_y0 (HB3.out.size))
  have HB5 := Lib.hid (HB3.out.trans (l5.mono HB3.out.size))
  have x0_5 := Lib.hid (own_below O_x0.out l5 (Nat.le_refl _))
  clear O_x0
  clear HB3
  clear o_y0 l5
  go_wp2_with fail
  refine (eqIntS_any _ _ z0 z0 _ (row_own x0_5.out) (row_own O_y0.out)).mono ?_
  rintro e W6 ⟨rfl, k6, hw6⟩
  have l6 : Below W5.heap.size W5 W6 := by rw [hw6]; exact bdrew _ _
  clear hw6
  have HB6 := Lib.hid (HB5.out.trans (l6.mono HB5.out.size))
  have x0_6 := Lib.hid (own_below x0_5.out l6 (Nat.le_refl _))
  clear x0_5
  have y0_6 := Lib.hid (own_below O_y0.out l6 (Nat.le_refl _))
  clear O_y0
  clear HB5
  clear l6
  clear y0_6
  go_wp2_with fail
  go_ret
  exact ⟨rfl, HB6.out⟩

set_option maxRecDepth 100000 in
set_option maxHeartbeats 2000000 in
theorem fnExactIsSoundList_walk (w : World) (v0 : Value) (z0 : List Int) (w0 : Row w v0 z0.length (z0.map (Value.int .i64))) (b0 : ∀ z ∈ z0, (Lit.int .i64 z).wf = true) (_hsh : w.ShapedOpen Try.prog) :
    Calls Try.prog 8 #[v0] w fun e w' => e = .returned (.bool true) ∧ Below w.heap.size w w' := by
  obtain ⟨p0, cap0, rfl, hc10, hc20, _⟩ := row_open w0
  unfold maxLen at hc20
  by_cases hn0 : z0.length ≤ 1048576
  rotate_left
  · have hn0' : ¬ (z0.length : Int) ≤ 1048576 := by omega
    go_enter Try.func8, Try.ntmps8
    go_wp2_with fail
    go_ret
    exact ⟨rfl, Below.refl _ _⟩
  have hn0' : (z0.length : Int) ≤ 1048576 := by omega
  have HR0 := Lib.hid w0
  have HN0 := Lib.hid hn0
  clear w0 b0
  have HSp := Lib.hid (fun (g0 : Nat) (W : World) (h0 : Row W (.slice (some ⟨g0, 0, none⟩) z0.length z0.length) z0.length (z0.map (Value.int .i64))) => specSnd_any (.slice (some ⟨g0, 0, none⟩) z0.length z0.length) z0 W h0)
  have HIm := Lib.hid (fun (g0 : Nat) (W : World) (h0 : Row W (.slice (some ⟨g0, 0, none⟩) z0.length z0.length) z0.length (z0.map (Value.int .i64))) => implSnd_any (.slice (some ⟨g0, 0, none⟩) z0.length z0.length) z0 W h0)
  generalize sndV z0 = r0 at HSp HIm
  generalize wOk z0 = r1 at HSp HIm
  have HT := Lib.hid (show ((1 : Int)) = ((1 : Nat) : Int) from rfl)
  go_enter Try.func8, Try.ntmps8
  go_wp2_with fail
  refine (toIntS_lit _ z0 _ (HR0.out.below (Below.refl _ _) (Nat.le_refl _)) HN0.out).mono ?_
  rintro e W1 ⟨g_s0, rfl, o_s0, l1⟩
  have O_s0 := Lib.hid o_s0
  have HB1 := Lib.hid l1
  clear o_s0 l1
  go_wp2_with fail
  refine (HSp.out g_s0 _ (row_own O_s0.out)).mono ?_
  rintro e W2 ⟨rfl, rfl⟩
  clear O_s0
  go_wp2_with fail
  refine (toIntS_lit _ z0 _ (HR0.out.below HB1.out (Nat.le_refl _)) HN0.out).mono ?_
  rintro e W3 ⟨g_x0, rfl, o_x0, l3⟩
  have O_x0 := Lib.hid (own_base o_x0 (HB1.out.size))
  have HB3 := Lib.hid (HB1.out.trans (l3.mono HB1.out.size))
  clear HB1
  clear o_x0 l3
  go_wp2_with fail
  refine (HIm.out g_x0 _ (row_own O_x0.out)).mono ?_
  rintro e W4 ⟨rfl, rfl⟩
  go_wp2_with fail
  refine (toIntS_lit _ z0 _ (HR0.out.below HB3.out (Nat.le_refl _)) HN0.out).mono ?_
  rintro e W5 ⟨g_y0, rfl, o_y0, l5⟩
  have ap_x0_y0 : ∀ k, (.slice (some ⟨g_x0, 0, none⟩) z0.length z0.length : Value).ownBlock = some k → (.slice (some ⟨g_y0, 0, none⟩) z0.length z0.length : Value).ownBlock ≠ some k := fun k h1 h2 => absurd (O_x0.out.lt k h1).2 (Nat.not_lt.2 (o_y0.lt k h2).1)
  have O_y0 := Lib.hid (own_base o_y0 (HB3.out.size))
  have HB5 := Lib.hid (HB3.out.trans (l5.mono HB3.out.size))
  have x0_5 := Lib.hid (own_below O_x0.out l5 (Nat.le_refl _))
  clear O_x0
  clear HB3
  clear o_y0 l5
  go_wp2_with fail
  refine (eqIntS_any _ _ z0 z0 _ (row_own x0_5.out) (row_own O_y0.out)).mono ?_
  rintro e W6 ⟨rfl, k6, hw6⟩
  have l6 : Below W5.heap.size W5 W6 := by rw [hw6]; exact bdrew _ _
  clear hw6
  have HB6 := Lib.hid (HB5.out.trans (l6.mono HB5.out.size))
  have x0_6 := Lib.hid (own_below x0_5.out l6 (Nat.le_refl _))
  clear x0_5
  have y0_6 := Lib.hid (own_below O_y0.out l6 (Nat.le_refl _))
  clear O_y0
  clear HB5
  clear l6
  clear y0_6
  go_wp2_with fail
  go_ret
  exact ⟨rfl, HB6.out⟩

end Go.Proofs.Ytofpajbfajcjgaa
