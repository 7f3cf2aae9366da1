/-
  The exact law of SetText.
-/
import Derived.Test.YtneimcacpbepfaaDoorRngTI
import Derived.Test.YtneimcacpbepfaaDoorRngS
import Derived.WalkLawsBesides
namespace Go.Proofs.YtneimcacpbepfaaDoor
open Go.RowKit Go.Lib Go.Joins
set_option linter.unusedVariables false

set_option maxRecDepth 100000 in
set_option maxHeartbeats 2000000 in
theorem fnExactSetText_walk (w : World) (v0 : Value) (z0 : List Rg) (w0 : Row w v0 z0.length (rgF z0)) (b0 : ∀ r ∈ z0, (Lit.int .i64 r.1).wf = true ∧ (Lit.int .i64 r.2).wf = true) (_hsh : w.ShapedOpen Tryd.prog) (hL : laidMetH Tryd.prog Rows.fnExactSetTextRow.laid w) :
    Calls Tryd.prog 3 #[v0] w fun e w' => e = .returned (.bool true) ∧ Below w.heap.size w w' := by
  have HTab := Lib.hid (tab_of_laid hL rfl (by simp [Rows.fnExactSetTextRow]))
  clear hL
  obtain ⟨p0, cap0, rfl, hc10, hc20, _⟩ := rg_open w0
  unfold maxLen at hc20
  by_cases hn0 : (z0.length : Int) ≤ 1048576
  rotate_left
  · have HN0 := Lib.hid (fun (W : World) => szR_no p0 z0.length cap0 (1048576) W (by omega) (by omega) (by omega))
    go_enter Tryd.func3, Tryd.ntmps3
    go_wp2_with fail
    refine (HN0.out _).mono ?_
    rintro e W ⟨rfl, rfl⟩
    go_wp2_with fail
    go_ret
    exact ⟨rfl, Below.refl _ _⟩
  have HY0 := Lib.hid (fun (W : World) => szR_yes p0 z0.length cap0 (1048576) W (by omega) (by omega))
  have hl0 : ¬ ((1048576) - (z0.length : Int) < 0) := by omega
  have hm0 : z0.length ≤ 1048576 := by omega
  have HR0 := Lib.hid w0
  have HN0 := Lib.hid hm0
  clear w0 b0
  have HSp := Lib.hid (fun (g0 : Nat) (W : World) (h0 : Row W (.slice (some ⟨g0, 0, none⟩) z0.length z0.length) z0.length (rgF z0)) => specSetText_any (.slice (some ⟨g0, 0, none⟩) z0.length z0.length) z0 W h0)
  have HIm := Lib.hid (fun (g0 : Nat) (W : World) (h0 : Row W (.slice (some ⟨g0, 0, none⟩) z0.length z0.length) z0.length (rgF z0)) => fun (ht : Tab W) => implSetText_any (.slice (some ⟨g0, 0, none⟩) z0.length z0.length) z0 W h0 ht)
  generalize stV z0 = r0 at HSp HIm
  generalize rgOk z0 = r1 at HSp HIm
  have HT := Lib.hid (show ((1 : Int)) = ((1 : Nat) : Int) from rfl)
  go_enter Tryd.func3, Tryd.ntmps3
  go_wp2_with fail
  refine (HY0.out _).mono ?_
  rintro e W ⟨rfl, rfl⟩
  go_wp2_with fail
  refine (toRangeS_lit _ z0 _ (HR0.out.below (Below.refl _ _) (Nat.le_refl _)) HN0.out).mono ?_
  rintro e W1 ⟨g_s0, rfl, o_s0, l1⟩
  have O_s0 := Lib.hid o_s0
  have HB1 := Lib.hid l1
  clear o_s0 l1
  go_wp2_with fail
  refine (HSp.out g_s0 _ (rowz_own O_s0.out)).mono ?_
  rintro e W2 ⟨rfl, l2⟩
  have HB2 := Lib.hid (HB1.out.trans (l2.mono HB1.out.size))
  have s0_2 := Lib.hid (ownz_below O_s0.out l2 (Nat.le_refl _))
  clear O_s0
  clear HB1
  clear l2
  clear s0_2
  go_wp2_with fail
  refine (toRangeS_lit _ z0 _ (HR0.out.below HB2.out (Nat.le_refl _)) HN0.out).mono ?_
  rintro e W3 ⟨g_x0, rfl, o_x0, l3⟩
  have O_x0 := Lib.hid (ownz_base o_x0 (HB2.out.size))
  have HB3 := Lib.hid (HB2.out.trans (l3.mono HB2.out.size))
  clear HB2
  clear o_x0 l3
  go_wp2_with fail
  refine (HIm.out g_x0 _ (rowz_own O_x0.out) (HTab.out.below HB3.out)).mono ?_
  rintro e W4 ⟨rfl, l4⟩
  have HB4 := Lib.hid (HB3.out.trans (l4.mono HB3.out.size))
  have x0_4 := Lib.hid (ownz_below O_x0.out l4 (Nat.le_refl _))
  clear O_x0
  clear HB3
  clear l4
  go_wp2_with fail
  refine (toRangeS_lit _ z0 _ (HR0.out.below HB4.out (Nat.le_refl _)) HN0.out).mono ?_
  rintro e W5 ⟨g_y0, rfl, o_y0, l5⟩
  have ap_x0_y0 : ∀ k, (.slice (some ⟨g_x0, 0, none⟩) z0.length z0.length : Value).ownBlock = some k → (.slice (some ⟨g_y0, 0, none⟩) z0.length z0.length : Value).ownBlock ≠ some k := fun k h1 h2 => absurd (x0_4.out.lt k h1).2 (Nat.not_lt.2 (o_y0.lt k h2).1)
  have O_y0 := Lib.hid (ownz_base o_y0 (HB4.out.size))
  have HB5 := Lib.hid (HB4.out.trans (l5.mono HB4.out.size))
  have x0_5 := Lib.hid (ownz_below x0_4.out l5 (Nat.le_refl _))
  clear x0_4
  clear HB4
  clear o_y0 l5
  go_wp2_with fail
  refine (eqRangeS_same _ _ z0 _ (rowz_own x0_5.out) (rowz_own O_y0.out)).mono ?_
  rintro e W6 ⟨rfl, l6⟩
  have HB6 := Lib.hid (HB5.out.trans (l6.mono HB5.out.size))
  have x0_6 := Lib.hid (ownz_below x0_5.out l6 (Nat.le_refl _))
  clear x0_5
  have y0_6 := Lib.hid (ownz_below O_y0.out l6 (Nat.le_refl _))
  clear O_y0
  clear HB5
  clear l6
  clear y0_6
  go_wp2_with fail
  go_ret
  exact ⟨rfl, HB6.out⟩
end Go.Proofs.YtneimcacpbepfaaDoor
