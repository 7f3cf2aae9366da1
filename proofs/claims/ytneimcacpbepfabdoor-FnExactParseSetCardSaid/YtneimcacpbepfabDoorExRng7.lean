/-
  The exact law of ParseSet.
-/
import Derived.Test.YtneimcacpbepfabDoorRngPI
import Derived.Test.YtneimcacpbepfabDoorRngS
import Derived.WalkLawsBesides
namespace Go.Proofs.YtneimcacpbepfabDoor
open Go.RowKit Go.Lib Go.Joins
set_option linter.unusedVariables false

theorem psL_len5 (s : ByteArray) : (psL s).length ≤ 65536 := by have := (rgOk_parts (psL_ok s)).2; omega
set_option maxRecDepth 100000 in
set_option maxHeartbeats 2000000 in
theorem fnExactParseSet_walk (w : World) (a0 : ByteArray) (w0 : a0.size ≤ maxLen) (_hsh : w.ShapedOpen Tryd.prog) (hL : laidMetH Tryd.prog Rows.fnExactParseSetRow.laid w) :
    Calls Tryd.prog 3 #[.string a0] w fun e w' => e = .returned (.bool true) ∧ Below w.heap.size w w' := by
  have HTab := Lib.hid (tab_of_laid hL rfl (by simp [Rows.fnExactParseSetRow]))
  have HErr := Lib.hid (errs_of_laid hL rfl (by simp [Rows.fnExactParseSetRow]) (by simp [Rows.fnExactParseSetRow]))
  have HMl := Lib.hid (mlOk_of _hsh)
  clear hL _hsh
  unfold maxLen at w0
  by_cases hn0 : a0.size ≤ 1048576
  rotate_left
  · have hn0' : ¬ (a0.size : Int) ≤ 1048576 := by omega
    go_enter Tryd.func3, Tryd.ntmps3
    go_wp2_with fail
    go_ret
    exact ⟨rfl, Below.refl _ _⟩
  have hn0' : (a0.size : Int) ≤ 1048576 := by omega
  have HSp := Lib.hid (fun (W : World) => specParseSet_any a0 W (by omega))
  have HIm := Lib.hid (fun (W : World) => fun (hm : MLOk W) (ht : Tab W) (he : Errs W) => implParseSet_any a0 W (by omega) hm ht he)
  have hlen0 := psL_len5 a0
  generalize psL a0 = ps0 at HSp HIm hlen0
  have HL0 := Lib.hid hlen0
  clear hlen0
  generalize psB a0 = r0 at HSp HIm
  have HT := Lib.hid (show ((1 : Int)) = ((1 : Nat) : Int) from rfl)
  go_enter Tryd.func3, Tryd.ntmps3
  go_wp2_with fail
  refine (HSp.out  _ ).mono ?_
  rintro e W1 ⟨vw0, rfl, o_vw0, l1⟩
  have O_vw0 := Lib.hid o_vw0
  have HB1 := Lib.hid l1
  clear l1 o_vw0
  go_wp2_with fail
  refine (HIm.out  _  (HMl.out.below HB1.out) (HTab.out.below HB1.out) (HErr.out.below HB1.out)).mono ?_
  rintro e W2 ⟨vg0, rfl, o_vg0, l2⟩
  have ap_vw0_vg0 : ∀ k, (vw0 : Value).ownBlock = some k → (vg0 : Value).ownBlock ≠ some k := fun k h1 h2 => absurd (O_vw0.out.lt k h1).2 (Nat.not_lt.2 (o_vg0.lt k h2).1)
  have O_vg0 := Lib.hid (ownz_base o_vg0 (HB1.out.size))
  have HB2 := Lib.hid (HB1.out.trans (l2.mono HB1.out.size))
  have vw0_2 := Lib.hid (ownz_below O_vw0.out l2 (Nat.le_refl _))
  clear O_vw0
  clear HB1
  clear l2 o_vg0
  go_wp2_with fail
  refine (eqRangeS_same _ _ ps0 _ (rowz_own O_vg0.out) (rowz_own vw0_2.out)).mono ?_
  rintro e W3 ⟨rfl, l3⟩
  have HB3 := Lib.hid (HB2.out.trans (l3.mono HB2.out.size))
  have vw0_3 := Lib.hid (ownz_below vw0_2.out l3 (Nat.le_refl _))
  clear vw0_2
  have vg0_3 := Lib.hid (ownz_below O_vg0.out l3 (Nat.le_refl _))
  clear O_vg0
  clear HB2
  clear l3
  go_wp2_with fail
  refine (markR_own _ ps0.length 1 _ _ _ vg0_3.out (by have := HL0.out; omega)).mono ?_
  rintro e W4 ⟨rfl, m4, gr4⟩
  have HB4 := Lib.hid (HB3.out.grown gr4 HB3.out.size (fun q hq => (vg0_3.out.lt q hq).1))
  have vw0_4 := Lib.hid (ownz_apart vw0_3.out gr4 (fun k h1 h2 => ap_vw0_vg0 k h1 h2))
  clear vw0_3
  have vg0_4 := Lib.hid m4
  clear m4 gr4 vg0_3 HB3
  go_wp2_with fail
  refine (heldR_own _ ps0.length 1 _ _ vg0_4.out (by have := HL0.out; omega)).mono ?_
  rintro e W ⟨rfl, rfl⟩
  go_wp2_with fail
  refine (HIm.out  _  (HMl.out.below HB4.out) (HTab.out.below HB4.out) (HErr.out.below HB4.out)).mono ?_
  rintro e W5 ⟨vh0, rfl, o_vh0, l5⟩
  have ap_vw0_vh0 : ∀ k, (vw0 : Value).ownBlock = some k → (vh0 : Value).ownBlock ≠ some k := fun k h1 h2 => absurd (vw0_4.out.lt k h1).2 (Nat.not_lt.2 (o_vh0.lt k h2).1)
  have ap_vg0_vh0 : ∀ k, (vg0 : Value).ownBlock = some k → (vh0 : Value).ownBlock ≠ some k := fun k h1 h2 => absurd (vg0_4.out.lt k h1).2 (Nat.not_lt.2 (o_vh0.lt k h2).1)
  have O_vh0 := Lib.hid (ownz_base o_vh0 (HB4.out.size))
  have HB5 := Lib.hid (HB4.out.trans (l5.mono HB4.out.size))
  have vw0_5 := Lib.hid (ownz_below vw0_4.out l5 (Nat.le_refl _))
  clear vw0_4
  have vg0_5 := Lib.hid (ownz_below vg0_4.out l5 (Nat.le_refl _))
  clear vg0_4
  clear HB4
  clear l5 o_vh0
  go_wp2_with fail
  refine (eqRangeS_same _ _ ps0 _ (rowz_own O_vh0.out) (rowz_own vw0_5.out)).mono ?_
  rintro e W6 ⟨rfl, l6⟩
  have HB6 := Lib.hid (HB5.out.trans (l6.mono HB5.out.size))
  have vw0_6 := Lib.hid (ownz_below vw0_5.out l6 (Nat.le_refl _))
  clear vw0_5
  have vg0_6 := Lib.hid (ownz_below vg0_5.out l6 (Nat.le_refl _))
  clear vg0_5
  have vh0_6 := Lib.hid (ownz_below O_vh0.out l6 (Nat.le_refl _))
  clear O_vh0
  clear HB5
  clear l6
  go_wp2_with fail
  refine (heldR_own _ ps0.length 1 _ _ vg0_6.out (by have := HL0.out; omega)).mono ?_
  rintro e W ⟨rfl, rfl⟩
  go_wp2_with fail
  go_ret
  exact ⟨rfl, HB6.out⟩
end Go.Proofs.YtneimcacpbepfabDoor
