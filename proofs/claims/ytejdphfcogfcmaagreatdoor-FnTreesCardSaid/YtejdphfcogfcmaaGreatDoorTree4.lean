/-
  Trees: the specification's ChildrenOf, LeavesOf, PathTo, NodesBelow, FaceTo.
-/
import Derived.Test.YtejdphfcogfcmaaGreatDoorTree3
namespace Go.Proofs.YtejdphfcogfcmaaGreatDoor
open Go.RowKit Go.Lib Go.Joins
set_option linter.unusedVariables false

/-- A list where it is asked for, else nothing. -/
def okL (b : Bool) (l : List Int) : List Int := if b = true then l else []
theorem okL_yes (l : List Int) : okL true l = l := rfl
theorem okL_no (l : List Int) : okL false l = [] := rfl
set_option maxHeartbeats 1000000 in
theorem specLeaves_any (v : Value) (p : List Int) (w : World) (hrow : Row w v p.length (p.map (Value.int .i64))) :
    Calls Tryz.prog 20 #[.agg #[v]] w fun e w' => ∃ g c, e = .returned (.tuple #[.slice (some ⟨g, 0, none⟩) (okL (trOk p) (lvs p)).length c, .bool (trOk p)]) ∧ OutI w w' g c (okL (trOk p) (lvs p)) := by
  obtain ⟨W, hW⟩ : ∃ W, W = w.alloc (.cells #[v] 26) := ⟨_, rfl⟩
  have HT : Hid (Tr W w.heap.size v p) := Lib.hid (by rw [hW]; exact Tr.new hrow)
  have HB : Hid (Below w.heap.size w W) := Lib.hid (by rw [hW]; exact (Below.refl w.heap.size w).alloc (Nat.le_refl _) _)
  have HW := Lib.hid hW
  have HG := Lib.hid (l6Good_any v p W HT.out.row)
  have HC := Lib.hid (fun (h : trOk p = true) (W1 : World) hr => l6Leaves_any v p W1 hr (trOk_parts h).2.1)
  have hx := HT.out.cell
  obtain ⟨R, hR⟩ : ∃ R, R = w.heap.size := ⟨_, rfl⟩
  rw [← hR] at HT hx
  have HR := Lib.hid hR
  clear hW hrow hR
  generalize trOk p = ok at HG HC ⊢
  generalize lvs p = l at HC ⊢
  cases ok with
  | false =>
    clear HC
    go_enter Tryz.func20, Tryz.ntmps20
    go_upto_region 1 with fail
    rw [← HW.out, ← HR.out]
    go_wp2_with fail
    refine HG.out.mono ?_
    rintro e W2 ⟨rfl, l2⟩
    have HB2 := Lib.hid (HB.out.trans (l2.mono HB.out.size))
    clear l2
    go_wp2_with fail
    go_ret2
    exact ⟨_, _, rfl, OutI.start' HB2.out⟩
  | true =>
    have HC2 := Lib.hid (HC.out rfl)
    clear HC
    go_enter Tryz.func20, Tryz.ntmps20
    go_upto_region 1 with fail
    rw [← HW.out, ← HR.out]
    go_wp2_with fail
    refine HG.out.mono ?_
    rintro e W2 ⟨rfl, l2⟩
    have HB2 := Lib.hid (HB.out.trans (l2.mono HB.out.size))
    have HT2 := Lib.hid (HT.out.below l2)
    clear l2 hx
    have hx := HT2.out.cell
    go_wp2_with fail
    refine (HC2.out _ HT2.out.row).mono ?_
    rintro e W3 ⟨g, c, rfl, o3⟩
    have HO3 := Lib.hid (o3.base HB2.out)
    clear o3
    go_wp2_with fail
    go_ret2
    exact ⟨g, c, rfl, HO3.out⟩
end Go.Proofs.YtejdphfcogfcmaaGreatDoor
