/-
  The library's table of powers of ten, as the row lists it, and 'FormatInt' of the program by it.
-/
import Derived.Test.YtejdphfcogfcmaaGreatDoorNum
import Derived.Test.YtejdphfcogfcmaaGreatDoorShelf
import Derived.Test.YtejdphfcogfcmaaGreatDoorRows
import Derived.Lib.LaidU8
import Derived.Stop.Joined
import Derived.LaidMore
namespace Go.Proofs.YtejdphfcogfcmaaGreatDoor
open Go.RowKit

theorem gPow : Tryz.prog.globalNamed "internal/strconv.uint64pow10" = some 0 := by kernel_rfl
theorem gPowType : (Tryz.prog.globals[0]?).map (·.type) = some 99 := by kernel_rfl

/-- The table reads as Go's text lays it. -/
def Tab (w : World) : Prop := Lib.TabIs Tryz.prog w "internal/strconv.uint64pow10" .u64 Lib.pow10Tab

theorem Tab.lt {w : World} (h : Tab w) : 0 < w.heap.size :=
  World.block_lt_of_cell? w _ (Lib.TabIs.cell h gPow 0 (by decide))

theorem Tab.below {w w' : World} (h : Tab w) (hb : Below w.heap.size w w') : Tab w' := var?_below hb gPow h.lt h

theorem tab_of_laid {w : World} {l : List (String × DataW Unit)} (h : laidMetH Tryz.prog l w) (hp : (l.filter fun x => x.2.handleName?.isSome) = [])
    (hm : ("internal/strconv.uint64pow10", (Rows.laid_internal_strconv_uint64pow10 : DataW Unit)) ∈ l) : Tab w := by
  have h' : laidMet Tryz.prog l w := by
    unfold laidMetH at h
    rw [hp] at h
    exact h
  obtain ⟨g, t, cs, fuel, p, hg, hty, hv, hd⟩ := Lib.laidMet.reads h' hm
  obtain rfl := Option.some.inj (gPow.symm.trans hg)
  obtain rfl := Option.some.inj (gPowType.symm.trans hty)
  have e : (Rows.laid_internal_strconv_uint64pow10 : DataW Unit) = Lib.tabData .u64 Lib.pow10Tab := rfl
  rw [e] at hd
  unfold Tab Lib.TabIs
  rw [hv, ← Lib.cells_of_tab Tryz.underlying99 Tryz.underlying49 (by kernel_rfl) (by kernel_rfl) hd]

theorem below_grow {w : World} (k : Nat) (os : Array Obj) : Below w.heap.size w (Sort.grow (w.drewN k) os) :=
  ⟨rfl, rfl, rfl, by simp [Sort.grow, World.drewN], fun i hi => by
    show (w.heap ++ os)[i]? = w.heap[i]?
    rw [Array.getElem?_append_left hi]⟩

theorem implFormatInt_any (n : Int) (w : World) (ht : Tab w) :
    Calls Tryz.prog 72 #[.int .i64 n] w fun e w' => e = .returned (fmtOut n) ∧ Below w.heap.size w w' := by
  by_cases h1 : -999999 ≤ n
  · by_cases h2 : n ≤ 999999
    · rw [fmtOut_yes ⟨h1, h2⟩]
      have hc := Lib.hid (Tryz.strconv_Itoa n (by omega) (by omega) w ht)
      go_enter Tryz.func72, Tryz.ntmps72
      go_wp2_with (go_at_call 22; refine hc.out.mono ?_; rintro e w' ⟨rfl, k, os, rfl⟩)
      go_ret2
      exact ⟨rfl, below_grow k os⟩
    · rw [fmtOut_no (fun h => h2 h.2)]
      go_enter Tryz.func72, Tryz.ntmps72
      go_wp2_with fail
      go_ret2
      exact ⟨rfl, Below.refl _ _⟩
  · rw [fmtOut_no (fun h => h1 h.1)]
    go_enter Tryz.func72, Tryz.ntmps72
    go_wp2_with fail
    go_ret2
    exact ⟨rfl, Below.refl _ _⟩
end Go.Proofs.YtejdphfcogfcmaaGreatDoor
