/-
  The library's table of powers of ten, as the row lists it, and 'FormatInt' of the program by it.
-/
import Derived.Test.YtpmjdppipalfcaaDoorNum
import Derived.Test.YtpmjdppipalfcaaDoorShelf
import Derived.Test.YtpmjdppipalfcaaDoorRows
import Derived.Lib.LaidU8
import Derived.Stop.Joined
import Derived.LaidMore
namespace Go.Proofs.YtpmjdppipalfcaaDoor
open Go.RowKit

theorem gPow : Tryd.prog.globalNamed "internal/strconv.uint64pow10" = some 0 := by kernel_rfl
theorem gPowType : (Tryd.prog.globals[0]?).map (·.type) = some 123 := by kernel_rfl

/-- The table reads as Go's text lays it. -/
def Tab (w : World) : Prop := Lib.TabIs Tryd.prog w "internal/strconv.uint64pow10" .u64 Lib.pow10Tab

theorem Tab.lt {w : World} (h : Tab w) : 0 < w.heap.size :=
  World.block_lt_of_cell? w _ (Lib.TabIs.cell h gPow 0 (by decide))

theorem Tab.below {w w' : World} (h : Tab w) (hb : Below w.heap.size w w') : Tab w' := var?_below hb gPow h.lt h

theorem tab_of_laid {w : World} {l : List (String × DataW Unit)} (h : laidMetH Tryd.prog l w) (hp : (l.filter fun x => x.2.handleName?.isSome) = [])
    (hm : ("internal/strconv.uint64pow10", (Rows.laid_internal_strconv_uint64pow10 : DataW Unit)) ∈ l) : Tab w := by
  have h' : laidMet Tryd.prog l w := by
    unfold laidMetH at h
    rw [hp] at h
    exact h
  obtain ⟨g, t, cs, fuel, p, hg, hty, hv, hd⟩ := Lib.laidMet.reads h' hm
  obtain rfl := Option.some.inj (gPow.symm.trans hg)
  obtain rfl := Option.some.inj (gPowType.symm.trans hty)
  have e : (Rows.laid_internal_strconv_uint64pow10 : DataW Unit) = Lib.tabData .u64 Lib.pow10Tab := rfl
  rw [e] at hd
  unfold Tab Lib.TabIs
  rw [hv, ← Lib.cells_of_tab Tryd.underlying123 Tryd.underlying60 (by kernel_rfl) (by kernel_rfl) hd]

theorem below_grow {w : World} (k : Nat) (os : Array Obj) : Below w.heap.size w (Sort.grow (w.drewN k) os) :=
  ⟨rfl, rfl, rfl, by simp [Sort.grow, World.drewN], fun i hi => by
    show (w.heap ++ os)[i]? = w.heap[i]?
    rw [Array.getElem?_append_left hi]⟩

theorem implFormatInt_any (n : Int) (w : World) (ht : Tab w) :
    Calls Tryd.prog 97 #[.int .i64 n] w fun e w' => e = .returned (fmtOut n) ∧ Below w.heap.size w w' := by
  by_cases h1 : -999999 ≤ n
  · by_cases h2 : n ≤ 999999
    · rw [fmtOut_yes ⟨h1, h2⟩]
      have hc := Lib.hid (Tryd.strconv_Itoa n (by omega) (by omega) w ht)
      go_enter Tryd.func97, Tryd.ntmps97
      go_wp2_with (go_at_call 52; refine hc.out.mono ?_; rintro e w' ⟨rfl, k, os, rfl⟩)
      go_ret2
      exact ⟨rfl, below_grow k os⟩
    · rw [fmtOut_no (fun h => h2 h.2)]
      go_enter Tryd.func97, Tryd.ntmps97
      go_wp2_with fail
      go_ret2
      exact ⟨rfl, Below.refl _ _⟩
  · rw [fmtOut_no (fun h => h1 h.1)]
    go_enter Tryd.func97, Tryd.ntmps97
    go_wp2_with fail
    go_ret2
    exact ⟨rfl, Below.refl _ _⟩
end Go.Proofs.YtpmjdppipalfcaaDoor
