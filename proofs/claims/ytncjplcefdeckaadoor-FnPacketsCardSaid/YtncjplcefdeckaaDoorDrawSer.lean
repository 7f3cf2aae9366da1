/-
  The draws of chapter 2 that draw serials.
-/
import Derived.Test.YtncjplcefdeckaaDoorDrawn
import Derived.Test.YtncjplcefdeckaaDoorSer3
namespace Go.Proofs.YtncjplcefdeckaaDoor
open Go.RowKit
set_option linter.unusedVariables false

def serL : List Int := [0, 1, 100, 32767, 32768, 65535, 65530, 4660]
theorem serL_bd : ∀ x ∈ serL, 0 ≤ x ∧ x ≤ 65535 := by
  intro x hx
  simp only [serL, List.mem_cons, List.not_mem_nil, or_false] at hx
  omega

theorem serial_any (B m : Nat) (z : List Int) (w : World) (h : Cu w B z m) (hm : m ≤ 800000) :
    Calls Tryd.prog 54 #[.pointer (some ⟨B, 0, none⟩)] w fun e w' => ∃ x : Int, 0 ≤ x ∧ x ≤ 65535 ∧ e = .returned (.int .i64 x) ∧ Cu w' B z (m + 4) ∧ w.grownBy w' (some B) := by
  have HH := Lib.hid h
  clear h
  go_enter Tryd.func54, Tryd.ntmps54
  go_wp2_with fail
  refine (among_any B m z _ serL _ (HH.out.grown (World.grownBy_alloc _ _ none)) (by omega) (by decide) (by decide) (fun w' hg => row_fresh (xs := serL.map (Value.int .i64)) (n := serL.length) (List.length_map _).symm (by decide) HH.out.lt hg)).mono ?_
  rintro e w1 ⟨x, hx, rfl, hc, hg⟩
  obtain ⟨x0, x1⟩ := serL_bd x hx
  have HC := Lib.hid hc
  have HG := Lib.hid hg
  clear hx hc hg
  go_wp2_with fail
  refine (pick_any B (m + 2) 12 z _ HC.out (by omega) (by omega) (by omega)).mono ?_
  rintro e w2 ⟨p, hp, rfl, hc2, hg2⟩
  have HC2 := Lib.hid hc2
  have HG2 := Lib.hid hg2
  clear hc2 hg2
  go_wp2_with fail
  refine (l2After_any x p _ x0 x1 (by omega) (by omega)).mono ?_
  rintro e w3 ⟨rfl, rfl⟩
  obtain ⟨y0, y1⟩ := aftI_bd x p
  go_wp2_with fail
  go_ret
  exact ⟨_, y0, y1, rfl, HC2.out, g_trans (World.grownBy_alloc _ _ _) (g_trans HG.out HG2.out)⟩

end Go.Proofs.YtncjplcefdeckaaDoor
