/-
  The draws of chapter 2 that draw serials.
-/
import Derived.Test.YtpmjdppipalfcaaDrawn
import Derived.Test.YtpmjdppipalfcaaSer3
namespace Go.Proofs.Ytpmjdppipalfcaa
open Go.RowKit
set_option linter.unusedVariables false

def serL : List Int := [0, 1, 100, 32767, 32768, 65535, 65530, 4660]
theorem serL_bd : ∀ x ∈ serL, 0 ≤ x ∧ x ≤ 65535 := by
  intro x hx
  simp only [serL, List.mem_cons, List.not_mem_nil, or_false] at hx
  omega

theorem serial_any (B m : Nat) (z : List Int) (w : World) (h : Cu w B z m) (hm : m ≤ 800000) :
    Calls Try.prog 81 #[.pointer (some ⟨B, 0, none⟩)] w fun e w' => ∃ x : Int, 0 ≤ x ∧ x ≤ 65535 ∧ e = .returned (.int .i64 x) ∧ Cu w' B z (m + 4) ∧ w.grownBy w' (some B) := by
  have HH := Lib.hid h
  clear h
  go_enter Try.func81, Try.ntmps81
  go_wp2_with fail
  refine (among_any B m z _ serL _ (HH.out.grown (World.grownBy_alloc _ _ none)) (by omega) (by decide) (by decide) (fun w' hg => row_fresh (xs := serL.map (Value.int .i64)) (n := serL.length) (List.length_map _).symm (by decide) HH.out.lt hg)).mono ?_
  rintro e w1 ⟨x, hx, rfl, hc, hg⟩
  obtain ⟨x0, x1⟩ := serL_bd x hx
  have HC := Lib.hid hc
  have HG := Lib.hid hg
  clear hx hc hg
  go_wp2_with fail
  refine (pick_any B (m + 2) 12 z _ HC.out (by omega) (by omega) (by omega)).mono ?_
  rintro e w2 ⟨p, hp, rfl, hc2, hg2⟩
  have HC2 := Lib.hid hc2
  have HG2 := Lib.hid hg2
  clear hc2 hg2
  go_wp2_with fail
  refine (l2After_any x p _ x0 x1 (by omega) (by omega)).mono ?_
  rintro e w3 ⟨rfl, rfl⟩
  obtain ⟨y0, y1⟩ := aftI_bd x p
  go_wp2_with fail
  go_ret
  exact ⟨_, y0, y1, rfl, HC2.out, g_trans (World.grownBy_alloc _ _ _) (g_trans HG.out HG2.out)⟩
def anySerL : List Int := [-1, 65536, 65535]
theorem anySerL_bd : ∀ x ∈ anySerL, -1 ≤ x ∧ x ≤ 65536 := by
  intro x hx
  simp only [anySerL, List.mem_cons, List.not_mem_nil, or_false] at hx
  omega
theorem anySerial_any (B m : Nat) (z : List Int) (w : World) (h : Cu w B z m) (hm : m ≤ 700000) :
    Calls Try.prog 85 #[.pointer (some ⟨B, 0, none⟩)] w fun e w' => ∃ x : Int, -1 ≤ x ∧ x ≤ 65536 ∧ e = .returned (.int .i64 x) ∧ Cu w' B z (m + 6) ∧ w.grownBy w' (some B) := by
  have HH := Lib.hid h
  clear h
  go_enter Try.func85, Try.ntmps85
  go_wp2_with fail
  refine (one_any B m 20 z _ HH.out (by omega) (by omega) (by omega)).mono ?_
  rintro e w1 ⟨b, rfl, hc, hg⟩
  have HC := Lib.hid hc
  have HG := Lib.hid hg
  clear hc hg
  cases b with
  | true =>
    go_wp2_with fail
    refine (among_any B (m + 2) z _ anySerL _ (HC.out.grown (World.grownBy_alloc _ _ none)) (by omega) (by decide) (by decide) (fun w' hg => row_fresh (xs := anySerL.map (Value.int .i64)) (n := anySerL.length) (List.length_map _).symm (by decide) HC.out.lt hg)).mono ?_
    rintro e w2 ⟨x, hx, rfl, hc2, hg2⟩
    obtain ⟨x0, x1⟩ := anySerL_bd x hx
    have HC2 := Lib.hid hc2
    have HG2 := Lib.hid hg2
    clear hx hc2 hg2
    go_wp2_with fail
    go_ret
    exact ⟨x, x0, x1, rfl, HC2.out.mono (by omega), g_trans HG.out (g_trans (World.grownBy_alloc _ _ _) HG2.out)⟩
  | false =>
    go_wp2_with fail
    refine (serial_any B (m + 2) z _ HC.out (by omega)).mono ?_
    rintro e w2 ⟨x, x0, x1, rfl, hc2, hg2⟩
    have HC2 := Lib.hid hc2
    have HG2 := Lib.hid hg2
    clear hc2 hg2
    go_wp2_with fail
    go_ret
    exact ⟨x, by omega, by omega, rfl, HC2.out, g_trans HG.out HG2.out⟩

end Go.Proofs.Ytpmjdppipalfcaa
