/-
  'among': one of some numbers.
-/
import Derived.Test.YtpmjdppipalfcaaDraw1
namespace Go.Proofs.Ytpmjdppipalfcaa
open Go.RowKit

theorem among_any (B m : Nat) (z : List Int) (v : Value) (xs : List Int) (w : World) (h : Cu w B z m) (hm : m ≤ 900000) (h1 : 1 ≤ xs.length) (hn : xs.length ≤ 65536)
    (hrow : ∀ w' : World, w.grownBy w' (some B) → Row w' v xs.length (xs.map (Value.int .i64))) :
    Calls Try.prog 87 #[.pointer (some ⟨B, 0, none⟩), v] w fun e w' => ∃ x ∈ xs, e = .returned (.int .i64 x) ∧ Cu w' B z (m + 2) ∧ w.grownBy w' (some B) := by
  obtain ⟨a, cap, rfl, hc1, hc2, _⟩ := row_open (hrow w (g_refl _ _))
  have HR := Lib.hid hrow
  have HH := Lib.hid h
  clear h hrow
  obtain ⟨n, hN⟩ : ∃ n, n = xs.length := ⟨_, rfl⟩
  rw [← hN] at h1 hn hc1 ⊢
  have HN := Lib.hid hN
  clear hN
  go_enter Try.func87, Try.ntmps87
  go_wp2_with fail
  refine (pick_any B m n z _ HH.out hm h1 hn).mono ?_
  rintro e w1 ⟨b, hb1, rfl, hc, hg⟩
  obtain ⟨a', cap', e', _, _, hcell⟩ := row_open (HR.out w1 hg)
  have hbn : b < xs.length := by rw [← HN.out]; exact hb1
  obtain ⟨bk, off, hab, _, hx⟩ := hcell b hbn
  have ea : a = a' := by
    rw [← HN.out] at e'
    injection e'
  subst ea
  subst hab
  have HM := Lib.hid (List.getElem_mem hbn)
  obtain ⟨x, hxe⟩ : ∃ x, x = xs[b] := ⟨_, rfl⟩
  rw [← hxe] at hx HM
  have HC := Lib.hid hc
  have HG := Lib.hid hg
  clear hc hg hcell hxe e'
  go_wp2_with fail
  go_ret
  exact ⟨x, HM.out, rfl, HC.out, HG.out⟩
end Go.Proofs.Ytpmjdppipalfcaa
