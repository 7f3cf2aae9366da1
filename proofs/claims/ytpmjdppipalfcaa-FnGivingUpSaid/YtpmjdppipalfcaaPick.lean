/-
  'pick', 'one', 'of' and 'any1': what is picked lies within its bound or its list.
-/
import Derived.Test.YtpmjdppipalfcaaCur
namespace Go.Proofs.Ytpmjdppipalfcaa
open Go.RowKit

theorem g_trans {a b c : World} {row : Option Nat} (h1 : a.grownBy b row) (h2 : b.grownBy c row) : a.grownBy c row :=
  ⟨h2.os.trans h1.os, h2.tape.trans h1.tape, h2.output.trans h1.output, Nat.le_trans h1.size h2.size, fun k hk hn => (h2.block k (Nat.lt_of_lt_of_le hk h1.size) hn).trans (h1.block k hk hn)⟩
theorem g_refl (a : World) (row : Option Nat) : a.grownBy a row := ⟨rfl, rfl, rfl, Nat.le_refl _, fun _ _ _ => rfl⟩

theorem Cu.mono {w : World} {B m m' : Nat} {z : List Int} (h : Cu w B z m) (hm : m ≤ m') : Cu w B z m' := by
  obtain ⟨⟨v, t, s, h1, h2, h3⟩, h4⟩ := h
  exact ⟨⟨v, t, s, h1, by omega, h3⟩, h4⟩

set_option maxHeartbeats 400000 in
theorem pick_any (B m n : Nat) (z : List Int) (w : World) (h : Cu w B z m) (hm : m ≤ 900000) (h1 : 1 ≤ n) (hn : n ≤ 65536) :
    Calls Try.prog 82 #[.pointer (some ⟨B, 0, none⟩), .int .i64 n] w fun e w' => ∃ b : Nat, b < n ∧ e = .returned (.int .i64 b) ∧ Cu w' B z (m + 2) ∧ w.grownBy w' (some B) := by
  by_cases hs : n ≤ 1
  · go_enter Try.func82, Try.ntmps82
    go_wp2_with fail
    go_ret
    exact ⟨0, by omega, rfl, h.mono (by omega), g_refl _ _⟩
  · by_cases hb : n ≤ 200
    · have HH := Lib.hid h
      clear h
      go_enter Try.func82, Try.ntmps82
      go_wp2_with (go_at_call 88; refine (next_any B m z _ HH.out (by omega)).mono ?_; rintro e w1 ⟨b, hb1, rfl, hc1, hg1⟩; have HC1 := Lib.hid hc1; have HG1 := Lib.hid hg1; clear hc1 hg1)
      go_ret
      exact ⟨b % n, Nat.mod_lt _ (by omega), ret_int (by simp), HC1.out.mono (by omega), HG1.out⟩
    · have HH := Lib.hid h
      clear h
      go_enter Try.func82, Try.ntmps82
      go_wp2_with fail
      refine (next_any B m z _ HH.out (by omega)).mono ?_
      rintro e w1 ⟨b, hb1, rfl, hc1, hg1⟩
      have HC1 := Lib.hid hc1
      have HG1 := Lib.hid hg1
      clear hc1 hg1
      go_wp2_with fail
      refine (next_any B (m + 1) z _ HC1.out (by omega)).mono ?_
      rintro e w2 ⟨b2, hb2, rfl, hc2, hg2⟩
      have HC2 := Lib.hid hc2
      have HG2 := Lib.hid hg2
      clear hc2 hg2
      go_wp2_with fail
      go_ret
      exact ⟨(b * 256 + b2) % n, Nat.mod_lt _ (by omega), ret_int (by simp), HC2.out, g_trans HG1.out HG2.out⟩

theorem one_any (B m n : Nat) (z : List Int) (w : World) (h : Cu w B z m) (hm : m ≤ 900000) (h1 : 1 ≤ n) (hn : n ≤ 65536) :
    Calls Try.prog 83 #[.pointer (some ⟨B, 0, none⟩), .int .i64 n] w fun e w' => ∃ b : Bool, e = .returned (.bool b) ∧ Cu w' B z (m + 2) ∧ w.grownBy w' (some B) := by
  have HH := Lib.hid h
  clear h
  go_enter Try.func83, Try.ntmps83
  go_wp2_with fail
  refine (pick_any B m n z _ HH.out hm h1 hn).mono ?_
  rintro e w1 ⟨b, hb1, rfl, hc1, hg1⟩
  have HC1 := Lib.hid hc1
  have HG1 := Lib.hid hg1
  clear hc1 hg1
  go_wp2_with fail
  go_ret
  exact ⟨_, rfl, HC1.out, HG1.out⟩

theorem of_any (B m : Nat) (z : List Int) (v : Value) (ps : List ByteArray) (w : World) (h : Cu w B z m) (hm : m ≤ 900000) (h1 : 1 ≤ ps.length) (hn : ps.length ≤ 65536)
    (hrow : ∀ w' : World, w.grownBy w' (some B) → Row w' v ps.length (ps.map Value.string)) :
    Calls Try.prog 86 #[.pointer (some ⟨B, 0, none⟩), v] w fun e w' => ∃ x ∈ ps, e = .returned (.string x) ∧ Cu w' B z (m + 2) ∧ w.grownBy w' (some B) := by
  obtain ⟨a, cap, rfl, hc1, hc2, _⟩ := row_open (hrow w (g_refl _ _))
  have HR := Lib.hid hrow
  have HH := Lib.hid h
  clear h hrow
  obtain ⟨n, hN⟩ : ∃ n, n = ps.length := ⟨_, rfl⟩
  rw [← hN] at h1 hn hc1 ⊢
  have HN := Lib.hid hN
  clear hN
  go_enter Try.func86, Try.ntmps86
  go_wp2_with fail
  refine (pick_any B m n z _ HH.out hm h1 hn).mono ?_
  rintro e w1 ⟨b, hb1, rfl, hc, hg⟩
  obtain ⟨a', cap', e', _, _, hcell⟩ := row_open (HR.out w1 hg)
  have hbn : b < ps.length := by rw [← HN.out]; exact hb1
  obtain ⟨bk, off, hab, _, hx⟩ := hcell b hbn
  have ea : a = a' := by
    rw [← HN.out] at e'
    injection e'
  subst ea
  subst hab
  have HM := Lib.hid (List.getElem_mem hbn)
  obtain ⟨x, hxe⟩ : ∃ x, x = ps[b] := ⟨_, rfl⟩
  rw [← hxe] at hx HM
  have HC := Lib.hid hc
  have HG := Lib.hid hg
  clear hc hg hcell hxe e'
  go_wp2_with fail
  go_ret
  exact ⟨x, HM.out, rfl, HC.out, HG.out⟩
end Go.Proofs.Ytpmjdppipalfcaa
