/-
  The draws of chapter 7: letters, texts.
-/
import Derived.Test.YtbhhmaialilabaaAmong
import Derived.Test.YtbhhmaialilabaaDraw1
import Derived.Test.YtbhhmaialilabaaLinkS
namespace Go.Proofs.Ytbhhmaialilabaa
open Go.RowKit Go.Lib
set_option linter.unusedVariables false

theorem gdrew7 (w : World) (row : Option Nat) : w.grownBy w.drew row := ⟨rfl, rfl, rfl, Nat.le_refl _, fun _ _ _ => rfl⟩
def fatL : List ByteArray := [⟨#[107]⟩, ⟨#[107]⟩, ⟨#[108]⟩, ⟨#[100]⟩, ⟨#[115]⟩]
theorem fatL_size : ∀ x ∈ fatL, x.size = 1 := by
  intro x hx
  simp only [fatL, List.mem_cons, List.not_mem_nil, or_false] at hx
  rcases hx with rfl | rfl | rfl | rfl | rfl <;> decide
set_option maxRecDepth 100000 in
set_option maxHeartbeats 1000000 in
theorem fates_any (B m n : Nat) (z : List Int) (w : World) (h : Cu w B z m) (hm : m ≤ 800000) (hn : n ≤ 50) :
    Calls Try.prog 76 #[.pointer (some ⟨B, 0, none⟩), .int .i64 n] w fun e w' => ∃ s : ByteArray, s.size = n ∧ e = .returned (.string s) ∧ Cu w' B z (m + 2 * n) ∧ w.grownBy w' (some B) := by
  have HH := Lib.hid h
  clear h
  go_enter Try.func76, Try.ntmps76
  go_wp2_with fail
  go_loopw [1, 5] (fun x s wr => ∃ (k : Nat) (t : ByteArray), k ≤ n ∧ x = .int .i64 (n - k : Nat) ∧ s = .string t ∧ t.size = k ∧ Hid (Cu wr B z (m + 2 * k)) ∧ Hid (w.grownBy wr (some B))) (fun x _ _ => (RowKit.intOf x).toNat)
  case atStart => exact ⟨0, ⟨#[]⟩, Nat.zero_le _, rfl, rfl, rfl, HH, Lib.hid (g_refl _ _)⟩
  case round =>
    obtain ⟨k, t, hk, rfl, rfl, ht, HC, HG⟩ := hrel
    obtain ⟨r, hr⟩ : ∃ r, r = n - k := ⟨_, rfl⟩
    rw [← hr]
    by_cases hkn : 0 < r
    · have hdc : (0 : Int) < (r : Int) := by omega
      have hw1 : IntKind.i64.wrap ((r : Int) - 1) = (r : Int) - 1 := IntWalk.i64_in _ (by omega)
      go_wp2_with fail
      refine (of_any B (m + 2 * k) z _ fatL _ (HC.out.grown (World.grownBy_alloc _ _ none)) (by omega) (by decide) (by decide) (fun w' hg => row_fresh (xs := fatL.map Value.string) (n := fatL.length) (List.length_map _).symm (by decide) HC.out.lt hg)).mono ?_
      rintro e w1 ⟨x, hx, rfl, hc, hg⟩
      have hxs := fatL_size x hx
      have HC1 := Lib.hid hc
      have HG1 := Lib.hid (g_trans HG.out (g_trans (World.grownBy_alloc _ _ _) hg))
      clear hx hc hg HC HG
      go_wp2_with fail
      go_roundw
      case rel => exact ⟨k + 1, _, by omega, vint (by omega), rfl, by simp; omega, Lib.hid (HC1.out.mono (by omega)), HG1⟩
      case measure => (simp [RowKit.intOf]; omega)
    · obtain rfl : r = 0 := by omega
      go_wp2_with fail
      go_ret
      exact ⟨t, by omega, rfl, HC.out.mono (by omega), HG.out⟩
def sht1 : List ByteArray := [⟨#[120, 120, 120, 120, 120, 120, 120, 120, 120, 120, 120, 120, 120, 120, 120, 120, 120, 120, 120, 120, 120, 120, 120, 120, 120, 120, 120, 120, 120, 120, 120, 120, 120, 120, 120, 120, 120, 120, 120, 120, 120, 120, 120, 120, 120, 120, 120, 120, 120, 120, 120, 120, 120, 120, 120, 120, 120, 120, 120, 120]⟩, ⟨#[120, 120, 120, 120, 120, 120, 120, 120, 120, 120, 120, 120, 120, 120, 120, 120, 120, 120, 120, 120, 120, 120, 120, 120, 120, 120, 120, 120, 120, 120, 120, 120, 120, 120, 120, 120, 120, 120, 120, 120, 120, 120, 120, 120, 120, 120, 120, 120, 120, 120, 120, 120, 120, 120, 120, 120, 120, 120, 120, 120, 120]⟩]
theorem sht1_size : ∀ x ∈ sht1, x.size ≤ 61 := by
  intro x hx
  simp only [sht1, List.mem_cons, List.not_mem_nil, or_false] at hx
  rcases hx with rfl | rfl <;> decide
def sht2 : List ByteArray := [⟨#[]⟩, ⟨#[97]⟩, ⟨#[98]⟩, ⟨#[99, 100]⟩, ⟨#[48, 49, 48, 50]⟩]
theorem sht2_size : ∀ x ∈ sht2, x.size ≤ 61 := by
  intro x hx
  simp only [sht2, List.mem_cons, List.not_mem_nil, or_false] at hx
  rcases hx with rfl | rfl | rfl | rfl | rfl <;> decide
set_option maxRecDepth 100000 in
set_option maxHeartbeats 1000000 in
theorem shortText_any (B m : Nat) (z : List Int) (w : World) (h : Cu w B z m) (hm : m ≤ 800000) :
    Calls Try.prog 58 #[.pointer (some ⟨B, 0, none⟩)] w fun e w' => ∃ s : ByteArray, s.size ≤ 61 ∧ e = .returned (.string s) ∧ Cu w' B z (m + 4) ∧ w.grownBy w' (some B) := by
  have HH := Lib.hid h
  clear h
  go_enter Try.func58, Try.ntmps58
  go_wp2_with fail
  refine (one_any B m 30 z _ HH.out (by omega) (by omega) (by omega)).mono ?_
  rintro e w1 ⟨b, rfl, hc, hg⟩
  have HC1 := Lib.hid hc
  have HG1 := Lib.hid hg
  clear hc hg HH
  cases b with
  | true =>
    go_wp2_with fail
    refine (of_any B (m + 2) z _ sht1 _ (HC1.out.grown (World.grownBy_alloc _ _ none)) (by omega) (by decide) (by decide) (fun w' hg => row_fresh (xs := sht1.map Value.string) (n := sht1.length) (List.length_map _).symm (by decide) HC1.out.lt hg)).mono ?_
    rintro e w2 ⟨x, hx, rfl, hc, hg⟩
    have hxs := sht1_size x hx
    have HC2 := Lib.hid hc
    have HG2 := Lib.hid (g_trans HG1.out (g_trans (World.grownBy_alloc _ _ _) hg))
    clear hx hc hg
    go_wp2_with fail
    go_ret
    exact ⟨x, hxs, rfl, HC2.out.mono (by omega), HG2.out⟩
  | false =>
    go_wp2_with fail
    refine (of_any B (m + 2) z _ sht2 _ (HC1.out.grown (World.grownBy_alloc _ _ none)) (by omega) (by decide) (by decide) (fun w' hg => row_fresh (xs := sht2.map Value.string) (n := sht2.length) (List.length_map _).symm (by decide) HC1.out.lt hg)).mono ?_
    rintro e w2 ⟨x, hx, rfl, hc, hg⟩
    have hxs := sht2_size x hx
    have HC2 := Lib.hid hc
    have HG2 := Lib.hid (g_trans HG1.out (g_trans (World.grownBy_alloc _ _ _) hg))
    clear hx hc hg
    go_wp2_with fail
    go_ret
    exact ⟨x, hxs, rfl, HC2.out.mono (by omega), HG2.out⟩
end Go.Proofs.Ytbhhmaialilabaa
