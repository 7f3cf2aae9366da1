/-
  The draws of letters.
-/
import Derived.Test.YtpmjdppipalfcaaDraw1
import Derived.Test.YtpmjdppipalfcaaDrawSer
import Derived.Test.YtpmjdppipalfcaaAmong
import Derived.Test.YtpmjdppipalfcaaPktMath
import Derived.Deep.RegionHeld3
namespace Go.Proofs.Ytpmjdppipalfcaa
open Go.RowKit Go.Lib
set_option linter.unusedVariables false

def letL : List ByteArray := [⟨#[97]⟩, ⟨#[98]⟩, ⟨#[99]⟩, ⟨#[120]⟩, ⟨#[122]⟩]
theorem letL_ok : ∀ x ∈ letL, x.size = 1 ∧ ltrB x = true := by
  intro x hx
  simp only [letL, List.mem_cons, List.not_mem_nil, or_false] at hx
  rcases hx with rfl | rfl | rfl | rfl | rfl <;> exact ⟨rfl, by decide⟩
theorem ltrB_append {a b : ByteArray} (ha : ltrB a = true) (hb : ltrB b = true) : ltrB (a ++ b) = true := by
  unfold ltrB at ha hb ⊢
  have e : (a ++ b).data.toList = a.data.toList ++ b.data.toList := by simp
  rw [e, List.all_append, ha, hb]
  rfl
set_option maxHeartbeats 400000 in
theorem letters_any (B m n : Nat) (z : List Int) (w : World) (h : Cu w B z m) (hm : m ≤ 800000) (hn : n ≤ 100) :
    Calls Try.prog 84 #[.pointer (some ⟨B, 0, none⟩), .int .i64 n] w fun e w' => ∃ s : ByteArray, s.size ≤ n ∧ ltrB s = true ∧ e = .returned (.string s) ∧ Cu w' B z (m + 2 + 2 * n) ∧ w.grownBy w' (some B) := by
  have HH := Lib.hid h
  clear h
  go_enter Try.func84, Try.ntmps84
  go_wp2_with fail
  refine (pick_any B m (n + 1) z _ HH.out (by omega) (by omega) (by omega)).mono ?_
  rintro e w1 ⟨p, hp, rfl, hc, hg⟩
  have HC := Lib.hid hc
  have HG := Lib.hid hg
  clear hc hg
  go_wp2_with fail
  go_loopw [5, 6] (fun t q wr => ∃ (k : Nat) (s : ByteArray), s.size + k ≤ n ∧ q = .int .i64 k ∧ t = .string s ∧ Hid (ltrB s = true) ∧ Hid (Cu wr B z (m + 2 + 2 * s.size)) ∧ Hid (w.grownBy wr (some B))) (fun _ q _ => (intOf q).toNat)
  case atStart => exact ⟨p, ⟨#[]⟩, by show 0 + p ≤ n; omega, rfl, rfl, Lib.hid rfl, HC, HG⟩
  case round =>
    clear HC HG HH
    obtain ⟨k, s, hk, rfl, rfl, HL, HC, HG⟩ := hrel
    by_cases hk0 : 0 < k
    · go_wp2_with fail
      refine (of_any B (m + 2 + 2 * s.size) z _ letL _ (HC.out.grown (World.grownBy_alloc _ _ none)) (by omega) (by decide) (by decide) (fun w' hg => row_fresh (xs := letL.map Value.string) (n := letL.length) (List.length_map _).symm (by decide) HC.out.lt hg)).mono ?_
      rintro e w2 ⟨x, hx, rfl, hc2, hg2⟩
      obtain ⟨x0, x1⟩ := letL_ok x hx
      have HC2 := Lib.hid hc2
      have HG2 := Lib.hid (g_trans HG.out (g_trans (World.grownBy_alloc _ _ _) hg2))
      have HL2 := Lib.hid (ltrB_append HL.out x1)
      clear hx hc2 hg2 x1
      have hsz : (s ++ x).size = s.size + 1 := by rw [ByteArray.size_append, x0]
      have hsm : s.size + x.size ≤ 9223372036854775807 := by omega
      go_wp2_with fail
      go_roundw
      case rel => exact ⟨k - 1, s ++ x, by omega, by congr 1; omega, rfl, HL2, Lib.hid (HC2.out.mono (by omega)), HG2⟩
      case measure => (first | (simp [intOf]; done) | (simp [intOf]; omega))
    · obtain rfl : k = 0 := by omega
      go_wp2_with fail
      go_ret
      exact ⟨s, by omega, HL.out, rfl, HC.out.mono (by omega), HG.out⟩
end Go.Proofs.Ytpmjdppipalfcaa
