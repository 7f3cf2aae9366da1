/-
  The laws' comparison of two sets.
-/
import Derived.Test.YtneimcacpbepfaaGreatDoorRng3
import Derived.Laws.ResultCell
import Derived.WalkLawsBesides
namespace Go.Proofs.YtneimcacpbepfaaGreatDoor
open Go.RowKit Go.Lib Go.Joins
set_option linter.unusedVariables false

theorem results_rg1 {fn : Func} {p : Tmp} (h : fn.results = #[.cell p 47]) (tmps : Array Value) (w : World) (g : Nat) {x y : Int} (hp : tmps.getD p undef = .pointer (some ⟨g, 0, none⟩)) (hg : Rb w g x y) :
    (results fn tmps).run Tryz.prog w = .ok (.agg #[.int .i64 x, .int .i64 y]) w := by
  have hp' : tmps[p]?.getD undef = .pointer (some ⟨g, 0, none⟩) := by simpa using hp
  unfold results
  rw [h]
  simp [asAddr, hp', run_loadVar_row w g 47 47 _ _ _ hg Tryz.underlying47 (by rfl) (by kernel_rfl)]
/-- n marks from k on. -/
def marksR (k n : Nat) : List Value := (List.range n).map fun i => .int .i64 ((k + i : Nat) : Int)
theorem marksR_length (k n : Nat) : (marksR k n).length = n := by simp [marksR]
theorem marksR_succ (k j : Nat) : marksR k (j + 1) = marksR k j ++ [.int .i64 ((k + j : Nat) : Int)] := by simp [marksR, List.range_succ]
theorem marksR_at (k n i : Nat) (h : i < n) : (marksR k n)[i]? = some (.int .i64 ((k + i : Nat) : Int)) := by
  unfold marksR
  rw [List.getElem?_map, List.getElem?_range h]; rfl
theorem marksR_set (k j : Nat) (xs : List Value) (h : j < xs.length) : (marksR k j ++ xs.drop j).set j (.int .i64 ((k + j : Nat) : Int)) = marksR k (j + 1) ++ xs.drop (j + 1) := by
  rw [List.set_append_right _ _ (by rw [marksR_length]; omega), marksR_length, Nat.sub_self, List.drop_eq_getElem_cons h, List.set_cons_zero, marksR_succ]
  simp
theorem mkR_eq {x : Value} {k i n : Nat} (h : (marksR k n)[i]? = some x) (hi : i < n) : x = .int .i64 ((k + i : Nat) : Int) := by
  rw [marksR_at k n i hi] at h
  injection h with h
  exact h.symm
end Go.Proofs.YtneimcacpbepfaaGreatDoor

namespace Go.Proofs.YtneimcacpbepfaaGreatDoor
open Go.RowKit Go.Lib Go.Joins
set_option linter.unusedVariables false

theorem b_d5 {w wr : World} (h : Below w.heap.size w wr) (n : Nat) : Below w.heap.size w (wr.drewN n) := h.trans ((bdrew wr n).mono h.size)
set_option maxHeartbeats 2000000 in
theorem rRanges_same (v1 v2 : Value) (s : List Rg) (w : World) (h1 : Row w v1 s.length (rgF s)) (h2 : Row w v2 s.length (rgF s)) :
    Calls Tryz.prog 10 #[v1, v2] w fun e w' => e = .returned (.bool true) ∧ Below w.heap.size w w' := by
  obtain ⟨a1, c1, rfl, hc1, hm1, hcell1⟩ := rg_open h1
  obtain ⟨a2, c2, rfl, hc2, hm2, hcell2⟩ := rg_open h2
  have HC1 := Lib.hid hcell1
  have HC2 := Lib.hid hcell2
  clear hcell1 hcell2 h1 h2
  unfold maxLen at hm1 hm2
  obtain ⟨n, hN⟩ : ∃ n, n = s.length := ⟨_, rfl⟩
  rw [← hN] at hc1 hc2 ⊢
  have HN := Lib.hid hN
  clear hN
  have HR0 := Lib.hid (Below.refl w.heap.size w)
  go_enter Tryz.func10, Tryz.ntmps10
  go_wp2_with fail
  go_loopw [5] (fun i wr => ∃ k : Nat, k ≤ n ∧ i = .int .i64 k ∧ Hid (Below w.heap.size w wr)) (fun i _ => n - (RowKit.intOf i).toNat)
  case atStart => exact ⟨0, Nat.zero_le _, rfl, HR0⟩
  case round =>
    clear HR0
    obtain ⟨k, hk, rfl, HB⟩ := hrel
    by_cases hkn : k < n
    · have hks : k < s.length := by rw [← HN.out]; exact hkn
      obtain ⟨b1, o1, rfl, hb1, hf1, ht1⟩ := HC1.out k hks
      obtain ⟨b2, o2, rfl, hb2, hf2, ht2⟩ := HC2.out k hks
      have q1 := (HB.out.cell hb1).trans hf1
      have q2 := (HB.out.cell hb1).trans ht1
      have q3 := (HB.out.cell hb2).trans hf2
      have q4 := (HB.out.cell hb2).trans ht2
      clear hf1 ht1 hf2 ht2
      generalize s[k].1 = x at q1 q3
      generalize s[k].2 = y at q2 q4
      go_wp2_with fail
      go_quiet (fail)
      go_wp2_with fail
      go_roundw
      case rel => exact ⟨k + 1, by omega, by go_num, Lib.hid (b_d5 HB.out _)⟩
      case measure => (simp [RowKit.intOf]; omega)
    · obtain rfl : k = n := by omega
      go_wp2_with fail
      go_ret
      exact ⟨rfl, HB.out⟩
end Go.Proofs.YtneimcacpbepfaaGreatDoor
