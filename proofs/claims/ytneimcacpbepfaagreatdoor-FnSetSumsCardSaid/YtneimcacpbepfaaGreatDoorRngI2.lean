/-
  Sets as ranges: the program's HasNumber and SetSize.
-/
import Derived.Test.YtneimcacpbepfaaGreatDoorRngI
import Derived.Shelf.Abstract
namespace Go.Proofs.YtneimcacpbepfaaGreatDoor
open Go.RowKit Go.Lib Go.Joins
set_option linter.unusedVariables false

section
variable {α : Type}
/-- The place of the first element with p, or -1. -/
def idxG (p : α → Bool) (xs : List α) : Int := if xs.any p = true then ((xs.findIdx p : Nat) : Int) else -1
theorem idxG_no {p : α → Bool} {xs : List α} (h : xs.any p = false) : idxG p xs = -1 := by unfold idxG; rw [h]; rfl
theorem idxG_at {p : α → Bool} {xs : List α} {k : Nat} (hk : k < xs.length) (h : (xs.take k).any p = false) (hp : p xs[k] = true) : idxG p xs = (k : Int) := by
  have h1 : xs.any p = true := by rw [List.any_eq_true]; exact ⟨_, List.getElem_mem hk, hp⟩
  unfold idxG
  rw [if_pos h1]
  congr 1
  rw [List.findIdx_eq hk]
  refine ⟨hp, fun j hj => ?_⟩
  rw [List.any_eq_false] at h
  have := h xs[j] (by rw [List.mem_take_iff_getElem]; exact ⟨j, by omega, rfl⟩)
  simpa using this
theorem idxG_nonneg (p : α → Bool) (xs : List α) : decide (0 ≤ idxG p xs) = xs.any p := by
  cases h : xs.any p with
  | false => rw [idxG_no h]; rfl
  | true => unfold idxG; rw [if_pos h]; exact decide_eq_true (by omega)
end
theorem row_onei (w : World) (a : Int) : Row (w.alloc (.cells #[.int .i64 a] 3)) (.slice (some ⟨w.heap.size, 0, none⟩) 1 1) [a].length ([a].map (Value.int .i64)) :=
  row_made w [.int .i64 a] 3 1 rfl (by unfold maxLen; omega)
set_option maxHeartbeats 1000000 in
theorem implSize_any (v : Value) (s : List Rg) (w : World) (hrow : Row w v s.length (rgF s)) :
    Calls Tryz.prog 13 #[v] w fun e w' => e = .returned (.tuple #[.int .i64 (sizV s), .bool (rgOk s)]) ∧ Below w.heap.size w w' := by
  have HR := Lib.hid hrow
  have HG := Lib.hid (implIsSet_any _ s w hrow)
  obtain ⟨a, cap, rfl, hc1, hm1, hcell⟩ := rg_open hrow
  have HC := Lib.hid hcell
  clear hcell hrow
  unfold maxLen at hm1
  cases hg : rgOk s with
  | false =>
    rw [hg] at HG
    have HV : Hid (sizV s = 0) := Lib.hid (by unfold sizV; rw [hg]; rfl)
    clear hg
    go_enter Tryz.func13, Tryz.ntmps13
    go_wp2_with fail
    refine HG.out.mono ?_
    rintro e w1 ⟨rfl, l1⟩
    have HB1 := Lib.hid l1
    clear l1
    go_wp2_with fail
    go_ret2
    exact ⟨ret_ib HV.out.symm rfl, HB1.out⟩
  | true =>
    rw [hg] at HG
    have hch := (rgOk_parts hg).1
    have HV : Hid (sizV s = sizG s) := Lib.hid (by unfold sizV; rw [hg]; rfl)
    have HCh := Lib.hid hch
    clear hg hch
    obtain ⟨n, hN⟩ : ∃ n, n = s.length := ⟨_, rfl⟩
    rw [← hN] at hc1 HG ⊢
    have HN := Lib.hid hN
    clear hN
    go_enter Tryz.func13, Tryz.ntmps13
    go_wp2_with fail
    refine HG.out.mono ?_
    rintro e w1 ⟨rfl, l1⟩
    have HB1 := Lib.hid l1
    clear HG l1
    go_wp2_with fail
    go_loopw [4, 12] (fun m i wr => ∃ (k : Nat) (z : Int), k ≤ n ∧ i = .int .i64 k ∧ m = .int .i64 z ∧ 0 ≤ z ∧ z ≤ 65536 ∧ Hid (z = sizG (s.take k)) ∧ Hid (Below w.heap.size w wr)) (fun _ i _ => n - (intOf i).toNat)
    case atStart => exact ⟨0, 0, Nat.zero_le _, rfl, rfl, Int.le_refl _, by omega, Lib.hid rfl, HB1⟩
    case round =>
      clear HB1
      obtain ⟨k, z, hk, rfl, rfl, hz0, hz1, HZ, HB⟩ := hrel
      by_cases hkn : k < n
      · have hks : k < s.length := by rw [← HN.out]; exact hkn
        obtain ⟨b, off, rfl, hb, hf, ht⟩ := HC.out k hks
        have hf1 := (HB.out.cell hb).trans hf
        have ht1 := (HB.out.cell hb).trans ht
        have hv := HCh.out.2 s[k] (List.getElem_mem hks)
        have hsz := sizG_take hks
        have hsb := siz_nonneg (rgCh_take HCh.out (k + 1))
        rw [hsz, ← HZ.out] at hsb
        rw [← HZ.out] at hsz
        clear hf ht
        obtain ⟨f, hfe⟩ : ∃ f, f = s[k].1 := ⟨_, rfl⟩
        obtain ⟨t, hte⟩ : ∃ t, t = s[k].2 := ⟨_, rfl⟩
        rw [← hfe] at hf1
        rw [← hte] at ht1
        rw [← hfe, ← hte] at hv hsz hsb
        have HZ2 := Lib.hid hsz
        clear hfe hte hsz HZ
        obtain ⟨f0, ft, t1⟩ := hv
        obtain ⟨s0, s1⟩ := hsb
        have w1 : IntKind.i64.wrap (t - f) = t - f := IntWalk.i64_in _ (by omega)
        have w2 : IntKind.i64.wrap (t - f + 1) = t - f + 1 := IntWalk.i64_in _ (by omega)
        have w3 : IntKind.i64.wrap (z + (t - f + 1)) = z + (t - f + 1) := IntWalk.i64_in _ (by omega)
        go_wp2_with fail
        go_roundw
        case rel => exact ⟨k + 1, z + (t - f + 1), by omega, by go_num, rfl, by omega, by omega, Lib.hid (by rw [HZ2.out]), Lib.hid (b_a HB.out _)⟩
        case measure => (simp [intOf]; omega)
      · obtain rfl : k = n := by omega
        have HO : Hid (z = sizG s) := Lib.hid (by
          have h := HZ.out
          rw [HN.out, List.take_of_length_le (Nat.le_refl _)] at h
          exact h)
        go_wp2_with fail
        go_ret2
        exact ⟨ret_ib (by rw [HV.out, ← HO.out]) rfl, HB.out⟩
end Go.Proofs.YtneimcacpbepfaaGreatDoor
