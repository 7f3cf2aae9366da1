/-
  'SerialSpan' of the program, and its exact law.
-/
import Derived.Test.YtlendmiolhgecaaSpan
namespace Go.Proofs.Ytlendmiolhgecaa
open Go.RowKit Go.Lib
set_option linter.unusedVariables false

theorem gapV_of {a b : Int} {n : Nat} (h : gapOk a b = true) (hn : gapI a b = n) : gapV a b = n := by unfold gapV; rw [if_pos h, hn]
theorem gapV_bad {a b : Int} (h : gapOk a b = false) : gapV a b = 0 := by unfold gapV; rw [h]; rfl

set_option maxRecDepth 100000 in
set_option maxHeartbeats 1000000 in
theorem implSpan_any (a b : Int) (w : World) :
    Calls Try.prog 51 #[.int .i64 a, .int .i64 b] w fun e w' => ∃ v, e = .returned (.tuple #[v, .bool (ssOk a b)]) ∧
      w'.ownsRow w.heap.size 3 1 v (ssL a b).length ((ssL a b).map (Value.int .i64)) ∧ Below w.heap.size w w' := by
  obtain ⟨i0, hi, hz0, hz1, hz2⟩ := info_parts infoInt2
  have HG := Lib.hid (fun w => implGap_any a b w)
  cases ho : gapOk a b with
  | false =>
    rw [ssOk_bad ho, ssL_no (ssOk_bad ho)]
    rw [gapV_bad ho, ho] at HG
    clear ho
    go_enter Try.func51, Try.ntmps51
    go_wp2_with (go_at_call 102; refine (HG.out _).mono ?_; rintro e w1 ⟨rfl, hb⟩)
    go_ret2
    exact ⟨_, rfl, World.ownsRow_made w1 #[] 0 hb.size (Nat.zero_le _) rfl, hb.alloc hb.size _⟩
  | true =>
    obtain ⟨h1, h2, h3, h4⟩ := gapOk_bd ho
    have hgb := gapI_bd a b
    obtain ⟨n, hn⟩ : ∃ n : Nat, gapI a b = n := ⟨(gapI a b).toNat, by omega⟩
    rw [gapV_of ho hn, ho] at HG
    by_cases hfar : (n : Int) ≤ 20
    · have hok := ssOk_of ho (by rw [hn]; exact hfar)
      rw [hok, ssL_yes hok hn]
      clear ho hok hn hgb h3 h4
      have hmk := fun (W : World) => run_make (P := Try.prog) W 35 3 i0 (.int .i64 0) Try.underlying35 hi hz0 .i64 .i64 0 n (by omega) (by omega) (by rw [hz2]; omega) (by omega)
      rw [hz1] at hmk
      have hto : (0 : Int).toNat = 0 := rfl
      simp only [Int.toNat_natCast, Nat.mul_one, hto] at hmk
      clear hto
      go_enter Try.func51, Try.ntmps51
      go_wp2_with (go_at_call 102; refine (HG.out _).mono ?_; rintro e w1 ⟨rfl, hb⟩)
      clear hmk
      go_loopw [8, 26] (fun v x wr => ∃ k : Nat, k ≤ n ∧ x = .int .i64 k ∧ wr.ownsRow w.heap.size 3 1 v (spanL a k).length ((spanL a k).map (Value.int .i64)) ∧ Below w.heap.size w wr) (fun _ x _ => n - (intOf x).toNat)
      case atStart => exact ⟨0, Nat.zero_le _, rfl, World.ownsRow_made w1 _ n hb.size (by unfold maxLen; omega) (by simp [madeCells]), hb.alloc hb.size _⟩
      case round =>
        obtain ⟨k, hk, rfl, hown, hbel⟩ := hrel
        have hsz := hbel.size
        have hsl := spanL_len a k
        by_cases hkn : k < n
        · have hll : (spanL a k).length + 1 ≤ 100 := by omega
          have HST := Lib.hid (fun w => implStep_any a (k : Int) w h1 h2 (by omega) (by omega))
          obtain ⟨y, hy⟩ : ∃ y, y = aftI a k := ⟨_, rfl⟩
          rw [← hy] at HST
          have HY := Lib.hid hy
          have HSL := Lib.hid hsl
          clear hy hsl
          go_wp2_with (first | (at_builtin; refine wpList_append_own _ rfl _ _ 35 rfl w.heap.size 3 i0 (.int .i64 0) 1 8 Try.underlying35 hi hz0 hz1 hz2 rfl (by decide) _ _ _ rfl (hown.alloc _) ⟨wr.heap.size, 0, none⟩ 1 1 [.int .i64 y] rfl rfl (cell_one_new _ _ _) (by intro u hu; simp at hu; subst hu; rfl) (by unfold maxLen; omega) (by omega) (by simp; omega) ?_; intro v' w1 hown' hgrow _) | (go_at_call 103; refine (HST.out _).mono ?_; rintro e w' ⟨rfl, rfl⟩))
          go_roundw
          case rel => exact ⟨k + 1, by omega, by go_num, spanV_own (by rw [← HY.out]; exact hown'), below_own_i hbel hsz hown hgrow⟩
          case measure => simp [intOf]; omega
        · obtain rfl : k = n := by omega
          go_wp2_with fail
          go_ret2
          exact ⟨_, rfl, hown, hbel⟩
    · have hfar' : (n : Int) > 20 := by omega
      have hok := ssOk_far (a := a) (b := b) (by rw [hn]; exact hfar)
      rw [hok, ssL_no hok]
      clear ho hok hn hgb
      go_enter Try.func51, Try.ntmps51
      go_wp2_with (go_at_call 102; refine (HG.out _).mono ?_; rintro e w1 ⟨rfl, hb⟩)
      go_ret2
      exact ⟨_, rfl, World.ownsRow_made w1 #[] 0 hb.size (Nat.zero_le _) rfl, hb.alloc hb.size _⟩

end Go.Proofs.Ytlendmiolhgecaa
