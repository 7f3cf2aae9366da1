/-
  'SerialSpan' of the program, and its exact law.
-/
import Derived.Test.YtfdpjgjclbnnfaaSpan
namespace Go.Proofs.Ytfdpjgjclbnnfaa
open Go.RowKit Go.Lib
set_option linter.unusedVariables false

theorem gapV_of {a b : Int} {n : Nat} (h : gapOk a b = true) (hn : gapI a b = n) : gapV a b = n := by unfold gapV; rw [if_pos h, hn]
theorem gapV_bad {a b : Int} (h : gapOk a b = false) : gapV a b = 0 := by unfold gapV; rw [h]; rfl

set_option maxHeartbeats 1000000 in
theorem implSpan_any (a b : Int) (w : World) :
    Calls Try.prog 30 #[.int .i64 a, .int .i64 b] w fun e w' => ∃ v, e = .returned (.tuple #[v, .bool (ssOk a b)]) ∧
      w'.ownsRow w.heap.size 3 1 v (ssL a b).length ((ssL a b).map (Value.int .i64)) ∧ Below w.heap.size w w' := by
  obtain ⟨i0, hi, hz0, hz1, hz2⟩ := info_parts infoInt2
  have HG := Lib.hid (fun w => implGap_any a b w)
  cases ho : gapOk a b with
  | false =>
    rw [ssOk_bad ho, ssL_no (ssOk_bad ho)]
    rw [gapV_bad ho, ho] at HG
    clear ho
    go_enter Try.func30, Try.ntmps30
    go_wp2_with (go_at_call 18; refine (HG.out _).mono ?_; rintro e w1 ⟨rfl, hb⟩)
    go_ret2
    exact ⟨_, rfl, World.ownsRow_made w1 #[] 0 hb.size (Nat.zero_le _) rfl, hb.alloc hb.size _⟩
  | true =>
    obtain ⟨h1, h2, h3, h4⟩ := gapOk_bd ho
    have hgb := gapI_bd a b
    obtain ⟨n, hn⟩ : ∃ n : Nat, gapI a b = n := ⟨(gapI a b).toNat, by omega⟩
    rw [gapV_of ho hn, ho] at HG
    by_cases hfar : (n : Int) ≤ 20
    · have hok := ssOk_of ho (by rw [hn]; exact hfar)
      rw [hok, ssL_yes hok hn]
      clear ho hok hn hgb h3 h4
      have hmk := fun (W : World) => run_make (P := Try.prog) W 34 3 i0 (.int .i64 0) Try.underlying34 hi hz0 .i64 .i64 0 n (by omega) (by omega) (by rw [hz2]; omega) (by omega)
      rw [hz1] at hmk
      have hto : (0 : Int).toNat = 0 := rfl
      simp only [Int.toNat_natCast, Nat.mul_one, hto] at hmk
      clear hto
      go_enter Try.func30, Try.ntmps30
      go_wp2_with (go_at_call 18; refine (HG.out _).mono ?_; rintro e w1 ⟨rfl, hb⟩)
      clear hmk
      go_loopw [8, 26] (fun v x wr => ∃ k : Nat, k ≤ n ∧ x = .int .i64 k ∧ wr.ownsRow w.heap.size 3 1 v (spanL a k).length ((spanL a k).map (Value.int .i64)) ∧ Below w.heap.size w wr) (fun _ x _ => n - (intOf x).toNat)
      case atStart => exact ⟨0, Nat.zero_le _, rfl, World.ownsRow_made w1 _ n hb.size (by unfold maxLen; omega) (by simp [madeCells]), hb.alloc hb.size _⟩
      case round =>
        obtain ⟨k, hk, rfl, hown, hbel⟩ := hrel
        have hsz := hbel.size
        have hsl := spanL_len a k
        by_cases hkn : k < n
        · have hll : (spanL a k).length + 1 ≤ 100 := by omega
          have HST := Lib.hid (fun w => implStep_any a (k : Int) w h1 h2 (by omega) (by omega))
          obtain ⟨y, hy⟩ : ∃ y, y = aftI a k := ⟨_, rfl⟩
          rw [← hy] at HST
          have HY := Lib.hid hy
          have HSL := Lib.hid hsl
          clear hy hsl
          go_wp2_with (first | (at_builtin; refine wpList_append_own _ rfl _ _ 34 rfl w.heap.size 3 i0 (.int .i64 0) 1 8 Try.underlying34 hi hz0 hz1 hz2 rfl (by decide) _ _ _ rfl (hown.alloc _) ⟨wr.heap.size, 0, none⟩ 1 1 [.int .i64 y] rfl rfl (cell_one_new _ _ _) (by intro u hu; simp at hu; subst hu; rfl) (by unfold maxLen; omega) (by omega) (by simp; omega) ?_; intro v' w1 hown' hgrow _) | (go_at_call 47; refine (HST.out _).mono ?_; rintro e w' ⟨rfl, rfl⟩))
          go_roundw
          case rel => exact ⟨k + 1, by omega, by go_num, spanV_own (by rw [← HY.out]; exact hown'), below_own_i hbel hsz hown hgrow⟩
          case measure => simp [intOf]; omega
        · obtain rfl : k = n := by omega
          go_wp2_with fail
          go_ret2
          exact ⟨_, rfl, hown, hbel⟩
    · have hfar' : (n : Int) > 20 := by omega
      have hok := ssOk_far (a := a) (b := b) (by rw [hn]; exact hfar)
      rw [hok, ssL_no hok]
      clear ho hok hn hgb
      go_enter Try.func30, Try.ntmps30
      go_wp2_with (go_at_call 18; refine (HG.out _).mono ?_; rintro e w1 ⟨rfl, hb⟩)
      go_ret2
      exact ⟨_, rfl, World.ownsRow_made w1 #[] 0 hb.size (Nat.zero_le _) rfl, hb.alloc hb.size _⟩

set_option maxRecDepth 100000 in
set_option maxHeartbeats 2000000 in
theorem fnExactSerialSpan_walk (w : World) (a0 : Int) (w0 : (Lit.int .i64 a0).wf = true) (a1 : Int) (w1 : (Lit.int .i64 a1).wf = true) (_hsh : w.ShapedOpen Try.prog) :
    Calls Try.prog 11 #[.int .i64 a0, .int .i64 a1] w fun e w' => e = .returned (.bool true) ∧ Below w.heap.size w w' := by
  have hlen := ssL_len a0 a1
  have HSp := Lib.hid (fun w => specSpan_any a0 a1 w)
  have HIm := Lib.hid (fun w => implSpan_any a0 a1 w)
  generalize ssL a0 a1 = ps at HSp HIm hlen
  generalize ssOk a0 a1 = ok at HSp HIm
  have HL := Lib.hid hlen
  clear hlen
  have hlit : ((1 : Int)) = ((1 : Nat) : Int) := rfl
  have HT := Lib.hid hlit
  clear hlit
  go_enter Try.func11, Try.ntmps11
  go_wp2_with fail
  refine (HSp.out _).mono ?_
  rintro e W1 ⟨vs, rfl, os1, l1⟩
  go_wp2_with fail
  refine (HIm.out _).mono ?_
  rintro e W2 ⟨vg, rfl, og2, l2⟩
  have os2 := own_below os1 l2 (Nat.le_refl _)
  go_wp2_with fail
  refine (eqIntS_any vg vs ps ps _ (row_own og2) (row_own os2)).mono ?_
  rintro e W3 ⟨rfl, k3, rfl⟩
  have og3 := own_below og2 (bdrew W2 k3) (Nat.le_refl _)
  have os3 := own_below os2 (bdrew W2 k3) (Nat.le_refl _)
  go_wp2_with fail
  refine (markI_own vg ps.length 1 _ _ _ og3 (by have := HL.out; omega)).mono ?_
  rintro e W4 ⟨rfl, og4, g4⟩
  have os4 := own_other os3 og3 (fun k hk => (os1.lt k hk).2) g4
  have hl2 := HL.out
  have b1 := l1.trans (l2.mono l1.size)
  have b3 := b1.trans ((bdrew W2 k3).mono b1.size)
  have b4 := b3.grown g4 b3.size (fun k hk => Nat.le_trans l1.size (og2.lt k hk).1)
  go_wp2_with fail
  refine (heldI_own vg ps.length 1 _ _ og4 (by omega)).mono ?_
  rintro e W5 ⟨rfl, rfl⟩
  go_wp2_with fail
  refine (HIm.out _).mono ?_
  rintro e W6 ⟨vh, rfl, oh6, l6⟩
  have og6 := own_below og4 l6 (Nat.le_refl _)
  have os6 := own_below os4 l6 (Nat.le_refl _)
  have b6 := b4.trans (l6.mono b4.size)
  go_wp2_with fail
  refine (eqIntS_any vh vs ps ps _ (row_own oh6) (row_own os6)).mono ?_
  rintro e W7 ⟨rfl, k7, rfl⟩
  have og7 := own_below og6 (bdrew W6 k7) (Nat.le_refl _)
  have b7 := b6.trans ((bdrew W6 k7).mono b6.size)
  go_wp2_with fail
  refine (heldI_own vg ps.length 1 _ _ og7 (by omega)).mono ?_
  rintro e W8 ⟨rfl, rfl⟩
  go_wp2_with fail
  go_ret
  exact ⟨rfl, b7⟩
end Go.Proofs.Ytfdpjgjclbnnfaa
