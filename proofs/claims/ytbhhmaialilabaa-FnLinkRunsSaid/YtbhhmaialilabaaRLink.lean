/-
  The laws' 'rTexts', 'rLinks', 'rSum'.
-/
import Derived.Test.YtbhhmaialilabaaLinkS
import Derived.Test.YtbhhmaialilabaaExLinkB
namespace Go.Proofs.Ytbhhmaialilabaa
open Go.RowKit Go.Lib Go.Joins
set_option linter.unusedVariables false

set_option maxRecDepth 100000 in
set_option maxHeartbeats 1000000 in
theorem rTexts_any (v1 v2 : Value) (xs ys : List ByteArray) (w : World) (h1 : Row w v1 xs.length (xs.map Value.string)) (h2 : Row w v2 ys.length (ys.map Value.string)) :
    Calls Try.prog 37 #[v1, v2] w fun e w' => e = .returned (.bool (decide (xs = ys))) ∧ ∃ k, w' = w.drewN k := by
  obtain ⟨a1, c1, rfl, hc1, hm1, hcell1⟩ := row_open h1
  obtain ⟨a2, c2, rfl, hc2, hm2, hcell2⟩ := row_open h2
  have HC1 := Lib.hid hcell1
  have HC2 := Lib.hid hcell2
  clear hcell1 hcell2 h1 h2
  unfold maxLen at hm1 hm2
  by_cases hl : xs.length = ys.length
  · obtain ⟨n, hN⟩ : ∃ n, n = xs.length := ⟨_, rfl⟩
    rw [← hl, ← hN]
    rw [← hl, ← hN] at hc2
    rw [← hN] at hc1
    have HL := Lib.hid hl
    have HN := Lib.hid hN
    clear hl hN
    go_enter Try.func37, Try.ntmps37
    go_wp2_with fail
    go_loopw [5] (fun i wr => ∃ k : Nat, k ≤ n ∧ i = .int .i64 k ∧ Hid (xs.take k = ys.take k) ∧ Hid (∃ a, wr = w.drewN a)) (fun i _ => n - (RowKit.intOf i).toNat)
    case atStart => exact ⟨0, Nat.zero_le _, rfl, Lib.hid (by simp), Lib.hid ⟨0, rfl⟩⟩
    case round =>
      obtain ⟨k, hk, rfl, HT, HW⟩ := hrel
      by_cases hkn : k < n
      · have hk1 : k < xs.length := by rw [← HN.out]; exact hkn
        have hk2 : k < ys.length := by rw [← HL.out]; exact hk1
        obtain ⟨b1, o1, rfl, hb1, hx1⟩ := HC1.out k hk1
        obtain ⟨b2, o2, rfl, hb2, hx2⟩ := HC2.out k hk2
        have hy1 : wr.cell? ⟨b1, o1 + k, none⟩ = some (.string xs[k]) := by obtain ⟨a, rfl⟩ := HW.out; exact hx1
        have hy2 : wr.cell? ⟨b2, o2 + k, none⟩ = some (.string ys[k]) := by obtain ⟨a, rfl⟩ := HW.out; exact hx2
        clear hx1 hx2
        obtain ⟨x, hx⟩ : ∃ x, x = xs[k] := ⟨_, rfl⟩
        obtain ⟨y, hy⟩ : ∃ y, y = ys[k] := ⟨_, rfl⟩
        rw [← hx] at hy1
        rw [← hy] at hy2
        have HX := Lib.hid hx
        have HY := Lib.hid hy
        clear hx hy
        go_wp2_with fail
        go_quiet (fail)
        go_wp2_with fail
        · go_ret
          exact ⟨ret_bool (by rw [decide_eq_false (fun e => bytes_ne (by assumption) (by rw [HX.out, HY.out]; exact list_at e _ _ _))]), world_hid HW.out _⟩
        · go_roundw
          case rel => exact ⟨k + 1, by omega, by go_num, Lib.hid (eq_take hk1 hk2 HT.out (by rw [← HX.out, ← HY.out]; exact bytes_eq (by assumption))), Lib.hid (world_hid HW.out _)⟩
          case measure => simp [RowKit.intOf]; omega
      · obtain rfl : k = n := by omega
        have HE : Hid (xs = ys) := Lib.hid (by
          have := HT.out
          rw [HN.out, List.take_of_length_le (Nat.le_refl _), HL.out, List.take_of_length_le (Nat.le_refl _)] at this
          exact this)
        go_wp2_with fail
        go_ret
        exact ⟨ret_bool (by rw [decide_eq_true HE.out]), HW.out⟩
  · have HE : Hid (decide (xs = ys) = false) := Lib.hid (decide_eq_false (fun e => hl (by rw [e])))
    have hd : ((xs.length : Int) == (ys.length : Int)) = false := by simp; omega
    clear hl
    go_enter Try.func37, Try.ntmps37
    go_wp2_with fail
    go_ret
    exact ⟨ret_bool HE.out.symm, 0, rfl⟩
set_option maxRecDepth 100000 in
set_option maxHeartbeats 1000000 in
theorem rLinks_same (v1 v2 : Value) (l : Lk) (w : World) (h1 : Row w v1 l.q.length (l.q.map Value.string)) (h2 : Row w v2 l.q.length (l.q.map Value.string)) :
    Calls Try.prog 18 #[.agg #[v1, .string l.f, .int .i64 l.u], .agg #[v2, .string l.f, .int .i64 l.u]] w fun e w' => e = .returned (.bool true) ∧ Below w.heap.size w w' := by
  obtain ⟨W, hW⟩ : ∃ W, W = (w.alloc (.cells #[v1, .string l.f, .int .i64 l.u] 26)).alloc (.cells #[v2, .string l.f, .int .i64 l.u] 26) := ⟨_, rfl⟩
  have hB : Below w.heap.size w W := by rw [hW]; exact ((Below.refl w.heap.size w).alloc (Nat.le_refl _) _).alloc (by simp) _
  have hA : Lq W w.heap.size v1 l.f l.u := by rw [hW]; exact (Lq.new w _ _ _).below ((Below.refl _ _).alloc (Nat.le_refl _) _) (by simp)
  have hT : Lq W (w.heap.size + 1) v2 l.f l.u := by
    rw [hW]
    have := Lq.new (w.alloc (.cells #[v1, .string l.f, .int .i64 l.u] 26)) v2 l.f l.u
    rw [World.size_alloc] at this
    exact this
  have HE := Lib.hid (rTexts_any v1 v2 l.q l.q W (h1.below hB (Nat.le_refl _)) (h2.below hB (Nat.le_refl _)))
  rw [decide_eq_true (rfl : l.q = l.q)] at HE
  have HW := Lib.hid hW
  have HB := Lib.hid hB
  obtain ⟨x0, x1, x2⟩ := hA.cells
  obtain ⟨y0, y1, y2⟩ := hT.cells
  obtain ⟨R, hR⟩ : ∃ R, R = w.heap.size := ⟨_, rfl⟩
  obtain ⟨R4, hR4⟩ : ∃ R4, R4 = w.heap.size + 1 := ⟨_, rfl⟩
  rw [← hR] at x0 x1 x2
  rw [← hR4] at y0 y1 y2
  have HR := Lib.hid hR
  have HR4 := Lib.hid hR4
  clear hW hB hA hT hR hR4 h1 h2
  go_enter Try.func18, Try.ntmps18
  go_upto_region 1 with fail
  rw [← HW.out, ← HR4.out, ← HR.out]
  go_wp2_with fail
  refine HE.out.mono ?_
  rintro e W2 ⟨rfl, k, hk⟩
  have l2 : Below W.heap.size W W2 := by rw [hk]; exact bdrew _ _
  have HB2 := Lib.hid (HB.out.trans (l2.mono HB.out.size))
  clear hk l2
  go_wp2_with fail
  go_ret
  exact ⟨rfl, HB2.out⟩
/-- The sum of numbers. -/
def sumI (xs : List Int) : Int := xs.foldl (· + ·) 0
theorem sumI_snoc (xs : List Int) (x : Int) : sumI (xs ++ [x]) = sumI xs + x := by unfold sumI; rw [List.foldl_append]; rfl
set_option maxRecDepth 100000 in
set_option maxHeartbeats 1000000 in
theorem rSum_any (v : Value) (xs : List Int) (w : World) (hrow : Row w v xs.length (xs.map (Value.int .i64))) (hx : ∀ x ∈ xs, 0 ≤ x ∧ x ≤ 1000) (hl : xs.length ≤ 1000) :
    Calls Try.prog 42 #[v] w fun e w' => e = .returned (.int .i64 (sumI xs)) ∧ w = w' := by
  obtain ⟨a, cap, rfl, hc1, hm1, hcell⟩ := row_open hrow
  have HC := Lib.hid hcell
  have HX := Lib.hid hx
  unfold maxLen at hm1
  clear hcell hrow hx
  obtain ⟨n, hN⟩ : ∃ n, n = xs.length := ⟨_, rfl⟩
  rw [← hN] at hc1 hl ⊢
  have HN := Lib.hid hN
  clear hN
  go_enter Try.func42, Try.ntmps42
  go_wp2_with fail
  go_loop [3, 4] (fun s i => ∃ (k : Nat) (y : Int), k ≤ n ∧ i = .int .i64 k ∧ s = .int .i64 y ∧ 0 ≤ y ∧ y ≤ 1000 * k ∧ Hid (sumI (xs.take k) = y)) (fun _ i => n - (RowKit.intOf i).toNat)
  case atStart => exact ⟨0, 0, Nat.zero_le _, rfl, rfl, by omega, by omega, Lib.hid rfl⟩
  case round =>
    obtain ⟨k, y, hk, rfl, rfl, y0, y1, HS⟩ := hrel
    by_cases hkn : k < n
    · have hkx : k < xs.length := by rw [← HN.out]; exact hkn
      obtain ⟨b, off, rfl, hb, hc⟩ := HC.out k hkx
      obtain ⟨u0, u1⟩ := HX.out _ (List.getElem_mem hkx)
      have HS2 : Hid (sumI (xs.take (k + 1)) = y + xs[k]) := Lib.hid (by rw [List.take_succ_eq_append_getElem hkx, sumI_snoc, HS.out])
      generalize xs[k] = u at hc u0 u1 HS2
      have hw1 : IntKind.i64.wrap (y + u) = y + u := IntWalk.i64_in _ (by omega)
      clear HS
      go_wp2_with fail
      go_round
      case rel => exact ⟨k + 1, y + u, by omega, by go_num, rfl, by omega, by omega, HS2⟩
      case measure => (simp [RowKit.intOf]; omega)
    · obtain rfl : k = n := by omega
      go_wp2_with fail
      go_ret
      have HE : sumI xs = y := by rw [← HS.out, HN.out, List.take_of_length_le (Nat.le_refl _)]
      exact ⟨ret_int HE.symm, rfl⟩
end Go.Proofs.Ytbhhmaialilabaa
