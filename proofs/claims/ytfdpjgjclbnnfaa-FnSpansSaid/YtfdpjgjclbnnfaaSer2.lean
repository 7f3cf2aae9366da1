/-
  Serials: 'AfterSerial', 'SerialGap', 'IsBefore', 'InSpan', 'LaterSerial' of both packages.
-/
import Derived.Test.YtfdpjgjclbnnfaaSer
namespace Go.Proofs.Ytfdpjgjclbnnfaa
open Go.RowKit Go.Lib

theorem ret_ib {a b : Int} {c d : Bool} (h : a = b) (h' : c = d) : Ending.returned (.tuple #[.int .i64 a, .bool c]) = .returned (.tuple #[.int .i64 b, .bool d]) := by rw [h, h']
theorem ret_bb {a b : Bool} {c d : Bool} (h : a = b) (h' : c = d) : Ending.returned (.tuple #[.bool a, .bool c]) = .returned (.tuple #[.bool b, .bool d]) := by rw [h, h']

def aftOk (x n : Int) : Bool := serB x && inB n (-65536) 65536
def aftV (x n : Int) : Int := if aftOk x n = true then aftI x n else 0
def gapOk (a b : Int) : Bool := serB a && serB b
def gapV (a b : Int) : Int := if gapOk a b = true then gapI a b else 0
def befB (a b : Int) : Bool := inB (gapI a b) 1 32767
def befV (a b : Int) : Bool := gapOk a b && befB a b
def spanOk (x a n : Int) : Bool := serB x && (serB a && inB n 0 65536)
def spanV (x a n : Int) : Bool := spanOk x a n && decide (gapI a x < n)
def latV (a b : Int) : Int := if gapOk a b = true then (if befB a b = true then b else a) else 0

theorem aftOk_bd {x n : Int} (h : aftOk x n = true) : 0 ≤ x ∧ x ≤ 65535 ∧ -65536 ≤ n ∧ n ≤ 65536 := by
  unfold aftOk at h
  simp only [Bool.and_eq_true] at h
  have := serB_bd h.1
  have := inB_bd h.2
  omega
theorem gapOk_bd {a b : Int} (h : gapOk a b = true) : 0 ≤ a ∧ a ≤ 65535 ∧ 0 ≤ b ∧ b ≤ 65535 := by
  unfold gapOk at h
  simp only [Bool.and_eq_true] at h
  have := serB_bd h.1
  have := serB_bd h.2
  omega
theorem spanOk_bd {x a n : Int} (h : spanOk x a n = true) : 0 ≤ x ∧ x ≤ 65535 ∧ 0 ≤ a ∧ a ≤ 65535 ∧ 0 ≤ n ∧ n ≤ 65536 := by
  unfold spanOk at h
  simp only [Bool.and_eq_true] at h
  have := serB_bd h.1
  have := serB_bd h.2.1
  have := inB_bd h.2.2
  omega

theorem row_two (w : World) (a b : Int) : Row (w.alloc (.cells #[.int .i64 a, .int .i64 b] 3)) (.slice (some ⟨w.heap.size, 0, none⟩) 2 2) [a, b].length ([a, b].map (Value.int .i64)) :=
  row_made w [.int .i64 a, .int .i64 b] 3 2 rfl (by unfold maxLen; omega)

theorem specAfter_any (x n : Int) (w : World) :
    Calls Try.prog 17 #[.int .i64 x, .int .i64 n] w fun e w' => e = .returned (.tuple #[.int .i64 (aftV x n), .bool (aftOk x n)]) ∧ w = w' := by
  cases hx : serB x with
  | false =>
    have HO : Hid (aftOk x n = false) := Lib.hid (by unfold aftOk; rw [hx]; rfl)
    go_enter Try.func17, Try.ntmps17
    go_wp2_with (go_at_call 48; refine (l2Good_any _ _).mono ?_; rintro e w' ⟨rfl, rfl⟩)
    go_ret2
    exact ⟨ret_ib (by unfold aftV; rw [HO.out]; rfl) HO.out.symm, rfl⟩
  | true =>
    cases hn : inB n (-65536) 65536 with
    | false =>
      have HO : Hid (aftOk x n = false) := Lib.hid (by unfold aftOk; rw [hx, hn]; rfl)
      go_enter Try.func17, Try.ntmps17
      go_wp2_with (first | (go_at_call 48; refine (l2Good_any _ _).mono ?_; rintro e w' ⟨rfl, rfl⟩) | (go_at_call 49; refine (l1In_any _ _ _ _).mono ?_; rintro e w' ⟨rfl, rfl⟩))
      go_ret2
      exact ⟨ret_ib (by unfold aftV; rw [HO.out]; rfl) HO.out.symm, rfl⟩
    | true =>
      have ho : aftOk x n = true := by unfold aftOk; rw [hx, hn]; rfl
      obtain ⟨h1, h2, h3, h4⟩ := aftOk_bd ho
      have HO := Lib.hid ho
      clear ho
      go_enter Try.func17, Try.ntmps17
      go_wp2_with (first | (go_at_call 48; refine (l2Good_any _ _).mono ?_; rintro e w' ⟨rfl, rfl⟩) | (go_at_call 49; refine (l1In_any _ _ _ _).mono ?_; rintro e w' ⟨rfl, rfl⟩) | (go_at_call 50; refine (l2After_any _ _ _ h1 h2 h3 h4).mono ?_; rintro e w' ⟨rfl, rfl⟩))
      go_ret2
      exact ⟨ret_ib (by unfold aftV; rw [if_pos HO.out]) HO.out.symm, rfl⟩
theorem implAfter_any (x n : Int) (w : World) :
    Calls Try.prog 16 #[.int .i64 x, .int .i64 n] w fun e w' => e = .returned (.tuple #[.int .i64 (aftV x n), .bool (aftOk x n)]) ∧ w = w' := by
  cases ho : aftOk x n with
  | false =>
    have HO := Lib.hid ho
    cases hx : serB x with
    | false =>
      clear ho
      go_enter Try.func16, Try.ntmps16
      go_wp2_with (go_at_call 19; refine (implIsSerial_any _ _).mono ?_; rintro e w' ⟨rfl, rfl⟩)
      go_ret2
      exact ⟨ret_ib (by unfold aftV; rw [HO.out]; rfl) rfl, rfl⟩
    | true =>
      have hb : n < -65536 ∨ 65536 < n := by
        rcases Classical.em (-65536 ≤ n ∧ n ≤ 65536) with h | h
        · unfold aftOk at ho; rw [hx, inB_yes h.1 h.2] at ho; cases ho
        · omega
      clear ho
      by_cases hlo : n < -65536
      · go_enter Try.func16, Try.ntmps16
        go_wp2_with (go_at_call 19; refine (implIsSerial_any _ _).mono ?_; rintro e w' ⟨rfl, rfl⟩)
        go_ret2
        exact ⟨ret_ib (by unfold aftV; rw [HO.out]; rfl) rfl, rfl⟩
      · have hhi : 65536 < n := by omega
        clear hb
        go_enter Try.func16, Try.ntmps16
        go_wp2_with (go_at_call 19; refine (implIsSerial_any _ _).mono ?_; rintro e w' ⟨rfl, rfl⟩)
        go_ret2
        exact ⟨ret_ib (by unfold aftV; rw [HO.out]; rfl) rfl, rfl⟩
  | true =>
    obtain ⟨h1, h2, h3, h4⟩ := aftOk_bd ho
    have hx := serB_yes h1 h2
    have HO := Lib.hid ho
    clear ho
    go_enter Try.func16, Try.ntmps16
    go_wp2_with (first | (go_at_call 19; refine (implIsSerial_any _ _).mono ?_; rintro e w' ⟨rfl, rfl⟩) | (go_at_call 47; refine (implStep_any _ _ _ h1 h2 h3 h4).mono ?_; rintro e w' ⟨rfl, rfl⟩))
    go_ret2
    exact ⟨ret_ib (by unfold aftV; rw [if_pos HO.out]) rfl, rfl⟩
theorem specGap_any (a b : Int) (w : World) :
    Calls Try.prog 40 #[.int .i64 a, .int .i64 b] w fun e w' => e = .returned (.tuple #[.int .i64 (gapV a b), .bool (gapOk a b)]) ∧ w = w' := by
  cases hx : serB a with
  | false =>
    have HO : Hid (gapOk a b = false) := Lib.hid (by unfold gapOk; rw [hx]; rfl)
    go_enter Try.func40, Try.ntmps40
    go_wp2_with (go_at_call 48; refine (l2Good_any _ _).mono ?_; rintro e w' ⟨rfl, rfl⟩)
    go_ret2
    exact ⟨ret_ib (by unfold gapV; rw [HO.out]; rfl) HO.out.symm, rfl⟩
  | true =>
    cases hn : serB b with
    | false =>
      have HO : Hid (gapOk a b = false) := Lib.hid (by unfold gapOk; rw [hx, hn]; rfl)
      go_enter Try.func40, Try.ntmps40
      go_wp2_with (go_at_call 48; refine (l2Good_any _ _).mono ?_; rintro e w' ⟨rfl, rfl⟩)
      go_ret2
      exact ⟨ret_ib (by unfold gapV; rw [HO.out]; rfl) HO.out.symm, rfl⟩
    | true =>
      have ho : gapOk a b = true := by unfold gapOk; rw [hx, hn]; rfl
      obtain ⟨h1, h2, h3, h4⟩ := gapOk_bd ho
      have HO := Lib.hid ho
      clear ho
      go_enter Try.func40, Try.ntmps40
      go_wp2_with (first | (go_at_call 48; refine (l2Good_any _ _).mono ?_; rintro e w' ⟨rfl, rfl⟩) | (go_at_call 57; refine (l2Gap_any _ _ _ h1 h2 h3 h4).mono ?_; rintro e w' ⟨rfl, rfl⟩))
      go_ret2
      exact ⟨ret_ib (by unfold gapV; rw [if_pos HO.out]) HO.out.symm, rfl⟩
theorem l2Before_any (a b : Int) (w : World) (h0 : 0 ≤ a) (h1 : a ≤ 65535) (h2 : 0 ≤ b) (h3 : b ≤ 65535) :
    Calls Try.prog 54 #[.int .i64 a, .int .i64 b] w fun e w' => e = .returned (.bool (befB a b)) ∧ w = w' := by
  go_enter Try.func54, Try.ntmps54
  go_wp2_with (first | (go_at_call 57; refine (l2Gap_any _ _ _ h0 h1 h2 h3).mono ?_; rintro e w' ⟨rfl, rfl⟩) | (go_at_call 49; refine (l1In_any _ _ _ _).mono ?_; rintro e w' ⟨rfl, rfl⟩))
  go_ret
  exact ⟨rfl, rfl⟩
theorem specBefore_any (a b : Int) (w : World) :
    Calls Try.prog 22 #[.int .i64 a, .int .i64 b] w fun e w' => e = .returned (.tuple #[.bool (befV a b), .bool (gapOk a b)]) ∧ w = w' := by
  cases hx : serB a with
  | false =>
    have HO : Hid (gapOk a b = false) := Lib.hid (by unfold gapOk; rw [hx]; rfl)
    go_enter Try.func22, Try.ntmps22
    go_wp2_with (go_at_call 48; refine (l2Good_any _ _).mono ?_; rintro e w' ⟨rfl, rfl⟩)
    go_ret2
    exact ⟨ret_bb (by unfold befV; rw [HO.out]; rfl) HO.out.symm, rfl⟩
  | true =>
    cases hn : serB b with
    | false =>
      have HO : Hid (gapOk a b = false) := Lib.hid (by unfold gapOk; rw [hx, hn]; rfl)
      go_enter Try.func22, Try.ntmps22
      go_wp2_with (go_at_call 48; refine (l2Good_any _ _).mono ?_; rintro e w' ⟨rfl, rfl⟩)
      go_ret2
      exact ⟨ret_bb (by unfold befV; rw [HO.out]; rfl) HO.out.symm, rfl⟩
    | true =>
      have ho : gapOk a b = true := by unfold gapOk; rw [hx, hn]; rfl
      obtain ⟨h1, h2, h3, h4⟩ := gapOk_bd ho
      have HO := Lib.hid ho
      clear ho
      go_enter Try.func22, Try.ntmps22
      go_wp2_with (first | (go_at_call 48; refine (l2Good_any _ _).mono ?_; rintro e w' ⟨rfl, rfl⟩) | (go_at_call 54; refine (l2Before_any _ _ _ h1 h2 h3 h4).mono ?_; rintro e w' ⟨rfl, rfl⟩))
      go_ret2
      exact ⟨ret_bb (by unfold befV; rw [HO.out]; rfl) HO.out.symm, rfl⟩
theorem specLater_any (a b : Int) (w : World) :
    Calls Try.prog 24 #[.int .i64 a, .int .i64 b] w fun e w' => e = .returned (.tuple #[.int .i64 (latV a b), .bool (gapOk a b)]) ∧ w = w' := by
  cases hx : serB a with
  | false =>
    have HO : Hid (gapOk a b = false) := Lib.hid (by unfold gapOk; rw [hx]; rfl)
    go_enter Try.func24, Try.ntmps24
    go_wp2_with (go_at_call 48; refine (l2Good_any _ _).mono ?_; rintro e w' ⟨rfl, rfl⟩)
    go_ret2
    exact ⟨ret_ib (by unfold latV; rw [HO.out]; rfl) HO.out.symm, rfl⟩
  | true =>
    cases hn : serB b with
    | false =>
      have HO : Hid (gapOk a b = false) := Lib.hid (by unfold gapOk; rw [hx, hn]; rfl)
      go_enter Try.func24, Try.ntmps24
      go_wp2_with (go_at_call 48; refine (l2Good_any _ _).mono ?_; rintro e w' ⟨rfl, rfl⟩)
      go_ret2
      exact ⟨ret_ib (by unfold latV; rw [HO.out]; rfl) HO.out.symm, rfl⟩
    | true =>
      have ho : gapOk a b = true := by unfold gapOk; rw [hx, hn]; rfl
      obtain ⟨h1, h2, h3, h4⟩ := gapOk_bd ho
      have HO := Lib.hid ho
      clear ho
      cases hbf : befB a b with
      | true =>
        go_enter Try.func24, Try.ntmps24
        go_wp2_with (first | (go_at_call 48; refine (l2Good_any _ _).mono ?_; rintro e w' ⟨rfl, rfl⟩) | (go_at_call 54; refine (l2Before_any _ _ _ h1 h2 h3 h4).mono ?_; rintro e w' ⟨rfl, rfl⟩))
        go_ret2
        exact ⟨ret_ib (by unfold latV; rw [HO.out, hbf]; rfl) HO.out.symm, rfl⟩
      | false =>
        go_enter Try.func24, Try.ntmps24
        go_wp2_with (first | (go_at_call 48; refine (l2Good_any _ _).mono ?_; rintro e w' ⟨rfl, rfl⟩) | (go_at_call 54; refine (l2Before_any _ _ _ h1 h2 h3 h4).mono ?_; rintro e w' ⟨rfl, rfl⟩))
        go_ret2
        exact ⟨ret_ib (by unfold latV; rw [HO.out, hbf]; rfl) HO.out.symm, rfl⟩
theorem specInSpan_any (x a n : Int) (w : World) :
    Calls Try.prog 27 #[.int .i64 x, .int .i64 a, .int .i64 n] w fun e w' => e = .returned (.tuple #[.bool (spanV x a n), .bool (spanOk x a n)]) ∧ w = w' := by
  cases ho : spanOk x a n with
  | true =>
    obtain ⟨h1, h2, h3, h4, h5, h6⟩ := spanOk_bd ho
    have hx := serB_yes h1 h2
    have ha := serB_yes h3 h4
    have hn := inB_yes h5 h6
    have HO := Lib.hid ho
    clear ho
    obtain ⟨g, hg⟩ : ∃ g, g = gapI a x := ⟨_, rfl⟩
    have HG := Lib.hid hg
    have HL := Lib.hid (fun w => l2Gap_any a x w h3 h4 h1 h2)
    rw [← hg] at HL
    clear hg
    go_enter Try.func27, Try.ntmps27
    go_wp2_with (first | (go_at_call 48; refine (l2Good_any _ _).mono ?_; rintro e w' ⟨rfl, rfl⟩) | (go_at_call 49; refine (l1In_any _ _ _ _).mono ?_; rintro e w' ⟨rfl, rfl⟩) | (go_at_call 57; refine (HL.out _).mono ?_; rintro e w' ⟨rfl, rfl⟩))
    go_ret2
    exact ⟨ret_bb (by unfold spanV; rw [HO.out, ← HG.out]; rfl) rfl, rfl⟩
  | false =>
    have HO := Lib.hid ho
    have hv : spanV x a n = false := by unfold spanV; rw [ho]; rfl
    have HV := Lib.hid hv
    cases hx : serB x with
    | false =>
      clear ho hv
      go_enter Try.func27, Try.ntmps27
      go_wp2_with (first | (go_at_call 48; refine (l2Good_any _ _).mono ?_; rintro e w' ⟨rfl, rfl⟩) | (go_at_call 49; refine (l1In_any _ _ _ _).mono ?_; rintro e w' ⟨rfl, rfl⟩))
      go_ret2
      exact ⟨ret_bb HV.out.symm rfl, rfl⟩
    | true =>
      cases ha : serB a with
      | false =>
        clear ho hv
        go_enter Try.func27, Try.ntmps27
        go_wp2_with (first | (go_at_call 48; refine (l2Good_any _ _).mono ?_; rintro e w' ⟨rfl, rfl⟩) | (go_at_call 49; refine (l1In_any _ _ _ _).mono ?_; rintro e w' ⟨rfl, rfl⟩))
        go_ret2
        exact ⟨ret_bb HV.out.symm rfl, rfl⟩
      | true =>
        have hn : inB n 0 65536 = false := by
          cases h : inB n 0 65536 with
          | false => rfl
          | true => unfold spanOk at ho; rw [hx, ha, h] at ho; cases ho
        clear ho hv
        go_enter Try.func27, Try.ntmps27
        go_wp2_with (first | (go_at_call 48; refine (l2Good_any _ _).mono ?_; rintro e w' ⟨rfl, rfl⟩) | (go_at_call 49; refine (l1In_any _ _ _ _).mono ?_; rintro e w' ⟨rfl, rfl⟩))
        go_ret2
        exact ⟨ret_bb HV.out.symm rfl, rfl⟩
end Go.Proofs.Ytfdpjgjclbnnfaa
