/-
  Timers: rows of timers, and what the specification's functions that only read return.
-/
import Derived.Test.YtoehedogdbafpaaOwnZ
import Derived.Test.YtoehedogdbafpaaTimMath
import Derived.Test.YtoehedogdbafpaaSer
import Derived.Test.YtoehedogdbafpaaAppRow
import Derived.Deep.RegionHeld3
import Derived.Deep.CutRange
import Derived.Deep.QuietTactic
import Derived.BigQuiet
namespace Go.Proofs.Ytoehedogdbafpaa
open Go.RowKit Go.Lib
set_option linter.unusedVariables false

def tmC (t : Tm) : List Value := [.int .i64 t.i, .int .i64 t.d, .int .i64 t.p]
theorem tmC_len (t : Tm) : (tmC t).length = 3 := rfl
/-- The cells of a list of timers. -/
def tmF (s : List Tm) : List Value := flatZ tmC s
theorem tmF_len (s : List Tm) : (tmF s).length = s.length * 3 := flat_len tmC_len s
theorem tm_open {w : World} {v : Value} {s : List Tm} (hrow : Row w v s.length (tmF s)) :
    ∃ a cap, v = .slice a s.length cap ∧ s.length ≤ cap ∧ cap ≤ maxLen ∧ ∀ k (h : k < s.length), ∃ b off, a = some ⟨b, off, none⟩ ∧ b < w.heap.size ∧ w.cell? ⟨b, off + k * 3, none⟩ = some (.int .i64 s[k].i) ∧ w.cell? ⟨b, off + k * 3 + 1, none⟩ = some (.int .i64 s[k].d) ∧ w.cell? ⟨b, off + k * 3 + 2, none⟩ = some (.int .i64 s[k].p) := by
  obtain ⟨a, cap, rfl, h1, h2, h3⟩ := rowz_open tmC_len (by omega) hrow
  refine ⟨a, cap, rfl, h1, h2, fun k h => ?_⟩
  obtain ⟨b, off, rfl, hb, hc⟩ := h3 k h
  exact ⟨b, off, rfl, hb, by simpa using hc 0 _ rfl, by simpa [Nat.add_assoc] using hc 1 _ rfl, by simpa [Nat.add_assoc] using hc 2 _ rfl⟩
/-- A timer as a value. -/
def tmV (t : Tm) : Value := .agg #[.int .i64 t.i, .int .i64 t.d, .int .i64 t.p]
/-- The block of a timer. -/
def Tb (w : World) (R : Nat) (t : Tm) : Prop := w.heap[R]? = some (.cells #[.int .i64 t.i, .int .i64 t.d, .int .i64 t.p] 42 (0, 0))
theorem Tb.cells {w : World} {R : Nat} {t : Tm} (h : Tb w R t) : w.cell? ⟨R, 0, none⟩ = some (.int .i64 t.i) ∧ w.cell? ⟨R, 1, none⟩ = some (.int .i64 t.d) ∧ w.cell? ⟨R, 2, none⟩ = some (.int .i64 t.p) := by
  unfold Tb at h
  refine ⟨?_, ?_, ?_⟩ <;> simp [World.cell?, h]
theorem Tb.lt {w : World} {R : Nat} {t : Tm} (h : Tb w R t) : R < w.heap.size := (Array.getElem?_eq_some_iff.1 h).1
theorem Tb.below {w w' : World} {R B : Nat} {t : Tm} (h : Tb w R t) (hb : Below B w w') (hB : R < B) : Tb w' R t := (hb.block R hB).trans h
theorem Tb.new (w : World) (t : Tm) : Tb (w.alloc (.cells #[.int .i64 t.i, .int .i64 t.d, .int .i64 t.p] 42)) w.heap.size t := heap_alloc_new w _
set_option maxRecDepth 100000 in
theorem l8Tick_any (x : Int) (w : World) :
    Calls Try.prog 57 #[.int .i64 x] w fun e w' => e = .returned (.bool (tk x)) ∧ w = w' := by
  go_enter Try.func57, Try.ntmps57
  go_wp2_with (go_at_call 77; refine (l1In_any _ _ _ _).mono ?_; rintro e w' ⟨rfl, rfl⟩)
  go_ret
  exact ⟨rfl, rfl⟩
set_option maxRecDepth 100000 in
theorem l8One_any (t : Tm) (w : World) :
    Calls Try.prog 76 #[tmV t] w fun e w' => e = .returned (.bool (tmOk t)) ∧ Below w.heap.size w w' := by
  obtain ⟨W, hW⟩ : ∃ W, W = w.alloc (.cells #[.int .i64 t.i, .int .i64 t.d, .int .i64 t.p] 42) := ⟨_, rfl⟩
  have HB : Hid (Below w.heap.size w W) := Lib.hid (by rw [hW]; exact (Below.refl w.heap.size w).alloc (Nat.le_refl _) _)
  have hT : Tb W w.heap.size t := by rw [hW]; exact Tb.new w t
  have HW := Lib.hid hW
  obtain ⟨x0, x1, x2⟩ := hT.cells
  obtain ⟨R, hR⟩ : ∃ R, R = w.heap.size := ⟨_, rfl⟩
  rw [← hR] at x0 x1 x2
  have HR := Lib.hid hR
  have e0 : tmOk t = (inB t.i 1 99 && (inB t.d 0 10000 && inB t.p 0 10000)) := rfl
  rw [e0]
  unfold tmV
  obtain ⟨i, d, p⟩ := t
  dsimp only at x0 x1 x2 HW ⊢
  have C0 := Lib.hid (l1In_any i 1 99)
  have C1 := Lib.hid (l8Tick_any d)
  have C2 := Lib.hid (l8Tick_any p)
  have e1 : tk d = inB d 0 10000 := rfl
  have e2 : tk p = inB p 0 10000 := rfl
  rw [e1] at C1
  rw [e2] at C2
  clear hW hT hR e0 e1 e2
  generalize inB i 1 99 = b0 at C0 ⊢
  generalize inB d 0 10000 = b1 at C1 ⊢
  generalize inB p 0 10000 = b2 at C2 ⊢
  cases b0 <;> cases b1 <;> cases b2
  all_goals
    go_enter Try.func76, Try.ntmps76
    go_upto_region 1 with fail
    rw [← HW.out, ← HR.out]
    go_wp2_with (first | (go_at_call 77; refine (C0.out _).mono ?_; rintro e w' ⟨rfl, rfl⟩) | (go_at_call 57; first | (refine (C1.out _).mono ?_; rintro e w' ⟨rfl, rfl⟩) | (refine (C2.out _).mono ?_; rintro e w' ⟨rfl, rfl⟩)))
    go_ret
    exact ⟨rfl, HB.out⟩
set_option maxRecDepth 100000 in
set_option maxHeartbeats 1000000 in
theorem l8First_any (v : Value) (s : List Tm) (w : World) (hrow : Row w v s.length (tmF s)) (hne : s ≠ []) :
    Calls Try.prog 58 #[v] w fun e w' => e = .returned (.int .i64 (fstI s)) ∧ ∃ k, w' = w.drewN k := by
  obtain ⟨a, cap, rfl, hc1, hm1, hcell⟩ := tm_open hrow
  have HC := Lib.hid hcell
  have hlen : 0 < s.length := List.length_pos_iff.2 hne
  clear hcell hrow hne
  unfold maxLen at hm1
  obtain ⟨n, hN⟩ : ∃ n, n = s.length := ⟨_, rfl⟩
  have hfi : fstI s = fstN s n := by rw [hN]; rfl
  rw [hfi]
  rw [← hN] at hc1 hlen ⊢
  have HN := Lib.hid hN
  clear hN hfi
  go_enter Try.func58, Try.ntmps58
  go_wp2_with fail
  go_loopw [3, 4] (fun b i wr => ∃ k : Nat, 1 ≤ k ∧ k ≤ n ∧ i = .int .i64 k ∧ b = .int .i64 (fstN s k) ∧ Hid (∃ a, wr = w.drewN a)) (fun _ i _ => n - (intOf i).toNat)
  case atStart => exact ⟨1, by omega, by omega, rfl, by rw [fstN_one]; rfl, Lib.hid ⟨0, rfl⟩⟩
  case round =>
    obtain ⟨k, hk1, hk, rfl, rfl, HW⟩ := hrel
    obtain ⟨hb1, -⟩ := fstN_law s k (by omega)
    obtain ⟨j, hj⟩ : ∃ j, j = fstN s k := ⟨_, rfl⟩
    have HS := Lib.hid (fstN_succ s k)
    rw [← hj] at hb1 HS ⊢
    have HJ := Lib.hid hj
    clear hj
    by_cases hkn : k < n
    · have hks : k < s.length := by rw [← HN.out]; exact hkn
      have hjs : j < s.length := by omega
      obtain ⟨b, off, rfl, hb, -, h1, -⟩ := HC.out k hks
      obtain ⟨b', off', e', hb', -, h1', -⟩ := HC.out j hjs
      injection e' with e'
      injection e' with e1 e2
      subst e1; subst e2
      have hx1 : wr.cell? ⟨b, off + k * 3 + 1, none⟩ = some (.int .i64 s[k].d) := by obtain ⟨a, rfl⟩ := HW.out; exact h1
      have hx2 : wr.cell? ⟨b, off + j * 3 + 1, none⟩ = some (.int .i64 s[j].d) := by obtain ⟨a, rfl⟩ := HW.out; exact h1'
      have eg1 : s.getD k tm0 = s[k] := by rw [List.getD_eq_getElem?_getD, List.getElem?_eq_getElem hks]; rfl
      have eg2 : s.getD j tm0 = s[j] := by rw [List.getD_eq_getElem?_getD, List.getElem?_eq_getElem hjs]; rfl
      rw [eg1, eg2] at HS
      generalize s[k].d = x at hx1 HS
      generalize s[j].d = y at hx2 HS
      have hjn : j < n := by omega
      clear h1 h1' eg1 eg2 hks hjs
      by_cases hlt : x < y
      · have hd : decide (x < y) = true := decide_eq_true hlt
        rw [if_pos hlt] at HS
        go_wp2_with fail
        go_quiet (fail)
        go_wp2_with fail
        go_roundw
        case rel => exact ⟨k + 1, by omega, by omega, by go_num, by rw [HS.out], by obtain ⟨a, rfl⟩ := HW.out; exact Lib.hid ⟨_, World.drewN_drewN _ _ _⟩⟩
        case measure => (simp [intOf]; omega)
      · have hd : decide (x < y) = false := decide_eq_false hlt
        rw [if_neg hlt] at HS
        go_wp2_with fail
        go_quiet (fail)
        go_wp2_with fail
        go_roundw
        case rel => exact ⟨k + 1, by omega, by omega, by go_num, by rw [HS.out], by obtain ⟨a, rfl⟩ := HW.out; exact Lib.hid ⟨_, World.drewN_drewN _ _ _⟩⟩
        case measure => (simp [intOf]; omega)
    · obtain rfl : k = n := by omega
      go_wp2_with fail
      go_ret
      exact ⟨by rw [HJ.out]; rfl, HW.out⟩
end Go.Proofs.Ytoehedogdbafpaa
