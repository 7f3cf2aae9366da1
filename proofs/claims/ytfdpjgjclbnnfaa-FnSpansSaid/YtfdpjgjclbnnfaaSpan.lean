/-
  'SerialSpan' of both packages.
-/
import Derived.Test.YtfdpjgjclbnnfaaSer3
import Derived.Test.YtfdpjgjclbnnfaaInts
import Derived.Laws.DeepStrings4
import Derived.IntWalk
import Derived.Deep.LoopGhost
import Derived.Maps.AppendAt
namespace Go.Proofs.Ytfdpjgjclbnnfaa
open Go.RowKit Go.Lib
set_option linter.unusedVariables false

theorem infoInt2 : (Try.prog.info? 3).map (fun i => (i.zero, i.size, i.bytes)) = some (some (.int .i64 0), 1, 8) := by kernel_rfl

/-- The n serials that begin with a. -/
def spanL (a : Int) (n : Nat) : List Int := (List.range n).map fun (i : Nat) => aftI a (i : Int)
theorem spanL_len (a : Int) (n : Nat) : (spanL a n).length = n := by simp [spanL]
theorem spanL_succ (a : Int) (n : Nat) : spanL a (n + 1) = spanL a n ++ [aftI a (n : Int)] := by simp [spanL, List.range_succ]
def ssOk (a b : Int) : Bool := gapOk a b && decide (gapI a b ≤ 20)
def ssL (a b : Int) : List Int := if ssOk a b = true then spanL a (gapI a b).toNat else []
theorem ssL_no {a b : Int} (h : ssOk a b = false) : ssL a b = [] := by unfold ssL; rw [h]; rfl
theorem ssL_yes {a b : Int} {n : Nat} (h : ssOk a b = true) (hn : gapI a b = n) : ssL a b = spanL a n := by unfold ssL; rw [if_pos h, hn]; rfl
theorem ssOk_of {a b : Int} (h : gapOk a b = true) (hn : gapI a b ≤ 20) : ssOk a b = true := by unfold ssOk; rw [h, decide_eq_true hn]; rfl
theorem ssOk_far {a b : Int} (hn : ¬ gapI a b ≤ 20) : ssOk a b = false := by unfold ssOk; rw [decide_eq_false hn, Bool.and_false]
theorem ssOk_bad {a b : Int} (h : gapOk a b = false) : ssOk a b = false := by unfold ssOk; rw [h]; rfl
theorem ssL_len (a b : Int) : (ssL a b).length ≤ 20 := by
  unfold ssL
  split
  · rename_i h
    unfold ssOk at h
    rw [Bool.and_eq_true] at h
    have := of_decide_eq_true h.2
    rw [spanL_len]; omega
  · simp
theorem spanV_own {a : Int} {k B : Nat} {w : World} {v : Value}
    (h : w.ownsRow B 3 1 v ((spanL a k).length + 1) ((spanL a k).map (Value.int .i64) ++ [.int .i64 (aftI a k)])) : w.ownsRow B 3 1 v (spanL a (k + 1)).length ((spanL a (k + 1)).map (Value.int .i64)) := by
  rw [spanL_succ, List.length_append, List.length_singleton, List.map_append, List.map_singleton]
  exact h
theorem below_own_i {B : Nat} {w wr w1 : World} {o : Obj} {e : TypeId} {z n : Nat} {v : Value} {xs : List Value} (hb : Below B w wr) (hB : B ≤ wr.heap.size) (ho : wr.ownsRow B e z v n xs) (hg : (wr.alloc o).grownBy w1 v.ownBlock) : Below B w w1 :=
  (hb.alloc hB o).grown hg (by simp; omega) (fun k hk => (ho.lt k hk).1)
theorem aft_at {a b : Int} {n k : Nat} (h0 : 0 ≤ a) (h1 : a ≤ 65535) (h2 : 0 ≤ b) (h3 : b ≤ 65535) (hn : gapI a b = n) (hk : k ≤ n) : (aftI a k = b) = (k = n) := by
  unfold gapI at hn
  unfold aftI
  apply propext
  omega
theorem aft_zero {a : Int} (h0 : 0 ≤ a) (h1 : a ≤ 65535) : aftI a 0 = a := by unfold aftI; omega
theorem aft_one (a : Int) (k : Nat) (h0 : 0 ≤ a) : aftI (aftI a k) 1 = aftI a ((k + 1 : Nat) : Int) := by unfold aftI; omega

set_option maxHeartbeats 1000000 in
theorem specSpan_any (a b : Int) (w : World) :
    Calls Try.prog 31 #[.int .i64 a, .int .i64 b] w fun e w' => ∃ v, e = .returned (.tuple #[v, .bool (ssOk a b)]) ∧
      w'.ownsRow w.heap.size 3 1 v (ssL a b).length ((ssL a b).map (Value.int .i64)) ∧ Below w.heap.size w w' := by
  obtain ⟨i0, hi, hz0, hz1, hz2⟩ := info_parts infoInt2
  cases ho : gapOk a b with
  | false =>
    rw [ssOk_bad ho, ssL_no (ssOk_bad ho)]
    cases ha : serB a with
    | false =>
      clear ho
      go_enter Try.func31, Try.ntmps31
      go_wp2_with (go_at_call 48; refine (l2Good_any _ _).mono ?_; rintro e w' ⟨rfl, rfl⟩)
      go_ret2
      exact ⟨_, rfl, World.ownsRow_made w #[] 0 (Nat.le_refl _) (Nat.zero_le _) rfl, (Below.refl _ _).alloc (Nat.le_refl _) _⟩
    | true =>
      have hb : serB b = false := by
        cases h : serB b with
        | false => rfl
        | true => unfold gapOk at ho; rw [ha, h] at ho; cases ho
      clear ho
      go_enter Try.func31, Try.ntmps31
      go_wp2_with (go_at_call 48; refine (l2Good_any _ _).mono ?_; rintro e w' ⟨rfl, rfl⟩)
      go_ret2
      exact ⟨_, rfl, World.ownsRow_made w #[] 0 (Nat.le_refl _) (Nat.zero_le _) rfl, (Below.refl _ _).alloc (Nat.le_refl _) _⟩
  | true =>
    obtain ⟨h1, h2, h3, h4⟩ := gapOk_bd ho
    have ha := serB_yes h1 h2
    have hb := serB_yes h3 h4
    have hgb := gapI_bd a b
    obtain ⟨n, hn⟩ : ∃ n : Nat, gapI a b = n := ⟨(gapI a b).toNat, by omega⟩
    have HL := Lib.hid (fun w => l2Gap_any a b w h1 h2 h3 h4)
    rw [hn] at HL
    by_cases hfar : (n : Int) ≤ 20
    · have hok := ssOk_of ho (by rw [hn]; exact hfar)
      rw [hok, ssL_yes hok hn]
      have HN := Lib.hid hn
      have HO := Lib.hid ho
      clear ho hok hn hgb
      go_enter Try.func31, Try.ntmps31
      go_wp2_with (first | (go_at_call 48; refine (l2Good_any _ _).mono ?_; rintro e w' ⟨rfl, rfl⟩) | (go_at_call 57; refine (HL.out _).mono ?_; rintro e w' ⟨rfl, rfl⟩))
      clear ha hb
      go_loopg [0, 6] n (fun g1 x v wr => ∃ k : Nat, k ≤ n ∧ n ≤ g1 + k ∧ x = .int .i64 (aftI a k) ∧ wr.ownsRow w.heap.size 3 1 v (spanL a k).length ((spanL a k).map (Value.int .i64)) ∧ Below w.heap.size w wr)
      case atStart => exact ⟨0, Nat.zero_le _, by omega, vint (aft_zero h1 h2).symm, World.ownsRow_made w #[] 0 (Nat.le_refl _) (Nat.zero_le _) rfl, (Below.refl _ _).alloc (Nat.le_refl _) _⟩
      case round =>
        obtain ⟨k, hk, hg1, rfl, hown, hbel⟩ := hrel
        have hsz := hbel.size
        have hat := aft_at h1 h2 h3 h4 HN.out hk
        have hsl := spanL_len a k
        obtain ⟨x0, x1⟩ := aftI_bd a k
        by_cases hkn : k = n
        · have hq : (aftI a k == b) = true := by rw [beq_iff_eq, hat]; exact hkn
          have hq' : (aftI a k != b) = false := by simp [bne, hq]
          subst hkn
          clear hat
          go_wp2_with fail
          go_ret2
          exact ⟨_, rfl, hown, hbel⟩
        · have hq : (aftI a k == b) = false := by rw [beq_eq_false_iff_ne]; intro e; rw [hat] at e; exact hkn e
          have hq' : (aftI a k != b) = true := by simp [bne, hq]
          have HA := Lib.hid (aft_one a k h1)
          obtain ⟨y, hy⟩ : ∃ y, y = aftI a k := ⟨_, rfl⟩
          rw [← hy] at hq hq' x0 x1 HA ⊢
          have HY := Lib.hid hy
          have HSL := Lib.hid hsl
          have hll : (spanL a k).length + 1 ≤ 100 := by omega
          clear hy hat hsl
          go_wp2_with (first | (at_builtin; refine wpList_append_own _ rfl _ _ 34 rfl w.heap.size 3 i0 (.int .i64 0) 1 8 Try.underlying34 hi hz0 hz1 hz2 rfl (by decide) _ _ _ rfl (hown.alloc _) ⟨wr.heap.size, 0, none⟩ 1 1 [.int .i64 y] rfl rfl (cell_one_new _ _ _) (by intro u hu; simp at hu; subst hu; rfl) (by unfold maxLen; omega) (by omega) (by simp; omega) ?_; intro v' w1 hown' hgrow _) | (go_at_call 50; refine (l2After_any _ _ _ x0 x1 (by omega) (by omega)).mono ?_; rintro e w' ⟨rfl, rfl⟩))
          go_roundg (n - (k + 1))
          case measure => omega
          case rel => exact ⟨k + 1, by omega, by omega, vint HA.out, spanV_own (by rw [← HY.out]; exact hown'), below_own_i hbel hsz hown hgrow⟩
    · have hfar' : (n : Int) > 20 := by omega
      have hok := ssOk_far (a := a) (b := b) (by rw [hn]; exact hfar)
      rw [hok, ssL_no hok]
      clear ho hok hn hgb
      go_enter Try.func31, Try.ntmps31
      go_wp2_with (first | (go_at_call 48; refine (l2Good_any _ _).mono ?_; rintro e w' ⟨rfl, rfl⟩) | (go_at_call 57; refine (HL.out _).mono ?_; rintro e w' ⟨rfl, rfl⟩))
      go_ret2
      exact ⟨_, rfl, World.ownsRow_made w #[] 0 (Nat.le_refl _) (Nat.zero_le _) rfl, (Below.refl _ _).alloc (Nat.le_refl _) _⟩
end Go.Proofs.Ytfdpjgjclbnnfaa
