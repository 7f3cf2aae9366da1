/-
  The laws' comparison of receive windows, and what the laws ask.
-/
import Derived.Test.YtpmjdppipalfcaaProg
import Derived.Test.YtpmjdppipalfcaaBase
import Derived.Laws.AppendOwn
import Derived.Test.YtpmjdppipalfcaaStrS
import Derived.Test.YtpmjdppipalfcaaInts
import Derived.Lib.SmallJoins
import Derived.Deep.CutRange
import Derived.BigQuiet
import Derived.WalkLawsBesides
import Derived.Test.YtpmjdppipalfcaaRcvB
import Derived.Test.YtpmjdppipalfcaaSltS
import Derived.Test.YtpmjdppipalfcaaRcvMath
import Derived.Test.YtpmjdppipalfcaaBox
import Derived.Deep.RegionHeld3
import Derived.Deep.QuietTactic
namespace Go.Proofs.Ytpmjdppipalfcaa
open Go.RowKit

theorem vBigI_any (a : Option Addr) (n cap : Nat) (w : World) :
    Calls Try.prog 11 #[.slice a n cap] w fun e w' => e = .returned (.bool (decide ((65536 : Int) < n))) ∧ w = w' := by
  go_enter Try.func11, Try.ntmps11
  go_wp2
  go_ret
  exact ⟨rfl, rfl⟩
theorem vBig_row (v : Value) (n : Nat) (xs : List Value) (r : Bool) {w0 : World} (h : Row w0 v n xs) (hr : decide ((65536 : Int) < n) = r) (w : World) :
    Calls Try.prog 11 #[v] w fun e w' => e = .returned (.bool r) ∧ w = w' := by
  obtain ⟨a, cap, rfl, _⟩ := h
  rw [← hr]
  exact vBigI_any a n cap w
theorem own_slice_i {w : World} {base n : Nat} {e : TypeId} {v : Value} {xs : List Value} (h : w.ownsRow base e 1 v n xs) : ∃ a cap, v = .slice a n cap := by
  obtain ⟨hl, ⟨rfl, rfl⟩ | ⟨g, cap, cur, rfl, _⟩⟩ := h
  · exact ⟨_, _, rfl⟩
  · exact ⟨_, _, rfl⟩
end Go.Proofs.Ytpmjdppipalfcaa

namespace Go.Proofs.Ytpmjdppipalfcaa
open Go.RowKit Go.Lib Go.Joins
set_option linter.unusedVariables false

set_option maxRecDepth 100000 in
set_option maxHeartbeats 1000000 in
theorem vTexts_any (v1 v2 : Value) (xs ys : List ByteArray) (w : World) (h1 : Row w v1 xs.length (xs.map Value.string)) (h2 : Row w v2 ys.length (ys.map Value.string)) :
    Calls Try.prog 16 #[v1, v2] w fun e w' => e = .returned (.bool (decide (xs = ys))) ∧ ∃ k, w' = w.drewN k := by
  obtain ⟨a1, c1, rfl, hc1, hm1, hcell1⟩ := row_open h1
  obtain ⟨a2, c2, rfl, hc2, hm2, hcell2⟩ := row_open h2
  have HC1 := Lib.hid hcell1
  have HC2 := Lib.hid hcell2
  clear hcell1 hcell2 h1 h2
  unfold maxLen at hm1 hm2
  by_cases hl : xs.length = ys.length
  · obtain ⟨n, hN⟩ : ∃ n, n = xs.length := ⟨_, rfl⟩
    rw [← hl, ← hN]
    rw [← hl, ← hN] at hc2
    rw [← hN] at hc1
    have HL := Lib.hid hl
    have HN := Lib.hid hN
    clear hl hN
    go_enter Try.func16, Try.ntmps16
    go_wp2_with fail
    go_loopw [5] (fun i wr => ∃ k : Nat, k ≤ n ∧ i = .int .i64 k ∧ Hid (xs.take k = ys.take k) ∧ Hid (∃ a, wr = w.drewN a)) (fun i _ => n - (RowKit.intOf i).toNat)
    case atStart => exact ⟨0, Nat.zero_le _, rfl, Lib.hid (by simp), Lib.hid ⟨0, rfl⟩⟩
    case round =>
      obtain ⟨k, hk, rfl, HT, HW⟩ := hrel
      by_cases hkn : k < n
      · have hk1 : k < xs.length := by rw [← HN.out]; exact hkn
        have hk2 : k < ys.length := by rw [← HL.out]; exact hk1
        obtain ⟨b1, o1, rfl, hb1, hx1⟩ := HC1.out k hk1
        obtain ⟨b2, o2, rfl, hb2, hx2⟩ := HC2.out k hk2
        have hy1 : wr.cell? ⟨b1, o1 + k, none⟩ = some (.string xs[k]) := by obtain ⟨a, rfl⟩ := HW.out; exact hx1
        have hy2 : wr.cell? ⟨b2, o2 + k, none⟩ = some (.string ys[k]) := by obtain ⟨a, rfl⟩ := HW.out; exact hx2
        clear hx1 hx2
        obtain ⟨x, hx⟩ : ∃ x, x = xs[k] := ⟨_, rfl⟩
        obtain ⟨y, hy⟩ : ∃ y, y = ys[k] := ⟨_, rfl⟩
        rw [← hx] at hy1
        rw [← hy] at hy2
        have HX := Lib.hid hx
        have HY := Lib.hid hy
        clear hx hy
        go_wp2_with fail
        go_quiet (fail)
        go_wp2_with fail
        · go_ret
          exact ⟨ret_bool (by rw [decide_eq_false (fun e => bytes_ne (by assumption) (by rw [HX.out, HY.out]; exact list_at e _ _ _))]), world_hid HW.out _⟩
        · go_roundw
          case rel => exact ⟨k + 1, by omega, by go_num, Lib.hid (eq_take hk1 hk2 HT.out (by rw [← HX.out, ← HY.out]; exact bytes_eq (by assumption))), Lib.hid (world_hid HW.out _)⟩
          case measure => simp [RowKit.intOf]; omega
      · obtain rfl : k = n := by omega
        have HE : Hid (xs = ys) := Lib.hid (by
          have := HT.out
          rw [HN.out, List.take_of_length_le (Nat.le_refl _), HL.out, List.take_of_length_le (Nat.le_refl _)] at this
          exact this)
        go_wp2_with fail
        go_ret
        exact ⟨ret_bool (by rw [decide_eq_true HE.out]), HW.out⟩
  · have HE : Hid (decide (xs = ys) = false) := Lib.hid (decide_eq_false (fun e => hl (by rw [e])))
    have hd : ((xs.length : Int) == (ys.length : Int)) = false := by simp; omega
    clear hl
    go_enter Try.func16, Try.ntmps16
    go_wp2_with fail
    go_ret
    exact ⟨ret_bool HE.out.symm, 0, rfl⟩
end Go.Proofs.Ytpmjdppipalfcaa

namespace Go.Proofs.Ytpmjdppipalfcaa
open Go.RowKit Go.Lib Go.Joins
set_option linter.unusedVariables false

set_option maxRecDepth 100000 in
set_option maxHeartbeats 4000000 in
theorem vSl_same (v1 v2 : Value) (l : Rw) (w : World) (h1 : Row w v1 l.q.length (slF l.q)) (h2 : Row w v2 l.q.length (slF l.q)) :
    Calls Try.prog 15 #[.agg #[.int .i64 l.x, v1], .agg #[.int .i64 l.x, v2]] w fun e w' => e = .returned (.bool true) ∧ Below w.heap.size w w' := by
  obtain ⟨x, s⟩ := l
  dsimp only at h1 h2 ⊢
  obtain ⟨W0, R_T, R_U, hW0, hR_T, hR_U, hX_T, hX_U, hB0⟩ := entry2 w #[.int .i64 x, v1] #[.int .i64 x, v2] 26 26
  have h3 := h1.below hB0 (Nat.le_refl _)
  have h4 := h2.below hB0 (Nat.le_refl _)
  have HW0 := Lib.hid hW0
  have HB0 := Lib.hid hB0
  have HR_T := Lib.hid hR_T
  have HX_T := Lib.hid hX_T
  have HR_U := Lib.hid hR_U
  have HX_U := Lib.hid hX_U
  clear hW0 hB0 hR_T hX_T hR_U hX_U h1 h2
  obtain ⟨a1, c1, rfl, hc1, hm1, hcell1⟩ := sl_open h3
  obtain ⟨a2, c2, rfl, hc2, hm2, hcell2⟩ := sl_open h4
  have HC1 := Lib.hid hcell1
  have HC2 := Lib.hid hcell2
  clear hcell1 hcell2 h3 h4
  unfold maxLen at hm1 hm2
  obtain ⟨n, hN⟩ : ∃ n, n = s.length := ⟨_, rfl⟩
  rw [← hN] at hc1 hc2 HX_T HX_U HW0 ⊢
  have HN := Lib.hid hN
  clear hN
  have c4_T_0 := HX_T.out.at 0 (v := .int .i64 x) rfl
  have c4_T_1 := HX_T.out.at 1 (v := .slice a1 n c1) rfl
  have c5_U_0 := HX_U.out.at 0 (v := .int .i64 x) rfl
  have c5_U_1 := HX_U.out.at 1 (v := .slice a2 n c2) rfl
  go_enter Try.func15, Try.ntmps15
  go_upto_region 1 with fail
  rw [← HW0.out, ← HR_U.out, ← HR_T.out]
  go_wp2_with fail
  clear c4_T_0 c4_T_1 c5_U_0 c5_U_1
  go_loopw [5] (fun i wr => ∃ k : Nat, k ≤ n ∧ i = .int .i64 k ∧ Hid (Below W0.heap.size W0 wr)) (fun i _ => n - (RowKit.intOf i).toNat)
  case atStart => exact ⟨0, Nat.zero_le _, rfl, Lib.hid (Below.refl _ _)⟩
  case round =>
    obtain ⟨k, hk, rfl, HB⟩ := hrel
    have hT := HX_T.out.below HB.out HX_T.out.lt
    have hU := HX_U.out.below HB.out HX_U.out.lt
    have c4_T_1 := hT.at 1 (v := .slice a1 n c1) rfl
    have c5_U_1 := hU.at 1 (v := .slice a2 n c2) rfl
    clear hT hU
    by_cases hkn : k < n
    · have hks : k < s.length := by rw [← HN.out]; exact hkn
      obtain ⟨b1, o1, rfl, hb1, p0, p1⟩ := HC1.out k hks
      obtain ⟨b2, o2, rfl, hb2, p2, p3⟩ := HC2.out k hks
      have q0 := (HB.out.cell hb1).trans p0
      have q1 := (HB.out.cell hb1).trans p1
      have q2 := (HB.out.cell hb2).trans p2
      have q3 := (HB.out.cell hb2).trans p3
      clear p0 p1 p2 p3
      generalize s[k].h = x0 at q0 q2
      generalize s[k].s = x1 at q1 q3
      go_wp2_with fail
      go_quiet (fail)
      go_wp2_with fail
      go_roundw
      case rel => exact ⟨k + 1, by omega, by go_num, Lib.hid (b_d HB.out _)⟩
      case measure => (simp [RowKit.intOf]; omega)
    · obtain rfl : k = n := by omega
      go_wp2_with fail
      go_ret
      exact ⟨rfl, HB0.out.trans (HB.out.mono HB0.out.size)⟩
/-- How many of the first k events tell something: what the law counts. -/
def tolN (q : List ByteArray) (k : Nat) : Nat := (q.take k).countP toldB
theorem tolN_step {q : List ByteArray} {k : Nat} (h : k < q.length) : tolN q (k + 1) = tolN q k + if toldB q[k] then 1 else 0 := by
  unfold tolN
  rw [List.take_succ_eq_append_getElem h, List.countP_append, List.countP_singleton]
theorem tolN_le (q : List ByteArray) (k : Nat) : tolN q k ≤ k := by
  have h1 : (q.take k).countP toldB ≤ (q.take k).length := List.countP_le_length
  rw [List.length_take] at h1
  unfold tolN
  omega
theorem tolN_all (q : List ByteArray) : tolN q q.length = q.countP toldB := by unfold tolN; rw [List.take_length]
theorem le_maxLen10 {n : Nat} (h : n ≤ 9) : n ≤ maxLen := by unfold maxLen; omega
theorem bytes_neq10 {a b : ByteArray} (h : a ≠ b) : (a.toList == b.toList) = false := by
  rw [beq_eq_false_iff_ne]
  intro e
  exact h (bytes_eq (by rw [e]; simp))
theorem told_no10 : toldB (⟨#[45]⟩ : ByteArray) = false := by unfold toldB; rw [decide_eq_true rfl]; rfl
theorem told_yes10 {y : ByteArray} (h : y ≠ (⟨#[45]⟩ : ByteArray)) : toldB y = true := by unfold toldB; rw [decide_eq_false h]; rfl
theorem tolN_yes {q : List ByteArray} {k c : Nat} {y : ByteArray} (h : k < q.length) (hc : c = tolN q k) (hy : y = q[k]) (ht : toldB y = true) : c + 1 = tolN q (k + 1) := by
  rw [tolN_step h, ← hy, ht, ← hc]; rfl
theorem tolN_no {q : List ByteArray} {k c : Nat} {y : ByteArray} (h : k < q.length) (hc : c = tolN q k) (hy : y = q[k]) (ht : toldB y = false) : c = tolN q (k + 1) := by
  rw [tolN_step h, ← hy, ht, ← hc]; rfl
/-- What the law asks of giving up. -/
theorem give_law10 {l : Rw} {x : Int} (hl : l.q.length ≤ 9) (h : giveOk l x = true) :
    gapOk l.x (giveV l x).x = true ∧ gapV l.x (giveV l x).x = (giveL l x).length ∧ gapOk (giveV l x).x x = true ∧ befV (giveV l x).x x = false ∧ rwOk (giveV l x) = true ∧ rwOk l = true ∧
    (∀ s ∈ (giveV l x).q, s.s.size ≤ maxLen) ∧ ∀ c : Nat, c = tolN (giveL l x) (giveL l x).length → (c : Int) + cntV (giveV l x) = cntV l ∧ 0 ≤ cntV l ∧ cntV l ≤ 9 := by
  obtain ⟨a1, a2, a3, a4, a5, a6, a7⟩ := give_law h
  refine ⟨a1, a2, a3, a4, a5, a6, fun s hs => ?_, fun c hc => ?_⟩
  · have h1 := (rwOk_iff.1 a5).2.2.1 s hs
    unfold slOk itB at h1
    simp only [Bool.and_eq_true, decide_eq_true_eq] at h1
    have := h1.1.2
    unfold maxLen
    omega
  · rw [hc, tolN_all]
    have h2 : cntV l = (cntH l.q : Int) := if_pos a6
    have h3 := cntH_le l.q
    exact ⟨a7, by omega, by omega⟩
theorem cnt_all10 {l : Rw} (h : rwOk l = true) : cntV l + cntF l = (l.q.length : Int) := by
  have h2 : cntV l = (cntH l.q : Int) := if_pos h
  have h3 : cntF l = ((l.q.length - cntH l.q : Nat) : Int) := if_pos h
  have h4 := cntH_le l.q
  omega
end Go.Proofs.Ytpmjdppipalfcaa
