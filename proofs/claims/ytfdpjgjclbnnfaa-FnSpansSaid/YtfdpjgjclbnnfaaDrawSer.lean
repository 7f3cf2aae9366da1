/-
  The draws of chapter 2 that draw serials.
-/
import Derived.Test.YtfdpjgjclbnnfaaAmong
import Derived.Test.YtfdpjgjclbnnfaaSer3
namespace Go.Proofs.Ytfdpjgjclbnnfaa
open Go.RowKit
set_option linter.unusedVariables false

def serL : List Int := [0, 1, 100, 32767, 32768, 65535, 65530, 4660]
theorem serL_bd : ∀ x ∈ serL, 0 ≤ x ∧ x ≤ 65535 := by
  intro x hx
  simp only [serL, List.mem_cons, List.not_mem_nil, or_false] at hx
  omega

theorem serial_any (B m : Nat) (z : List Int) (w : World) (h : Cu w B z m) (hm : m ≤ 800000) :
    Calls Try.prog 64 #[.pointer (some ⟨B, 0, none⟩)] w fun e w' => ∃ x : Int, 0 ≤ x ∧ x ≤ 65535 ∧ e = .returned (.int .i64 x) ∧ Cu w' B z (m + 4) ∧ w.grownBy w' (some B) := by
  have HH := Lib.hid h
  clear h
  go_enter Try.func64, Try.ntmps64
  go_wp2_with fail
  refine (among_any B m z _ serL _ (HH.out.grown (World.grownBy_alloc _ _ none)) (by omega) (by decide) (by decide) (fun w' hg => row_fresh (xs := serL.map (Value.int .i64)) (n := serL.length) (List.length_map _).symm (by decide) HH.out.lt hg)).mono ?_
  rintro e w1 ⟨x, hx, rfl, hc, hg⟩
  obtain ⟨x0, x1⟩ := serL_bd x hx
  have HC := Lib.hid hc
  have HG := Lib.hid hg
  clear hx hc hg
  go_wp2_with fail
  refine (pick_any B (m + 2) 12 z _ HC.out (by omega) (by omega) (by omega)).mono ?_
  rintro e w2 ⟨p, hp, rfl, hc2, hg2⟩
  have HC2 := Lib.hid hc2
  have HG2 := Lib.hid hg2
  clear hc2 hg2
  go_wp2_with fail
  refine (l2After_any x p _ x0 x1 (by omega) (by omega)).mono ?_
  rintro e w3 ⟨rfl, rfl⟩
  obtain ⟨y0, y1⟩ := aftI_bd x p
  go_wp2_with fail
  go_ret
  exact ⟨_, y0, y1, rfl, HC2.out, g_trans (World.grownBy_alloc _ _ _) (g_trans HG.out HG2.out)⟩
def anySerL : List Int := [-1, 65536, 65535]
theorem anySerL_bd : ∀ x ∈ anySerL, -1 ≤ x ∧ x ≤ 65536 := by
  intro x hx
  simp only [anySerL, List.mem_cons, List.not_mem_nil, or_false] at hx
  omega
theorem anySerial_any (B m : Nat) (z : List Int) (w : World) (h : Cu w B z m) (hm : m ≤ 700000) :
    Calls Try.prog 45 #[.pointer (some ⟨B, 0, none⟩)] w fun e w' => ∃ x : Int, -1 ≤ x ∧ x ≤ 65536 ∧ e = .returned (.int .i64 x) ∧ Cu w' B z (m + 6) ∧ w.grownBy w' (some B) := by
  have HH := Lib.hid h
  clear h
  go_enter Try.func45, Try.ntmps45
  go_wp2_with fail
  refine (one_any B m 20 z _ HH.out (by omega) (by omega) (by omega)).mono ?_
  rintro e w1 ⟨b, rfl, hc, hg⟩
  have HC := Lib.hid hc
  have HG := Lib.hid hg
  clear hc hg
  cases b with
  | true =>
    go_wp2_with fail
    refine (among_any B (m + 2) z _ anySerL _ (HC.out.grown (World.grownBy_alloc _ _ none)) (by omega) (by decide) (by decide) (fun w' hg => row_fresh (xs := anySerL.map (Value.int .i64)) (n := anySerL.length) (List.length_map _).symm (by decide) HC.out.lt hg)).mono ?_
    rintro e w2 ⟨x, hx, rfl, hc2, hg2⟩
    obtain ⟨x0, x1⟩ := anySerL_bd x hx
    have HC2 := Lib.hid hc2
    have HG2 := Lib.hid hg2
    clear hx hc2 hg2
    go_wp2_with fail
    go_ret
    exact ⟨x, x0, x1, rfl, HC2.out.mono (by omega), g_trans HG.out (g_trans (World.grownBy_alloc _ _ _) HG2.out)⟩
  | false =>
    go_wp2_with fail
    refine (serial_any B (m + 2) z _ HC.out (by omega)).mono ?_
    rintro e w2 ⟨x, x0, x1, rfl, hc2, hg2⟩
    have HC2 := Lib.hid hc2
    have HG2 := Lib.hid hg2
    clear hc2 hg2
    go_wp2_with fail
    go_ret
    exact ⟨x, by omega, by omega, rfl, HC2.out, g_trans HG.out HG2.out⟩
theorem near_any (B m : Nat) (z : List Int) (x : Int) (w : World) (h : Cu w B z m) (hm : m ≤ 800000) (x0 : 0 ≤ x) (x1 : x ≤ 65535) :
    Calls Try.prog 56 #[.pointer (some ⟨B, 0, none⟩), .int .i64 x] w fun e w' => ∃ y : Int, 0 ≤ y ∧ y ≤ 65535 ∧ e = .returned (.int .i64 y) ∧ Cu w' B z (m + 2) ∧ w.grownBy w' (some B) := by
  have HH := Lib.hid h
  clear h
  go_enter Try.func56, Try.ntmps56
  go_wp2_with fail
  refine (pick_any B m 16 z _ HH.out (by omega) (by omega) (by omega)).mono ?_
  rintro e w2 ⟨p, hp, rfl, hc2, hg2⟩
  have HC2 := Lib.hid hc2
  have HG2 := Lib.hid hg2
  clear hc2 hg2
  go_wp2_with fail
  refine (l2After_any x _ _ x0 x1 (by omega) (by omega)).mono ?_
  rintro e w3 ⟨rfl, rfl⟩
  obtain ⟨y0, y1⟩ := aftI_bd x ((p : Int) - 6)
  go_wp2_with fail
  go_ret
  exact ⟨_, y0, y1, rfl, HC2.out, HG2.out⟩
theorem gbelow {w w' : World} {B0 B : Nat} (h : w.grownBy w' (some B)) (hB : B0 ≤ w.heap.size) (hr : B0 ≤ B) : Below B0 w w' := (Below.refl B0 w).grown h hB (fun k e => by cases e; exact hr)

def aftL : List Int := [0, 1, -1, 32768, 65536, -65536, 65537, -65537, 700]
theorem aftL_bd : ∀ x ∈ aftL, -65537 ≤ x ∧ x ≤ 65537 := by
  intro x hx
  simp only [aftL, List.mem_cons, List.not_mem_nil, or_false] at hx
  omega
theorem drawAfter_any (v : Value) (z : List Int) (w : World) (hrow : Row w v z.length (z.map (Value.int .u8))) (hz : ∀ x ∈ z, 0 ≤ x ∧ x < 256) :
    Calls Try.prog 15 #[v] w fun e w' => ∃ x n : Int, -1 ≤ x ∧ x ≤ 65536 ∧ -65537 ≤ n ∧ n ≤ 65537 ∧ e = .returned (.tuple #[.int .i64 x, .int .i64 n]) ∧ Below w.heap.size w w' := by
  have HC0 := Lib.hid (cu_new w v z hrow hz)
  obtain ⟨a0, cap0, rfl, _, _, _⟩ := row_open hrow
  clear hrow hz
  go_enter Try.func15, Try.ntmps15
  go_wp2_with fail
  refine (anySerial_any w.heap.size 0 z _ HC0.out (by omega)).mono ?_
  rintro e w1 ⟨x, x0, x1, rfl, hc, hg⟩
  have HC := Lib.hid hc
  have HB := Lib.hid (((Below.refl _ _).alloc (Nat.le_refl _) _).trans (gbelow hg (by simp) (Nat.le_refl _)))
  clear hc hg
  go_wp2_with fail
  refine (among_any w.heap.size 6 z _ aftL _ (HC.out.grown (World.grownBy_alloc _ _ none)) (by omega) (by decide) (by decide) (fun w' hg => row_fresh (xs := aftL.map (Value.int .i64)) (n := aftL.length) (List.length_map _).symm (by decide) HC.out.lt hg)).mono ?_
  rintro e w2 ⟨n, hn, rfl, hc2, hg2⟩
  obtain ⟨n0, n1⟩ := aftL_bd n hn
  have HG2 := Lib.hid hg2
  clear hn hc2 hg2
  go_wp2_with fail
  go_ret2
  exact ⟨x, n, x0, x1, n0, n1, rfl, (HB.out.alloc HB.out.size _).trans (gbelow HG2.out (by have := HB.out.size; simp; omega) (Nat.le_refl _))⟩
def gapL : List Int := [32767, 32768, 32769, 0]
theorem gapL_bd : ∀ x ∈ gapL, 0 ≤ x ∧ x ≤ 32769 := by
  intro x hx
  simp only [gapL, List.mem_cons, List.not_mem_nil, or_false] at hx
  omega
set_option maxHeartbeats 400000 in
theorem drawGap_any (v : Value) (z : List Int) (w : World) (hrow : Row w v z.length (z.map (Value.int .u8))) (hz : ∀ x ∈ z, 0 ≤ x ∧ x < 256) :
    Calls Try.prog 53 #[v] w fun e w' => ∃ x n : Int, -1 ≤ x ∧ x ≤ 65536 ∧ -1 ≤ n ∧ n ≤ 65536 ∧ e = .returned (.tuple #[.int .i64 x, .int .i64 n]) ∧ Below w.heap.size w w' := by
  have HC0 := Lib.hid (cu_new w v z hrow hz)
  obtain ⟨a0, cap0, rfl, _, _, _⟩ := row_open hrow
  clear hrow hz
  go_enter Try.func53, Try.ntmps53
  go_wp2_with fail
  refine (anySerial_any w.heap.size 0 z _ HC0.out (by omega)).mono ?_
  rintro e w1 ⟨x, x0, x1, rfl, hc, hg⟩
  have HC := Lib.hid hc
  have HB := Lib.hid (((Below.refl _ _).alloc (Nat.le_refl _) _).trans (gbelow hg (by simp) (Nat.le_refl _)))
  clear hc hg
  go_wp2_with fail
  refine (l2Good_any _ _).mono ?_
  rintro e w2 ⟨rfl, rfl⟩
  cases hs : serB x with
  | true =>
    go_wp2_with fail
    refine (one_any w.heap.size 6 2 z _ HC.out (by omega) (by omega) (by omega)).mono ?_
    rintro e w2 ⟨b, rfl, hc2, hg2⟩
    have HC2 := Lib.hid hc2
    have HB2 := Lib.hid (HB.out.trans (gbelow hg2 HB.out.size (Nat.le_refl _)))
    clear hc2 hg2
    cases b with
    | true =>
      obtain ⟨s0, s1⟩ := serB_bd hs
      go_wp2_with fail
      refine (among_any w.heap.size 8 z _ gapL _ (HC2.out.grown (World.grownBy_alloc _ _ none)) (by omega) (by decide) (by decide) (fun w' hg => row_fresh (xs := gapL.map (Value.int .i64)) (n := gapL.length) (List.length_map _).symm (by decide) HC2.out.lt hg)).mono ?_
      rintro e w3 ⟨n, hn, rfl, hc3, hg3⟩
      obtain ⟨n0, n1⟩ := gapL_bd n hn
      have HG3 := Lib.hid hg3
      clear hn hc3 hg3
      go_wp2_with fail
      refine (l2After_any x n _ s0 s1 (by omega) (by omega)).mono ?_
      rintro e w4 ⟨rfl, rfl⟩
      obtain ⟨y0, y1⟩ := aftI_bd x n
      go_wp2_with fail
      go_ret2
      exact ⟨x, _, x0, x1, by omega, by omega, rfl, (HB2.out.alloc HB2.out.size _).trans (gbelow HG3.out (by have := HB2.out.size; simp; omega) (Nat.le_refl _))⟩
    | false =>
      go_wp2_with fail
      refine (anySerial_any w.heap.size 8 z _ HC2.out (by omega)).mono ?_
      rintro e w3 ⟨y, y0, y1, rfl, hc3, hg3⟩
      have HB3 := Lib.hid (HB2.out.trans (gbelow hg3 HB2.out.size (Nat.le_refl _)))
      clear hc3 hg3
      go_wp2_with fail
      go_ret2
      exact ⟨x, y, x0, x1, y0, y1, rfl, HB3.out⟩
  | false =>
    go_wp2_with fail
    refine (anySerial_any w.heap.size 6 z _ HC.out (by omega)).mono ?_
    rintro e w3 ⟨y, y0, y1, rfl, hc3, hg3⟩
    have HB3 := Lib.hid (HB.out.trans (gbelow hg3 HB.out.size (Nat.le_refl _)))
    clear hc3 hg3
    go_wp2_with fail
    go_ret2
    exact ⟨x, y, x0, x1, y0, y1, rfl, HB3.out⟩
theorem drawBefore_any (v : Value) (z : List Int) (w : World) (hrow : Row w v z.length (z.map (Value.int .u8))) (hz : ∀ x ∈ z, 0 ≤ x ∧ x < 256) :
    Calls Try.prog 20 #[v] w fun e w' => ∃ x n : Int, -1 ≤ x ∧ x ≤ 65536 ∧ -1 ≤ n ∧ n ≤ 65536 ∧ e = .returned (.tuple #[.int .i64 x, .int .i64 n]) ∧ Below w.heap.size w w' := by
  have HD := Lib.hid (drawGap_any v z w hrow hz)
  obtain ⟨a0, cap0, rfl, _, _, _⟩ := row_open hrow
  clear hrow hz
  go_enter Try.func20, Try.ntmps20
  go_wp2_with fail
  refine HD.out.mono ?_
  rintro e w1 ⟨x, n, x0, x1, n0, n1, rfl, hb⟩
  go_wp2_with fail
  go_ret2
  exact ⟨x, n, x0, x1, n0, n1, rfl, hb⟩
def inL : List Int := [0, 1, 3, 8, 65536, 65537, -1]
theorem inL_bd : ∀ x ∈ inL, -1 ≤ x ∧ x ≤ 65537 := by
  intro x hx
  simp only [inL, List.mem_cons, List.not_mem_nil, or_false] at hx
  omega
set_option maxHeartbeats 400000 in
theorem drawInSpan_any (v : Value) (z : List Int) (w : World) (hrow : Row w v z.length (z.map (Value.int .u8))) (hz : ∀ x ∈ z, 0 ≤ x ∧ x < 256) :
    Calls Try.prog 25 #[v] w fun e w' => ∃ x a n : Int, e = .returned (.tuple #[.int .i64 x, .int .i64 a, .int .i64 n]) ∧ Below w.heap.size w w' := by
  have HC0 := Lib.hid (cu_new w v z hrow hz)
  obtain ⟨a0, cap0, rfl, _, _, _⟩ := row_open hrow
  clear hrow hz
  go_enter Try.func25, Try.ntmps25
  go_wp2_with fail
  refine (anySerial_any w.heap.size 0 z _ HC0.out (by omega)).mono ?_
  rintro e w1 ⟨a, a0, a1, rfl, hc, hg⟩
  have HC := Lib.hid hc
  have HB := Lib.hid (((Below.refl _ _).alloc (Nat.le_refl _) _).trans (gbelow hg (by simp) (Nat.le_refl _)))
  clear hc hg
  go_wp2_with fail
  refine (anySerial_any w.heap.size 6 z _ HC.out (by omega)).mono ?_
  rintro e w2 ⟨x, x0, x1, rfl, hc2, hg2⟩
  have HC2 := Lib.hid hc2
  have HB2 := Lib.hid (HB.out.trans (gbelow hg2 HB.out.size (Nat.le_refl _)))
  clear hc2 hg2
  go_wp2_with fail
  refine (l2Good_any _ _).mono ?_
  rintro e w3 ⟨rfl, rfl⟩
  cases hs : serB a with
  | true =>
    go_wp2_with fail
    refine (one_any w.heap.size 12 2 z _ HC2.out (by omega) (by omega) (by omega)).mono ?_
    rintro e w3 ⟨b, rfl, hc3, hg3⟩
    have HC3 := Lib.hid hc3
    have HB3 := Lib.hid (HB2.out.trans (gbelow hg3 HB2.out.size (Nat.le_refl _)))
    clear hc3 hg3
    cases b with
    | true =>
      obtain ⟨s0, s1⟩ := serB_bd hs
      go_wp2_with fail
      refine (near_any w.heap.size 14 z a _ HC3.out (by omega) s0 s1).mono ?_
      rintro e w4 ⟨y, y0, y1, rfl, hc4, hg4⟩
      have HC4 := Lib.hid hc4
      have HB4 := Lib.hid (HB3.out.trans (gbelow hg4 HB3.out.size (Nat.le_refl _)))
      clear hc4 hg4
      go_wp2_with fail
      refine (among_any w.heap.size 16 z _ inL _ (HC4.out.grown (World.grownBy_alloc _ _ none)) (by omega) (by decide) (by decide) (fun w' hg => row_fresh (xs := inL.map (Value.int .i64)) (n := inL.length) (List.length_map _).symm (by decide) HC4.out.lt hg)).mono ?_
      rintro e w5 ⟨n, hn, rfl, hc5, hg5⟩
      have HG5 := Lib.hid hg5
      clear hn hc5 hg5
      go_wp2_with fail
      go_ret3
      exact ⟨y, a, n, rfl, (HB4.out.alloc HB4.out.size _).trans (gbelow HG5.out (by have := HB4.out.size; simp; omega) (Nat.le_refl _))⟩
    | false =>
      go_wp2_with fail
      refine (among_any w.heap.size 14 z _ inL _ (HC3.out.grown (World.grownBy_alloc _ _ none)) (by omega) (by decide) (by decide) (fun w' hg => row_fresh (xs := inL.map (Value.int .i64)) (n := inL.length) (List.length_map _).symm (by decide) HC3.out.lt hg)).mono ?_
      rintro e w5 ⟨n, hn, rfl, hc5, hg5⟩
      have HG5 := Lib.hid hg5
      clear hn hc5 hg5
      go_wp2_with fail
      go_ret3
      exact ⟨x, a, n, rfl, (HB3.out.alloc HB3.out.size _).trans (gbelow HG5.out (by have := HB3.out.size; simp; omega) (Nat.le_refl _))⟩
  | false =>
    go_wp2_with fail
    refine (among_any w.heap.size 12 z _ inL _ (HC2.out.grown (World.grownBy_alloc _ _ none)) (by omega) (by decide) (by decide) (fun w' hg => row_fresh (xs := inL.map (Value.int .i64)) (n := inL.length) (List.length_map _).symm (by decide) HC2.out.lt hg)).mono ?_
    rintro e w5 ⟨n, hn, rfl, hc5, hg5⟩
    have HG5 := Lib.hid hg5
    clear hn hc5 hg5
    go_wp2_with fail
    go_ret3
    exact ⟨x, a, n, rfl, (HB2.out.alloc HB2.out.size _).trans (gbelow HG5.out (by have := HB2.out.size; simp; omega) (Nat.le_refl _))⟩
end Go.Proofs.Ytfdpjgjclbnnfaa
