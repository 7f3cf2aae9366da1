/-
  The draws of chapter 1 that pick texts.
-/
import Derived.Test.YtjdlkkhkaobpnaaPick
namespace Go.Proofs.Ytjdlkkhkaobpnaa
open Go.RowKit

theorem Cu.grown' {w w' : World} {B m : Nat} {z : List Int} {row : Option Nat} (h : Cu w B z m) (hg : w.grownBy w' row) (hr : ∀ k, row = some k → B < k) : Cu w' B z m := by
  obtain ⟨⟨v, t, s, h1, h2, h3, h4, h5⟩, h6⟩ := h
  refine ⟨⟨v, t, s, h1.grown hg (fun e => by have := hr B e.symm; omega), h2, h3, ?_, h5⟩, h6⟩
  obtain ⟨a, cap, rfl, r1, r2, r3⟩ := h4
  refine ⟨a, cap, rfl, r1, r2, fun hx => ?_⟩
  obtain ⟨b, off, rfl, hlt, hc⟩ := r3 hx
  refine ⟨b, off, rfl, Nat.lt_of_lt_of_le hlt hg.size, fun i hi => hg.cell (hc i hi) (fun e => ?_)⟩
  have hpos : 0 < z.length := by
    rw [List.length_map] at hi
    omega
  have h8 : b < B := h5 _ _ rfl hpos
  have := hr b e.symm
  omega
theorem Cu.grown {w w' : World} {B m : Nat} {z : List Int} (h : Cu w B z m) (hg : w.grownBy w' none) : Cu w' B z m := h.grown' hg (by simp)

theorem Cu.lt {w : World} {B m : Nat} {z : List Int} (h : Cu w B z m) : B < w.heap.size := by
  obtain ⟨⟨v, t, s, h1, _⟩, _⟩ := h
  exact h1.lt

/-- A row in a new block outlives whatever is written into an older one. -/
theorem row_fresh {w w' : World} {B n : Nat} {xs : List Value} {t : TypeId} (hn : n = xs.length) (hm : n ≤ maxLen) (hB : B < w.heap.size) (hg : (w.alloc (.cells xs.toArray t)).grownBy w' (some B)) :
    Row w' (.slice (some ⟨w.heap.size, 0, none⟩) n n) n xs := by
  obtain ⟨a, cap, e, r1, r2, r3⟩ := row_made w xs t n hn hm
  refine ⟨a, cap, e, r1, r2, fun hx => ?_⟩
  obtain ⟨b, off, rfl, hlt, hc⟩ := r3 hx
  injection e with e1 e2 e3
  injection e1 with e1
  have eb : w.heap.size = b := congrArg Addr.block e1
  exact ⟨b, off, rfl, Nat.lt_of_lt_of_le hlt hg.size, fun i hi => hg.cell (hc i hi) (by intro e4; have e5 : b = B := Option.some.inj e4; omega)⟩

/-- The cursor that a draw begins with. -/
theorem cu_new (w : World) (v : Value) (z : List Int) (hrow : Row w v z.length (z.map (Value.int .u8))) (hz : ∀ x ∈ z, 0 ≤ x ∧ x < 256) :
    Cu (w.alloc (.cells #[v, .int .i64 0, .int .u64 0] 44)) w.heap.size z 0 := by
  have hg := World.grownBy_alloc w (.cells #[v, .int .i64 0, .int .u64 0] 44) none
  obtain ⟨a, cap, rfl, r1, r2, r3⟩ := hrow
  refine ⟨⟨_, 0, 0, heap_alloc_new w _, Nat.le_refl _, by decide, ⟨a, cap, rfl, r1, r2, fun hx => ?_⟩, ?_⟩, hz⟩
  · obtain ⟨b, off, rfl, hlt, hc⟩ := r3 hx
    exact ⟨b, off, rfl, Nat.lt_of_lt_of_le hlt hg.size, fun i hi => hg.cell (hc i hi) (by simp)⟩
  · intro a' c' e hpos
    injection e with e1 _ _
    obtain ⟨b, off, rfl, hlt, _⟩ := r3 (by intro e; have := congrArg List.length e; simp at this; rw [this] at hpos; simp at hpos)
    injection e1 with e1
    subst e1
    exact hlt

/-- The texts of 'any1'. -/
def anyL : List ByteArray := [⟨#[]⟩, ⟨#[97]⟩, ⟨#[97, 44, 98]⟩, ⟨#[115, 111, 109, 101, 32, 119, 111, 114, 100, 115]⟩, ⟨#[120, 35, 121]⟩, ⟨#[45, 49, 50]⟩, ⟨#[0, 255]⟩, ⟨#[44, 44]⟩, ⟨#[48]⟩]
theorem anyL_size : ∀ x ∈ anyL, x.size ≤ 10 := by
  intro x hx
  simp only [anyL, List.mem_cons, List.not_mem_nil, or_false] at hx
  rcases hx with rfl | rfl | rfl | rfl | rfl | rfl | rfl | rfl | rfl <;> decide

theorem any1_any (B m : Nat) (z : List Int) (w : World) (h : Cu w B z m) (hm : m ≤ 900000) :
    Calls Try.prog 25 #[.pointer (some ⟨B, 0, none⟩)] w fun e w' => ∃ x ∈ anyL, e = .returned (.string x) ∧ Cu w' B z (m + 2) ∧ w.grownBy w' (some B) := by
  have HH := Lib.hid h
  clear h
  go_enter Try.func25, Try.ntmps25
  go_wp2_with fail
  refine (of_any B m z _ anyL _ (HH.out.grown (World.grownBy_alloc _ _ none)) hm (by decide) (by decide) (fun w' hg => row_fresh (xs := anyL.map Value.string) (n := anyL.length) (List.length_map _).symm (by decide) HH.out.lt hg)).mono ?_
  rintro e w1 ⟨x, hx, rfl, hc, hg⟩
  have HX := Lib.hid hx
  have HC := Lib.hid hc
  have HG := Lib.hid hg
  clear hx hc hg
  go_wp2_with fail
  go_ret
  exact ⟨x, HX.out, rfl, HC.out, g_trans (World.grownBy_alloc _ _ _) HG.out⟩

def sepL : List ByteArray := [⟨#[44]⟩, ⟨#[44]⟩, ⟨#[32]⟩, ⟨#[]⟩, ⟨#[44, 44]⟩]
theorem sepL_size : ∀ x ∈ sepL, x.size ≤ 2 := by
  intro x hx
  simp only [sepL, List.mem_cons, List.not_mem_nil, or_false] at hx
  rcases hx with rfl | rfl | rfl | rfl | rfl <;> decide

theorem grown_below {w w' : World} {B0 B : Nat} (h : w.grownBy w' (some B)) (hB : B0 ≤ w.heap.size) (hr : B0 ≤ B) : Below B0 w w' := (Below.refl B0 w).grown h hB (fun k e => by cases e; exact hr)

theorem drawSplit_any (v : Value) (z : List Int) (w : World) (hrow : Row w v z.length (z.map (Value.int .u8))) (hz : ∀ x ∈ z, 0 ≤ x ∧ x < 256) :
    Calls Try.prog 9 #[v] w fun e w' => ∃ s sep, s.size ≤ 10 ∧ sep.size ≤ 2 ∧ e = .returned (.tuple #[.string s, .string sep]) ∧ Below w.heap.size w w' := by
  have HC0 := Lib.hid (cu_new w v z hrow hz)
  obtain ⟨a0, cap0, rfl, _, _, _⟩ := row_open hrow
  clear hrow hz
  go_enter Try.func9, Try.ntmps9
  go_wp2_with fail
  refine (any1_any w.heap.size 0 z _ HC0.out (by omega)).mono ?_
  rintro e w1 ⟨x, hx, rfl, hc, hg⟩
  have HX := Lib.hid (anyL_size x hx)
  have HC := Lib.hid hc
  have HG := Lib.hid hg
  clear hx hc hg
  go_wp2_with fail
  refine (of_any w.heap.size 2 z _ sepL _ (HC.out.grown (World.grownBy_alloc _ _ none)) (by omega) (by decide) (by decide) (fun w' hg => row_fresh (xs := sepL.map Value.string) (n := sepL.length) (List.length_map _).symm (by decide) HC.out.lt hg)).mono ?_
  rintro e w2 ⟨y, hy, rfl, hc2, hg2⟩
  have HY := Lib.hid (sepL_size y hy)
  have HG2 := Lib.hid hg2
  clear hy hc2 hg2
  go_wp2_with fail
  go_ret2
  have b1 : Below w.heap.size w w1 := ((Below.refl _ _).alloc (Nat.le_refl _) _).trans (grown_below HG.out (by simp) (Nat.le_refl _))
  exact ⟨x, y, HX.out, HY.out, rfl, (b1.alloc b1.size _).trans (grown_below HG2.out (by have := b1.size; simp; omega) (Nat.le_refl _))⟩

theorem drawLess_any (v : Value) (z : List Int) (w : World) (hrow : Row w v z.length (z.map (Value.int .u8))) (hz : ∀ x ∈ z, 0 ≤ x ∧ x < 256) :
    Calls Try.prog 14 #[v] w fun e w' => ∃ a b, e = .returned (.tuple #[.string a, .string b]) ∧ Below w.heap.size w w' := by
  have HC0 := Lib.hid (cu_new w v z hrow hz)
  obtain ⟨a0, cap0, rfl, _, _, _⟩ := row_open hrow
  clear hrow hz
  go_enter Try.func14, Try.ntmps14
  go_wp2_with fail
  refine (any1_any w.heap.size 0 z _ HC0.out (by omega)).mono ?_
  rintro e w1 ⟨x, hx, rfl, hc, hg⟩
  have HC := Lib.hid hc
  have HG := Lib.hid hg
  clear hx hc hg
  go_wp2_with fail
  refine (any1_any w.heap.size 2 z _ HC.out (by omega)).mono ?_
  rintro e w2 ⟨y, hy, rfl, hc2, hg2⟩
  have HG2 := Lib.hid hg2
  clear hy hc2 hg2
  go_wp2_with fail
  go_ret2
  have b1 : Below w.heap.size w w1 := ((Below.refl _ _).alloc (Nat.le_refl _) _).trans (grown_below HG.out (by simp) (Nat.le_refl _))
  exact ⟨x, y, rfl, b1.trans (grown_below HG2.out b1.size (Nat.le_refl _))⟩
end Go.Proofs.Ytjdlkkhkaobpnaa
