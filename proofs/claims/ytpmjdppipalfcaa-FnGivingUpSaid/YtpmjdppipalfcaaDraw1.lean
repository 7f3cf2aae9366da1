/-
  The draws of chapter 1 that pick texts.
-/
import Derived.Test.YtpmjdppipalfcaaPick
namespace Go.Proofs.Ytpmjdppipalfcaa
open Go.RowKit

theorem Cu.grown' {w w' : World} {B m : Nat} {z : List Int} {row : Option Nat} (h : Cu w B z m) (hg : w.grownBy w' row) (hr : ∀ k, row = some k → B < k) : Cu w' B z m := by
  obtain ⟨⟨v, t, s, h1, h2, h3, h4, h5⟩, h6⟩ := h
  refine ⟨⟨v, t, s, h1.grown hg (fun e => by have := hr B e.symm; omega), h2, h3, ?_, h5⟩, h6⟩
  obtain ⟨a, cap, rfl, r1, r2, r3⟩ := h4
  refine ⟨a, cap, rfl, r1, r2, fun hx => ?_⟩
  obtain ⟨b, off, rfl, hlt, hc⟩ := r3 hx
  refine ⟨b, off, rfl, Nat.lt_of_lt_of_le hlt hg.size, fun i hi => hg.cell (hc i hi) (fun e => ?_)⟩
  have hpos : 0 < z.length := by
    rw [List.length_map] at hi
    omega
  have h8 : b < B := h5 _ _ rfl hpos
  have := hr b e.symm
  omega
theorem Cu.grown {w w' : World} {B m : Nat} {z : List Int} (h : Cu w B z m) (hg : w.grownBy w' none) : Cu w' B z m := h.grown' hg (by simp)

theorem Cu.lt {w : World} {B m : Nat} {z : List Int} (h : Cu w B z m) : B < w.heap.size := by
  obtain ⟨⟨v, t, s, h1, _⟩, _⟩ := h
  exact h1.lt

/-- A row in a new block outlives whatever is written into an older one. -/
theorem row_fresh {w w' : World} {B n : Nat} {xs : List Value} {t : TypeId} (hn : n = xs.length) (hm : n ≤ maxLen) (hB : B < w.heap.size) (hg : (w.alloc (.cells xs.toArray t)).grownBy w' (some B)) :
    Row w' (.slice (some ⟨w.heap.size, 0, none⟩) n n) n xs := by
  obtain ⟨a, cap, e, r1, r2, r3⟩ := row_made w xs t n hn hm
  refine ⟨a, cap, e, r1, r2, fun hx => ?_⟩
  obtain ⟨b, off, rfl, hlt, hc⟩ := r3 hx
  injection e with e1 e2 e3
  injection e1 with e1
  have eb : w.heap.size = b := congrArg Addr.block e1
  exact ⟨b, off, rfl, Nat.lt_of_lt_of_le hlt hg.size, fun i hi => hg.cell (hc i hi) (by intro e4; have e5 : b = B := Option.some.inj e4; omega)⟩

/-- The cursor that a draw begins with. -/
theorem cu_new (w : World) (v : Value) (z : List Int) (hrow : Row w v z.length (z.map (Value.int .u8))) (hz : ∀ x ∈ z, 0 ≤ x ∧ x < 256) :
    Cu (w.alloc (.cells #[v, .int .i64 0, .int .u64 0] 83)) w.heap.size z 0 := by
  have hg := World.grownBy_alloc w (.cells #[v, .int .i64 0, .int .u64 0] 83) none
  obtain ⟨a, cap, rfl, r1, r2, r3⟩ := hrow
  refine ⟨⟨_, 0, 0, heap_alloc_new w _, Nat.le_refl _, by decide, ⟨a, cap, rfl, r1, r2, fun hx => ?_⟩, ?_⟩, hz⟩
  · obtain ⟨b, off, rfl, hlt, hc⟩ := r3 hx
    exact ⟨b, off, rfl, Nat.lt_of_lt_of_le hlt hg.size, fun i hi => hg.cell (hc i hi) (by simp)⟩
  · intro a' c' e hpos
    injection e with e1 _ _
    obtain ⟨b, off, rfl, hlt, _⟩ := r3 (by intro e; have := congrArg List.length e; simp at this; rw [this] at hpos; simp at hpos)
    injection e1 with e1
    subst e1
    exact hlt

/-- The texts of 'any1'. -/
def anyL : List ByteArray := [⟨#[]⟩, ⟨#[97]⟩, ⟨#[97, 44, 98]⟩, ⟨#[115, 111, 109, 101, 32, 119, 111, 114, 100, 115]⟩, ⟨#[120, 35, 121]⟩, ⟨#[45, 49, 50]⟩, ⟨#[0, 255]⟩, ⟨#[44, 44]⟩, ⟨#[48]⟩]
theorem anyL_size : ∀ x ∈ anyL, x.size ≤ 10 := by
  intro x hx
  simp only [anyL, List.mem_cons, List.not_mem_nil, or_false] at hx
  rcases hx with rfl | rfl | rfl | rfl | rfl | rfl | rfl | rfl | rfl <;> decide


end Go.Proofs.Ytpmjdppipalfcaa
