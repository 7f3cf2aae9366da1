/-
  What the laws of chapter 5 draw.
-/
import Derived.Test.YtneimcacpbepfaaDrawRng2
namespace Go.Proofs.Ytneimcacpbepfaa
open Go.RowKit Go.Lib Go.Joins
set_option linter.unusedVariables false

theorem gbelow5 {w w' : World} {B0 B : Nat} (h : w.grownBy w' (some B)) (hB : B0 ≤ w.heap.size) (hr : B0 ≤ B) : Below B0 w w' := (Below.refl B0 w).grown h hB (fun k e => by cases e; exact hr)
/-- A set that has been drawn, as the law gets it. -/
def Set5 (w w' : World) (g c : Nat) (zs : List Rg) : Prop := zs.length ≤ 11 ∧ w'.ownsRow w.heap.size 58 2 (.slice (some ⟨g, 0, none⟩) zs.length c) zs.length (rgF zs)
theorem drr_out {w w1 : World} {m g c : Nat} {z : List Int} {zs : List Rg} {o : Obj} (h : DrR (w.alloc o) w1 w.heap.size z m g c zs) (hl : zs.length ≤ 11) : Set5 w w1 g c zs ∧ Below w.heap.size w w1 :=
  ⟨⟨hl, ownz_base h.own (by simp)⟩, ((Below.refl _ _).alloc (Nat.le_refl _) _).trans (gbelow5 h.gr (by simp) (Nat.le_refl _))⟩
theorem DrR.rows {w0 w : World} {B m g c : Nat} {z : List Int} {zs : List Rg} (h : DrR w0 w B z m g c zs) : ∀ w', w.grownBy w' (some B) → Row w' (.slice (some ⟨g, 0, none⟩) zs.length c) zs.length (rgF zs) := fun w' hg => rowz_own (ownz_cur h.own hg h.lt)
set_option maxHeartbeats 1000000 in
theorem drawHas5_any (v : Value) (z : List Int) (w : World) (hrow : Row w v z.length (z.map (Value.int .u8))) (hz : ∀ x ∈ z, 0 ≤ x ∧ x < 256) :
    Calls Try.prog 26 #[v] w fun e w' => ∃ (g c : Nat) (zs : List Rg) (x : Int), e = .returned (.tuple #[.slice (some ⟨g, 0, none⟩) zs.length c, .int .i64 x]) ∧ -2 ≤ x ∧ x ≤ 65536 ∧ Set5 w w' g c zs ∧ Below w.heap.size w w' := by
  have HC0 := Lib.hid (cu_new w v z hrow hz)
  obtain ⟨a0, cap0, rfl, _, _, _⟩ := row_open hrow
  clear hrow hz
  go_enter Try.func26, Try.ntmps26
  go_wp2_with fail
  refine (rangeSet_any w.heap.size 0 z _ HC0.out (by omega)).mono ?_
  rintro e w1 ⟨g, c, zs, rfl, hl, hd⟩
  have HD := Lib.hid hd
  clear hd HC0
  go_wp2_with fail
  refine (number5_any w.heap.size (0 + 200) z _ zs _ HD.out.cu (by omega) hl HD.out.rows HD.out.bd).mono ?_
  rintro e w2 ⟨x, x0, x1, rfl, hc, hg⟩
  have HD2 := Lib.hid (HD.out.cur hc hg)
  clear hc hg HD
  go_wp2_with fail
  go_ret2
  obtain ⟨h1, h2⟩ := drr_out HD2.out hl
  exact ⟨g, c, zs, x, rfl, x0, x1, h1, h2⟩
theorem drawNext5_any (v : Value) (z : List Int) (w : World) (hrow : Row w v z.length (z.map (Value.int .u8))) (hz : ∀ x ∈ z, 0 ≤ x ∧ x < 256) :
    Calls Try.prog 24 #[v] w fun e w' => ∃ (g c : Nat) (zs : List Rg) (x : Int), e = .returned (.tuple #[.slice (some ⟨g, 0, none⟩) zs.length c, .int .i64 x]) ∧ -2 ≤ x ∧ x ≤ 65536 ∧ Set5 w w' g c zs ∧ Below w.heap.size w w' := by
  have HD := Lib.hid (drawHas5_any v z w hrow hz)
  obtain ⟨a0, cap0, rfl, _, _, _⟩ := row_open hrow
  clear hrow hz
  go_enter Try.func24, Try.ntmps24
  go_wp2_with fail
  refine HD.out.mono ?_
  rintro e w1 ⟨g, c, zs, x, rfl, x0, x1, hs, hb⟩
  have HS := Lib.hid hs
  have HB := Lib.hid hb
  clear hs hb HD
  go_wp2_with fail
  go_ret2
  exact ⟨g, c, zs, x, rfl, x0, x1, HS.out, HB.out⟩
def farL5 : List Int := [0, 1, 5, 30]
theorem farL5_bd : ∀ x ∈ farL5, 0 ≤ x ∧ x ≤ 30 := by
  intro x hx
  simp only [farL5, List.mem_cons, List.not_mem_nil, or_false] at hx
  omega
set_option maxHeartbeats 1000000 in
theorem drawAdd5_any (v : Value) (z : List Int) (w : World) (hrow : Row w v z.length (z.map (Value.int .u8))) (hz : ∀ x ∈ z, 0 ≤ x ∧ x < 256) :
    Calls Try.prog 14 #[v] w fun e w' => ∃ (g c : Nat) (zs : List Rg) (f t : Int), e = .returned (.tuple #[.slice (some ⟨g, 0, none⟩) zs.length c, .int .i64 f, .int .i64 t]) ∧ -2 ≤ f ∧ f ≤ 65536 ∧ -2 ≤ t ∧ t ≤ 65536 ∧ Set5 w w' g c zs ∧ Below w.heap.size w w' := by
  have HC0 := Lib.hid (cu_new w v z hrow hz)
  obtain ⟨a0, cap0, rfl, _, _, _⟩ := row_open hrow
  clear hrow hz
  go_enter Try.func14, Try.ntmps14
  go_wp2_with fail
  refine (rangeSet_any w.heap.size 0 z _ HC0.out (by omega)).mono ?_
  rintro e w1 ⟨g, c, zs, rfl, hl, hd⟩
  have HD := Lib.hid hd
  clear hd HC0
  go_wp2_with fail
  refine (number5_any w.heap.size (0 + 200) z _ zs _ HD.out.cu (by omega) hl HD.out.rows HD.out.bd).mono ?_
  rintro e w2 ⟨x, x0, x1, rfl, hc, hg⟩
  have HD2 := Lib.hid (HD.out.cur hc hg)
  clear hc hg HD
  go_wp2_with fail
  refine (one_any w.heap.size (0 + 200 + 8) 4 z _ HD2.out.cu (by omega) (by omega) (by omega)).mono ?_
  rintro e w3 ⟨b, rfl, hc, hg⟩
  have HD3 := Lib.hid (HD2.out.cur hc hg)
  clear hc hg HD2
  cases b with
  | true =>
    go_wp2_with fail
    refine (number5_any w.heap.size (0 + 200 + 8 + 2) z _ zs _ HD3.out.cu (by omega) hl HD3.out.rows HD3.out.bd).mono ?_
    rintro e w4 ⟨y, y0, y1, rfl, hc, hg⟩
    have HD4 := Lib.hid (HD3.out.cur hc hg)
    clear hc hg HD3
    go_wp2_with fail
    go_ret3
    obtain ⟨h1, h2⟩ := drr_out HD4.out hl
    exact ⟨g, c, zs, x, y, rfl, x0, x1, y0, y1, h1, h2⟩
  | false =>
    go_wp2_with fail
    refine (among_any w.heap.size (0 + 200 + 8 + 2) z _ farL5 _ (HD3.out.alloc (.cells (farL5.map (Value.int .i64)).toArray 3)).cu (by omega) (by decide) (by decide) (row_lit4 _ (farL5.map (Value.int .i64)) 3 4 _ (by first | rfl | simp) rfl (by decide) HD3.out.cu.lt)).mono ?_
    rintro e w4 ⟨d, hd, rfl, hc, hg⟩
    obtain ⟨d0, d1⟩ := farL5_bd d hd
    have HD4 := Lib.hid ((HD3.out.alloc (.cells (farL5.map (Value.int .i64)).toArray 3)).cur hc hg)
    clear hd hc hg HD3
    go_wp2_with fail
    refine (l1Least_any (x + d) 65535 _).mono ?_
    rintro e _ ⟨rfl, rfl⟩
    go_wp2_with fail
    go_ret3
    obtain ⟨h1, h2⟩ := drr_out HD4.out hl
    exact ⟨g, c, zs, x, min (x + d) 65535, rfl, x0, x1, by omega, by omega, h1, h2⟩
end Go.Proofs.Ytneimcacpbepfaa
