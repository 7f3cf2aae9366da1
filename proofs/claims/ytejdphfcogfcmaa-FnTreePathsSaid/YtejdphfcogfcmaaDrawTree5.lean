/-
  The draws of chapter 6 that hand on another's.
-/
import Derived.Test.YtejdphfcogfcmaaDrawTree4
namespace Go.Proofs.Ytejdphfcogfcmaa
open Go.RowKit
set_option linter.unusedVariables false

theorem hand_on {w w1 : World} {g c n : Nat} {p : List Int} (hp : n = p.length) (ho : w1.ownsRow (w.alloc (.cells #[.slice none 0 0] 26)).heap.size 3 1 (.slice (some ⟨g, 0, none⟩) n c) n (p.map (Value.int .i64)))
    (hb : Below (w.alloc (.cells #[.slice none 0 0] 26)).heap.size (w.alloc (.cells #[.slice none 0 0] 26)) w1) (u : Value) : w1.cell? ⟨w.heap.size, 0, none⟩ = some (.slice none 0 0) ∧ w1.frozen? ⟨w.heap.size, 0, none⟩ = false ∧ Bx (w1.setCell ⟨w.heap.size, 0, none⟩ u) w.heap.size u 26 ∧
    (w1.setCell ⟨w.heap.size, 0, none⟩ u).ownsRow w.heap.size 3 1 (.slice (some ⟨g, 0, none⟩) n c) n (p.map (Value.int .i64)) ∧ Below w.heap.size w (w1.setCell ⟨w.heap.size, 0, none⟩ u) := by
  have hx := (Bx.new w (.slice none 0 0) 26).below hb (by rw [World.size_alloc]; omega)
  have hl := (ho.lt g rfl).1
  rw [World.size_alloc] at hl
  obtain ⟨p1, q1⟩ := hx.put u
  have hb2 : Below w.heap.size w w1 := ((Below.refl w.heap.size w).alloc (Nat.le_refl _) _).trans (hb.mono (by rw [World.size_alloc]; omega))
  exact ⟨hx.cell, hx.free, p1, own_base (ho.kept q1 (.inr (some_ne (show g ≠ w.heap.size by omega)))) (by rw [World.size_alloc]; omega), hb2.grown q1 hb2.size (fun k hk => by have e2 : w.heap.size = k := Option.some.inj hk; omega)⟩
set_option maxRecDepth 100000 in
set_option maxHeartbeats 1000000 in
theorem drawTrP_any (v : Value) (z : List Int) (w : World) (hrow : Row w v z.length (z.map (Value.int .u8))) (hz : ∀ x ∈ z, 0 ≤ x ∧ x < 256) :
    Calls Try.prog 13 #[v] w fun e w' => ∃ (g c : Nat) (p : List Int) (x : Int), e = .returned (.tuple #[.agg #[.slice (some ⟨g, 0, none⟩) p.length c], .int .i64 x]) ∧ p.length ≤ 9 ∧ -1 ≤ x ∧ x ≤ 9 ∧ (∀ x ∈ p, -1 ≤ x ∧ x ≤ 65536) ∧
      w'.ownsRow w.heap.size 3 1 (.slice (some ⟨g, 0, none⟩) p.length c) p.length (p.map (Value.int .i64)) ∧ Below w.heap.size w w' := by
  have HC := Lib.hid (drawTrN_any v z (w.alloc (.cells #[.slice none 0 0] 26)) (hrow.below ((Below.refl _ _).alloc (Nat.le_refl _) _) (Nat.le_refl _)) hz)
  obtain ⟨a0, cap0, rfl, _, _, _⟩ := row_open hrow
  clear hrow hz
  go_enter Try.func13, Try.ntmps13
  go_wp2_with fail
  refine HC.out.mono ?_
  rintro e w1 ⟨g, c, p, x, rfl, hl, x0, x1, hbd, ho, hb⟩
  obtain ⟨n, hn⟩ : ∃ n, n = p.length := ⟨_, rfl⟩
  have HN := Lib.hid hn
  obtain ⟨hy, fy, p1, q1, q2⟩ := hand_on rfl ho hb (.slice (some ⟨g, 0, none⟩) p.length c)
  clear ho hb hn HC
  go_wp2_with fail
  exact bodyPost_ret (results_tr4 rfl _ _ w.heap.size rfl rfl p1) rfl ⟨g, c, p, x, rfl, hl, x0, x1, hbd, q1, q2⟩
set_option maxRecDepth 100000 in
set_option maxHeartbeats 1000000 in
theorem drawTrF_any (v : Value) (z : List Int) (w : World) (hrow : Row w v z.length (z.map (Value.int .u8))) (hz : ∀ x ∈ z, 0 ≤ x ∧ x < 256) :
    Calls Try.prog 24 #[v] w fun e w' => ∃ (g c : Nat) (p : List Int) (x y : Int), e = .returned (.tuple #[.agg #[.slice (some ⟨g, 0, none⟩) p.length c], .int .i64 x, .int .i64 y]) ∧ p.length ≤ 9 ∧ -1 ≤ x ∧ x ≤ 9 ∧ -1 ≤ y ∧ y ≤ 9 ∧ (∀ x ∈ p, -1 ≤ x ∧ x ≤ 65536) ∧
      w'.ownsRow w.heap.size 3 1 (.slice (some ⟨g, 0, none⟩) p.length c) p.length (p.map (Value.int .i64)) ∧ Below w.heap.size w w' := by
  have HC := Lib.hid (drawTrNN_any v z (w.alloc (.cells #[.slice none 0 0] 26)) (hrow.below ((Below.refl _ _).alloc (Nat.le_refl _) _) (Nat.le_refl _)) hz)
  obtain ⟨a0, cap0, rfl, _, _, _⟩ := row_open hrow
  clear hrow hz
  go_enter Try.func24, Try.ntmps24
  go_wp2_with fail
  refine HC.out.mono ?_
  rintro e w1 ⟨g, c, p, x, y, rfl, hl, x0, x1, y0, y1, hbd, ho, hb⟩
  obtain ⟨n, hn⟩ : ∃ n, n = p.length := ⟨_, rfl⟩
  have HN := Lib.hid hn
  obtain ⟨hy, fy, p1, q1, q2⟩ := hand_on rfl ho hb (.slice (some ⟨g, 0, none⟩) p.length c)
  clear ho hb hn HC
  go_wp2_with fail
  exact bodyPost_ret (results_tr5 rfl _ _ w.heap.size rfl rfl rfl p1) rfl ⟨g, c, p, x, y, rfl, hl, x0, x1, y0, y1, hbd, q1, q2⟩
end Go.Proofs.Ytejdphfcogfcmaa
