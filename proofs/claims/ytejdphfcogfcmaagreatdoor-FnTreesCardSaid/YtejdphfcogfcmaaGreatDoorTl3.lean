/-
  The draws of chapter 6: a node of a tree.
-/
import Derived.Test.YtejdphfcogfcmaaGreatDoorTl1
import Derived.Test.YtejdphfcogfcmaaGreatDoorTreeS
namespace Go.Proofs.YtejdphfcogfcmaaGreatDoor
open Go.RowKit
set_option linter.unusedVariables false

theorem gdrew6 (w : World) (row : Option Nat) : w.grownBy w.drew row := ⟨rfl, rfl, rfl, Nat.le_refl _, fun _ _ _ => rfl⟩
theorem pick0_any (B m : Nat) (z : List Int) (w : World) (h : Cu w B z m) :
    Calls Tryz.prog 46 #[.pointer (some ⟨B, 0, none⟩), .int .i64 0] w fun e w' => ∃ b : Nat, b = 0 ∧ e = .returned (.int .i64 b) ∧ Cu w' B z (m + 2) ∧ w.grownBy w' (some B) := by
  go_enter Tryz.func46, Tryz.ntmps46
  go_wp2_with fail
  go_ret
  exact ⟨0, rfl, rfl, h.mono (by omega), g_refl _ _⟩
/-- A number below x, or 0. -/
theorem pickZ_any (B m : Nat) (x : Int) (z : List Int) (w : World) (h : Cu w B z m) (hm : m ≤ 900000) (h0 : 0 ≤ x) (hx : x ≤ 65536) :
    Calls Tryz.prog 46 #[.pointer (some ⟨B, 0, none⟩), .int .i64 x] w fun e w' => ∃ b : Nat, ((b : Int) < x ∨ b = 0) ∧ e = .returned (.int .i64 b) ∧ Cu w' B z (m + 2) ∧ w.grownBy w' (some B) := by
  obtain ⟨n, rfl⟩ : ∃ n : Nat, x = n := ⟨x.toNat, by omega⟩
  by_cases hn : n = 0
  · subst hn
    exact (pick0_any B m z w h).mono (fun e w' ⟨b, hb, he, hc, hg⟩ => ⟨b, .inr hb, he, hc, hg⟩)
  · exact (pick_any B m n z w h hm (by omega) (by omega)).mono (fun e w' ⟨b, hb, he, hc, hg⟩ => ⟨b, .inl (by omega), he, hc, hg⟩)

def nodL (n : Nat) : List Int := [-1, 8, 0, n]
theorem nodL_bd {n : Nat} (hn : n ≤ 9) : ∀ x ∈ nodL n, -1 ≤ x ∧ x ≤ 9 := by
  intro x hx
  simp only [nodL, List.mem_cons, List.not_mem_nil, or_false] at hx
  omega
set_option maxHeartbeats 1000000 in
theorem nodeIn_any (B m n cap : Nat) (a : Option Addr) (z : List Int) (w : World) (h : Cu w B z m) (hm : m ≤ 800000) (hn : n ≤ 9) :
    Calls Tryz.prog 49 #[.pointer (some ⟨B, 0, none⟩), .agg #[.slice a n cap]] w fun e w' => ∃ x : Int, -1 ≤ x ∧ x ≤ 9 ∧ e = .returned (.int .i64 x) ∧ Cu w' B z (m + 6) ∧ w.grownBy w' (some B) := by
  obtain ⟨W, hW⟩ : ∃ W, W = w.alloc (.cells #[.slice a n cap] 26) := ⟨_, rfl⟩
  have HX : Hid (Bx W w.heap.size (.slice a n cap) 26) := Lib.hid (by rw [hW]; exact Bx.new _ _ _)
  have HG : Hid (w.grownBy W (some B)) := Lib.hid (by rw [hW]; exact World.grownBy_alloc _ _ _)
  have HC : Hid (Cu W B z m) := Lib.hid (by rw [hW]; exact h.grown (World.grownBy_alloc _ _ none))
  have HW := Lib.hid hW
  have hBl : B < w.heap.size := h.lt
  obtain ⟨R, hR⟩ : ∃ R, R = w.heap.size := ⟨_, rfl⟩
  rw [← hR] at HX hBl
  have HR := Lib.hid hR
  clear h hW hR
  go_enter Tryz.func49, Tryz.ntmps49
  go_upto_region 1 with fail
  rw [← HW.out, ← HR.out]
  go_wp2_with fail
  refine (one_any B m 16 z _ HC.out (by omega) (by omega) (by omega)).mono ?_
  rintro e w1 ⟨b, rfl, hc, hg⟩
  have hx := (HX.out.grown hg (by intro e; have e2 : R = B := Option.some.inj e; omega)).cell
  have HX1 := Lib.hid (HX.out.grown hg (by intro e; have e2 : R = B := Option.some.inj e; omega))
  have HC1 := Lib.hid hc
  have HG1 := Lib.hid (g_trans HG.out hg)
  clear hc hg HC HG HW HR
  cases b with
  | true =>
    go_wp2_with fail
    refine (among_any B (m + 2) z _ (nodL n) _ (HC1.out.grown (World.grownBy_alloc _ _ none)) (by omega) (by simp [nodL]) (by simp [nodL]) (fun w' hg => row_fresh (xs := (nodL n).map (Value.int .i64)) (n := (nodL n).length) (List.length_map _).symm (by simp [nodL, maxLen]) HC1.out.lt hg)).mono ?_
    rintro e w2 ⟨x, hx, rfl, hc2, hg2⟩
    obtain ⟨x0, x1⟩ := nodL_bd hn x hx
    have HC2 := Lib.hid hc2
    have HG2 := Lib.hid (g_trans HG1.out (g_trans (World.grownBy_alloc _ _ _) hg2))
    clear hx hc2 hg2
    go_wp2_with fail
    go_ret
    exact ⟨x, x0, x1, rfl, HC2.out.mono (by omega), HG2.out⟩
  | false =>
    go_upto_region 3 with fail
    have tokA : True := trivial
    go_region_held3 (fun w' => w'.cell? ⟨R, 0, none⟩ = some (.slice a n cap))
      ((first | (with_reducible exact hx) | exact hx | exact hx2 | exact hx3))
      (first
        | (have _t := tokA; go_at_call 46; refine (pick_any B (m + 2) 9 z _ (HC1.out.grown (gdrew6 _ _)) (by omega) (by omega) (by omega)).mono ?_; rintro e w2 ⟨b, hb, rfl, hc, hg⟩; have HX2 := Lib.hid (HX1.out.grown (g_trans (gdrew6 _ _) hg) (by intro e; have e2 : R = B := Option.some.inj e; omega)); have hx2 := HX2.out.cell; have HC2 := Lib.hid hc; have HG2 := Lib.hid (g_trans HG1.out (g_trans (gdrew6 _ _) hg)); clear hc hg _t tokA; dsimp only)
        | (go_at_call 46; have hv : IntKind.i64.wrap (IntKind.i64.wrap ((n : Int) + 1) - IntKind.i64.wrap ((b : Int) / 8)) = (n : Int) + 1 - (b : Int) / 8 := (by rw [IntWalk.i64_in ((n : Int) + 1) (by omega), IntWalk.i64_in ((b : Int) / 8) (by omega), IntWalk.i64_in _ (by omega)]); rw [hv]; refine (pickZ_any B (m + 4) _ z _ HC2.out (by omega) (by omega) (by omega)).mono ?_; rintro e w3 ⟨y, hy, rfl, hc, hg⟩; have hx3 := (HX2.out.grown hg (by intro e; have e2 : R = B := Option.some.inj e; omega)).cell; have HC3 := Lib.hid hc; have HG3 := Lib.hid (g_trans HG2.out hg); clear hc hg hv; dsimp only))
    all_goals go_wp2_with fail
    all_goals
      go_ret
      exact ⟨(y : Int), by omega, by omega, rfl, HC3.out.mono (by omega), HG3.out⟩
end Go.Proofs.YtejdphfcogfcmaaGreatDoor
