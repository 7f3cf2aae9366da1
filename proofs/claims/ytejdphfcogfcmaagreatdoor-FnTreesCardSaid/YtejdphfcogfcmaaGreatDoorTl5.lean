/-
  The draws of chapter 6: a tree that may be invalid.
-/
import Derived.Test.YtejdphfcogfcmaaGreatDoorTl4
namespace Go.Proofs.YtejdphfcogfcmaaGreatDoor
open Go.RowKit
set_option linter.unusedVariables false

theorem own_pre6 {w : World} {base n j : Nat} {e : TypeId} {xs : List Value} {g cap : Nat} (h : w.ownsRow base e 1 (.slice (some ⟨g, 0, none⟩) n cap) n xs) (hj : j ≤ n) : w.ownsRow base e 1 (.slice (some ⟨g, 0, none⟩) j cap) j (xs.take j) := by
  obtain ⟨hl, h | ⟨g', cap', cur, hv, hb, hg, hn, hm, hs, ht⟩⟩ := h
  · cases h.1
  · cases hv
    refine ⟨by rw [List.length_take]; omega, .inr ⟨g, cap, cur, rfl, hb, hg, by omega, hm, hs, ?_⟩⟩
    rw [← ht, List.take_take]
    congr 1
    omega
theorem own_cap6 {w : World} {base n : Nat} {e : TypeId} {xs : List Value} {g cap : Nat} (h : w.ownsRow base e 1 (.slice (some ⟨g, 0, none⟩) n cap) n xs) : n ≤ cap ∧ cap ≤ 2 ^ 63 - 1 := by
  obtain ⟨hl, h | ⟨g', cap', cur, hv, hb, hg, hn, hm, hs, ht⟩⟩ := h
  · cases h.1
  · cases hv
    unfold maxLen at hm
    exact ⟨hn, by omega⟩
theorem DrT.begin {w w1 : World} {B m g c : Nat} {z p : List Int} (hB : B < w.heap.size) (h : Drawn (w.alloc (.cells #[.slice none 0 0] 26)) w1 B z m g c p) :
    DrT w (w1.alloc (.cells #[.slice (some ⟨g, 0, none⟩) p.length c] 26)) B z m g c w1.heap.size w.heap.size p := by
  obtain ⟨h1, h2, h3, h4, h5⟩ := h
  have hs := h3.size
  have hl := h1.lt g rfl
  rw [World.size_alloc] at hs hl
  have hb : Bx w1 w.heap.size (.slice none 0 0) 26 := (Bx.new w (.slice none 0 0) 26).grown h3 (some_ne (by omega))
  exact ⟨⟨own_grown (own_base h1 (by rw [World.size_alloc]; omega)) (World.grownBy_alloc _ _ none), h2.grown (World.grownBy_alloc _ _ none), g_trans (World.grownBy_alloc _ _ _) (g_trans h3 (World.grownBy_alloc _ _ _)), h4, hB⟩,
    Bx.new _ _ _, hb.grown (World.grownBy_alloc _ _ none) (by simp), by omega, Nat.le_refl _, by omega, by omega, by omega⟩
/-- An element is set. -/
theorem DrT.set {w0 w : World} {B m g c R Q j : Nat} {z p : List Int} {x : Int} (h : DrT w0 w B z m g c R Q p) (x0 : -1 ≤ x) (x1 : x ≤ 65536) : DrT w0 (w.setCell ⟨g, j, none⟩ (.int .i64 x)) B z m g c R Q (p.set j x) := by
  obtain ⟨ho, hg⟩ := own_set (j := j) h.d.1 (.int .i64 x)
  have hB := h.d.2.2.2.2
  have hl := (h.d.1.lt g rfl).1
  refine ⟨⟨?_, h.d.2.1.grown' hg (fun k hk => by have e2 : g = k := Option.some.inj hk; omega), g_fresh h.d.2.2.1 hg hl, ?_, hB⟩, ?_, h.res.grown hg (some_ne h.neQ), h.hR, h.hQ, h.neR, h.neQ, h.ne⟩
  · rw [List.length_set, List.map_set]
    exact ho
  · intro y hy
    rcases List.mem_or_eq_of_mem_set hy with hy | hy
    · exact h.d.2.2.2.1 y hy
    · omega
  · rw [List.length_set]
    exact h.box.grown hg (some_ne h.neR)
/-- It is cut. -/
theorem DrT.cut {w0 w : World} {B m g c R Q j : Nat} {z p : List Int} (h : DrT w0 w B z m g c R Q p) (hj : j ≤ p.length) : DrT w0 (w.setCell ⟨R, 0, none⟩ (.slice (some ⟨g, 0, none⟩) j c)) B z m g c R Q (p.take j) := by
  obtain ⟨p1, q1⟩ := h.box.put (.slice (some ⟨g, 0, none⟩) j c)
  have hB := h.d.2.2.2.2
  have hl : (p.take j).length = j := by rw [List.length_take]; omega
  have hR := h.hR
  refine ⟨⟨?_, h.d.2.1.grown' q1 (fun k hk => by have e2 : R = k := Option.some.inj hk; omega), g_fresh h.d.2.2.1 q1 hR, fun y hy => h.d.2.2.2.1 y (List.mem_of_mem_take hy), hB⟩, by rw [hl]; exact p1, h.res.grown q1 (some_ne (Ne.symm h.ne)), h.hR, h.hQ, h.neR, h.neQ, h.ne⟩
  rw [hl, List.map_take]
  exact (own_pre6 h.d.1 hj).kept q1 (.inr (some_ne (Ne.symm h.neR)))
/-- It is handed out. -/
theorem DrT.out {w0 w : World} {B m m' g c R Q : Nat} {z p : List Int} (h : DrT w0 w B z m g c R Q p) (u : Value) (hm : m ≤ m') : Bx (w.setCell ⟨Q, 0, none⟩ u) Q u 26 ∧ Drawn w0 (w.setCell ⟨Q, 0, none⟩ u) B z m' g c p := by
  obtain ⟨p1, q1⟩ := h.res.put u
  have hB := h.d.2.2.2.2
  have hQ := h.hQ
  exact ⟨p1, h.d.1.kept q1 (.inr (some_ne (Ne.symm h.neQ))), (h.d.2.1.grown' q1 (fun k hk => by have e2 : Q = k := Option.some.inj hk; omega)).mono hm, g_fresh h.d.2.2.1 q1 h.hQ, h.d.2.2.2.1, hB⟩
def lenC : Option Value → Nat
  | some (.slice _ n _) => n
  | _ => 0
def amL6 (i : Nat) : List Int := [i, -1, (i : Int) - 1, 9]
theorem amL6_bd {i : Nat} (hn : i ≤ 9) : ∀ x ∈ amL6 i, -1 ≤ x ∧ x ≤ 9 := by
  intro x hx
  simp only [amL6, List.mem_cons, List.not_mem_nil, or_false] at hx
  omega
set_option maxRecDepth 100000 in
set_option maxHeartbeats 1000000 in
theorem anyTree_any (B m : Nat) (z : List Int) (w : World) (h : Cu w B z m) (hm : m ≤ 600000) :
    Calls Tryz.prog 38 #[.pointer (some ⟨B, 0, none⟩)] w fun e w' => ∃ (g c : Nat) (p : List Int), e = .returned (.agg #[.slice (some ⟨g, 0, none⟩) p.length c]) ∧ p.length ≤ 9 ∧ Drawn w w' B z (m + 80) g c p := by
  obtain ⟨i0, hi, hz0, hz1, hz2⟩ := info_parts infoInt
  have HC := Lib.hid (h.grown (World.grownBy_alloc w (.cells #[.slice none 0 0] 26) none))
  have hBl := h.lt
  clear h
  go_enter Tryz.func38, Tryz.ntmps38
  go_wp2_with fail
  refine (tree_any B m z _ HC.out (by omega)).mono ?_
  rintro e w1 ⟨g, c, p, rfl, ht, hd⟩
  have HD := Lib.hid (DrT.begin hBl hd)
  have HT := Lib.hid (trOk_parts ht)
  have h2 := (trOk_parts ht).1
  have h8 := (trOk_parts ht).2.1
  clear hd ht HC
  go_upto_region 2 with fail
  obtain ⟨Q, hQ⟩ : ∃ Q, Q = w.heap.size := ⟨_, rfl⟩
  obtain ⟨R, hR⟩ : ∃ R, R = w1.heap.size := ⟨_, rfl⟩
  rw [← hR, ← hQ]
  rw [← hR, ← hQ] at HD
  obtain ⟨W, hW⟩ : ∃ W, W = (w1.alloc (.cells #[.slice (some ⟨g, 0, none⟩) p.length c] 26)) := ⟨_, rfl⟩
  rw [← hW] at HD ⊢
  clear hW hQ hR
  go_wp2_with fail
  refine (pick_any B (m + 20) 24 z _ HD.out.d.2.1 (by omega) (by omega) (by omega)).mono ?_
  rintro e w2 ⟨s, hs, rfl, hc, hg⟩
  have HD2 := Lib.hid (HD.out.cur hc hg)
  clear hc hg HD
  by_cases s0 : s = 0
  · subst s0
    have hx := HD2.out.box.cell
    have fx := HD2.out.box.free
    have HDd := Lib.hid HD2.out.drew
    have hxd := HDd.out.box.cell
    obtain ⟨hc1, hc2⟩ := own_cap6 HD2.out.d.1
    go_upto_region 4 with fail
    go_region_law (go_simp; go_at_call 46; refine (pick_any B (m + 20 + 2) 2 z _ HDd.out.d.2.1 (by omega) (by omega) (by omega)).mono ?_; rintro e w3 ⟨b, hb, rfl, hc, hg⟩; have HD3 := Lib.hid (HDd.out.cur hc hg); have hx3 := HD3.out.box.cell; have fx3 := HD3.out.box.free; clear hc hg; have b0 : (0 : Int) ≤ (b : Int) := (by omega); have b1 : (b : Int) ≤ (c : Int) := (by omega); dsimp only)
    all_goals
      have HD4 := Lib.hid (HD3.out.cut (j := b) (by omega))
      have hx4 := HD4.out.box.cell
      have hy4 := HD4.out.res.cell
      have fy4 := HD4.out.res.free
      have hl4 : (p.take b).length = b := by rw [List.length_take]; omega
      rw [hl4] at hx4
      go_wp2_with fail
      obtain ⟨p1, q1⟩ := HD4.out.out (.slice (some ⟨g, 0, none⟩) b c) (show m + 20 + 2 + 2 ≤ m + 80 by omega)
      exact bodyPost_ret (results_tr1 rfl _ _ Q rfl p1) rfl ⟨g, c, p.take b, by rw [hl4], by rw [hl4]; omega, q1⟩
  by_cases s1 : s = 1
  · subst s1
    have hx := HD2.out.box.cell
    obtain ⟨⟨u, _, hu⟩, fu, _⟩ := own_facts (j := 0) HD2.out.d.1 (by omega)
    have HD3 := Lib.hid (HD2.out.set (j := 0) (x := 0) (by omega) (by omega))
    have hx3 := HD3.out.box.cell
    have hy3 := HD3.out.res.cell
    have fy3 := HD3.out.res.free
    rw [List.length_set] at hx3
    go_wp2_with fail
    obtain ⟨p1, q1⟩ := HD3.out.out (.slice (some ⟨g, 0, none⟩) p.length c) (show m + 20 + 2 ≤ m + 80 by omega)
    exact bodyPost_ret (results_tr1 rfl _ _ Q rfl p1) rfl ⟨g, c, p.set 0 0, by rw [List.length_set], by rw [List.length_set]; omega, q1⟩
  by_cases s2 : s = 2
  · subst s2
    have hx := HD2.out.box.cell
    have hw : IntKind.i64.wrap ((p.length : Int) - 1) = ((p.length - 1 : Nat) : Int) := (IntWalk.i64_in _ (by omega)).trans (by omega)
    go_wp2_with fail
    refine (pick_any B (m + 20 + 2) (p.length - 1) z _ HD2.out.d.2.1 (by omega) (by omega) (by omega)).mono ?_
    rintro e w3 ⟨b, hb, rfl, hc, hg⟩
    have HD3 := Lib.hid (HD2.out.cur hc hg)
    clear hc hg HD2 hx
    obtain ⟨i, hi6⟩ : ∃ i, i = b + 1 := ⟨_, rfl⟩
    have hw2 : IntKind.i64.wrap (1 + (b : Int)) = (i : Int) := (IntWalk.i64_in _ (by omega)).trans (by omega)
    have hw3 : IntKind.i64.wrap ((i : Int) - 1) = (i : Int) - 1 := IntWalk.i64_in _ (by omega)
    have i1 : 1 ≤ i := by omega
    have i2 : i < p.length := by omega
    have i3 : (0 : Int) ≤ (i : Int) := by omega
    have i4 : (i : Int) < (p.length : Int) := by omega
    clear hi6
    have HDd := Lib.hid HD3.out.drew
    have hxd := HDd.out.box.cell
    have HDl := Lib.hid (HD3.out.alloc (.cells #[.int .i64 (i : Int), .int .i64 (-1), .int .i64 ((i : Int) - 1), .int .i64 9] 3)).drew
    have hxl := HDl.out.box.cell
    go_upto_region 9 with fail
    go_region_law (go_simp; go_at_call 53; refine (among_any B (m + 20 + 2 + 2) z _ (amL6 i) _ HDl.out.d.2.1 (by omega) (by simp [amL6]) (by simp [amL6]) (fun w' hg => row_fresh (xs := (amL6 i).map (Value.int .i64)) (n := (amL6 i).length) (List.length_map _).symm (by simp [amL6, maxLen]) HD3.out.d.2.1.lt (g_trans (gdrew6 _ _) hg))).mono ?_; rintro e w4 ⟨x, hx, rfl, hc, hg⟩; obtain ⟨x0, x1⟩ := amL6_bd (by omega) x hx; have HD4 := Lib.hid (HDl.out.cur hc hg); have hx4 := HD4.out.box.cell; obtain ⟨⟨u, _, hu⟩, fu, _⟩ := own_facts (j := i) HD4.out.d.1 (by omega); clear hx hc hg; dsimp only)
    all_goals
      have HD5 := Lib.hid (HD4.out.set (j := i) (x := x) (by omega) (by omega))
      have hx5 := HD5.out.box.cell
      have hy5 := HD5.out.res.cell
      have fy5 := HD5.out.res.free
      rw [List.length_set] at hx5
      go_wp2_with fail
      obtain ⟨p1, q1⟩ := HD5.out.out (.slice (some ⟨g, 0, none⟩) p.length c) (show m + 20 + 2 + 2 + 2 ≤ m + 80 by omega)
      exact bodyPost_ret (results_tr1 rfl _ _ Q rfl p1) rfl ⟨g, c, p.set i x, by rw [List.length_set], by rw [List.length_set]; omega, q1⟩
  by_cases s3 : s = 3
  · subst s3
    have HD0 := Lib.hid (HD2.out.mono (show m + 20 + 2 ≤ m + 22 + 2 * p.length by omega))
    clear HD2 HT s0 s1 s2
    go_wp2_with fail
    go_loopw [] (fun wr => ∃ (g c : Nat) (p : List Int), p.length ≤ 9 ∧ Hid (DrT w wr B z (m + 22 + 2 * p.length) g c R Q p)) (fun wr => 9 - lenC (wr.cell? ⟨R, 0, none⟩))
    case atStart => exact ⟨g, c, p, by omega, HD0⟩
    case round =>
      clear HD0
      obtain ⟨g, c, p, hp9, HD⟩ := hrel
      have HDd := Lib.hid HD.out.drew
      have hxd := HDd.out.box.cell
      go_upto_region 11 with fail
      go_region_law (go_simp; go_at_call 46; refine (pick_any B (m + 22 + 2 * p.length) 2 z _ HDd.out.d.2.1 (by omega) (by omega) (by omega)).mono ?_; rintro e w3 ⟨b, hb, rfl, hc, hg⟩; have HD3 := Lib.hid (HDd.out.cur hc hg); have hx3 := HD3.out.box.cell; have hw8 : IntKind.i64.wrap (8 + (b : Int)) = 8 + (b : Int) := (IntWalk.i64_in _ (by omega)); clear hc hg; dsimp only)
      all_goals
        by_cases hlt : (p.length : Int) < 8 + (b : Int)
        · have hdc : decide ((p.length : Int) < 8 + (b : Int)) = true := decide_eq_true hlt
          go_wp2_with (at_builtin; refine wpList_append_own_at _ rfl _ _ 24 rfl w.heap.size 3 i0 (.int .i64 0) 1 8 Tryz.underlying24 hi hz0 hz1 hz2 rfl (by decide) _ p.length (p.map (Value.int .i64)) rfl (HD3.out.d.1.alloc _) ⟨w3.heap.size, 0, none⟩ 1 1 [.int .i64 1] rfl rfl (row_news (row_lit (heap_alloc_new _ _))) (by intro u hu; simp at hu; subst hu; rfl) (by unfold maxLen; omega) (by omega) (HD3.out.alloc _).d.2.2.1.size ?_; intro v2 w6 hown2 hgrow2 _ hat2; obtain ⟨g2, c2, rfl, hbx, hd⟩ := HD3.out.app (x := 1) (by omega) (by omega) hown2 hgrow2 hat2; have HD6 := Lib.hid hd; have hx6 := hbx.cell; have fx6 := hbx.free; clear hd hbx hown2 hgrow2 hat2)
          go_roundw
          case rel => exact ⟨g2, c2, p ++ [(1 : Int)], by simp; omega, Lib.hid (HD6.out.mono (by simp; omega))⟩
          case measure =>
            have q1 := HD6.out.box.cell
            have q2 := HD.out.box.cell
            rw [q1, q2]
            simp [lenC]
            omega
        · have hdc : decide ((p.length : Int) < 8 + (b : Int)) = false := decide_eq_false hlt
          have hy3 := HD3.out.res.cell
          have fy3 := HD3.out.res.free
          go_wp2_with fail
          obtain ⟨p1, q1⟩ := HD3.out.out (.slice (some ⟨g, 0, none⟩) p.length c) (show m + 22 + 2 * p.length + 2 ≤ m + 80 by omega)
          exact bodyPost_ret (results_tr1 rfl _ _ Q rfl p1) rfl ⟨g, c, p, rfl, by omega, q1⟩
  · have e0 : ((s : Int) == 0) = false := by simp; omega
    have e1 : ((s : Int) == 1) = false := by simp; omega
    have e2 : ((s : Int) == 2) = false := by simp; omega
    have e3 : ((s : Int) == 3) = false := by simp; omega
    have hx := HD2.out.box.cell
    have hy := HD2.out.res.cell
    have fy := HD2.out.res.free
    clear s0 s1 s2 s3
    go_wp2_with fail
    obtain ⟨p1, q1⟩ := HD2.out.out (.slice (some ⟨g, 0, none⟩) p.length c) (show m + 20 + 2 ≤ m + 80 by omega)
    exact bodyPost_ret (results_tr1 rfl _ _ Q rfl p1) rfl ⟨g, c, p, rfl, by omega, q1⟩
end Go.Proofs.YtejdphfcogfcmaaGreatDoor
