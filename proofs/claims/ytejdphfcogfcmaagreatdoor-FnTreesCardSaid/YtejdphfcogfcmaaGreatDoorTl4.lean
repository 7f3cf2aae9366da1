/-
  The draws of chapter 6: a valid tree.
-/
import Derived.Deep.RegionLaw
import Derived.Test.YtejdphfcogfcmaaGreatDoorTl2
import Derived.Test.YtejdphfcogfcmaaGreatDoorTl3
import Derived.Test.YtejdphfcogfcmaaGreatDoorTreeMath2
namespace Go.Proofs.YtejdphfcogfcmaaGreatDoor
open Go.RowKit
set_option linter.unusedVariables false

/-- A tree that is being drawn: its list, its box R, the box Q of the result, beside the cursor. -/
structure DrT (w0 w : World) (B : Nat) (z : List Int) (m g c R Q : Nat) (p : List Int) : Prop where
  d : Drawn w0 w B z m g c p
  box : Bx w R (.slice (some ⟨g, 0, none⟩) p.length c) 26
  res : Bx w Q (.slice none 0 0) 26
  hR : w0.heap.size ≤ R
  hQ : w0.heap.size ≤ Q
  neR : R ≠ g
  neQ : Q ≠ g
  ne : R ≠ Q
theorem some_ne {a b : Nat} (h : a ≠ b) : (some a : Option Nat) ≠ some b := fun e => h (Option.some.inj e)
theorem DrT.cur {w0 w w' : World} {B m m' g c R Q : Nat} {z p : List Int} (h : DrT w0 w B z m g c R Q p) (hc : Cu w' B z m') (hg : w.grownBy w' (some B)) : DrT w0 w' B z m' g c R Q p :=
  have hB := h.d.2.2.2.2
  ⟨h.d.cur hc hg, h.box.grown hg (some_ne (by have := h.hR; omega)), h.res.grown hg (some_ne (by have := h.hQ; omega)), h.hR, h.hQ, h.neR, h.neQ, h.ne⟩
theorem DrT.mono {w0 w : World} {B m m' g c R Q : Nat} {z p : List Int} (h : DrT w0 w B z m g c R Q p) (hm : m ≤ m') : DrT w0 w B z m' g c R Q p :=
  ⟨h.d.mono hm, h.box, h.res, h.hR, h.hQ, h.neR, h.neQ, h.ne⟩
theorem DrT.drew {w0 w : World} {B m g c R Q : Nat} {z p : List Int} (h : DrT w0 w B z m g c R Q p) : DrT w0 w.drew B z m g c R Q p :=
  h.cur (h.d.2.1.grown (gdrew6 _ _)) (gdrew6 _ _)
theorem DrT.alloc {w0 w : World} {B m g c R Q : Nat} {z p : List Int} (h : DrT w0 w B z m g c R Q p) (o : Obj) : DrT w0 (w.alloc o) B z m g c R Q p :=
  h.cur (h.d.2.1.grown (World.grownBy_alloc _ _ none)) (World.grownBy_alloc _ _ _)
/-- One node more: the list is grown, its box is still to be set. -/
theorem DrT.app {w0 w w1 : World} {B m g c R Q : Nat} {z p : List Int} {x : Int} {v' : Value} (h : DrT w0 w B z m g c R Q p) (x0 : -1 ≤ x) (x1 : x ≤ 65536)
    (ho : w1.ownsRow w0.heap.size 3 1 v' (p.length + 1) (p.map (Value.int .i64) ++ [.int .i64 x])) (hg : (w.alloc (.cells #[.int .i64 x] 3)).grownBy w1 (some g))
    (hat : v'.ownBlock = some g ∨ v'.ownBlock = some (w.alloc (.cells #[.int .i64 x] 3)).heap.size) :
    ∃ g' c', v' = .slice (some ⟨g', 0, none⟩) (p.length + 1) c' ∧ Bx w1 R (.slice (some ⟨g, 0, none⟩) p.length c) 26 ∧
      DrT w0 (w1.setCell ⟨R, 0, none⟩ (.slice (some ⟨g', 0, none⟩) (p.length + 1) c')) B z m g' c' R Q (p ++ [x]) := by
  obtain ⟨g', c', e', hd⟩ := h.d.app x0 x1 ho hg
  have e : (p ++ [x]).length = p.length + 1 := by simp
  rw [e] at e'
  subst e'
  have hbR := (h.alloc (.cells #[.int .i64 x] 3)).box.grown hg (some_ne h.neR)
  have hbQ := (h.alloc (.cells #[.int .i64 x] 3)).res.grown hg (some_ne h.neQ)
  have hlR := (h.alloc (.cells #[.int .i64 x] 3)).box.lt
  have hlQ := (h.alloc (.cells #[.int .i64 x] 3)).res.lt
  have hg' : g' = g ∨ g' = (w.alloc (.cells #[.int .i64 x] 3)).heap.size := by
    rcases hat with h1 | h1
    · exact .inl (Option.some.inj h1)
    · exact .inr (Option.some.inj h1)
  have n1 : R ≠ g' := by have := h.neR; rcases hg' with e1 | e1 <;> omega
  have n2 : Q ≠ g' := by have := h.neQ; rcases hg' with e1 | e1 <;> omega
  obtain ⟨p1, q1⟩ := hbR.put (.slice (some ⟨g', 0, none⟩) (p.length + 1) c')
  have hB := h.d.2.2.2.2
  refine ⟨g', c', rfl, hbR, ⟨?_, ?_, ?_, ?_, hB⟩, by rw [e]; exact p1, hbQ.grown q1 (some_ne (Ne.symm h.ne)), h.hR, h.hQ, n1, n2, h.ne⟩
  · exact hd.1.kept q1 (.inr (some_ne (Ne.symm n1)))
  · exact hd.2.1.grown' q1 (fun k hk => by have e2 : R = k := Option.some.inj hk; have := h.hR; omega)
  · exact g_fresh hd.2.2.1 q1 h.hR
  · exact hd.2.2.2.1
theorem DrT.start {w : World} {B m : Nat} {z : List Int} (h : Cu w B z m) (xs : List Int) (hx : ∀ x ∈ xs, -1 ≤ x ∧ x ≤ 65536) (h1 : xs.length ≤ 1000) :
    DrT w (((w.alloc (.cells #[.slice none 0 0] 26)).alloc (.cells (xs.map (Value.int .i64)).toArray 3)).alloc (.cells #[.slice (some ⟨w.heap.size + 1, 0, none⟩) xs.length xs.length] 26)) B z m (w.heap.size + 1) xs.length (w.heap.size + 2) w.heap.size xs := by
  have hB := h.lt
  refine ⟨⟨?_, ?_, ?_, hx, hB⟩, ?_, ?_, by omega, by omega, by omega, by omega, by omega⟩
  · have h2 := own_grown (own_base (b' := w.heap.size) (own_made (w.alloc (.cells #[.slice none 0 0] 26)) (xs.map (Value.int .i64)) 3 xs.length (List.length_map _).symm (by unfold maxLen; omega)) (by rw [World.size_alloc]; omega)) (World.grownBy_alloc _ (.cells #[.slice (some ⟨w.heap.size + 1, 0, none⟩) xs.length xs.length] 26) none)
    rw [World.size_alloc] at h2
    exact h2
  · exact ((h.grown (World.grownBy_alloc _ _ none)).grown (World.grownBy_alloc _ _ none)).grown (World.grownBy_alloc _ _ none)
  · exact g_trans (World.grownBy_alloc _ _ _) (g_trans (World.grownBy_alloc _ _ _) (World.grownBy_alloc _ _ _))
  · have := Bx.new ((w.alloc (.cells #[.slice none 0 0] 26)).alloc (.cells (xs.map (Value.int .i64)).toArray 3)) (.slice (some ⟨w.heap.size + 1, 0, none⟩) xs.length xs.length) 26
    rw [World.size_alloc, World.size_alloc] at this
    exact this
  · exact ((Bx.new w (.slice none 0 0) 26).grown (World.grownBy_alloc _ _ none) (by simp)).grown (World.grownBy_alloc _ _ none) (by simp)
set_option maxRecDepth 100000 in
set_option maxHeartbeats 1000000 in
theorem tree_any (B m : Nat) (z : List Int) (w : World) (h : Cu w B z m) (hm : m ≤ 700000) :
    Calls Tryz.prog 27 #[.pointer (some ⟨B, 0, none⟩)] w fun e w' => ∃ (g c : Nat) (p : List Int), e = .returned (.agg #[.slice (some ⟨g, 0, none⟩) p.length c]) ∧ trOk p = true ∧ Drawn w w' B z (m + 20) g c p := by
  obtain ⟨i0, hi, hz0, hz1, hz2⟩ := info_parts infoInt
  have HD0 := Lib.hid (DrT.start h [-1, 0] (by intro x hx; simp at hx; omega) (by simp))
  clear h
  go_enter Tryz.func27, Tryz.ntmps27
  go_upto_region 2 with fail
  obtain ⟨W, hW⟩ : ∃ W, W = (((w.alloc (.cells #[.slice none 0 0] 26)).alloc (.cells #[.int .i64 (-1), .int .i64 0] 3)).alloc (.cells #[.slice (some ⟨w.heap.size + 1, 0, none⟩) 2 2] 26)) := ⟨_, rfl⟩
  have HD : Hid (DrT w W B z m (w.heap.size + 1) 2 (w.heap.size + 2) w.heap.size [-1, 0]) := Lib.hid (by rw [hW]; exact HD0.out)
  rw [← hW]
  obtain ⟨Q, hQ⟩ : ∃ Q, Q = w.heap.size := ⟨_, rfl⟩
  obtain ⟨R, hR⟩ : ∃ R, R = w.heap.size + 2 := ⟨_, rfl⟩
  have eR : w.heap.size + 1 + 1 = R := by omega
  rw [eR, ← hQ] 
  rw [← hR, ← hQ] at HD
  clear hW HD0 eR hR hQ
  go_wp2_with fail
  refine (pick_any B m 7 z _ HD.out.d.2.1 (by omega) (by omega) (by omega)).mono ?_
  rintro e w1 ⟨k0, hk0, rfl, hc, hg⟩
  have HD1 := Lib.hid (HD.out.cur hc hg)
  clear hc hg HD
  go_wp2_with fail
  go_loopw [4] (fun q wr => ∃ (k g c : Nat) (p : List Int), p.length + k ≤ 8 ∧ q = .int .i64 k ∧ Hid (trOk p = true) ∧ Hid (DrT w wr B z (m + 2 * p.length) g c R Q p)) (fun q _ => (intOf q).toNat)
  case atStart => exact ⟨k0, _, _, _, by simp; omega, rfl, Lib.hid (by decide), Lib.hid (HD1.out.mono (by simp))⟩
  case round =>
    clear HD1
    obtain ⟨k, g, c, p, hk, rfl, HT, HD⟩ := hrel
    by_cases hkp : 0 < k
    · have h2 := (trOk_parts HT.out).1
      have hx := HD.out.box.cell
      have fx := HD.out.box.free
      have hdc : decide ((0 : Int) < (k : Int)) = true := decide_eq_true (by omega)
      go_upto_region 5 with fail
      have HDd := Lib.hid HD.out.drew
      have hxd := HDd.out.box.cell
      have tokA : True := trivial
      go_region_law (first
          | (go_simp; go_at_call 46; refine (pick_any B (m + 2 * p.length) p.length z _ HDd.out.d.2.1 (by omega) (by omega) (by omega)).mono ?_; rintro e w2 ⟨y, hy, rfl, hc, hg⟩; have HD2 := Lib.hid (HDd.out.cur hc hg); have hx2 := HD2.out.box.cell; have hx3 := (HD2.out.alloc (.cells #[.int .i64 y] 3)).box.cell; clear hc hg; dsimp only)
          | (have _t := tokA; refine step_append_row (by rfl) _ _ _ (by rfl) w.heap.size 3 i0 (.int .i64 0) 8 Tryz.underlying24 hi hz0 hz1 hz2 rfl _ p.length (p.map (Value.int .i64)) (by rfl) (HD2.out.alloc (.cells #[.int .i64 y] 3)).d.1 _ 1 1 [.int .i64 y] (by rfl) (row_lit (heap_alloc_new _ _)) rfl (by intro q hq; simp at hq; subst hq; rfl) (by unfold maxLen; omega) (by omega) (HD2.out.alloc (.cells #[.int .i64 y] 3)).d.2.2.1.size ?_; intro v2 w6 hown2 hgrow2 hat2; obtain ⟨g2, c2, rfl, hbx, hd⟩ := HD2.out.app (by omega) (by omega) hown2 hgrow2 hat2; have HD6 := Lib.hid hd; have hx6 := hbx.cell; have fx6 := hbx.free; clear hd hbx hown2 hgrow2 hat2 tokA _t))
      all_goals go_wp2_with fail
      all_goals
        have hlt := (trOk_parts HT.out)
        have HT6 : Hid (trOk (p ++ [(y : Int)]) = true) := Lib.hid (leaf_tree (by unfold leafOk ndOk; rw [HT.out]; simp; omega)).1
        clear hlt
        go_roundw
        case rel => exact ⟨k - 1, g2, c2, p ++ [(y : Int)], by simp; omega, by congr 1; omega, HT6, Lib.hid (HD6.out.mono (by simp; omega))⟩
        case measure => (first | (simp [intOf]; done) | (simp [intOf]; omega))
    · obtain rfl : k = 0 := by omega
      have hx := HD.out.box.cell
      have hy := HD.out.res.cell
      have fy := HD.out.res.free
      go_wp2_with fail
      obtain ⟨p1, q1⟩ := HD.out.res.put (.slice (some ⟨g, 0, none⟩) p.length c)
      have hB := HD.out.d.2.2.2.2
      have hQ1 := HD.out.hQ
      refine bodyPost_ret (results_tr1 rfl _ _ Q rfl p1) rfl ⟨g, c, p, rfl, HT.out, ?_⟩
      have ht := (trOk_parts HT.out).2.1
      exact ⟨HD.out.d.1.kept q1 (.inr (some_ne (Ne.symm HD.out.neQ))), (HD.out.d.2.1.grown' q1 (fun k hk => by have e2 : Q = k := Option.some.inj hk; omega)).mono (by omega), g_fresh HD.out.d.2.2.1 q1 HD.out.hQ, HD.out.d.2.2.2.1, hB⟩
end Go.Proofs.YtejdphfcogfcmaaGreatDoor
