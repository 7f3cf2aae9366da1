/-
  The draws of chapter 5: numbers near a set; what the laws draw.
-/
import Derived.Test.YtneimcacpbepfaaDrawRng
namespace Go.Proofs.Ytneimcacpbepfaa
open Go.RowKit Go.Lib Go.Joins
set_option linter.unusedVariables false

theorem row_pre5 {w : World} {a : Option Addr} {n j cap : Nat} {xs : List Value} (h : Row w (.slice a n cap) n xs) (hx : xs.length = n) (hj : j ≤ n) : Row w (.slice a j cap) j (xs.take j) := by
  obtain ⟨a', cap', e, h1, h2, h3⟩ := h
  injection e with e1 _ e2
  subst e1; subst e2
  refine ⟨a, cap, rfl, by omega, h2, fun hne => ?_⟩
  obtain ⟨b, off, rfl, hlt, hc⟩ := h3 (fun e => hne (by rw [e]; simp))
  refine ⟨b, off, rfl, hlt, fun i hi => ?_⟩
  have hi' : i < xs.length := by rw [List.length_take] at hi; omega
  rw [hc i hi', List.getElem_take]
def edgeL (p q : Int) : List Int := [p, q, p - 1, q + 1]
theorem edgeL_len (p q : Int) : (edgeL p q).length = 4 := rfl
theorem edgeL_bd {p q : Int} (h : bdR (p, q)) : ∀ y ∈ edgeL p q, -2 ≤ y ∧ y ≤ 70001 := by
  obtain ⟨h1, h2, h3, h4⟩ := h
  simp only at h1 h2 h3 h4
  intro y hy
  simp only [edgeL, List.mem_cons, List.not_mem_nil, or_false] at hy
  omega
def numL5 : List Int := [0, 1, 6, 20, 65534, 65535, -1, 65536]
theorem numL5_bd (j : Nat) : ∀ y ∈ numL5.take j, -2 ≤ y ∧ y ≤ 65536 := by
  intro y hy
  have hy := List.mem_of_mem_take hy
  simp only [numL5, List.mem_cons, List.not_mem_nil, or_false] at hy
  omega
theorem numL5_len {j : Nat} (h : j ≤ 8) : (numL5.take j).length = j := by
  rw [List.length_take]
  show min j 8 = j
  omega
theorem row_num5 (w w2 : World) (t : TypeId) (g j : Nat) (hj : j ≤ 8) (hg0 : g = w.heap.size) {B : Nat} (hB : B < w.heap.size) (hg2 : (w.alloc (.cells (numL5.map (Value.int .i64)).toArray t)).grownBy w2 (some B)) :
    ∀ w', w2.grownBy w' (some B) → Row w' (.slice (some ⟨g, 0, none⟩) j 8) (numL5.take j).length ((numL5.take j).map (Value.int .i64)) := fun w' hg => by
  subst hg0
  have h := row_pre5 (j := j) (row_fresh (xs := numL5.map (Value.int .i64)) (n := 8) rfl (by decide) hB (g_trans hg2 hg)) rfl hj
  rw [numL5_len hj, List.map_take]
  exact h
set_option maxRecDepth 100000 in
set_option maxHeartbeats 4000000 in
theorem number5_any (B m : Nat) (z : List Int) (v : Value) (zs : List Rg) (w : World) (h : Cu w B z m) (hm : m ≤ 700000) (hl : zs.length ≤ 11) (hrow : ∀ w' : World, w.grownBy w' (some B) → Row w' v zs.length (rgF zs)) (hb : ∀ r ∈ zs, bdR r) :
    Calls Try.prog 42 #[.pointer (some ⟨B, 0, none⟩), v] w fun e w' => ∃ x : Int, -2 ≤ x ∧ x ≤ 65536 ∧ e = .returned (.int .i64 x) ∧ Cu w' B z (m + 8) ∧ w.grownBy w' (some B) := by
  obtain ⟨a, cap, rfl, hc1, hm1, _⟩ := rg_open (hrow w (g_refl _ _))
  unfold maxLen at hm1
  have HC := Lib.hid h
  have HR := Lib.hid hrow
  have HB := Lib.hid hb
  have hBl := h.lt
  clear h hrow hb
  obtain ⟨n, hn⟩ : ∃ n, n = zs.length := ⟨_, rfl⟩
  rw [← hn] at hl hc1 ⊢
  have HN := Lib.hid hn
  clear hn
  go_enter Try.func42, Try.ntmps42
  go_upto_region 1 with fail
  go_cut [12] from 6 to 12 (fun b wz => ∃ bb : Bool, b = .bool bb ∧ Hid (bb = true → 0 < n) ∧ Hid (Cu wz B z (m + 2)) ∧ Hid (w.grownBy wz (some B)))
  case first =>
    by_cases hn0 : n = 0
    · subst hn0
      go_wp2_with fail
      go_meet
      case rel => exact ⟨false, rfl, Lib.hid (by simp), Lib.hid (HC.out.mono (by omega)), Lib.hid (g_refl _ _)⟩
    · have hd : decide ((0 : Int) < (n : Int)) = true := decide_eq_true (by omega)
      have hp : 0 < n := by omega
      clear hn0
      go_wp2_with fail
      refine (one_any B m 2 z _ HC.out (by omega) (by omega) (by omega)).mono ?_
      rintro e w1 ⟨b, rfl, hc, hg⟩
      have HC1 := Lib.hid hc
      have HG1 := Lib.hid hg
      clear hc hg
      go_wp2_with fail
      go_meet
      case rel => exact ⟨b, rfl, Lib.hid (fun _ => hp), HC1, HG1⟩
  case rest =>
    obtain ⟨bb, rfl, HP, HC1, HG1⟩ := hcut
    clear HC
    cases bb with
    | true =>
      have hp := HP.out rfl
      clear HP
      go_wp2_with fail
      refine (pick_any B (m + 2) n z _ HC1.out (by omega) (by omega) (by omega)).mono ?_
      rintro e w2 ⟨i, hi, rfl, hc, hg⟩
      have HC2 := Lib.hid hc
      have HG2 := Lib.hid (g_trans HG1.out hg)
      clear hc hg HC1 HG1
      have hzi : i < zs.length := by rw [← HN.out]; exact hi
      obtain ⟨a', cap', e', _, _, hcell⟩ := rg_open (HR.out _ HG2.out)
      obtain ⟨bk, off, hab, _, x0, x1⟩ := hcell i hzi
      have ea : a = a' := by
        rw [← HN.out] at e'
        injection e'
      subst ea
      subst hab
      have hbd : bdR (zs[i].1, zs[i].2) := HB.out zs[i] (List.getElem_mem hzi)
      obtain ⟨p, hp9⟩ : ∃ p, p = zs[i].1 := ⟨_, rfl⟩
      obtain ⟨q, hq9⟩ : ∃ q, q = zs[i].2 := ⟨_, rfl⟩
      rw [← hp9] at x0 hbd
      rw [← hq9] at x1 hbd
      have HE := Lib.hid (edgeL_bd hbd)
      obtain ⟨p0, p1, q0, q1⟩ := hbd
      clear hp9 hq9 hzi hcell e' HR HB
      go_upto_region 3 with fail
      clear x0 x1
      obtain ⟨W3, hW3⟩ : ∃ W3, W3 = w2.alloc (.cells #[.int .i64 p, .int .i64 q] 58) := ⟨_, rfl⟩
      have HC3 : Hid (Cu W3 B z (m + 4)) := Lib.hid (by rw [hW3]; exact HC2.out.grown (World.grownBy_alloc _ _ none))
      have HG3 : Hid (w.grownBy W3 (some B)) := Lib.hid (by rw [hW3]; exact g_trans HG2.out (World.grownBy_alloc _ _ _))
      have HR3 : Hid (Rb W3 w2.heap.size p q) := Lib.hid (by rw [hW3]; exact heap_alloc_new w2 _)
      have hlt := HC3.out.lt
      rw [← hW3]
      clear hW3 HC2 HG2
      obtain ⟨x0, x1⟩ := HR3.out.cells
      go_wp2_with fail
      refine (among_any B (m + 4) z _ (edgeL p q) _ (HC3.out.grown (World.grownBy_alloc _ (.cells ((edgeL p q).map (Value.int .i64)).toArray 3) none)) (by omega) (by rw [edgeL_len]; omega) (by rw [edgeL_len]; omega) (row_lit4 _ ((edgeL p q).map (Value.int .i64)) 3 4 _ (by first | rfl | simp) rfl (by decide) HC3.out.lt)).mono ?_
      rintro e w4 ⟨y, hy, rfl, hc4, hg4⟩
      obtain ⟨y0, y1⟩ := HE.out y hy
      have HC4 := Lib.hid hc4
      have HG4 := Lib.hid (g_trans HG3.out (g_trans (World.grownBy_alloc _ _ _) hg4))
      clear hy hc4 hg4 x0 x1 HE HR3
      go_wp2_with fail
      refine (l1Least_any y 65536 _).mono ?_
      rintro e _ ⟨rfl, rfl⟩
      go_wp2_with fail
      go_ret
      exact ⟨min y 65536, by omega, by omega, rfl, HC4.out.mono (by omega), HG4.out⟩
    | false =>
      clear HP HR HB
      have hB1 := HC1.out.lt
      go_wp2_with fail
      refine (pick_any B (m + 2) 24 z _ (HC1.out.grown (World.grownBy_alloc _ (.cells (numL5.map (Value.int .i64)).toArray 3) none)) (by omega) (by omega) (by omega)).mono ?_
      rintro e w2 ⟨k, hk, rfl, hc, hg⟩
      have HC2 := Lib.hid hc
      have HG2 := Lib.hid (g_trans HG1.out (g_trans (World.grownBy_alloc _ _ _) hg))
      have HW := Lib.hid (fun j (hj : j ≤ 8) => row_num5 _ w2 3 _ j hj rfl HC1.out.lt hg)
      clear hc hg HC1 HG1
      obtain hk0 | hk1 | hk2 : (k : Int) / 11 = 0 ∨ (k : Int) / 11 = 1 ∨ (k : Int) / 11 = 2 := by omega
      · have HW6 := Lib.hid (HW.out 6 (by omega))
        clear HW
        go_wp2_with fail
        refine (among_any B (m + 4) z _ (numL5.take 6) _ HC2.out (by omega) (by decide) (by decide) HW6.out).mono ?_
        rintro e w4 ⟨y, hy, rfl, hc4, hg4⟩
        obtain ⟨y0, y1⟩ := numL5_bd _ y hy
        have HC4 := Lib.hid hc4
        have HG4 := Lib.hid (g_trans HG2.out hg4)
        clear hy hc4 hg4 HW6
        go_wp2_with fail
        go_ret
        exact ⟨y, y0, y1, rfl, HC4.out.mono (by omega), HG4.out⟩
      · have HW6 := Lib.hid (HW.out 7 (by omega))
        clear HW
        go_wp2_with fail
        refine (among_any B (m + 4) z _ (numL5.take 7) _ HC2.out (by omega) (by decide) (by decide) HW6.out).mono ?_
        rintro e w4 ⟨y, hy, rfl, hc4, hg4⟩
        obtain ⟨y0, y1⟩ := numL5_bd _ y hy
        have HC4 := Lib.hid hc4
        have HG4 := Lib.hid (g_trans HG2.out hg4)
        clear hy hc4 hg4 HW6
        go_wp2_with fail
        go_ret
        exact ⟨y, y0, y1, rfl, HC4.out.mono (by omega), HG4.out⟩
      · have HW6 := Lib.hid (HW.out 8 (by omega))
        clear HW
        go_wp2_with fail
        refine (among_any B (m + 4) z _ (numL5.take 8) _ HC2.out (by omega) (by decide) (by decide) HW6.out).mono ?_
        rintro e w4 ⟨y, hy, rfl, hc4, hg4⟩
        obtain ⟨y0, y1⟩ := numL5_bd _ y hy
        have HC4 := Lib.hid hc4
        have HG4 := Lib.hid (g_trans HG2.out hg4)
        clear hy hc4 hg4 HW6
        go_wp2_with fail
        go_ret
        exact ⟨y, y0, y1, rfl, HC4.out.mono (by omega), HG4.out⟩
end Go.Proofs.Ytneimcacpbepfaa
