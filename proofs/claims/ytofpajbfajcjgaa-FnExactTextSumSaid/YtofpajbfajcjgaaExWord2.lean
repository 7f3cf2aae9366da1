/-
  The exact laws of SealWords, WordsOf and TextSum.
-/
import Derived.Test.YtofpajbfajcjgaaWord3
import Derived.WalkLawsBesides
namespace Go.Proofs.Ytofpajbfajcjgaa
open Go.RowKit Go.Lib
set_option linter.unusedVariables false

set_option maxRecDepth 100000 in
set_option maxHeartbeats 2000000 in
theorem fnExactSealWords_walk (w : World) (v0 : Value) (z0 : List Int) (w0 : Row w v0 z0.length (z0.map (Value.int .i64))) (b0 : ∀ z ∈ z0, (Lit.int .i64 z).wf = true) (_hsh : w.ShapedOpen Try.prog) :
    Calls Try.prog 9 #[v0] w fun e w' => e = .returned (.bool true) ∧ Below w.heap.size w w' := by
  obtain ⟨p0, cap0, rfl, hc10, hc20, _⟩ := row_open w0
  unfold maxLen at hc20
  by_cases hn0 : z0.length ≤ 1048576
  rotate_left
  · have hn0' : ¬ (z0.length : Int) ≤ 1048576 := by omega
    go_enter Try.func9, Try.ntmps9
    go_wp2_with fail
    go_ret
    exact ⟨rfl, Below.refl _ _⟩
  have hn0' : (z0.length : Int) ≤ 1048576 := by omega
  have HR0 := Lib.hid w0
  have HN0 := Lib.hid hn0
  clear w0 b0
  have HSp := Lib.hid (fun (g0 : Nat) (W : World) (h0 : Row W (.slice (some ⟨g0, 0, none⟩) z0.length z0.length) z0.length (z0.map (Value.int .i64))) => specSeal_any ⟨g0, 0, none⟩ z0.length z0 W h0)
  have HIm := Lib.hid (fun (g0 : Nat) (W : World) (h0 : Row W (.slice (some ⟨g0, 0, none⟩) z0.length z0.length) z0.length (z0.map (Value.int .i64))) => implSeal_any ⟨g0, 0, none⟩ z0.length z0 W h0)
  have hlen0 := slL_len z0
  generalize slL z0 = ps0 at HSp HIm hlen0
  have HL0 := Lib.hid hlen0
  clear hlen0
  generalize slOk z0 = r0 at HSp HIm
  have HT := Lib.hid (show ((1 : Int)) = ((1 : Nat) : Int) from rfl)
  go_enter Try.func9, Try.ntmps9
  go_wp2_with fail
  refine (toIntS_lit _ z0 _ (HR0.out.below (Below.refl _ _) (Nat.le_refl _)) HN0.out).mono ?_
  rintro e W1 ⟨g_s0, rfl, o_s0, l1⟩
  have O_s0 := Lib.hid o_s0
  have HB1 := Lib.hid l1
  clear o_s0 l1
  go_wp2_with fail
  refine (HSp.out g_s0 _ (row_own O_s0.out)).mono ?_
  rintro e W2 ⟨vw0, rfl, o_vw0, l2⟩
  have ap_s0_vw0 : ∀ k, (.slice (some ⟨g_s0, 0, none⟩) z0.length z0.length : Value).ownBlock = some k → (vw0 : Value).ownBlock ≠ some k := fun k h1 h2 => absurd (O_s0.out.lt k h1).2 (Nat.not_lt.2 (o_vw0.lt k h2).1)
  have O_vw0 := Lib.hid (own_base o_vw0 (HB1.out.size))
  have HB2 := Lib.hid (HB1.out.trans (l2.mono HB1.out.size))
  have s0_2 := Lib.hid (own_below O_s0.out l2 (Nat.le_refl _))
  clear O_s0
  clear HB1
  clear l2 o_vw0
  clear s0_2
  go_wp2_with fail
  refine (toIntS_lit _ z0 _ (HR0.out.below HB2.out (Nat.le_refl _)) HN0.out).mono ?_
  rintro e W3 ⟨g_x0, rfl, o_x0, l3⟩
  have ap_vw0_x0 : ∀ k, (vw0 : Value).ownBlock = some k → (.slice (some ⟨g_x0, 0, none⟩) z0.length z0.length : Value).ownBlock ≠ some k := fun k h1 h2 => absurd (O_vw0.out.lt k h1).2 (Nat.not_lt.2 (o_x0.lt k h2).1)
  have O_x0 := Lib.hid (own_base o_x0 (HB2.out.size))
  have HB3 := Lib.hid (HB2.out.trans (l3.mono HB2.out.size))
  have vw0_3 := Lib.hid (own_below O_vw0.out l3 (Nat.le_refl _))
  clear O_vw0
  clear HB2
  clear o_x0 l3
  go_wp2_with fail
  refine (HIm.out g_x0 _ (row_own O_x0.out)).mono ?_
  rintro e W4 ⟨vg0, rfl, o_vg0, l4⟩
  have ap_vw0_vg0 : ∀ k, (vw0 : Value).ownBlock = some k → (vg0 : Value).ownBlock ≠ some k := fun k h1 h2 => absurd (vw0_3.out.lt k h1).2 (Nat.not_lt.2 (o_vg0.lt k h2).1)
  have ap_x0_vg0 : ∀ k, (.slice (some ⟨g_x0, 0, none⟩) z0.length z0.length : Value).ownBlock = some k → (vg0 : Value).ownBlock ≠ some k := fun k h1 h2 => absurd (O_x0.out.lt k h1).2 (Nat.not_lt.2 (o_vg0.lt k h2).1)
  have O_vg0 := Lib.hid (own_base o_vg0 (HB3.out.size))
  have HB4 := Lib.hid (HB3.out.trans (l4.mono HB3.out.size))
  have vw0_4 := Lib.hid (own_below vw0_3.out l4 (Nat.le_refl _))
  clear vw0_3
  have x0_4 := Lib.hid (own_below O_x0.out l4 (Nat.le_refl _))
  clear O_x0
  clear HB3
  clear l4 o_vg0
  go_wp2_with fail
  refine (eqIntS_any _ _ ps0 ps0 _ (row_own O_vg0.out) (row_own vw0_4.out)).mono ?_
  rintro e W5 ⟨rfl, k5, hw5⟩
  have l5 : Below W4.heap.size W4 W5 := by rw [hw5]; exact bdrew _ _
  clear hw5
  have HB5 := Lib.hid (HB4.out.trans (l5.mono HB4.out.size))
  have vw0_5 := Lib.hid (own_below vw0_4.out l5 (Nat.le_refl _))
  clear vw0_4
  have x0_5 := Lib.hid (own_below x0_4.out l5 (Nat.le_refl _))
  clear x0_4
  have vg0_5 := Lib.hid (own_below O_vg0.out l5 (Nat.le_refl _))
  clear O_vg0
  clear HB4
  clear l5
  go_wp2_with fail
  refine (toIntS_lit _ z0 _ (HR0.out.below HB5.out (Nat.le_refl _)) HN0.out).mono ?_
  rintro e W6 ⟨g_y0, rfl, o_y0, l6⟩
  have ap_vw0_y0 : ∀ k, (vw0 : Value).ownBlock = some k → (.slice (some ⟨g_y0, 0, none⟩) z0.length z0.length : Value).ownBlock ≠ some k := fun k h1 h2 => absurd (vw0_5.out.lt k h1).2 (Nat.not_lt.2 (o_y0.lt k h2).1)
  have ap_x0_y0 : ∀ k, (.slice (some ⟨g_x0, 0, none⟩) z0.length z0.length : Value).ownBlock = some k → (.slice (some ⟨g_y0, 0, none⟩) z0.length z0.length : Value).ownBlock ≠ some k := fun k h1 h2 => absurd (x0_5.out.lt k h1).2 (Nat.not_lt.2 (o_y0.lt k h2).1)
  have ap_vg0_y0 : ∀ k, (vg0 : Value).ownBlock = some k → (.slice (some ⟨g_y0, 0, none⟩) z0.length z0.length : Value).ownBlock ≠ some k := fun k h1 h2 => absurd (vg0_5.out.lt k h1).2 (Nat.not_lt.2 (o_y0.lt k h2).1)
  have O_y0 := Lib.hid (own_base o_y0 (HB5.out.size))
  have HB6 := Lib.hid (HB5.out.trans (l6.mono HB5.out.size))
  have vw0_6 := Lib.hid (own_below vw0_5.out l6 (Nat.le_refl _))
  clear vw0_5
  have x0_6 := Lib.hid (own_below x0_5.out l6 (Nat.le_refl _))
  clear x0_5
  have vg0_6 := Lib.hid (own_below vg0_5.out l6 (Nat.le_refl _))
  clear vg0_5
  clear HB5
  clear o_y0 l6
  go_wp2_with fail
  refine (eqIntS_any _ _ z0 z0 _ (row_own x0_6.out) (row_own O_y0.out)).mono ?_
  rintro e W7 ⟨rfl, k7, hw7⟩
  have l7 : Below W6.heap.size W6 W7 := by rw [hw7]; exact bdrew _ _
  clear hw7
  have HB7 := Lib.hid (HB6.out.trans (l7.mono HB6.out.size))
  have vw0_7 := Lib.hid (own_below vw0_6.out l7 (Nat.le_refl _))
  clear vw0_6
  have x0_7 := Lib.hid (own_below x0_6.out l7 (Nat.le_refl _))
  clear x0_6
  have vg0_7 := Lib.hid (own_below vg0_6.out l7 (Nat.le_refl _))
  clear vg0_6
  have y0_7 := Lib.hid (own_below O_y0.out l7 (Nat.le_refl _))
  clear O_y0
  clear HB6
  clear l7
  clear y0_7
  go_wp2_with fail
  refine (markI_own _ z0.length 1 _ _ _ x0_7.out (by have := HL0.out; have := HN0.out; omega)).mono ?_
  rintro e W8 ⟨rfl, m8, gr8⟩
  have HB8 := Lib.hid (HB7.out.grown gr8 HB7.out.size (fun q hq => (x0_7.out.lt q hq).1))
  have vw0_8 := Lib.hid (own_apart vw0_7.out gr8 (fun k h1 h2 => ap_vw0_x0 k h1 h2))
  clear vw0_7
  have vg0_8 := Lib.hid (own_apart vg0_7.out gr8 (fun k h1 h2 => ap_x0_vg0 k h2 h1))
  clear vg0_7
  have x0_8 := Lib.hid m8
  clear m8 gr8 x0_7 HB7
  go_wp2_with fail
  refine (eqIntS_any _ _ ps0 ps0 _ (row_own vg0_8.out) (row_own vw0_8.out)).mono ?_
  rintro e W9 ⟨rfl, k9, hw9⟩
  have l9 : Below W8.heap.size W8 W9 := by rw [hw9]; exact bdrew _ _
  clear hw9
  have HB9 := Lib.hid (HB8.out.trans (l9.mono HB8.out.size))
  have vw0_9 := Lib.hid (own_below vw0_8.out l9 (Nat.le_refl _))
  clear vw0_8
  have x0_9 := Lib.hid (own_below x0_8.out l9 (Nat.le_refl _))
  clear x0_8
  have vg0_9 := Lib.hid (own_below vg0_8.out l9 (Nat.le_refl _))
  clear vg0_8
  clear HB8
  clear l9
  clear x0_9
  go_wp2_with fail
  refine (markI_own _ ps0.length 1 _ _ _ vg0_9.out (by have := HL0.out; have := HN0.out; omega)).mono ?_
  rintro e W10 ⟨rfl, m10, gr10⟩
  have HB10 := Lib.hid (HB9.out.grown gr10 HB9.out.size (fun q hq => (vg0_9.out.lt q hq).1))
  have vw0_10 := Lib.hid (own_apart vw0_9.out gr10 (fun k h1 h2 => ap_vw0_vg0 k h1 h2))
  clear vw0_9
  have vg0_10 := Lib.hid m10
  clear m10 gr10 vg0_9 HB9
  go_wp2_with fail
  refine (heldI_own _ ps0.length 1 _ _ vg0_10.out (by have := HL0.out; have := HN0.out; omega)).mono ?_
  rintro e W ⟨rfl, rfl⟩
  go_wp2_with fail
  refine (toIntS_lit _ z0 _ (HR0.out.below HB10.out (Nat.le_refl _)) HN0.out).mono ?_
  rintro e W11 ⟨g_t0, rfl, o_t0, l11⟩
  have ap_vw0_t0 : ∀ k, (vw0 : Value).ownBlock = some k → (.slice (some ⟨g_t0, 0, none⟩) z0.length z0.length : Value).ownBlock ≠ some k := fun k h1 h2 => absurd (vw0_10.out.lt k h1).2 (Nat.not_lt.2 (o_t0.lt k h2).1)
  have ap_vg0_t0 : ∀ k, (vg0 : Value).ownBlock = some k → (.slice (some ⟨g_t0, 0, none⟩) z0.length z0.length : Value).ownBlock ≠ some k := fun k h1 h2 => absurd (vg0_10.out.lt k h1).2 (Nat.not_lt.2 (o_t0.lt k h2).1)
  have O_t0 := Lib.hid (own_base o_t0 (HB10.out.size))
  have HB11 := Lib.hid (HB10.out.trans (l11.mono HB10.out.size))
  have vw0_11 := Lib.hid (own_below vw0_10.out l11 (Nat.le_refl _))
  clear vw0_10
  have vg0_11 := Lib.hid (own_below vg0_10.out l11 (Nat.le_refl _))
  clear vg0_10
  clear HB10
  clear o_t0 l11
  go_wp2_with fail
  refine (HIm.out g_t0 _ (row_own O_t0.out)).mono ?_
  rintro e W12 ⟨vh0, rfl, o_vh0, l12⟩
  have ap_vw0_vh0 : ∀ k, (vw0 : Value).ownBlock = some k → (vh0 : Value).ownBlock ≠ some k := fun k h1 h2 => absurd (vw0_11.out.lt k h1).2 (Nat.not_lt.2 (o_vh0.lt k h2).1)
  have ap_vg0_vh0 : ∀ k, (vg0 : Value).ownBlock = some k → (vh0 : Value).ownBlock ≠ some k := fun k h1 h2 => absurd (vg0_11.out.lt k h1).2 (Nat.not_lt.2 (o_vh0.lt k h2).1)
  have ap_t0_vh0 : ∀ k, (.slice (some ⟨g_t0, 0, none⟩) z0.length z0.length : Value).ownBlock = some k → (vh0 : Value).ownBlock ≠ some k := fun k h1 h2 => absurd (O_t0.out.lt k h1).2 (Nat.not_lt.2 (o_vh0.lt k h2).1)
  have O_vh0 := Lib.hid (own_base o_vh0 (HB11.out.size))
  have HB12 := Lib.hid (HB11.out.trans (l12.mono HB11.out.size))
  have vw0_12 := Lib.hid (own_below vw0_11.out l12 (Nat.le_refl _))
  clear vw0_11
  have vg0_12 := Lib.hid (own_below vg0_11.out l12 (Nat.le_refl _))
  clear vg0_11
  have t0_12 := Lib.hid (own_below O_t0.out l12 (Nat.le_refl _))
  clear O_t0
  clear HB11
  clear l12 o_vh0
  go_wp2_with fail
  refine (eqIntS_any _ _ ps0 ps0 _ (row_own O_vh0.out) (row_own vw0_12.out)).mono ?_
  rintro e W13 ⟨rfl, k13, hw13⟩
  have l13 : Below W12.heap.size W12 W13 := by rw [hw13]; exact bdrew _ _
  clear hw13
  have HB13 := Lib.hid (HB12.out.trans (l13.mono HB12.out.size))
  have vw0_13 := Lib.hid (own_below vw0_12.out l13 (Nat.le_refl _))
  clear vw0_12
  have vg0_13 := Lib.hid (own_below vg0_12.out l13 (Nat.le_refl _))
  clear vg0_12
  have t0_13 := Lib.hid (own_below t0_12.out l13 (Nat.le_refl _))
  clear t0_12
  have vh0_13 := Lib.hid (own_below O_vh0.out l13 (Nat.le_refl _))
  clear O_vh0
  clear HB12
  clear l13
  go_wp2_with fail
  refine (heldI_own _ ps0.length 1 _ _ vg0_13.out (by have := HL0.out; have := HN0.out; omega)).mono ?_
  rintro e W ⟨rfl, rfl⟩
  go_wp2_with fail
  go_ret
  exact ⟨rfl, HB13.out⟩

set_option maxRecDepth 100000 in
set_option maxHeartbeats 2000000 in
theorem fnExactWordsOf_walk (w : World) (a0 : ByteArray) (w0 : a0.size ≤ maxLen) (_hsh : w.ShapedOpen Try.prog) :
    Calls Try.prog 12 #[.string a0] w fun e w' => e = .returned (.bool true) ∧ Below w.heap.size w w' := by
  unfold maxLen at w0
  by_cases hn0 : a0.size ≤ 1048576
  rotate_left
  · have hn0' : ¬ (a0.size : Int) ≤ 1048576 := by omega
    go_enter Try.func12, Try.ntmps12
    go_wp2_with fail
    go_ret
    exact ⟨rfl, Below.refl _ _⟩
  have hn0' : (a0.size : Int) ≤ 1048576 := by omega
  have HSp := Lib.hid (fun (W : World) => specWo_any a0 W (by omega))
  have HIm := Lib.hid (fun (W : World) => implWo_any a0 W (by omega))
  have hlen0 := woL_len a0
  generalize woL a0 = ps0 at HSp HIm hlen0
  have HL0 := Lib.hid hlen0
  clear hlen0
  generalize woOk a0 = r0 at HSp HIm
  have HT := Lib.hid (show ((1 : Int)) = ((1 : Nat) : Int) from rfl)
  go_enter Try.func12, Try.ntmps12
  go_wp2_with fail
  refine (HSp.out  _ ).mono ?_
  rintro e W1 ⟨vw0, rfl, o_vw0, l1⟩
  have O_vw0 := Lib.hid o_vw0
  have HB1 := Lib.hid l1
  clear l1 o_vw0
  go_wp2_with fail
  refine (HIm.out  _ ).mono ?_
  rintro e W2 ⟨vg0, rfl, o_vg0, l2⟩
  have ap_vw0_vg0 : ∀ k, (vw0 : Value).ownBlock = some k → (vg0 : Value).ownBlock ≠ some k := fun k h1 h2 => absurd (O_vw0.out.lt k h1).2 (Nat.not_lt.2 (o_vg0.lt k h2).1)
  have O_vg0 := Lib.hid (own_base o_vg0 (HB1.out.size))
  have HB2 := Lib.hid (HB1.out.trans (l2.mono HB1.out.size))
  have vw0_2 := Lib.hid (own_below O_vw0.out l2 (Nat.le_refl _))
  clear O_vw0
  clear HB1
  clear l2 o_vg0
  go_wp2_with fail
  refine (eqIntS_any _ _ ps0 ps0 _ (row_own O_vg0.out) (row_own vw0_2.out)).mono ?_
  rintro e W3 ⟨rfl, k3, hw3⟩
  have l3 : Below W2.heap.size W2 W3 := by rw [hw3]; exact bdrew _ _
  clear hw3
  have HB3 := Lib.hid (HB2.out.trans (l3.mono HB2.out.size))
  have vw0_3 := Lib.hid (own_below vw0_2.out l3 (Nat.le_refl _))
  clear vw0_2
  have vg0_3 := Lib.hid (own_below O_vg0.out l3 (Nat.le_refl _))
  clear O_vg0
  clear HB2
  clear l3
  go_wp2_with fail
  refine (markI_own _ ps0.length 1 _ _ _ vg0_3.out (by have := HL0.out; omega)).mono ?_
  rintro e W4 ⟨rfl, m4, gr4⟩
  have HB4 := Lib.hid (HB3.out.grown gr4 HB3.out.size (fun q hq => (vg0_3.out.lt q hq).1))
  have vw0_4 := Lib.hid (own_apart vw0_3.out gr4 (fun k h1 h2 => ap_vw0_vg0 k h1 h2))
  clear vw0_3
  have vg0_4 := Lib.hid m4
  clear m4 gr4 vg0_3 HB3
  go_wp2_with fail
  refine (heldI_own _ ps0.length 1 _ _ vg0_4.out (by have := HL0.out; omega)).mono ?_
  rintro e W ⟨rfl, rfl⟩
  go_wp2_with fail
  refine (HIm.out  _ ).mono ?_
  rintro e W5 ⟨vh0, rfl, o_vh0, l5⟩
  have ap_vw0_vh0 : ∀ k, (vw0 : Value).ownBlock = some k → (vh0 : Value).ownBlock ≠ some k := fun k h1 h2 => absurd (vw0_4.out.lt k h1).2 (Nat.not_lt.2 (o_vh0.lt k h2).1)
  have ap_vg0_vh0 : ∀ k, (vg0 : Value).ownBlock = some k → (vh0 : Value).ownBlock ≠ some k := fun k h1 h2 => absurd (vg0_4.out.lt k h1).2 (Nat.not_lt.2 (o_vh0.lt k h2).1)
  have O_vh0 := Lib.hid (own_base o_vh0 (HB4.out.size))
  have HB5 := Lib.hid (HB4.out.trans (l5.mono HB4.out.size))
  have vw0_5 := Lib.hid (own_below vw0_4.out l5 (Nat.le_refl _))
  clear vw0_4
  have vg0_5 := Lib.hid (own_below vg0_4.out l5 (Nat.le_refl _))
  clear vg0_4
  clear HB4
  clear l5 o_vh0
  go_wp2_with fail
  refine (eqIntS_any _ _ ps0 ps0 _ (row_own O_vh0.out) (row_own vw0_5.out)).mono ?_
  rintro e W6 ⟨rfl, k6, hw6⟩
  have l6 : Below W5.heap.size W5 W6 := by rw [hw6]; exact bdrew _ _
  clear hw6
  have HB6 := Lib.hid (HB5.out.trans (l6.mono HB5.out.size))
  have vw0_6 := Lib.hid (own_below vw0_5.out l6 (Nat.le_refl _))
  clear vw0_5
  have vg0_6 := Lib.hid (own_below vg0_5.out l6 (Nat.le_refl _))
  clear vg0_5
  have vh0_6 := Lib.hid (own_below O_vh0.out l6 (Nat.le_refl _))
  clear O_vh0
  clear HB5
  clear l6
  go_wp2_with fail
  refine (heldI_own _ ps0.length 1 _ _ vg0_6.out (by have := HL0.out; omega)).mono ?_
  rintro e W ⟨rfl, rfl⟩
  go_wp2_with fail
  go_ret
  exact ⟨rfl, HB6.out⟩

set_option maxRecDepth 100000 in
set_option maxHeartbeats 2000000 in
theorem fnExactTextSum_walk (w : World) (a0 : ByteArray) (w0 : a0.size ≤ maxLen) (a1 : ByteArray) (w1 : a1.size ≤ maxLen) (_hsh : w.ShapedOpen Try.prog) :
    Calls Try.prog 13 #[.string a0, .string a1] w fun e w' => e = .returned (.bool true) ∧ Below w.heap.size w w' := by
  unfold maxLen at w0
  unfold maxLen at w1
  by_cases hn0 : a0.size ≤ 1048576
  rotate_left
  · have hn0' : ¬ (a0.size : Int) ≤ 1048576 := by omega
    go_enter Try.func13, Try.ntmps13
    go_wp2_with fail
    go_ret
    exact ⟨rfl, Below.refl _ _⟩
  have hn0' : (a0.size : Int) ≤ 1048576 := by omega
  by_cases hn1 : a1.size ≤ 1048576
  rotate_left
  · have hn1' : ¬ (a1.size : Int) ≤ 1048576 := by omega
    go_enter Try.func13, Try.ntmps13
    go_wp2_with fail
    go_ret
    exact ⟨rfl, Below.refl _ _⟩
  have hn1' : (a1.size : Int) ≤ 1048576 := by omega
  have HSp := Lib.hid (fun (W : World) => specTs_any a0 a1 W hn0 hn1)
  have HIm := Lib.hid (fun (W : World) => implTs_any a0 a1 W hn0 hn1)
  generalize tsV a0 a1 = r0 at HSp HIm
  generalize tsOk a0 a1 = r1 at HSp HIm
  have HT := Lib.hid (show ((1 : Int)) = ((1 : Nat) : Int) from rfl)
  go_enter Try.func13, Try.ntmps13
  go_wp2_with fail
  refine (HSp.out  _ ).mono ?_
  rintro e W1 ⟨rfl, l1⟩
  have HB1 := Lib.hid l1
  clear l1
  go_wp2_with fail
  refine (HIm.out  _ ).mono ?_
  rintro e W2 ⟨rfl, l2⟩
  have HB2 := Lib.hid (HB1.out.trans (l2.mono HB1.out.size))
  clear HB1
  clear l2
  go_wp2_with fail
  go_ret
  exact ⟨rfl, HB2.out⟩

end Go.Proofs.Ytofpajbfajcjgaa
