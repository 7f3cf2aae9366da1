/-
  The exact law of items that are taken.
-/
import Derived.Test.YtpmjdppipalfcaaRcvI4
import Derived.Test.YtpmjdppipalfcaaRcv6
import Derived.Test.YtpmjdppipalfcaaRcvS
import Derived.Test.YtpmjdppipalfcaaSltW
import Derived.WalkLawsBesides
import Derived.Deep.RegionHeld3
import Derived.Deep.CutRange
namespace Go.Proofs.Ytpmjdppipalfcaa
open Go.RowKit Go.Lib Go.Joins
set_option linter.unusedVariables false

theorem takeV_len (w : Rw) (n : Int) (s : ByteArray) : (takeV w n s).q.length ≤ 2000000 := by
  unfold takeV
  by_cases h : takeOk w n s = true
  · rw [if_pos h]; have := (rwOk_iff.1 (takeW_ok h)).2.1; omega
  · rw [if_neg h]; decide
theorem takeL_len (w : Rw) (n : Int) (s : ByteArray) : (takeL w n s).length ≤ 2000000 := by
  unfold takeL
  by_cases h : takeOk w n s = true
  · rw [if_pos h]
    unfold takeE
    cases hh : haveB w n with
    | true => simp
    | false =>
      rw [if_neg (by decide), relE_len]
      have := relN_le (putQ w n s)
      have := (put_facts h hh).1
      omega
  · rw [if_neg h]; decide
set_option maxRecDepth 100000 in
set_option maxHeartbeats 8000000 in
theorem fnExactTakeItem_wk (v0 : Value) (z0 : Rw) (w : World) (w0 : Row w v0 z0.q.length (slF z0.q)) (b0 : ∀ s ∈ z0.q, s.s.size ≤ maxLen) (a1 : Int) (w1 : (Lit.int .i64 a1).wf = true) (a2 : ByteArray) (w2 : a2.size ≤ maxLen) :
    Calls Try.prog 5 #[.agg #[.int .i64 z0.x, v0], .int .i64 a1, .string a2] w fun e w' => e = .returned (.bool true) ∧ Below w.heap.size w w' := by
  obtain ⟨p0, cap0, rfl, hc10, hc20, _⟩ := sl_open w0
  unfold maxLen at hc20
  have HR0 := Lib.hid w0
  have HSz := Lib.hid (fun (W : World) (hr : Row W (.slice p0 z0.q.length cap0) z0.q.length (slF z0.q)) => szRw_any (.slice p0 z0.q.length cap0) z0 W hr b0 1048576 (by omega))
  have HSm := Lib.hid b0
  clear w0 b0
  have hm2 := w2
  unfold maxLen at hm2
  obtain ⟨W0, R_AW, hW0, hR_AW, hX_AW, hB0⟩ := entry1 w #[.int .i64 z0.x, .slice p0 z0.q.length cap0] 46
  have HW0 := Lib.hid hW0
  have HB0 := Lib.hid hB0
  have HR_AW := Lib.hid hR_AW
  have HX_AW := Lib.hid hX_AW
  clear hW0 hB0 hR_AW hX_AW
  by_cases hn2 : a2.size ≤ 1048576
  rotate_left
  · have hn2' : (1048576 : Int) < (a2.size : Int) := by omega
    go_enter Try.func5, Try.ntmps5
    go_upto_region 1 with fail
    rw [← HW0.out, ← HR_AW.out]
    go_wp2_with fail
    go_ret
    exact ⟨rfl, HB0.out⟩
  have hn2' : ¬ (1048576 : Int) < (a2.size : Int) := by omega
  have c1_AW_0 := HX_AW.out.at 0 (v := .int .i64 z0.x) rfl
  have c1_AW_1 := HX_AW.out.at 1 (v := .slice p0 z0.q.length cap0) rfl
  go_enter Try.func5, Try.ntmps5
  go_upto_region 1 with fail
  rw [← HW0.out, ← HR_AW.out]
  go_wp2_with fail
  refine (HSz.out _ (HR0.out.below HB0.out (Nat.le_refl _))).mono ?_
  rintro e W2 ⟨l2, r0, rfl, hr1, hr0⟩
  clear c1_AW_0 c1_AW_1
  have HB_3 := Lib.hid (HB0.out.trans (l2.mono HB0.out.size))
  have AW_3 := Lib.hid (HX_AW.out.below l2 HX_AW.out.lt)
  clear l2
  have c4_AW_0 := AW_3.out.at 0 (v := .int .i64 z0.x) rfl
  have c4_AW_1 := AW_3.out.at 1 (v := .slice p0 z0.q.length cap0) rfl
  by_cases hneg : r0 < 0
  · clear hr0
    go_wp2_with fail
    go_ret
    exact ⟨rfl, HB_3.out⟩
  obtain ⟨hm0, hr00⟩ := hr0.resolve_left hneg
  have HN0 := Lib.hid hm0
  clear hr0 HSz
  have HSp := Lib.hid (fun (v : Value) (W : World) (hr : Row W v z0.q.length (slF z0.q)) (hf : FitA v z0.q.length) => specTake_any v z0 W hr HSm.out a1 a2 w2 hf.fit)
  have HIm := Lib.hid (fun (v : Value) (W : World) (hr : Row W v z0.q.length (slF z0.q)) (hf : FitA v z0.q.length) => implTake_any v z0 W hr HSm.out a1 a2 w2 hf)
  have hlen0 := takeV_len z0 a1 a2
  have hlen1 := takeL_len z0 a1 a2
  generalize takeV z0 a1 a2 = ps0 at HSp HIm hlen0
  have HL0 := Lib.hid hlen0
  clear hlen0
  generalize takeL z0 a1 a2 = ps1 at HSp HIm hlen1
  have HL1 := Lib.hid hlen1
  clear hlen1
  generalize takeOk z0 a1 a2 = r0_ at HSp HIm
  clear hm0
  obtain ⟨kx, hkx⟩ : ∃ kx : Nat, 1 + 2 * z0.q.length = kx := ⟨_, rfl⟩
  have hkx0 : ¬ ((kx : Nat) : Int) < 0 := by omega
  have HKx := Lib.hid hkx
  clear hkx
  obtain ⟨km0, hkm0⟩ : ∃ km0 : Nat, 1 + 2 * ps0.q.length = km0 := ⟨_, rfl⟩
  have hkm00 : ¬ ((km0 : Nat) : Int) < 0 := by omega
  have hkm01 : 1 ≤ km0 := by omega
  have HKm0 := Lib.hid hkm0
  clear hkm0
  obtain ⟨km1, hkm1⟩ : ∃ km1 : Nat, km0 + ps1.length = km1 := ⟨_, rfl⟩
  have hkm10 : ¬ ((km1 : Nat) : Int) < 0 := by omega
  have hkm11 : 1 ≤ km1 := by omega
  have HKm1 := Lib.hid hkm1
  clear hkm1
  have HKl0 : Hid (km0 ≤ 50000000) := Lib.hid (by have := HL0.out; have := HKm0.out; omega)
  have HKl1 : Hid (km1 ≤ 50000000) := Lib.hid (by have := HL0.out; have := HKm0.out; have := HL1.out; have := HKm1.out; omega)
  go_wp2_with fail
  refine (toRw_lit _ z0 _ (HR0.out.below HB_3.out (Nat.le_refl _)) HN0.out).mono ?_
  rintro e W5 ⟨g_s, rfl, o_s, l5⟩
  have O_s := Lib.hid (ownz_base o_s HB_3.out.size)
  have BX_AW_s : Hid (∀ k, (.slice (some ⟨g_s, 0, none⟩) z0.q.length z0.q.length : Value).ownBlock = some k → k ≠ R_AW) := Lib.hid (fun k h1 h2 => absurd AW_3.out.lt (Nat.not_lt.2 (by rw [← h2]; exact (o_s.lt k h1).1)))
  clear o_s
  clear c4_AW_0 c4_AW_1
  have HB_6 := Lib.hid (HB_3.out.trans (l5.mono HB_3.out.size))
  have AW_6 := Lib.hid (AW_3.out.below l5 AW_3.out.lt)
  clear AW_3
  clear l5
  have c7_AW_0 := AW_6.out.at 0 (v := .int .i64 z0.x) rfl
  have c7_AW_1 := AW_6.out.at 1 (v := .slice p0 z0.q.length cap0) rfl
  go_wp2_with fail
  refine (HSp.out _ _ (rowz_own O_s.out) (.inr ⟨_, _, _, rfl⟩)).mono ?_
  rintro e W8 ⟨v_w0, v_w1, rfl, o_w0, o_w1, _, l8⟩
  have rw_0 := o_w0
  have r2_0 := rw_0
  obtain ⟨a_w0, c_w0, rfl, _⟩ := r2_0
  have RV0 := Lib.hid rw_0
  clear rw_0 o_w0
  have rw_1 := rowz_own o_w1
  have r2_1 := rw_1
  obtain ⟨a_w1, c_w1, rfl, _⟩ := r2_1
  have RV1 := Lib.hid rw_1
  clear rw_1 o_w1
  have HV0 := Lib.hid (Below.refl W8.heap.size W8)
  clear c7_AW_0 c7_AW_1
  have HB_9 := Lib.hid (HB_6.out.trans (l8.mono HB_6.out.size))
  have s_9 := Lib.hid (ownz_below O_s.out l8 (Nat.le_refl _))
  clear O_s
  have AW_9 := Lib.hid (AW_6.out.below l8 AW_6.out.lt)
  clear AW_6
  clear l8
  have c10_AW_0 := AW_9.out.at 0 (v := .int .i64 z0.x) rfl
  have c10_AW_1 := AW_9.out.at 1 (v := .slice p0 z0.q.length cap0) rfl
  clear s_9
  go_upto_region 8 with fail
  obtain ⟨W11, hW11⟩ : ∃ W11, W11 = W8.alloc (.cells #[.int .i64 ps0.x, .slice a_w0 ps0.q.length c_w0] 26) := ⟨_, rfl⟩
  have l11 : Below W8.heap.size W8 W11 := by rw [hW11]; exact (Below.refl _ _).alloc (Nat.le_refl _) _
  have X11_vwB0 : Hid (Bx W11 W8.heap.size #[.int .i64 ps0.x, .slice a_w0 ps0.q.length c_w0] 26) := Lib.hid (by rw [hW11]; exact Bx.new _ _ _)
  rw [← hW11]
  clear hW11
  have HG_vwB0 : Hid (w.heap.size ≤ W8.heap.size) := Lib.hid HB_9.out.size
  have HN_vwB0_AW : Hid (R_AW < W8.heap.size) := Lib.hid AW_9.out.lt
  obtain ⟨R_vwB0, hR_vwB0⟩ : ∃ X, X = W8.heap.size := ⟨_, rfl⟩
  rw [← hR_vwB0] at X11_vwB0 HG_vwB0 HN_vwB0_AW ⊢
  clear hR_vwB0
  clear c10_AW_0 c10_AW_1
  have HB_12 := Lib.hid (HB_9.out.trans (l11.mono HB_9.out.size))
  have HV_12 := Lib.hid (HV0.out.trans (l11.mono HV0.out.size))
  clear HV0
  have AW_12 := Lib.hid (AW_9.out.below l11 AW_9.out.lt)
  clear AW_9
  clear l11
  have c13_AW_0 := AW_12.out.at 0 (v := .int .i64 z0.x) rfl
  have c13_AW_1 := AW_12.out.at 1 (v := .slice p0 z0.q.length cap0) rfl
  have c14_vwB0_0 := X11_vwB0.out.at 0 (v := .int .i64 ps0.x) rfl
  have c14_vwB0_1 := X11_vwB0.out.at 1 (v := .slice a_w0 ps0.q.length c_w0) rfl
  go_wp2_with fail
  refine (toRw_lit _ z0 _ (HR0.out.below HB_12.out (Nat.le_refl _)) HN0.out).mono ?_
  rintro e W15 ⟨g_x, rfl, o_x, l15⟩
  have BV_HV_x : Hid (∀ k, (.slice (some ⟨g_x, 0, none⟩) z0.q.length z0.q.length : Value).ownBlock = some k → W8.heap.size ≤ k) := Lib.hid (fun k h => Nat.le_trans HV_12.out.size (o_x.lt k h).1)
  have O_x := Lib.hid (ownz_base o_x HB_12.out.size)
  have BX_AW_x : Hid (∀ k, (.slice (some ⟨g_x, 0, none⟩) z0.q.length z0.q.length : Value).ownBlock = some k → k ≠ R_AW) := Lib.hid (fun k h1 h2 => absurd AW_12.out.lt (Nat.not_lt.2 (by rw [← h2]; exact (o_x.lt k h1).1)))
  have BX_vwB0_x : Hid (∀ k, (.slice (some ⟨g_x, 0, none⟩) z0.q.length z0.q.length : Value).ownBlock = some k → k ≠ R_vwB0) := Lib.hid (fun k h1 h2 => absurd X11_vwB0.out.lt (Nat.not_lt.2 (by rw [← h2]; exact (o_x.lt k h1).1)))
  clear o_x
  clear c13_AW_0 c13_AW_1
  clear c14_vwB0_0 c14_vwB0_1
  have HB_16 := Lib.hid (HB_12.out.trans (l15.mono HB_12.out.size))
  have HV_16 := Lib.hid (HV_12.out.trans (l15.mono HV_12.out.size))
  clear HV_12
  have AW_16 := Lib.hid (AW_12.out.below l15 AW_12.out.lt)
  clear AW_12
  have vwB0_16 := Lib.hid (X11_vwB0.out.below l15 X11_vwB0.out.lt)
  clear X11_vwB0
  clear l15
  have c17_AW_0 := AW_16.out.at 0 (v := .int .i64 z0.x) rfl
  have c17_AW_1 := AW_16.out.at 1 (v := .slice p0 z0.q.length cap0) rfl
  have c18_vwB0_0 := vwB0_16.out.at 0 (v := .int .i64 ps0.x) rfl
  have c18_vwB0_1 := vwB0_16.out.at 1 (v := .slice a_w0 ps0.q.length c_w0) rfl
  go_upto_region 9 with fail
  obtain ⟨W19, hW19⟩ : ∃ W19, W19 = W15.alloc (.cells #[.int .i64 z0.x, .slice (some ⟨g_x, 0, none⟩) z0.q.length z0.q.length] 26) := ⟨_, rfl⟩
  have l19 : Below W15.heap.size W15 W19 := by rw [hW19]; exact (Below.refl _ _).alloc (Nat.le_refl _) _
  have X19_X : Hid (Bx W19 W15.heap.size #[.int .i64 z0.x, .slice (some ⟨g_x, 0, none⟩) z0.q.length z0.q.length] 26) := Lib.hid (by rw [hW19]; exact Bx.new _ _ _)
  rw [← hW19]
  clear hW19
  have BX_X_x : Hid (∀ k, (.slice (some ⟨g_x, 0, none⟩) z0.q.length z0.q.length : Value).ownBlock = some k → k ≠ W15.heap.size) := Lib.hid (fun k h1 h2 => absurd (O_x.out.lt k h1).2 (by omega))
  have HG_X : Hid (w.heap.size ≤ W15.heap.size) := Lib.hid HB_16.out.size
  have HN_X_AW : Hid (R_AW < W15.heap.size) := Lib.hid AW_16.out.lt
  have HN_X_vwB0 : Hid (R_vwB0 < W15.heap.size) := Lib.hid vwB0_16.out.lt
  obtain ⟨R_X, hR_X⟩ : ∃ X, X = W15.heap.size := ⟨_, rfl⟩
  rw [← hR_X] at X19_X HG_X BX_X_x HN_X_AW HN_X_vwB0 ⊢
  clear hR_X
  clear c17_AW_0 c17_AW_1
  clear c18_vwB0_0 c18_vwB0_1
  have HB_20 := Lib.hid (HB_16.out.trans (l19.mono HB_16.out.size))
  have x_20 := Lib.hid (ownz_below O_x.out l19 (Nat.le_refl _))
  clear O_x
  have HV_20 := Lib.hid (HV_16.out.trans (l19.mono HV_16.out.size))
  clear HV_16
  have AW_20 := Lib.hid (AW_16.out.below l19 AW_16.out.lt)
  clear AW_16
  have vwB0_20 := Lib.hid (vwB0_16.out.below l19 vwB0_16.out.lt)
  clear vwB0_16
  clear l19
  have c21_AW_0 := AW_20.out.at 0 (v := .int .i64 z0.x) rfl
  have c21_AW_1 := AW_20.out.at 1 (v := .slice p0 z0.q.length cap0) rfl
  have c22_vwB0_0 := vwB0_20.out.at 0 (v := .int .i64 ps0.x) rfl
  have c22_vwB0_1 := vwB0_20.out.at 1 (v := .slice a_w0 ps0.q.length c_w0) rfl
  have c23_X_0 := X19_X.out.at 0 (v := .int .i64 z0.x) rfl
  have c23_X_1 := X19_X.out.at 1 (v := .slice (some ⟨g_x, 0, none⟩) z0.q.length z0.q.length) rfl
  go_wp2_with fail
  refine (HIm.out _ _ (rowz_own x_20.out) (.inr ⟨_, _, _, rfl⟩)).mono ?_
  rintro e W24 ⟨v_g0, v_g1, rfl, o_g0, o_g1, ap_g, l24⟩
  obtain ⟨a_g0, c_g0, rfl, _, _⟩ := ownz_slice o_g0
  obtain ⟨a_g1, c_g1, rfl, _, _⟩ := ownz_slice o_g1
  have AP_x_g0 : Hid (∀ k, (.slice (some ⟨g_x, 0, none⟩) z0.q.length z0.q.length : Value).ownBlock = some k → (.slice a_g0 ps0.q.length c_g0 : Value).ownBlock ≠ some k) := Lib.hid (fun k h1 h2 => absurd (x_20.out.lt k h1).2 (Nat.not_lt.2 (o_g0.lt k h2).1))
  have BV_HV_g0 : Hid (∀ k, (.slice a_g0 ps0.q.length c_g0 : Value).ownBlock = some k → W8.heap.size ≤ k) := Lib.hid (fun k h => Nat.le_trans HV_20.out.size (o_g0.lt k h).1)
  have O_g0 := Lib.hid (ownz_base o_g0 HB_20.out.size)
  have BX_AW_g0 : Hid (∀ k, (.slice a_g0 ps0.q.length c_g0 : Value).ownBlock = some k → k ≠ R_AW) := Lib.hid (fun k h1 h2 => absurd AW_20.out.lt (Nat.not_lt.2 (by rw [← h2]; exact (o_g0.lt k h1).1)))
  have BX_vwB0_g0 : Hid (∀ k, (.slice a_g0 ps0.q.length c_g0 : Value).ownBlock = some k → k ≠ R_vwB0) := Lib.hid (fun k h1 h2 => absurd vwB0_20.out.lt (Nat.not_lt.2 (by rw [← h2]; exact (o_g0.lt k h1).1)))
  have BX_X_g0 : Hid (∀ k, (.slice a_g0 ps0.q.length c_g0 : Value).ownBlock = some k → k ≠ R_X) := Lib.hid (fun k h1 h2 => absurd X19_X.out.lt (Nat.not_lt.2 (by rw [← h2]; exact (o_g0.lt k h1).1)))
  have AP_x_g1 : Hid (∀ k, (.slice (some ⟨g_x, 0, none⟩) z0.q.length z0.q.length : Value).ownBlock = some k → (.slice a_g1 ps1.length c_g1 : Value).ownBlock ≠ some k) := Lib.hid (fun k h1 h2 => absurd (x_20.out.lt k h1).2 (Nat.not_lt.2 (o_g1.lt k h2).1))
  have BV_HV_g1 : Hid (∀ k, (.slice a_g1 ps1.length c_g1 : Value).ownBlock = some k → W8.heap.size ≤ k) := Lib.hid (fun k h => Nat.le_trans HV_20.out.size (o_g1.lt k h).1)
  have O_g1 := Lib.hid (ownz_base o_g1 HB_20.out.size)
  have BX_AW_g1 : Hid (∀ k, (.slice a_g1 ps1.length c_g1 : Value).ownBlock = some k → k ≠ R_AW) := Lib.hid (fun k h1 h2 => absurd AW_20.out.lt (Nat.not_lt.2 (by rw [← h2]; exact (o_g1.lt k h1).1)))
  have BX_vwB0_g1 : Hid (∀ k, (.slice a_g1 ps1.length c_g1 : Value).ownBlock = some k → k ≠ R_vwB0) := Lib.hid (fun k h1 h2 => absurd vwB0_20.out.lt (Nat.not_lt.2 (by rw [← h2]; exact (o_g1.lt k h1).1)))
  have BX_X_g1 : Hid (∀ k, (.slice a_g1 ps1.length c_g1 : Value).ownBlock = some k → k ≠ R_X) := Lib.hid (fun k h1 h2 => absurd X19_X.out.lt (Nat.not_lt.2 (by rw [← h2]; exact (o_g1.lt k h1).1)))
  have AP_g0_g1 := Lib.hid ap_g
  clear ap_g
  clear o_g0
  clear o_g1
  clear c21_AW_0 c21_AW_1
  clear c22_vwB0_0 c22_vwB0_1
  clear c23_X_0 c23_X_1
  have HB_25 := Lib.hid (HB_20.out.trans (l24.mono HB_20.out.size))
  have x_25 := Lib.hid (ownz_below x_20.out l24 (Nat.le_refl _))
  clear x_20
  have HV_25 := Lib.hid (HV_20.out.trans (l24.mono HV_20.out.size))
  clear HV_20
  have AW_25 := Lib.hid (AW_20.out.below l24 AW_20.out.lt)
  clear AW_20
  have vwB0_25 := Lib.hid (vwB0_20.out.below l24 vwB0_20.out.lt)
  clear vwB0_20
  have X_25 := Lib.hid (X19_X.out.below l24 X19_X.out.lt)
  clear X19_X
  clear l24
  have c26_AW_0 := AW_25.out.at 0 (v := .int .i64 z0.x) rfl
  have c26_AW_1 := AW_25.out.at 1 (v := .slice p0 z0.q.length cap0) rfl
  have c27_vwB0_0 := vwB0_25.out.at 0 (v := .int .i64 ps0.x) rfl
  have c27_vwB0_1 := vwB0_25.out.at 1 (v := .slice a_w0 ps0.q.length c_w0) rfl
  have c28_X_0 := X_25.out.at 0 (v := .int .i64 z0.x) rfl
  have c28_X_1 := X_25.out.at 1 (v := .slice (some ⟨g_x, 0, none⟩) z0.q.length z0.q.length) rfl
  go_upto_region 10 with fail
  obtain ⟨W29, hW29⟩ : ∃ W29, W29 = W24.alloc (.cells #[.int .i64 ps0.x, .slice a_g0 ps0.q.length c_g0] 26) := ⟨_, rfl⟩
  have l29 : Below W24.heap.size W24 W29 := by rw [hW29]; exact (Below.refl _ _).alloc (Nat.le_refl _) _
  have X29_gB0 : Hid (Bx W29 W24.heap.size #[.int .i64 ps0.x, .slice a_g0 ps0.q.length c_g0] 26) := Lib.hid (by rw [hW29]; exact Bx.new _ _ _)
  rw [← hW29]
  clear hW29
  have BX_gB0_x : Hid (∀ k, (.slice (some ⟨g_x, 0, none⟩) z0.q.length z0.q.length : Value).ownBlock = some k → k ≠ W24.heap.size) := Lib.hid (fun k h1 h2 => absurd (x_25.out.lt k h1).2 (by omega))
  have BX_gB0_g0 : Hid (∀ k, (.slice a_g0 ps0.q.length c_g0 : Value).ownBlock = some k → k ≠ W24.heap.size) := Lib.hid (fun k h1 h2 => absurd (O_g0.out.lt k h1).2 (by omega))
  have BX_gB0_g1 : Hid (∀ k, (.slice a_g1 ps1.length c_g1 : Value).ownBlock = some k → k ≠ W24.heap.size) := Lib.hid (fun k h1 h2 => absurd (O_g1.out.lt k h1).2 (by omega))
  have HG_gB0 : Hid (w.heap.size ≤ W24.heap.size) := Lib.hid HB_25.out.size
  have HN_gB0_AW : Hid (R_AW < W24.heap.size) := Lib.hid AW_25.out.lt
  have HN_gB0_vwB0 : Hid (R_vwB0 < W24.heap.size) := Lib.hid vwB0_25.out.lt
  have HN_gB0_X : Hid (R_X < W24.heap.size) := Lib.hid X_25.out.lt
  obtain ⟨R_gB0, hR_gB0⟩ : ∃ X, X = W24.heap.size := ⟨_, rfl⟩
  rw [← hR_gB0] at X29_gB0 HG_gB0 BX_gB0_x BX_gB0_g0 BX_gB0_g1 HN_gB0_AW HN_gB0_vwB0 HN_gB0_X ⊢
  clear hR_gB0
  clear c26_AW_0 c26_AW_1
  clear c27_vwB0_0 c27_vwB0_1
  clear c28_X_0 c28_X_1
  have HB_30 := Lib.hid (HB_25.out.trans (l29.mono HB_25.out.size))
  have x_30 := Lib.hid (ownz_below x_25.out l29 (Nat.le_refl _))
  clear x_25
  have g0_30 := Lib.hid (ownz_below O_g0.out l29 (Nat.le_refl _))
  clear O_g0
  have g1_30 := Lib.hid (ownz_below O_g1.out l29 (Nat.le_refl _))
  clear O_g1
  have HV_30 := Lib.hid (HV_25.out.trans (l29.mono HV_25.out.size))
  clear HV_25
  have AW_30 := Lib.hid (AW_25.out.below l29 AW_25.out.lt)
  clear AW_25
  have vwB0_30 := Lib.hid (vwB0_25.out.below l29 vwB0_25.out.lt)
  clear vwB0_25
  have X_30 := Lib.hid (X_25.out.below l29 X_25.out.lt)
  clear X_25
  clear l29
  have c31_AW_0 := AW_30.out.at 0 (v := .int .i64 z0.x) rfl
  have c31_AW_1 := AW_30.out.at 1 (v := .slice p0 z0.q.length cap0) rfl
  have c32_vwB0_0 := vwB0_30.out.at 0 (v := .int .i64 ps0.x) rfl
  have c32_vwB0_1 := vwB0_30.out.at 1 (v := .slice a_w0 ps0.q.length c_w0) rfl
  have c33_X_0 := X_30.out.at 0 (v := .int .i64 z0.x) rfl
  have c33_X_1 := X_30.out.at 1 (v := .slice (some ⟨g_x, 0, none⟩) z0.q.length z0.q.length) rfl
  have c34_gB0_0 := X29_gB0.out.at 0 (v := .int .i64 ps0.x) rfl
  have c34_gB0_1 := X29_gB0.out.at 1 (v := .slice a_g0 ps0.q.length c_g0) rfl
  go_wp2_with fail
  refine (eqRw_same _ _ ps0 _ (rowz_own g0_30.out) (RV0.out.below HV_30.out (Nat.le_refl _))).mono ?_
  rintro e W35 ⟨rfl, l35⟩
  clear c31_AW_0 c31_AW_1
  clear c32_vwB0_0 c32_vwB0_1
  clear c33_X_0 c33_X_1
  clear c34_gB0_0 c34_gB0_1
  have HB_36 := Lib.hid (HB_30.out.trans (l35.mono HB_30.out.size))
  have x_36 := Lib.hid (ownz_below x_30.out l35 (Nat.le_refl _))
  clear x_30
  have g0_36 := Lib.hid (ownz_below g0_30.out l35 (Nat.le_refl _))
  clear g0_30
  have g1_36 := Lib.hid (ownz_below g1_30.out l35 (Nat.le_refl _))
  clear g1_30
  have HV_36 := Lib.hid (HV_30.out.trans (l35.mono HV_30.out.size))
  clear HV_30
  have AW_36 := Lib.hid (AW_30.out.below l35 AW_30.out.lt)
  clear AW_30
  have vwB0_36 := Lib.hid (vwB0_30.out.below l35 vwB0_30.out.lt)
  clear vwB0_30
  have X_36 := Lib.hid (X_30.out.below l35 X_30.out.lt)
  clear X_30
  have gB0_36 := Lib.hid (X29_gB0.out.below l35 X29_gB0.out.lt)
  clear X29_gB0
  clear l35
  have c37_AW_0 := AW_36.out.at 0 (v := .int .i64 z0.x) rfl
  have c37_AW_1 := AW_36.out.at 1 (v := .slice p0 z0.q.length cap0) rfl
  have c38_vwB0_0 := vwB0_36.out.at 0 (v := .int .i64 ps0.x) rfl
  have c38_vwB0_1 := vwB0_36.out.at 1 (v := .slice a_w0 ps0.q.length c_w0) rfl
  have c39_X_0 := X_36.out.at 0 (v := .int .i64 z0.x) rfl
  have c39_X_1 := X_36.out.at 1 (v := .slice (some ⟨g_x, 0, none⟩) z0.q.length z0.q.length) rfl
  have c40_gB0_0 := gB0_36.out.at 0 (v := .int .i64 ps0.x) rfl
  have c40_gB0_1 := gB0_36.out.at 1 (v := .slice a_g0 ps0.q.length c_g0) rfl
  go_wp2_with fail
  refine (eqStringS_any _ _ ps1 ps1 _ (rowz_own g1_36.out) (RV1.out.below HV_36.out (Nat.le_refl _))).mono ?_
  rintro e W41 ⟨rfl, kq, hkq⟩
  have l41 : Below W35.heap.size W35 W41 := by rw [hkq]; exact bdrew _ _
  clear hkq
  clear c37_AW_0 c37_AW_1
  clear c38_vwB0_0 c38_vwB0_1
  clear c39_X_0 c39_X_1
  clear c40_gB0_0 c40_gB0_1
  have HB_42 := Lib.hid (HB_36.out.trans (l41.mono HB_36.out.size))
  have x_42 := Lib.hid (ownz_below x_36.out l41 (Nat.le_refl _))
  clear x_36
  have g0_42 := Lib.hid (ownz_below g0_36.out l41 (Nat.le_refl _))
  clear g0_36
  have g1_42 := Lib.hid (ownz_below g1_36.out l41 (Nat.le_refl _))
  clear g1_36
  have HV_42 := Lib.hid (HV_36.out.trans (l41.mono HV_36.out.size))
  clear HV_36
  have AW_42 := Lib.hid (AW_36.out.below l41 AW_36.out.lt)
  clear AW_36
  have vwB0_42 := Lib.hid (vwB0_36.out.below l41 vwB0_36.out.lt)
  clear vwB0_36
  have X_42 := Lib.hid (X_36.out.below l41 X_36.out.lt)
  clear X_36
  have gB0_42 := Lib.hid (gB0_36.out.below l41 gB0_36.out.lt)
  clear gB0_36
  clear l41
  have c43_AW_0 := AW_42.out.at 0 (v := .int .i64 z0.x) rfl
  have c43_AW_1 := AW_42.out.at 1 (v := .slice p0 z0.q.length cap0) rfl
  have c44_vwB0_0 := vwB0_42.out.at 0 (v := .int .i64 ps0.x) rfl
  have c44_vwB0_1 := vwB0_42.out.at 1 (v := .slice a_w0 ps0.q.length c_w0) rfl
  have c45_X_0 := X_42.out.at 0 (v := .int .i64 z0.x) rfl
  have c45_X_1 := X_42.out.at 1 (v := .slice (some ⟨g_x, 0, none⟩) z0.q.length z0.q.length) rfl
  have c46_gB0_0 := gB0_42.out.at 0 (v := .int .i64 ps0.x) rfl
  have c46_gB0_1 := gB0_42.out.at 1 (v := .slice a_g0 ps0.q.length c_g0) rfl
  go_upto_region 12 with fail
  go_cut [67] from 63 to 67 (fun b wx => b = .bool false ∧ Hid (Below W41.heap.size W41 wx))
  case first => as_aux_lemma =>
    have HK1 := Lib.hid (fun (w' : World) (hb : Below W41.heap.size W41 w') => (show w'.cell? ⟨R_X, 0, none⟩ = some (.int .i64 z0.x) ∧ w'.cell? ⟨R_X, 1, none⟩ = some (.slice (some ⟨g_x, 0, none⟩) z0.q.length z0.q.length) ∧ w'.cell? ⟨R_AW, 0, none⟩ = some (.int .i64 z0.x) ∧ w'.cell? ⟨R_AW, 1, none⟩ = some (.slice p0 z0.q.length cap0) ∧ Below w.heap.size w w' from ⟨(hb.cell (p := ⟨R_X, 0, none⟩) X_42.out.lt).trans (X_42.out.at 0 (v := .int .i64 z0.x) rfl), (hb.cell (p := ⟨R_X, 1, none⟩) X_42.out.lt).trans (X_42.out.at 1 (v := .slice (some ⟨g_x, 0, none⟩) z0.q.length z0.q.length) rfl), (hb.cell (p := ⟨R_AW, 0, none⟩) AW_42.out.lt).trans (AW_42.out.at 0 (v := .int .i64 z0.x) rfl), (hb.cell (p := ⟨R_AW, 1, none⟩) AW_42.out.lt).trans (AW_42.out.at 1 (v := .slice p0 z0.q.length cap0) rfl), HB_42.out.trans (hb.mono HB_42.out.size)⟩))
    go_region_held3 (fun w' => w'.cell? ⟨R_X, 0, none⟩ = some (.int .i64 z0.x) ∧ w'.cell? ⟨R_X, 1, none⟩ = some (.slice (some ⟨g_x, 0, none⟩) z0.q.length z0.q.length) ∧ w'.cell? ⟨R_AW, 0, none⟩ = some (.int .i64 z0.x) ∧ w'.cell? ⟨R_AW, 1, none⟩ = some (.slice p0 z0.q.length cap0) ∧ Below w.heap.size w w')
      ((first | (with_reducible refine HK1.out _ ?_; (repeat (first | with_reducible assumption | with_reducible exact Below.refl _ _ | with_reducible refine Below.drew ?_ | with_reducible refine below_alloc' ?_)); done)))
      (first
        | (go_at_call 30; refine (toRw_lit _ z0 _ (HR0.out.below (HB_42.out.trans ((by repeat (first | with_reducible assumption | with_reducible exact Below.refl _ _ | with_reducible refine Below.drew ?_ | with_reducible refine below_alloc' ?_) : Below W41.heap.size W41 _).mono HB_42.out.size)) (Nat.le_refl _)) HN0.out).mono ?_; rintro e w5 ⟨g5, rfl, o5, l5⟩; have hb5 := below_call7 (by repeat (first | with_reducible assumption | with_reducible exact Below.refl _ _ | with_reducible refine Below.drew ?_ | with_reducible refine below_alloc' ?_) : Below W41.heap.size W41 _) l5; have ho5 := rowz_own o5; clear o5 l5)
        | (go_at_call 31; refine (eqRw_same _ _ z0 _ ((rowz_own x_42.out).below hb5 (Nat.le_refl _)) ho5).mono ?_; rintro e w6 ⟨rfl, l6⟩; have hb6 := below_call7 hb5 l6; clear l6))
    all_goals go_wp2_with fail
    all_goals go_meet
    all_goals
      case rel => exact ⟨by simp, Lib.hid (by repeat (first | with_reducible assumption | with_reducible exact Below.refl _ _ | with_reducible refine Below.drew ?_ | with_reducible refine below_alloc' ?_))⟩
  case rest =>
    obtain ⟨rfl, HCut⟩ := hcut
    rename World => W47
    have l47 := HCut.out
    clear HCut
    clear c43_AW_0 c43_AW_1
    clear c44_vwB0_0 c44_vwB0_1
    clear c45_X_0 c45_X_1
    clear c46_gB0_0 c46_gB0_1
    have HB_48 := Lib.hid (HB_42.out.trans (l47.mono HB_42.out.size))
    have x_48 := Lib.hid (ownz_below x_42.out l47 (Nat.le_refl _))
    clear x_42
    have g0_48 := Lib.hid (ownz_below g0_42.out l47 (Nat.le_refl _))
    clear g0_42
    have g1_48 := Lib.hid (ownz_below g1_42.out l47 (Nat.le_refl _))
    clear g1_42
    have HV_48 := Lib.hid (HV_42.out.trans (l47.mono HV_42.out.size))
    clear HV_42
    have AW_48 := Lib.hid (AW_42.out.below l47 AW_42.out.lt)
    clear AW_42
    have vwB0_48 := Lib.hid (vwB0_42.out.below l47 vwB0_42.out.lt)
    clear vwB0_42
    have X_48 := Lib.hid (X_42.out.below l47 X_42.out.lt)
    clear X_42
    have gB0_48 := Lib.hid (gB0_42.out.below l47 gB0_42.out.lt)
    clear gB0_42
    clear l47
    have c49_AW_0 := AW_48.out.at 0 (v := .int .i64 z0.x) rfl
    have c49_AW_1 := AW_48.out.at 1 (v := .slice p0 z0.q.length cap0) rfl
    have c50_vwB0_0 := vwB0_48.out.at 0 (v := .int .i64 ps0.x) rfl
    have c50_vwB0_1 := vwB0_48.out.at 1 (v := .slice a_w0 ps0.q.length c_w0) rfl
    have c51_X_0 := X_48.out.at 0 (v := .int .i64 z0.x) rfl
    have c51_X_1 := X_48.out.at 1 (v := .slice (some ⟨g_x, 0, none⟩) z0.q.length z0.q.length) rfl
    have c52_gB0_0 := gB0_48.out.at 0 (v := .int .i64 ps0.x) rfl
    have c52_gB0_1 := gB0_48.out.at 1 (v := .slice a_g0 ps0.q.length c_g0) rfl
    have hMx := markRw_own (.slice (some ⟨g_x, 0, none⟩) z0.q.length z0.q.length) z0.x z0.q.length 1 _ _ W47 x_48.out (by omega) (by have := HL0.out; have := HL1.out; have := HN0.out; have := HKl0.out; have := HKl1.out; omega)
    rw [HKx.out] at hMx
    have HMx := Lib.hid hMx
    clear hMx
    go_wp2_with fail
    refine (HMx.out).mono ?_
    rintro e W53 ⟨rfl, m53, gr53⟩
    clear c49_AW_0 c49_AW_1
    clear c50_vwB0_0 c50_vwB0_1
    clear c51_X_0 c51_X_1
    clear c52_gB0_0 c52_gB0_1
    have HB_53 := Lib.hid (HB_48.out.grown gr53 HB_48.out.size (fun q hq => (x_48.out.lt q hq).1))
    have g0_53 := Lib.hid (ownz_apart g0_48.out gr53 (fun k h1 h2 => AP_x_g0.out k h2 h1))
    clear g0_48
    have g1_53 := Lib.hid (ownz_apart g1_48.out gr53 (fun k h1 h2 => AP_x_g1.out k h2 h1))
    clear g1_48
    have AW_53 := Lib.hid (AW_48.out.grown gr53 (fun e => BX_AW_x.out _ e.symm rfl))
    clear AW_48
    have vwB0_53 := Lib.hid (vwB0_48.out.grown gr53 (fun e => BX_vwB0_x.out _ e.symm rfl))
    clear vwB0_48
    have X_53 := Lib.hid (X_48.out.grown gr53 (fun e => BX_X_x.out _ e.symm rfl))
    clear X_48
    have gB0_53 := Lib.hid (gB0_48.out.grown gr53 (fun e => BX_gB0_x.out _ e.symm rfl))
    clear gB0_48
    have HV_53 := Lib.hid (HV_48.out.grown gr53 HV_48.out.size (fun q hq => BV_HV_x.out q hq))
    clear HV_48
    have x_53 := Lib.hid m53
    clear m53 gr53 x_48
    have c54_AW_0 := AW_53.out.at 0 (v := .int .i64 z0.x) rfl
    have c54_AW_1 := AW_53.out.at 1 (v := .slice p0 z0.q.length cap0) rfl
    have c55_vwB0_0 := vwB0_53.out.at 0 (v := .int .i64 ps0.x) rfl
    have c55_vwB0_1 := vwB0_53.out.at 1 (v := .slice a_w0 ps0.q.length c_w0) rfl
    have c56_X_0 := X_53.out.at 0 (v := .int .i64 z0.x) rfl
    have c56_X_1 := X_53.out.at 1 (v := .slice (some ⟨g_x, 0, none⟩) z0.q.length z0.q.length) rfl
    have c57_gB0_0 := gB0_53.out.at 0 (v := .int .i64 ps0.x) rfl
    have c57_gB0_1 := gB0_53.out.at 1 (v := .slice a_g0 ps0.q.length c_g0) rfl
    clear HMx
    go_wp2_with fail
    refine (eqRw_same _ _ ps0 _ (rowz_own g0_53.out) (RV0.out.below HV_53.out (Nat.le_refl _))).mono ?_
    rintro e W58 ⟨rfl, l58⟩
    clear c54_AW_0 c54_AW_1
    clear c55_vwB0_0 c55_vwB0_1
    clear c56_X_0 c56_X_1
    clear c57_gB0_0 c57_gB0_1
    have HB_59 := Lib.hid (HB_53.out.trans (l58.mono HB_53.out.size))
    have x_59 := Lib.hid (ownz_below x_53.out l58 (Nat.le_refl _))
    clear x_53
    have g0_59 := Lib.hid (ownz_below g0_53.out l58 (Nat.le_refl _))
    clear g0_53
    have g1_59 := Lib.hid (ownz_below g1_53.out l58 (Nat.le_refl _))
    clear g1_53
    have HV_59 := Lib.hid (HV_53.out.trans (l58.mono HV_53.out.size))
    clear HV_53
    have AW_59 := Lib.hid (AW_53.out.below l58 AW_53.out.lt)
    clear AW_53
    have vwB0_59 := Lib.hid (vwB0_53.out.below l58 vwB0_53.out.lt)
    clear vwB0_53
    have X_59 := Lib.hid (X_53.out.below l58 X_53.out.lt)
    clear X_53
    have gB0_59 := Lib.hid (gB0_53.out.below l58 gB0_53.out.lt)
    clear gB0_53
    clear l58
    have c60_AW_0 := AW_59.out.at 0 (v := .int .i64 z0.x) rfl
    have c60_AW_1 := AW_59.out.at 1 (v := .slice p0 z0.q.length cap0) rfl
    have c61_vwB0_0 := vwB0_59.out.at 0 (v := .int .i64 ps0.x) rfl
    have c61_vwB0_1 := vwB0_59.out.at 1 (v := .slice a_w0 ps0.q.length c_w0) rfl
    have c62_X_0 := X_59.out.at 0 (v := .int .i64 z0.x) rfl
    have c62_X_1 := X_59.out.at 1 (v := .slice (some ⟨g_x, 0, none⟩) z0.q.length z0.q.length) rfl
    have c63_gB0_0 := gB0_59.out.at 0 (v := .int .i64 ps0.x) rfl
    have c63_gB0_1 := gB0_59.out.at 1 (v := .slice a_g0 ps0.q.length c_g0) rfl
    go_wp2_with fail
    refine (eqStringS_any _ _ ps1 ps1 _ (rowz_own g1_59.out) (RV1.out.below HV_59.out (Nat.le_refl _))).mono ?_
    rintro e W64 ⟨rfl, kq, hkq⟩
    have l64 : Below W58.heap.size W58 W64 := by rw [hkq]; exact bdrew _ _
    clear hkq
    clear c60_AW_0 c60_AW_1
    clear c61_vwB0_0 c61_vwB0_1
    clear c62_X_0 c62_X_1
    clear c63_gB0_0 c63_gB0_1
    have HB_65 := Lib.hid (HB_59.out.trans (l64.mono HB_59.out.size))
    have x_65 := Lib.hid (ownz_below x_59.out l64 (Nat.le_refl _))
    clear x_59
    have g0_65 := Lib.hid (ownz_below g0_59.out l64 (Nat.le_refl _))
    clear g0_59
    have g1_65 := Lib.hid (ownz_below g1_59.out l64 (Nat.le_refl _))
    clear g1_59
    have HV_65 := Lib.hid (HV_59.out.trans (l64.mono HV_59.out.size))
    clear HV_59
    have AW_65 := Lib.hid (AW_59.out.below l64 AW_59.out.lt)
    clear AW_59
    have vwB0_65 := Lib.hid (vwB0_59.out.below l64 vwB0_59.out.lt)
    clear vwB0_59
    have X_65 := Lib.hid (X_59.out.below l64 X_59.out.lt)
    clear X_59
    have gB0_65 := Lib.hid (gB0_59.out.below l64 gB0_59.out.lt)
    clear gB0_59
    clear l64
    have c66_AW_0 := AW_65.out.at 0 (v := .int .i64 z0.x) rfl
    have c66_AW_1 := AW_65.out.at 1 (v := .slice p0 z0.q.length cap0) rfl
    have c67_vwB0_0 := vwB0_65.out.at 0 (v := .int .i64 ps0.x) rfl
    have c67_vwB0_1 := vwB0_65.out.at 1 (v := .slice a_w0 ps0.q.length c_w0) rfl
    have c68_X_0 := X_65.out.at 0 (v := .int .i64 z0.x) rfl
    have c68_X_1 := X_65.out.at 1 (v := .slice (some ⟨g_x, 0, none⟩) z0.q.length z0.q.length) rfl
    have c69_gB0_0 := gB0_65.out.at 0 (v := .int .i64 ps0.x) rfl
    have c69_gB0_1 := gB0_65.out.at 1 (v := .slice a_g0 ps0.q.length c_g0) rfl
    clear x_65
    clear c68_X_0 c68_X_1
    clear X_65
    have hMi := markRw_own (.slice a_g0 ps0.q.length c_g0) ps0.x ps0.q.length 1 _ _ W64 g0_65.out (by omega) (by have := HL0.out; have := HL1.out; have := HN0.out; have := HKl0.out; have := HKl1.out; omega)
    rw [HKm0.out] at hMi
    have HMi0 := Lib.hid hMi
    clear hMi
    go_wp2_with fail
    refine (HMi0.out).mono ?_
    rintro e W70 ⟨rfl, m70, gr70⟩
    clear c66_AW_0 c66_AW_1
    clear c67_vwB0_0 c67_vwB0_1
    clear c69_gB0_0 c69_gB0_1
    have HB_70 := Lib.hid (HB_65.out.grown gr70 HB_65.out.size (fun q hq => (g0_65.out.lt q hq).1))
    have g1_70 := Lib.hid (ownz_apart g1_65.out gr70 (fun k h1 h2 => AP_g0_g1.out k h2 h1))
    clear g1_65
    have AW_70 := Lib.hid (AW_65.out.grown gr70 (fun e => BX_AW_g0.out _ e.symm rfl))
    clear AW_65
    have vwB0_70 := Lib.hid (vwB0_65.out.grown gr70 (fun e => BX_vwB0_g0.out _ e.symm rfl))
    clear vwB0_65
    have gB0_70 := Lib.hid (gB0_65.out.grown gr70 (fun e => BX_gB0_g0.out _ e.symm rfl))
    clear gB0_65
    have HV_70 := Lib.hid (HV_65.out.grown gr70 HV_65.out.size (fun q hq => BV_HV_g0.out q hq))
    clear HV_65
    have g0_70 := Lib.hid m70
    clear m70 gr70 g0_65
    have c71_AW_0 := AW_70.out.at 0 (v := .int .i64 z0.x) rfl
    have c71_AW_1 := AW_70.out.at 1 (v := .slice p0 z0.q.length cap0) rfl
    have c72_vwB0_0 := vwB0_70.out.at 0 (v := .int .i64 ps0.x) rfl
    have c72_vwB0_1 := vwB0_70.out.at 1 (v := .slice a_w0 ps0.q.length c_w0) rfl
    have c73_gB0_0 := gB0_70.out.at 0 (v := .int .i64 ps0.x) rfl
    have c73_gB0_1 := gB0_70.out.at 1 (v := .slice a_g0 ps0.q.length c_g0) rfl
    clear HMi0
    have hMi := markS_own _ ps1.length km0 _ _ W70 g1_70.out (by omega) (by have := HL0.out; have := HL1.out; have := HN0.out; have := HKl0.out; have := HKl1.out; omega)
    rw [HKm1.out] at hMi
    have HMi1 := Lib.hid hMi
    clear hMi
    go_wp2_with fail
    refine (HMi1.out).mono ?_
    rintro e W74 ⟨rfl, m74, gr74⟩
    clear c71_AW_0 c71_AW_1
    clear c72_vwB0_0 c72_vwB0_1
    clear c73_gB0_0 c73_gB0_1
    have HB_74 := Lib.hid (HB_70.out.grown gr74 HB_70.out.size (fun q hq => (g1_70.out.lt q hq).1))
    have g0_74 := Lib.hid (ownz_apart g0_70.out gr74 (fun k h1 h2 => AP_g0_g1.out k h1 h2))
    clear g0_70
    have AW_74 := Lib.hid (AW_70.out.grown gr74 (fun e => BX_AW_g1.out _ e.symm rfl))
    clear AW_70
    have vwB0_74 := Lib.hid (vwB0_70.out.grown gr74 (fun e => BX_vwB0_g1.out _ e.symm rfl))
    clear vwB0_70
    have gB0_74 := Lib.hid (gB0_70.out.grown gr74 (fun e => BX_gB0_g1.out _ e.symm rfl))
    clear gB0_70
    have HV_74 := Lib.hid (HV_70.out.grown gr74 HV_70.out.size (fun q hq => BV_HV_g1.out q hq))
    clear HV_70
    have g1_74 := Lib.hid m74
    clear m74 gr74 g1_70
    have c75_AW_0 := AW_74.out.at 0 (v := .int .i64 z0.x) rfl
    have c75_AW_1 := AW_74.out.at 1 (v := .slice p0 z0.q.length cap0) rfl
    have c76_vwB0_0 := vwB0_74.out.at 0 (v := .int .i64 ps0.x) rfl
    have c76_vwB0_1 := vwB0_74.out.at 1 (v := .slice a_w0 ps0.q.length c_w0) rfl
    have c77_gB0_0 := gB0_74.out.at 0 (v := .int .i64 ps0.x) rfl
    have c77_gB0_1 := gB0_74.out.at 1 (v := .slice a_g0 ps0.q.length c_g0) rfl
    clear HMi1
    have hHi := heldRw_own (.slice a_g0 ps0.q.length c_g0) ps0.x ps0.q.length 1 _ W74 g0_74.out (by omega) (by have := HL0.out; have := HL1.out; have := HN0.out; have := HKl0.out; have := HKl1.out; omega)
    rw [HKm0.out] at hHi
    have HHi := Lib.hid hHi
    clear hHi
    go_wp2_with fail
    refine (HHi.out).mono ?_
    rintro e W78 ⟨rfl, l78⟩
    clear c75_AW_0 c75_AW_1
    clear c76_vwB0_0 c76_vwB0_1
    clear c77_gB0_0 c77_gB0_1
    have HB_79 := Lib.hid (HB_74.out.trans (l78.mono HB_74.out.size))
    have g0_79 := Lib.hid (ownz_below g0_74.out l78 (Nat.le_refl _))
    clear g0_74
    have g1_79 := Lib.hid (ownz_below g1_74.out l78 (Nat.le_refl _))
    clear g1_74
    have HV_79 := Lib.hid (HV_74.out.trans (l78.mono HV_74.out.size))
    clear HV_74
    have AW_79 := Lib.hid (AW_74.out.below l78 AW_74.out.lt)
    clear AW_74
    have vwB0_79 := Lib.hid (vwB0_74.out.below l78 vwB0_74.out.lt)
    clear vwB0_74
    have gB0_79 := Lib.hid (gB0_74.out.below l78 gB0_74.out.lt)
    clear gB0_74
    clear l78
    have c80_AW_0 := AW_79.out.at 0 (v := .int .i64 z0.x) rfl
    have c80_AW_1 := AW_79.out.at 1 (v := .slice p0 z0.q.length cap0) rfl
    have c81_vwB0_0 := vwB0_79.out.at 0 (v := .int .i64 ps0.x) rfl
    have c81_vwB0_1 := vwB0_79.out.at 1 (v := .slice a_w0 ps0.q.length c_w0) rfl
    have c82_gB0_0 := gB0_79.out.at 0 (v := .int .i64 ps0.x) rfl
    have c82_gB0_1 := gB0_79.out.at 1 (v := .slice a_g0 ps0.q.length c_g0) rfl
    clear HHi
    have hHi := heldS_own _ ps1.length km0 _ W78 g1_79.out (by omega) (by have := HL0.out; have := HL1.out; have := HN0.out; have := HKl0.out; have := HKl1.out; omega)
    rw [HKm1.out] at hHi
    have HHi := Lib.hid hHi
    clear hHi
    go_wp2_with fail
    refine (HHi.out).mono ?_
    rintro e W83 ⟨rfl, lg⟩
    have l83 := below_none lg
    clear lg
    clear c80_AW_0 c80_AW_1
    clear c81_vwB0_0 c81_vwB0_1
    clear c82_gB0_0 c82_gB0_1
    have HB_84 := Lib.hid (HB_79.out.trans (l83.mono HB_79.out.size))
    have g0_84 := Lib.hid (ownz_below g0_79.out l83 (Nat.le_refl _))
    clear g0_79
    have g1_84 := Lib.hid (ownz_below g1_79.out l83 (Nat.le_refl _))
    clear g1_79
    have HV_84 := Lib.hid (HV_79.out.trans (l83.mono HV_79.out.size))
    clear HV_79
    have AW_84 := Lib.hid (AW_79.out.below l83 AW_79.out.lt)
    clear AW_79
    have vwB0_84 := Lib.hid (vwB0_79.out.below l83 vwB0_79.out.lt)
    clear vwB0_79
    have gB0_84 := Lib.hid (gB0_79.out.below l83 gB0_79.out.lt)
    clear gB0_79
    clear l83
    have c85_AW_0 := AW_84.out.at 0 (v := .int .i64 z0.x) rfl
    have c85_AW_1 := AW_84.out.at 1 (v := .slice p0 z0.q.length cap0) rfl
    have c86_vwB0_0 := vwB0_84.out.at 0 (v := .int .i64 ps0.x) rfl
    have c86_vwB0_1 := vwB0_84.out.at 1 (v := .slice a_w0 ps0.q.length c_w0) rfl
    have c87_gB0_0 := gB0_84.out.at 0 (v := .int .i64 ps0.x) rfl
    have c87_gB0_1 := gB0_84.out.at 1 (v := .slice a_g0 ps0.q.length c_g0) rfl
    clear HHi
    go_wp2_with fail
    refine (toRw_lit _ z0 _ (HR0.out.below HB_84.out (Nat.le_refl _)) HN0.out).mono ?_
    rintro e W88 ⟨g_t, rfl, o_t, l88⟩
    have AP_g0_t : Hid (∀ k, (.slice a_g0 ps0.q.length c_g0 : Value).ownBlock = some k → (.slice (some ⟨g_t, 0, none⟩) z0.q.length z0.q.length : Value).ownBlock ≠ some k) := Lib.hid (fun k h1 h2 => absurd (g0_84.out.lt k h1).2 (Nat.not_lt.2 (o_t.lt k h2).1))
    have AP_g1_t : Hid (∀ k, (.slice a_g1 ps1.length c_g1 : Value).ownBlock = some k → (.slice (some ⟨g_t, 0, none⟩) z0.q.length z0.q.length : Value).ownBlock ≠ some k) := Lib.hid (fun k h1 h2 => absurd (g1_84.out.lt k h1).2 (Nat.not_lt.2 (o_t.lt k h2).1))
    have BV_HV_t : Hid (∀ k, (.slice (some ⟨g_t, 0, none⟩) z0.q.length z0.q.length : Value).ownBlock = some k → W8.heap.size ≤ k) := Lib.hid (fun k h => Nat.le_trans HV_84.out.size (o_t.lt k h).1)
    have O_t := Lib.hid (ownz_base o_t HB_84.out.size)
    have BX_AW_t : Hid (∀ k, (.slice (some ⟨g_t, 0, none⟩) z0.q.length z0.q.length : Value).ownBlock = some k → k ≠ R_AW) := Lib.hid (fun k h1 h2 => absurd AW_84.out.lt (Nat.not_lt.2 (by rw [← h2]; exact (o_t.lt k h1).1)))
    have BX_vwB0_t : Hid (∀ k, (.slice (some ⟨g_t, 0, none⟩) z0.q.length z0.q.length : Value).ownBlock = some k → k ≠ R_vwB0) := Lib.hid (fun k h1 h2 => absurd vwB0_84.out.lt (Nat.not_lt.2 (by rw [← h2]; exact (o_t.lt k h1).1)))
    have BX_gB0_t : Hid (∀ k, (.slice (some ⟨g_t, 0, none⟩) z0.q.length z0.q.length : Value).ownBlock = some k → k ≠ R_gB0) := Lib.hid (fun k h1 h2 => absurd gB0_84.out.lt (Nat.not_lt.2 (by rw [← h2]; exact (o_t.lt k h1).1)))
    clear o_t
    clear c85_AW_0 c85_AW_1
    clear c86_vwB0_0 c86_vwB0_1
    clear c87_gB0_0 c87_gB0_1
    have HB_89 := Lib.hid (HB_84.out.trans (l88.mono HB_84.out.size))
    have g0_89 := Lib.hid (ownz_below g0_84.out l88 (Nat.le_refl _))
    clear g0_84
    have g1_89 := Lib.hid (ownz_below g1_84.out l88 (Nat.le_refl _))
    clear g1_84
    have HV_89 := Lib.hid (HV_84.out.trans (l88.mono HV_84.out.size))
    clear HV_84
    have AW_89 := Lib.hid (AW_84.out.below l88 AW_84.out.lt)
    clear AW_84
    have vwB0_89 := Lib.hid (vwB0_84.out.below l88 vwB0_84.out.lt)
    clear vwB0_84
    have gB0_89 := Lib.hid (gB0_84.out.below l88 gB0_84.out.lt)
    clear gB0_84
    clear l88
    have c90_AW_0 := AW_89.out.at 0 (v := .int .i64 z0.x) rfl
    have c90_AW_1 := AW_89.out.at 1 (v := .slice p0 z0.q.length cap0) rfl
    have c91_vwB0_0 := vwB0_89.out.at 0 (v := .int .i64 ps0.x) rfl
    have c91_vwB0_1 := vwB0_89.out.at 1 (v := .slice a_w0 ps0.q.length c_w0) rfl
    have c92_gB0_0 := gB0_89.out.at 0 (v := .int .i64 ps0.x) rfl
    have c92_gB0_1 := gB0_89.out.at 1 (v := .slice a_g0 ps0.q.length c_g0) rfl
    go_wp2_with fail
    refine (HIm.out _ _ (rowz_own O_t.out) (.inr ⟨_, _, _, rfl⟩)).mono ?_
    rintro e W93 ⟨v_h0, v_h1, rfl, o_h0, o_h1, ap_h, l93⟩
    obtain ⟨a_h0, c_h0, rfl, _, _⟩ := ownz_slice o_h0
    obtain ⟨a_h1, c_h1, rfl, _, _⟩ := ownz_slice o_h1
    have AP_g0_h0 : Hid (∀ k, (.slice a_g0 ps0.q.length c_g0 : Value).ownBlock = some k → (.slice a_h0 ps0.q.length c_h0 : Value).ownBlock ≠ some k) := Lib.hid (fun k h1 h2 => absurd (g0_89.out.lt k h1).2 (Nat.not_lt.2 (o_h0.lt k h2).1))
    have AP_g1_h0 : Hid (∀ k, (.slice a_g1 ps1.length c_g1 : Value).ownBlock = some k → (.slice a_h0 ps0.q.length c_h0 : Value).ownBlock ≠ some k) := Lib.hid (fun k h1 h2 => absurd (g1_89.out.lt k h1).2 (Nat.not_lt.2 (o_h0.lt k h2).1))
    have AP_t_h0 : Hid (∀ k, (.slice (some ⟨g_t, 0, none⟩) z0.q.length z0.q.length : Value).ownBlock = some k → (.slice a_h0 ps0.q.length c_h0 : Value).ownBlock ≠ some k) := Lib.hid (fun k h1 h2 => absurd (O_t.out.lt k h1).2 (Nat.not_lt.2 (o_h0.lt k h2).1))
    have BV_HV_h0 : Hid (∀ k, (.slice a_h0 ps0.q.length c_h0 : Value).ownBlock = some k → W8.heap.size ≤ k) := Lib.hid (fun k h => Nat.le_trans HV_89.out.size (o_h0.lt k h).1)
    have O_h0 := Lib.hid (ownz_base o_h0 HB_89.out.size)
    have BX_AW_h0 : Hid (∀ k, (.slice a_h0 ps0.q.length c_h0 : Value).ownBlock = some k → k ≠ R_AW) := Lib.hid (fun k h1 h2 => absurd AW_89.out.lt (Nat.not_lt.2 (by rw [← h2]; exact (o_h0.lt k h1).1)))
    have BX_vwB0_h0 : Hid (∀ k, (.slice a_h0 ps0.q.length c_h0 : Value).ownBlock = some k → k ≠ R_vwB0) := Lib.hid (fun k h1 h2 => absurd vwB0_89.out.lt (Nat.not_lt.2 (by rw [← h2]; exact (o_h0.lt k h1).1)))
    have BX_gB0_h0 : Hid (∀ k, (.slice a_h0 ps0.q.length c_h0 : Value).ownBlock = some k → k ≠ R_gB0) := Lib.hid (fun k h1 h2 => absurd gB0_89.out.lt (Nat.not_lt.2 (by rw [← h2]; exact (o_h0.lt k h1).1)))
    have AP_g0_h1 : Hid (∀ k, (.slice a_g0 ps0.q.length c_g0 : Value).ownBlock = some k → (.slice a_h1 ps1.length c_h1 : Value).ownBlock ≠ some k) := Lib.hid (fun k h1 h2 => absurd (g0_89.out.lt k h1).2 (Nat.not_lt.2 (o_h1.lt k h2).1))
    have AP_g1_h1 : Hid (∀ k, (.slice a_g1 ps1.length c_g1 : Value).ownBlock = some k → (.slice a_h1 ps1.length c_h1 : Value).ownBlock ≠ some k) := Lib.hid (fun k h1 h2 => absurd (g1_89.out.lt k h1).2 (Nat.not_lt.2 (o_h1.lt k h2).1))
    have AP_t_h1 : Hid (∀ k, (.slice (some ⟨g_t, 0, none⟩) z0.q.length z0.q.length : Value).ownBlock = some k → (.slice a_h1 ps1.length c_h1 : Value).ownBlock ≠ some k) := Lib.hid (fun k h1 h2 => absurd (O_t.out.lt k h1).2 (Nat.not_lt.2 (o_h1.lt k h2).1))
    have BV_HV_h1 : Hid (∀ k, (.slice a_h1 ps1.length c_h1 : Value).ownBlock = some k → W8.heap.size ≤ k) := Lib.hid (fun k h => Nat.le_trans HV_89.out.size (o_h1.lt k h).1)
    have O_h1 := Lib.hid (ownz_base o_h1 HB_89.out.size)
    have BX_AW_h1 : Hid (∀ k, (.slice a_h1 ps1.length c_h1 : Value).ownBlock = some k → k ≠ R_AW) := Lib.hid (fun k h1 h2 => absurd AW_89.out.lt (Nat.not_lt.2 (by rw [← h2]; exact (o_h1.lt k h1).1)))
    have BX_vwB0_h1 : Hid (∀ k, (.slice a_h1 ps1.length c_h1 : Value).ownBlock = some k → k ≠ R_vwB0) := Lib.hid (fun k h1 h2 => absurd vwB0_89.out.lt (Nat.not_lt.2 (by rw [← h2]; exact (o_h1.lt k h1).1)))
    have BX_gB0_h1 : Hid (∀ k, (.slice a_h1 ps1.length c_h1 : Value).ownBlock = some k → k ≠ R_gB0) := Lib.hid (fun k h1 h2 => absurd gB0_89.out.lt (Nat.not_lt.2 (by rw [← h2]; exact (o_h1.lt k h1).1)))
    have AP_h0_h1 := Lib.hid ap_h
    clear ap_h
    clear o_h0
    clear o_h1
    clear c90_AW_0 c90_AW_1
    clear c91_vwB0_0 c91_vwB0_1
    clear c92_gB0_0 c92_gB0_1
    have HB_94 := Lib.hid (HB_89.out.trans (l93.mono HB_89.out.size))
    have g0_94 := Lib.hid (ownz_below g0_89.out l93 (Nat.le_refl _))
    clear g0_89
    have g1_94 := Lib.hid (ownz_below g1_89.out l93 (Nat.le_refl _))
    clear g1_89
    have t_94 := Lib.hid (ownz_below O_t.out l93 (Nat.le_refl _))
    clear O_t
    have HV_94 := Lib.hid (HV_89.out.trans (l93.mono HV_89.out.size))
    clear HV_89
    have AW_94 := Lib.hid (AW_89.out.below l93 AW_89.out.lt)
    clear AW_89
    have vwB0_94 := Lib.hid (vwB0_89.out.below l93 vwB0_89.out.lt)
    clear vwB0_89
    have gB0_94 := Lib.hid (gB0_89.out.below l93 gB0_89.out.lt)
    clear gB0_89
    clear l93
    have c95_AW_0 := AW_94.out.at 0 (v := .int .i64 z0.x) rfl
    have c95_AW_1 := AW_94.out.at 1 (v := .slice p0 z0.q.length cap0) rfl
    have c96_vwB0_0 := vwB0_94.out.at 0 (v := .int .i64 ps0.x) rfl
    have c96_vwB0_1 := vwB0_94.out.at 1 (v := .slice a_w0 ps0.q.length c_w0) rfl
    have c97_gB0_0 := gB0_94.out.at 0 (v := .int .i64 ps0.x) rfl
    have c97_gB0_1 := gB0_94.out.at 1 (v := .slice a_g0 ps0.q.length c_g0) rfl
    go_upto_region 31 with fail
    obtain ⟨W98, hW98⟩ : ∃ W98, W98 = W93.alloc (.cells #[.int .i64 ps0.x, .slice a_h0 ps0.q.length c_h0] 26) := ⟨_, rfl⟩
    have l98 : Below W93.heap.size W93 W98 := by rw [hW98]; exact (Below.refl _ _).alloc (Nat.le_refl _) _
    have X98_hB0 : Hid (Bx W98 W93.heap.size #[.int .i64 ps0.x, .slice a_h0 ps0.q.length c_h0] 26) := Lib.hid (by rw [hW98]; exact Bx.new _ _ _)
    rw [← hW98]
    clear hW98
    have BX_hB0_g0 : Hid (∀ k, (.slice a_g0 ps0.q.length c_g0 : Value).ownBlock = some k → k ≠ W93.heap.size) := Lib.hid (fun k h1 h2 => absurd (g0_94.out.lt k h1).2 (by omega))
    have BX_hB0_g1 : Hid (∀ k, (.slice a_g1 ps1.length c_g1 : Value).ownBlock = some k → k ≠ W93.heap.size) := Lib.hid (fun k h1 h2 => absurd (g1_94.out.lt k h1).2 (by omega))
    have BX_hB0_t : Hid (∀ k, (.slice (some ⟨g_t, 0, none⟩) z0.q.length z0.q.length : Value).ownBlock = some k → k ≠ W93.heap.size) := Lib.hid (fun k h1 h2 => absurd (t_94.out.lt k h1).2 (by omega))
    have BX_hB0_h0 : Hid (∀ k, (.slice a_h0 ps0.q.length c_h0 : Value).ownBlock = some k → k ≠ W93.heap.size) := Lib.hid (fun k h1 h2 => absurd (O_h0.out.lt k h1).2 (by omega))
    have BX_hB0_h1 : Hid (∀ k, (.slice a_h1 ps1.length c_h1 : Value).ownBlock = some k → k ≠ W93.heap.size) := Lib.hid (fun k h1 h2 => absurd (O_h1.out.lt k h1).2 (by omega))
    have HG_hB0 : Hid (w.heap.size ≤ W93.heap.size) := Lib.hid HB_94.out.size
    have HN_hB0_AW : Hid (R_AW < W93.heap.size) := Lib.hid AW_94.out.lt
    have HN_hB0_vwB0 : Hid (R_vwB0 < W93.heap.size) := Lib.hid vwB0_94.out.lt
    have HN_hB0_gB0 : Hid (R_gB0 < W93.heap.size) := Lib.hid gB0_94.out.lt
    obtain ⟨R_hB0, hR_hB0⟩ : ∃ X, X = W93.heap.size := ⟨_, rfl⟩
    rw [← hR_hB0] at X98_hB0 HG_hB0 BX_hB0_g0 BX_hB0_g1 BX_hB0_t BX_hB0_h0 BX_hB0_h1 HN_hB0_AW HN_hB0_vwB0 HN_hB0_gB0 ⊢
    clear hR_hB0
    clear c95_AW_0 c95_AW_1
    clear c96_vwB0_0 c96_vwB0_1
    clear c97_gB0_0 c97_gB0_1
    have HB_99 := Lib.hid (HB_94.out.trans (l98.mono HB_94.out.size))
    have g0_99 := Lib.hid (ownz_below g0_94.out l98 (Nat.le_refl _))
    clear g0_94
    have g1_99 := Lib.hid (ownz_below g1_94.out l98 (Nat.le_refl _))
    clear g1_94
    have t_99 := Lib.hid (ownz_below t_94.out l98 (Nat.le_refl _))
    clear t_94
    have h0_99 := Lib.hid (ownz_below O_h0.out l98 (Nat.le_refl _))
    clear O_h0
    have h1_99 := Lib.hid (ownz_below O_h1.out l98 (Nat.le_refl _))
    clear O_h1
    have HV_99 := Lib.hid (HV_94.out.trans (l98.mono HV_94.out.size))
    clear HV_94
    have AW_99 := Lib.hid (AW_94.out.below l98 AW_94.out.lt)
    clear AW_94
    have vwB0_99 := Lib.hid (vwB0_94.out.below l98 vwB0_94.out.lt)
    clear vwB0_94
    have gB0_99 := Lib.hid (gB0_94.out.below l98 gB0_94.out.lt)
    clear gB0_94
    clear l98
    have c100_AW_0 := AW_99.out.at 0 (v := .int .i64 z0.x) rfl
    have c100_AW_1 := AW_99.out.at 1 (v := .slice p0 z0.q.length cap0) rfl
    have c101_vwB0_0 := vwB0_99.out.at 0 (v := .int .i64 ps0.x) rfl
    have c101_vwB0_1 := vwB0_99.out.at 1 (v := .slice a_w0 ps0.q.length c_w0) rfl
    have c102_gB0_0 := gB0_99.out.at 0 (v := .int .i64 ps0.x) rfl
    have c102_gB0_1 := gB0_99.out.at 1 (v := .slice a_g0 ps0.q.length c_g0) rfl
    have c103_hB0_0 := X98_hB0.out.at 0 (v := .int .i64 ps0.x) rfl
    have c103_hB0_1 := X98_hB0.out.at 1 (v := .slice a_h0 ps0.q.length c_h0) rfl
    go_wp2_with fail
    refine (eqRw_same _ _ ps0 _ (rowz_own h0_99.out) (RV0.out.below HV_99.out (Nat.le_refl _))).mono ?_
    rintro e W104 ⟨rfl, l104⟩
    clear c100_AW_0 c100_AW_1
    clear c101_vwB0_0 c101_vwB0_1
    clear c102_gB0_0 c102_gB0_1
    clear c103_hB0_0 c103_hB0_1
    have HB_105 := Lib.hid (HB_99.out.trans (l104.mono HB_99.out.size))
    have g0_105 := Lib.hid (ownz_below g0_99.out l104 (Nat.le_refl _))
    clear g0_99
    have g1_105 := Lib.hid (ownz_below g1_99.out l104 (Nat.le_refl _))
    clear g1_99
    have t_105 := Lib.hid (ownz_below t_99.out l104 (Nat.le_refl _))
    clear t_99
    have h0_105 := Lib.hid (ownz_below h0_99.out l104 (Nat.le_refl _))
    clear h0_99
    have h1_105 := Lib.hid (ownz_below h1_99.out l104 (Nat.le_refl _))
    clear h1_99
    have HV_105 := Lib.hid (HV_99.out.trans (l104.mono HV_99.out.size))
    clear HV_99
    have AW_105 := Lib.hid (AW_99.out.below l104 AW_99.out.lt)
    clear AW_99
    have vwB0_105 := Lib.hid (vwB0_99.out.below l104 vwB0_99.out.lt)
    clear vwB0_99
    have gB0_105 := Lib.hid (gB0_99.out.below l104 gB0_99.out.lt)
    clear gB0_99
    have hB0_105 := Lib.hid (X98_hB0.out.below l104 X98_hB0.out.lt)
    clear X98_hB0
    clear l104
    have c106_AW_0 := AW_105.out.at 0 (v := .int .i64 z0.x) rfl
    have c106_AW_1 := AW_105.out.at 1 (v := .slice p0 z0.q.length cap0) rfl
    have c107_vwB0_0 := vwB0_105.out.at 0 (v := .int .i64 ps0.x) rfl
    have c107_vwB0_1 := vwB0_105.out.at 1 (v := .slice a_w0 ps0.q.length c_w0) rfl
    have c108_gB0_0 := gB0_105.out.at 0 (v := .int .i64 ps0.x) rfl
    have c108_gB0_1 := gB0_105.out.at 1 (v := .slice a_g0 ps0.q.length c_g0) rfl
    have c109_hB0_0 := hB0_105.out.at 0 (v := .int .i64 ps0.x) rfl
    have c109_hB0_1 := hB0_105.out.at 1 (v := .slice a_h0 ps0.q.length c_h0) rfl
    go_wp2_with fail
    refine (eqStringS_any _ _ ps1 ps1 _ (rowz_own h1_105.out) (RV1.out.below HV_105.out (Nat.le_refl _))).mono ?_
    rintro e W110 ⟨rfl, kq, hkq⟩
    have l110 : Below W104.heap.size W104 W110 := by rw [hkq]; exact bdrew _ _
    clear hkq
    clear c106_AW_0 c106_AW_1
    clear c107_vwB0_0 c107_vwB0_1
    clear c108_gB0_0 c108_gB0_1
    clear c109_hB0_0 c109_hB0_1
    have HB_111 := Lib.hid (HB_105.out.trans (l110.mono HB_105.out.size))
    have g0_111 := Lib.hid (ownz_below g0_105.out l110 (Nat.le_refl _))
    clear g0_105
    have g1_111 := Lib.hid (ownz_below g1_105.out l110 (Nat.le_refl _))
    clear g1_105
    have t_111 := Lib.hid (ownz_below t_105.out l110 (Nat.le_refl _))
    clear t_105
    have h0_111 := Lib.hid (ownz_below h0_105.out l110 (Nat.le_refl _))
    clear h0_105
    have h1_111 := Lib.hid (ownz_below h1_105.out l110 (Nat.le_refl _))
    clear h1_105
    have HV_111 := Lib.hid (HV_105.out.trans (l110.mono HV_105.out.size))
    clear HV_105
    have AW_111 := Lib.hid (AW_105.out.below l110 AW_105.out.lt)
    clear AW_105
    have vwB0_111 := Lib.hid (vwB0_105.out.below l110 vwB0_105.out.lt)
    clear vwB0_105
    have gB0_111 := Lib.hid (gB0_105.out.below l110 gB0_105.out.lt)
    clear gB0_105
    have hB0_111 := Lib.hid (hB0_105.out.below l110 hB0_105.out.lt)
    clear hB0_105
    clear l110
    have c112_AW_0 := AW_111.out.at 0 (v := .int .i64 z0.x) rfl
    have c112_AW_1 := AW_111.out.at 1 (v := .slice p0 z0.q.length cap0) rfl
    have c113_vwB0_0 := vwB0_111.out.at 0 (v := .int .i64 ps0.x) rfl
    have c113_vwB0_1 := vwB0_111.out.at 1 (v := .slice a_w0 ps0.q.length c_w0) rfl
    have c114_gB0_0 := gB0_111.out.at 0 (v := .int .i64 ps0.x) rfl
    have c114_gB0_1 := gB0_111.out.at 1 (v := .slice a_g0 ps0.q.length c_g0) rfl
    have c115_hB0_0 := hB0_111.out.at 0 (v := .int .i64 ps0.x) rfl
    have c115_hB0_1 := hB0_111.out.at 1 (v := .slice a_h0 ps0.q.length c_h0) rfl
    have hHi := heldRw_own (.slice a_g0 ps0.q.length c_g0) ps0.x ps0.q.length 1 _ W110 g0_111.out (by omega) (by have := HL0.out; have := HL1.out; have := HN0.out; have := HKl0.out; have := HKl1.out; omega)
    rw [HKm0.out] at hHi
    have HHi := Lib.hid hHi
    clear hHi
    go_wp2_with fail
    refine (HHi.out).mono ?_
    rintro e W116 ⟨rfl, l116⟩
    clear c112_AW_0 c112_AW_1
    clear c113_vwB0_0 c113_vwB0_1
    clear c114_gB0_0 c114_gB0_1
    clear c115_hB0_0 c115_hB0_1
    have HB_117 := Lib.hid (HB_111.out.trans (l116.mono HB_111.out.size))
    have g0_117 := Lib.hid (ownz_below g0_111.out l116 (Nat.le_refl _))
    clear g0_111
    have g1_117 := Lib.hid (ownz_below g1_111.out l116 (Nat.le_refl _))
    clear g1_111
    have t_117 := Lib.hid (ownz_below t_111.out l116 (Nat.le_refl _))
    clear t_111
    have h0_117 := Lib.hid (ownz_below h0_111.out l116 (Nat.le_refl _))
    clear h0_111
    have h1_117 := Lib.hid (ownz_below h1_111.out l116 (Nat.le_refl _))
    clear h1_111
    have HV_117 := Lib.hid (HV_111.out.trans (l116.mono HV_111.out.size))
    clear HV_111
    have AW_117 := Lib.hid (AW_111.out.below l116 AW_111.out.lt)
    clear AW_111
    have vwB0_117 := Lib.hid (vwB0_111.out.below l116 vwB0_111.out.lt)
    clear vwB0_111
    have gB0_117 := Lib.hid (gB0_111.out.below l116 gB0_111.out.lt)
    clear gB0_111
    have hB0_117 := Lib.hid (hB0_111.out.below l116 hB0_111.out.lt)
    clear hB0_111
    clear l116
    have c118_AW_0 := AW_117.out.at 0 (v := .int .i64 z0.x) rfl
    have c118_AW_1 := AW_117.out.at 1 (v := .slice p0 z0.q.length cap0) rfl
    have c119_vwB0_0 := vwB0_117.out.at 0 (v := .int .i64 ps0.x) rfl
    have c119_vwB0_1 := vwB0_117.out.at 1 (v := .slice a_w0 ps0.q.length c_w0) rfl
    have c120_gB0_0 := gB0_117.out.at 0 (v := .int .i64 ps0.x) rfl
    have c120_gB0_1 := gB0_117.out.at 1 (v := .slice a_g0 ps0.q.length c_g0) rfl
    have c121_hB0_0 := hB0_117.out.at 0 (v := .int .i64 ps0.x) rfl
    have c121_hB0_1 := hB0_117.out.at 1 (v := .slice a_h0 ps0.q.length c_h0) rfl
    clear HHi
    have hHi := heldS_own _ ps1.length km0 _ W116 g1_117.out (by omega) (by have := HL0.out; have := HL1.out; have := HN0.out; have := HKl0.out; have := HKl1.out; omega)
    rw [HKm1.out] at hHi
    have HHi := Lib.hid hHi
    clear hHi
    go_wp2_with fail
    refine (HHi.out).mono ?_
    rintro e W122 ⟨rfl, lg⟩
    have l122 := below_none lg
    clear lg
    clear c118_AW_0 c118_AW_1
    clear c119_vwB0_0 c119_vwB0_1
    clear c120_gB0_0 c120_gB0_1
    clear c121_hB0_0 c121_hB0_1
    have HB_123 := Lib.hid (HB_117.out.trans (l122.mono HB_117.out.size))
    have g0_123 := Lib.hid (ownz_below g0_117.out l122 (Nat.le_refl _))
    clear g0_117
    have g1_123 := Lib.hid (ownz_below g1_117.out l122 (Nat.le_refl _))
    clear g1_117
    have t_123 := Lib.hid (ownz_below t_117.out l122 (Nat.le_refl _))
    clear t_117
    have h0_123 := Lib.hid (ownz_below h0_117.out l122 (Nat.le_refl _))
    clear h0_117
    have h1_123 := Lib.hid (ownz_below h1_117.out l122 (Nat.le_refl _))
    clear h1_117
    have HV_123 := Lib.hid (HV_117.out.trans (l122.mono HV_117.out.size))
    clear HV_117
    have AW_123 := Lib.hid (AW_117.out.below l122 AW_117.out.lt)
    clear AW_117
    have vwB0_123 := Lib.hid (vwB0_117.out.below l122 vwB0_117.out.lt)
    clear vwB0_117
    have gB0_123 := Lib.hid (gB0_117.out.below l122 gB0_117.out.lt)
    clear gB0_117
    have hB0_123 := Lib.hid (hB0_117.out.below l122 hB0_117.out.lt)
    clear hB0_117
    clear l122
    have c124_AW_0 := AW_123.out.at 0 (v := .int .i64 z0.x) rfl
    have c124_AW_1 := AW_123.out.at 1 (v := .slice p0 z0.q.length cap0) rfl
    have c125_vwB0_0 := vwB0_123.out.at 0 (v := .int .i64 ps0.x) rfl
    have c125_vwB0_1 := vwB0_123.out.at 1 (v := .slice a_w0 ps0.q.length c_w0) rfl
    have c126_gB0_0 := gB0_123.out.at 0 (v := .int .i64 ps0.x) rfl
    have c126_gB0_1 := gB0_123.out.at 1 (v := .slice a_g0 ps0.q.length c_g0) rfl
    have c127_hB0_0 := hB0_123.out.at 0 (v := .int .i64 ps0.x) rfl
    have c127_hB0_1 := hB0_123.out.at 1 (v := .slice a_h0 ps0.q.length c_h0) rfl
    clear HHi
    go_wp2_with fail
    go_ret
    exact ⟨rfl, HB_123.out⟩
theorem fnExactTakeItem_walk (w : World) (a0_0 : Int) (w0_0 : (Lit.int .i64 a0_0).wf = true) (v0_1 : Value) (z0_1 : List Sl) (w0_1 : Row w v0_1 z0_1.length (slF z0_1)) (b0_1 : ∀ r ∈ z0_1, r.s.size ≤ maxLen) (a1 : Int) (w1 : (Lit.int .i64 a1).wf = true) (a2 : ByteArray) (w2 : a2.size ≤ maxLen) (_hsh : w.ShapedOpen Try.prog) :
    Calls Try.prog 5 #[.agg #[.int .i64 a0_0, v0_1], .int .i64 a1, .string a2] w fun e w' => e = .returned (.bool true) ∧ Below w.heap.size w w' :=
  fnExactTakeItem_wk v0_1 ⟨a0_0, z0_1⟩ w w0_1 b0_1 a1 w1 a2 w2
end Go.Proofs.Ytpmjdppipalfcaa
