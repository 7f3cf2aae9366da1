/-
  The exact law of ticks.
-/
import Derived.Test.YtlendmiolhgecaaSrc4
import Derived.Test.YtlendmiolhgecaaSrcI3
import Derived.Test.YtlendmiolhgecaaSrcS
import Derived.Test.YtlendmiolhgecaaHldW
import Derived.Test.YtlendmiolhgecaaTk1
import Derived.WalkLawsBesides
import Derived.Deep.RegionHeld3
import Derived.Deep.CutRange
namespace Go.Proofs.Ytlendmiolhgecaa
open Go.RowKit Go.Lib Go.Joins
set_option linter.unusedVariables false

theorem tickV_len (s : So) : (tickV s).w.q.length ≤ 1000 ∧ (tickV s).h.length ≤ 1000 := by
  unfold tickV
  by_cases h : tickOk s = true
  · rw [if_pos h]; have := soOk_len (tickW_ok h); omega
  · rw [if_neg h]; exact ⟨by decide, by decide⟩
theorem tickL_len (s : So) : (tickL s).length ≤ 1000 := by
  unfold tickL tickE
  split
  · split <;> simp
  · simp
set_option maxRecDepth 100000 in
set_option maxHeartbeats 16000000 in
theorem fnExactTickSource_wk (v0 x0 : Value) (z0 : So) (w : World) (w0 : Row w v0 z0.w.q.length (z0.w.q.map Value.string)) (u0 : Row w x0 z0.h.length (hdF z0.h)) (b0 : ∀ s ∈ z0.w.q, s.size ≤ maxLen) :
    Calls Try.prog 7 #[.agg #[.int .i64 z0.w.t, .int .i64 z0.w.z, v0, .int .i64 z0.c, .int .i64 z0.u, x0]] w fun e w' => e = .returned (.bool true) ∧ Below w.heap.size w w' := by
  obtain ⟨p0, cap0, rfl, hc10, hc20, -⟩ := row_open w0
  obtain ⟨p1, cap1, rfl, hc11, hc21, -⟩ := hd_open u0
  unfold maxLen at hc20 hc21
  have HR0 := Lib.hid w0
  have HR1 := Lib.hid u0
  have HSz := Lib.hid (fun (W : World) (hr : Row W (.slice p0 z0.w.q.length cap0) z0.w.q.length (z0.w.q.map Value.string)) (hh : Row W (.slice p1 z0.h.length cap1) z0.h.length (hdF z0.h)) => szSo_any (.slice p0 z0.w.q.length cap0) (.slice p1 z0.h.length cap1) z0 W hr hh b0 1048576 (by omega))
  have HSm := Lib.hid b0
  clear w0 u0 b0
  obtain ⟨W0, R_AW, hW0, hR_AW, hX_AW, hB0⟩ := entry1 w #[.int .i64 z0.w.t, .int .i64 z0.w.z, .slice p0 z0.w.q.length cap0, .int .i64 z0.c, .int .i64 z0.u, .slice p1 z0.h.length cap1] 59
  have HW0 := Lib.hid hW0
  have HB0 := Lib.hid hB0
  have HR_AW := Lib.hid hR_AW
  have HX_AW := Lib.hid hX_AW
  clear hW0 hB0 hR_AW hX_AW
  have c1_AW_0 := HX_AW.out.at 0 (v := .int .i64 z0.w.t) rfl
  have c1_AW_1 := HX_AW.out.at 1 (v := .int .i64 z0.w.z) rfl
  have c1_AW_2 := HX_AW.out.at 2 (v := .slice p0 z0.w.q.length cap0) rfl
  have c1_AW_3 := HX_AW.out.at 3 (v := .int .i64 z0.c) rfl
  have c1_AW_4 := HX_AW.out.at 4 (v := .int .i64 z0.u) rfl
  have c1_AW_5 := HX_AW.out.at 5 (v := .slice p1 z0.h.length cap1) rfl
  go_enter Try.func7, Try.ntmps7
  go_upto_region 1 with fail
  rw [← HW0.out, ← HR_AW.out]
  go_wp2_with fail
  refine (HSz.out _ (HR0.out.below HB0.out (Nat.le_refl _)) (HR1.out.below HB0.out (Nat.le_refl _))).mono ?_
  rintro e W2 ⟨l2, r0, rfl, hr1, hr0⟩
  clear c1_AW_0 c1_AW_1 c1_AW_2 c1_AW_3 c1_AW_4 c1_AW_5
  have HB_3 := Lib.hid (HB0.out.trans (l2.mono HB0.out.size))
  have AW_3 := Lib.hid (HX_AW.out.below l2 HX_AW.out.lt)
  clear l2
  have c4_AW_0 := AW_3.out.at 0 (v := .int .i64 z0.w.t) rfl
  have c4_AW_1 := AW_3.out.at 1 (v := .int .i64 z0.w.z) rfl
  have c4_AW_2 := AW_3.out.at 2 (v := .slice p0 z0.w.q.length cap0) rfl
  have c4_AW_3 := AW_3.out.at 3 (v := .int .i64 z0.c) rfl
  have c4_AW_4 := AW_3.out.at 4 (v := .int .i64 z0.u) rfl
  have c4_AW_5 := AW_3.out.at 5 (v := .slice p1 z0.h.length cap1) rfl
  by_cases hneg : r0 < 0
  · clear hr0
    go_wp2_with fail
    go_ret
    exact ⟨rfl, HB_3.out⟩
  obtain ⟨hm0, hmh, hr00⟩ := hr0.resolve_left hneg
  have HN0 := Lib.hid hm0
  have HN1 := Lib.hid hmh
  clear hr0 HSz
  have HSp := Lib.hid (fun (v x : Value) (W : World) (hr : Row W v z0.w.q.length (z0.w.q.map Value.string)) (hh : Row W x z0.h.length (hdF z0.h)) (hf : FitA v z0.w.q.length) (hfh : Fit x z0.h.length) => specTick_any v x z0 W hr hh HSm.out hf)
  have HIm := Lib.hid (fun (v x : Value) (W : World) (hr : Row W v z0.w.q.length (z0.w.q.map Value.string)) (hh : Row W x z0.h.length (hdF z0.h)) (hf : FitA v z0.w.q.length) (hfh : Fit x z0.h.length) => implTick_any v x z0 W hr hh HSm.out hf hfh)
  have hlen0 := tickV_len z0
  have hlen1 := tickL_len z0
  generalize tickV z0 = ps0 at HSp HIm hlen0
  have HL0 := Lib.hid hlen0
  clear hlen0
  generalize tickL z0 = ps1 at HSp HIm hlen1
  have HL1 := Lib.hid hlen1
  clear hlen1
  generalize tickOk z0 = r0_ at HSp HIm
  clear hm0 hmh
  obtain ⟨kx, hkx⟩ : ∃ kx : Nat, 1 + z0.w.q.length + 2 * z0.h.length = kx := ⟨_, rfl⟩
  have hkx0 : ¬ ((kx : Nat) : Int) < 0 := by omega
  have HKx := Lib.hid hkx
  clear hkx
  obtain ⟨km0, hkm0⟩ : ∃ km0 : Nat, 1 + ps0.w.q.length + 2 * ps0.h.length = km0 := ⟨_, rfl⟩
  have hkm00 : ¬ ((km0 : Nat) : Int) < 0 := by omega
  have hkm01 : 1 ≤ km0 := by omega
  have HKm0 := Lib.hid hkm0
  clear hkm0
  obtain ⟨km1, hkm1⟩ : ∃ km1 : Nat, km0 + 5 * ps1.length = km1 := ⟨_, rfl⟩
  have hkm10 : ¬ ((km1 : Nat) : Int) < 0 := by omega
  have hkm11 : 1 ≤ km1 := by omega
  have HKm1 := Lib.hid hkm1
  clear hkm1
  have HKl0 : Hid (km0 ≤ 50000000) := Lib.hid (by have := HL0.out; have := HKm0.out; omega)
  have HKl1 : Hid (km1 ≤ 50000000) := Lib.hid (by have := HL0.out; have := HKm0.out; have := HL1.out; have := HKm1.out; omega)
  go_wp2_with fail
  refine (toSo_lit _ _ z0 _ (HR0.out.below HB_3.out (Nat.le_refl _)) (HR1.out.below HB_3.out (Nat.le_refl _)) HN0.out HN1.out).mono ?_
  rintro e W5 ⟨x_s, y_s, rfl, o_s, o_sh, ne_s, l5⟩
  have O_s := Lib.hid (ownz_base o_s HB_3.out.size)
  have BX_AW_s : Hid (∀ k, (.slice (some ⟨x_s, 0, none⟩) z0.w.q.length z0.w.q.length : Value).ownBlock = some k → k ≠ R_AW) := Lib.hid (fun k h1 h2 => absurd AW_3.out.lt (Nat.not_lt.2 (by rw [← h2]; exact (o_s.lt k h1).1)))
  have O_sh := Lib.hid (ownz_base o_sh HB_3.out.size)
  have BX_AW_sh : Hid (∀ k, (.slice (some ⟨y_s, 0, none⟩) z0.h.length z0.h.length : Value).ownBlock = some k → k ≠ R_AW) := Lib.hid (fun k h1 h2 => absurd AW_3.out.lt (Nat.not_lt.2 (by rw [← h2]; exact (o_sh.lt k h1).1)))
  have AP_s_sh : Hid (∀ k, (.slice (some ⟨x_s, 0, none⟩) z0.w.q.length z0.w.q.length : Value).ownBlock = some k → (.slice (some ⟨y_s, 0, none⟩) z0.h.length z0.h.length : Value).ownBlock ≠ some k) := Lib.hid (fun k h1 h2 => ne_s ((Option.some.inj h1).trans (Option.some.inj h2).symm))
  clear o_s o_sh ne_s
  clear c4_AW_0 c4_AW_1 c4_AW_2 c4_AW_3 c4_AW_4 c4_AW_5
  have HB_6 := Lib.hid (HB_3.out.trans (l5.mono HB_3.out.size))
  have AW_6 := Lib.hid (AW_3.out.below l5 AW_3.out.lt)
  clear AW_3
  clear l5
  have c7_AW_0 := AW_6.out.at 0 (v := .int .i64 z0.w.t) rfl
  have c7_AW_1 := AW_6.out.at 1 (v := .int .i64 z0.w.z) rfl
  have c7_AW_2 := AW_6.out.at 2 (v := .slice p0 z0.w.q.length cap0) rfl
  have c7_AW_3 := AW_6.out.at 3 (v := .int .i64 z0.c) rfl
  have c7_AW_4 := AW_6.out.at 4 (v := .int .i64 z0.u) rfl
  have c7_AW_5 := AW_6.out.at 5 (v := .slice p1 z0.h.length cap1) rfl
  go_wp2_with fail
  refine (HSp.out _ _ _ (rowz_own O_s.out) (rowz_own O_sh.out) (.inr ⟨_, _, _, rfl⟩) (.inr ⟨_, _, rfl⟩)).mono ?_
  rintro e W8 ⟨v_w0, v_w0h, v_w1, rfl, o_w0, o_w0h, _, o_w1, _, _, l8⟩
  have rw_0 := rowz_own o_w0
  have r2_0 := rw_0
  obtain ⟨a_w0, c_w0, rfl, _⟩ := r2_0
  have RV0 := Lib.hid rw_0
  clear rw_0 o_w0
  have rw_0h := rowz_own o_w0h
  have r2_0h := rw_0h
  obtain ⟨a_w0h, c_w0h, rfl, _⟩ := r2_0h
  have RV0h := Lib.hid rw_0h
  clear rw_0h o_w0h
  have rw_1 := rowz_own o_w1
  have r2_1 := rw_1
  obtain ⟨a_w1, c_w1, rfl, _⟩ := r2_1
  have RV1 := Lib.hid rw_1
  clear rw_1 o_w1
  have HV0 := Lib.hid (Below.refl W8.heap.size W8)
  clear c7_AW_0 c7_AW_1 c7_AW_2 c7_AW_3 c7_AW_4 c7_AW_5
  have HB_9 := Lib.hid (HB_6.out.trans (l8.mono HB_6.out.size))
  have s_9 := Lib.hid (ownz_below O_s.out l8 (Nat.le_refl _))
  clear O_s
  have sh_9 := Lib.hid (ownz_below O_sh.out l8 (Nat.le_refl _))
  clear O_sh
  have AW_9 := Lib.hid (AW_6.out.below l8 AW_6.out.lt)
  clear AW_6
  clear l8
  have c10_AW_0 := AW_9.out.at 0 (v := .int .i64 z0.w.t) rfl
  have c10_AW_1 := AW_9.out.at 1 (v := .int .i64 z0.w.z) rfl
  have c10_AW_2 := AW_9.out.at 2 (v := .slice p0 z0.w.q.length cap0) rfl
  have c10_AW_3 := AW_9.out.at 3 (v := .int .i64 z0.c) rfl
  have c10_AW_4 := AW_9.out.at 4 (v := .int .i64 z0.u) rfl
  have c10_AW_5 := AW_9.out.at 5 (v := .slice p1 z0.h.length cap1) rfl
  clear s_9
  clear sh_9
  go_upto_region 6 with fail
  obtain ⟨W11, hW11⟩ : ∃ W11, W11 = W8.alloc (.cells #[.int .i64 ps0.w.t, .int .i64 ps0.w.z, .slice a_w0 ps0.w.q.length c_w0, .int .i64 ps0.c, .int .i64 ps0.u, .slice a_w0h ps0.h.length c_w0h] 29) := ⟨_, rfl⟩
  have l11 : Below W8.heap.size W8 W11 := by rw [hW11]; exact (Below.refl _ _).alloc (Nat.le_refl _) _
  have X11_vwB0 : Hid (Bx W11 W8.heap.size #[.int .i64 ps0.w.t, .int .i64 ps0.w.z, .slice a_w0 ps0.w.q.length c_w0, .int .i64 ps0.c, .int .i64 ps0.u, .slice a_w0h ps0.h.length c_w0h] 29) := Lib.hid (by rw [hW11]; exact Bx.new _ _ _)
  rw [← hW11]
  clear hW11
  have HG_vwB0 : Hid (w.heap.size ≤ W8.heap.size) := Lib.hid HB_9.out.size
  have HN_vwB0_AW : Hid (R_AW < W8.heap.size) := Lib.hid AW_9.out.lt
  obtain ⟨R_vwB0, hR_vwB0⟩ : ∃ X, X = W8.heap.size := ⟨_, rfl⟩
  rw [← hR_vwB0] at X11_vwB0 HG_vwB0 HN_vwB0_AW ⊢
  clear hR_vwB0
  clear c10_AW_0 c10_AW_1 c10_AW_2 c10_AW_3 c10_AW_4 c10_AW_5
  have HB_12 := Lib.hid (HB_9.out.trans (l11.mono HB_9.out.size))
  have HV_12 := Lib.hid (HV0.out.trans (l11.mono HV0.out.size))
  clear HV0
  have AW_12 := Lib.hid (AW_9.out.below l11 AW_9.out.lt)
  clear AW_9
  clear l11
  have c13_AW_0 := AW_12.out.at 0 (v := .int .i64 z0.w.t) rfl
  have c13_AW_1 := AW_12.out.at 1 (v := .int .i64 z0.w.z) rfl
  have c13_AW_2 := AW_12.out.at 2 (v := .slice p0 z0.w.q.length cap0) rfl
  have c13_AW_3 := AW_12.out.at 3 (v := .int .i64 z0.c) rfl
  have c13_AW_4 := AW_12.out.at 4 (v := .int .i64 z0.u) rfl
  have c13_AW_5 := AW_12.out.at 5 (v := .slice p1 z0.h.length cap1) rfl
  have c14_vwB0_0 := X11_vwB0.out.at 0 (v := .int .i64 ps0.w.t) rfl
  have c14_vwB0_1 := X11_vwB0.out.at 1 (v := .int .i64 ps0.w.z) rfl
  have c14_vwB0_2 := X11_vwB0.out.at 2 (v := .slice a_w0 ps0.w.q.length c_w0) rfl
  have c14_vwB0_3 := X11_vwB0.out.at 3 (v := .int .i64 ps0.c) rfl
  have c14_vwB0_4 := X11_vwB0.out.at 4 (v := .int .i64 ps0.u) rfl
  have c14_vwB0_5 := X11_vwB0.out.at 5 (v := .slice a_w0h ps0.h.length c_w0h) rfl
  go_wp2_with fail
  refine (toSo_lit _ _ z0 _ (HR0.out.below HB_12.out (Nat.le_refl _)) (HR1.out.below HB_12.out (Nat.le_refl _)) HN0.out HN1.out).mono ?_
  rintro e W15 ⟨x_x, y_x, rfl, o_x, o_xh, ne_x, l15⟩
  have BV_HV_x : Hid (∀ k, (.slice (some ⟨x_x, 0, none⟩) z0.w.q.length z0.w.q.length : Value).ownBlock = some k → W8.heap.size ≤ k) := Lib.hid (fun k h => Nat.le_trans HV_12.out.size (o_x.lt k h).1)
  have O_x := Lib.hid (ownz_base o_x HB_12.out.size)
  have BX_AW_x : Hid (∀ k, (.slice (some ⟨x_x, 0, none⟩) z0.w.q.length z0.w.q.length : Value).ownBlock = some k → k ≠ R_AW) := Lib.hid (fun k h1 h2 => absurd AW_12.out.lt (Nat.not_lt.2 (by rw [← h2]; exact (o_x.lt k h1).1)))
  have BX_vwB0_x : Hid (∀ k, (.slice (some ⟨x_x, 0, none⟩) z0.w.q.length z0.w.q.length : Value).ownBlock = some k → k ≠ R_vwB0) := Lib.hid (fun k h1 h2 => absurd X11_vwB0.out.lt (Nat.not_lt.2 (by rw [← h2]; exact (o_x.lt k h1).1)))
  have BV_HV_xh : Hid (∀ k, (.slice (some ⟨y_x, 0, none⟩) z0.h.length z0.h.length : Value).ownBlock = some k → W8.heap.size ≤ k) := Lib.hid (fun k h => Nat.le_trans HV_12.out.size (o_xh.lt k h).1)
  have O_xh := Lib.hid (ownz_base o_xh HB_12.out.size)
  have BX_AW_xh : Hid (∀ k, (.slice (some ⟨y_x, 0, none⟩) z0.h.length z0.h.length : Value).ownBlock = some k → k ≠ R_AW) := Lib.hid (fun k h1 h2 => absurd AW_12.out.lt (Nat.not_lt.2 (by rw [← h2]; exact (o_xh.lt k h1).1)))
  have BX_vwB0_xh : Hid (∀ k, (.slice (some ⟨y_x, 0, none⟩) z0.h.length z0.h.length : Value).ownBlock = some k → k ≠ R_vwB0) := Lib.hid (fun k h1 h2 => absurd X11_vwB0.out.lt (Nat.not_lt.2 (by rw [← h2]; exact (o_xh.lt k h1).1)))
  have AP_x_xh : Hid (∀ k, (.slice (some ⟨x_x, 0, none⟩) z0.w.q.length z0.w.q.length : Value).ownBlock = some k → (.slice (some ⟨y_x, 0, none⟩) z0.h.length z0.h.length : Value).ownBlock ≠ some k) := Lib.hid (fun k h1 h2 => ne_x ((Option.some.inj h1).trans (Option.some.inj h2).symm))
  clear o_x o_xh ne_x
  clear c13_AW_0 c13_AW_1 c13_AW_2 c13_AW_3 c13_AW_4 c13_AW_5
  clear c14_vwB0_0 c14_vwB0_1 c14_vwB0_2 c14_vwB0_3 c14_vwB0_4 c14_vwB0_5
  have HB_16 := Lib.hid (HB_12.out.trans (l15.mono HB_12.out.size))
  have HV_16 := Lib.hid (HV_12.out.trans (l15.mono HV_12.out.size))
  clear HV_12
  have AW_16 := Lib.hid (AW_12.out.below l15 AW_12.out.lt)
  clear AW_12
  have vwB0_16 := Lib.hid (X11_vwB0.out.below l15 X11_vwB0.out.lt)
  clear X11_vwB0
  clear l15
  have c17_AW_0 := AW_16.out.at 0 (v := .int .i64 z0.w.t) rfl
  have c17_AW_1 := AW_16.out.at 1 (v := .int .i64 z0.w.z) rfl
  have c17_AW_2 := AW_16.out.at 2 (v := .slice p0 z0.w.q.length cap0) rfl
  have c17_AW_3 := AW_16.out.at 3 (v := .int .i64 z0.c) rfl
  have c17_AW_4 := AW_16.out.at 4 (v := .int .i64 z0.u) rfl
  have c17_AW_5 := AW_16.out.at 5 (v := .slice p1 z0.h.length cap1) rfl
  have c18_vwB0_0 := vwB0_16.out.at 0 (v := .int .i64 ps0.w.t) rfl
  have c18_vwB0_1 := vwB0_16.out.at 1 (v := .int .i64 ps0.w.z) rfl
  have c18_vwB0_2 := vwB0_16.out.at 2 (v := .slice a_w0 ps0.w.q.length c_w0) rfl
  have c18_vwB0_3 := vwB0_16.out.at 3 (v := .int .i64 ps0.c) rfl
  have c18_vwB0_4 := vwB0_16.out.at 4 (v := .int .i64 ps0.u) rfl
  have c18_vwB0_5 := vwB0_16.out.at 5 (v := .slice a_w0h ps0.h.length c_w0h) rfl
  go_upto_region 7 with fail
  obtain ⟨W19, hW19⟩ : ∃ W19, W19 = W15.alloc (.cells #[.int .i64 z0.w.t, .int .i64 z0.w.z, .slice (some ⟨x_x, 0, none⟩) z0.w.q.length z0.w.q.length, .int .i64 z0.c, .int .i64 z0.u, .slice (some ⟨y_x, 0, none⟩) z0.h.length z0.h.length] 29) := ⟨_, rfl⟩
  have l19 : Below W15.heap.size W15 W19 := by rw [hW19]; exact (Below.refl _ _).alloc (Nat.le_refl _) _
  have X19_X : Hid (Bx W19 W15.heap.size #[.int .i64 z0.w.t, .int .i64 z0.w.z, .slice (some ⟨x_x, 0, none⟩) z0.w.q.length z0.w.q.length, .int .i64 z0.c, .int .i64 z0.u, .slice (some ⟨y_x, 0, none⟩) z0.h.length z0.h.length] 29) := Lib.hid (by rw [hW19]; exact Bx.new _ _ _)
  rw [← hW19]
  clear hW19
  have BX_X_x : Hid (∀ k, (.slice (some ⟨x_x, 0, none⟩) z0.w.q.length z0.w.q.length : Value).ownBlock = some k → k ≠ W15.heap.size) := Lib.hid (fun k h1 h2 => absurd (O_x.out.lt k h1).2 (by omega))
  have BX_X_xh : Hid (∀ k, (.slice (some ⟨y_x, 0, none⟩) z0.h.length z0.h.length : Value).ownBlock = some k → k ≠ W15.heap.size) := Lib.hid (fun k h1 h2 => absurd (O_xh.out.lt k h1).2 (by omega))
  have HG_X : Hid (w.heap.size ≤ W15.heap.size) := Lib.hid HB_16.out.size
  have HN_X_AW : Hid (R_AW < W15.heap.size) := Lib.hid AW_16.out.lt
  have HN_X_vwB0 : Hid (R_vwB0 < W15.heap.size) := Lib.hid vwB0_16.out.lt
  obtain ⟨R_X, hR_X⟩ : ∃ X, X = W15.heap.size := ⟨_, rfl⟩
  rw [← hR_X] at X19_X HG_X BX_X_x BX_X_xh HN_X_AW HN_X_vwB0 ⊢
  clear hR_X
  clear c17_AW_0 c17_AW_1 c17_AW_2 c17_AW_3 c17_AW_4 c17_AW_5
  clear c18_vwB0_0 c18_vwB0_1 c18_vwB0_2 c18_vwB0_3 c18_vwB0_4 c18_vwB0_5
  have HB_20 := Lib.hid (HB_16.out.trans (l19.mono HB_16.out.size))
  have x_20 := Lib.hid (ownz_below O_x.out l19 (Nat.le_refl _))
  clear O_x
  have xh_20 := Lib.hid (ownz_below O_xh.out l19 (Nat.le_refl _))
  clear O_xh
  have HV_20 := Lib.hid (HV_16.out.trans (l19.mono HV_16.out.size))
  clear HV_16
  have AW_20 := Lib.hid (AW_16.out.below l19 AW_16.out.lt)
  clear AW_16
  have vwB0_20 := Lib.hid (vwB0_16.out.below l19 vwB0_16.out.lt)
  clear vwB0_16
  clear l19
  have c21_AW_0 := AW_20.out.at 0 (v := .int .i64 z0.w.t) rfl
  have c21_AW_1 := AW_20.out.at 1 (v := .int .i64 z0.w.z) rfl
  have c21_AW_2 := AW_20.out.at 2 (v := .slice p0 z0.w.q.length cap0) rfl
  have c21_AW_3 := AW_20.out.at 3 (v := .int .i64 z0.c) rfl
  have c21_AW_4 := AW_20.out.at 4 (v := .int .i64 z0.u) rfl
  have c21_AW_5 := AW_20.out.at 5 (v := .slice p1 z0.h.length cap1) rfl
  have c22_vwB0_0 := vwB0_20.out.at 0 (v := .int .i64 ps0.w.t) rfl
  have c22_vwB0_1 := vwB0_20.out.at 1 (v := .int .i64 ps0.w.z) rfl
  have c22_vwB0_2 := vwB0_20.out.at 2 (v := .slice a_w0 ps0.w.q.length c_w0) rfl
  have c22_vwB0_3 := vwB0_20.out.at 3 (v := .int .i64 ps0.c) rfl
  have c22_vwB0_4 := vwB0_20.out.at 4 (v := .int .i64 ps0.u) rfl
  have c22_vwB0_5 := vwB0_20.out.at 5 (v := .slice a_w0h ps0.h.length c_w0h) rfl
  have c23_X_0 := X19_X.out.at 0 (v := .int .i64 z0.w.t) rfl
  have c23_X_1 := X19_X.out.at 1 (v := .int .i64 z0.w.z) rfl
  have c23_X_2 := X19_X.out.at 2 (v := .slice (some ⟨x_x, 0, none⟩) z0.w.q.length z0.w.q.length) rfl
  have c23_X_3 := X19_X.out.at 3 (v := .int .i64 z0.c) rfl
  have c23_X_4 := X19_X.out.at 4 (v := .int .i64 z0.u) rfl
  have c23_X_5 := X19_X.out.at 5 (v := .slice (some ⟨y_x, 0, none⟩) z0.h.length z0.h.length) rfl
  go_wp2_with fail
  refine (HIm.out _ _ _ (rowz_own x_20.out) (rowz_own xh_20.out) (.inr ⟨_, _, _, rfl⟩) (.inr ⟨_, _, rfl⟩)).mono ?_
  rintro e W24 ⟨v_g0, v_g0h, v_g1, rfl, o_g0, o_g0h, ap_g0_g0h, o_g1, ap_g0_g1, ap_g0h_g1, l24⟩
  obtain ⟨a_g0, c_g0, rfl, _, _⟩ := ownz_slice o_g0
  have AP_x_g0 : Hid (∀ k, (.slice (some ⟨x_x, 0, none⟩) z0.w.q.length z0.w.q.length : Value).ownBlock = some k → (.slice a_g0 ps0.w.q.length c_g0 : Value).ownBlock ≠ some k) := Lib.hid (fun k h1 h2 => absurd (x_20.out.lt k h1).2 (Nat.not_lt.2 (o_g0.lt k h2).1))
  have AP_xh_g0 : Hid (∀ k, (.slice (some ⟨y_x, 0, none⟩) z0.h.length z0.h.length : Value).ownBlock = some k → (.slice a_g0 ps0.w.q.length c_g0 : Value).ownBlock ≠ some k) := Lib.hid (fun k h1 h2 => absurd (xh_20.out.lt k h1).2 (Nat.not_lt.2 (o_g0.lt k h2).1))
  have BV_HV_g0 : Hid (∀ k, (.slice a_g0 ps0.w.q.length c_g0 : Value).ownBlock = some k → W8.heap.size ≤ k) := Lib.hid (fun k h => Nat.le_trans HV_20.out.size (o_g0.lt k h).1)
  have O_g0 := Lib.hid (ownz_base o_g0 HB_20.out.size)
  have BX_AW_g0 : Hid (∀ k, (.slice a_g0 ps0.w.q.length c_g0 : Value).ownBlock = some k → k ≠ R_AW) := Lib.hid (fun k h1 h2 => absurd AW_20.out.lt (Nat.not_lt.2 (by rw [← h2]; exact (o_g0.lt k h1).1)))
  have BX_vwB0_g0 : Hid (∀ k, (.slice a_g0 ps0.w.q.length c_g0 : Value).ownBlock = some k → k ≠ R_vwB0) := Lib.hid (fun k h1 h2 => absurd vwB0_20.out.lt (Nat.not_lt.2 (by rw [← h2]; exact (o_g0.lt k h1).1)))
  have BX_X_g0 : Hid (∀ k, (.slice a_g0 ps0.w.q.length c_g0 : Value).ownBlock = some k → k ≠ R_X) := Lib.hid (fun k h1 h2 => absurd X19_X.out.lt (Nat.not_lt.2 (by rw [← h2]; exact (o_g0.lt k h1).1)))
  clear o_g0
  obtain ⟨a_g0h, c_g0h, rfl, _, _⟩ := ownz_slice o_g0h
  have AP_x_g0h : Hid (∀ k, (.slice (some ⟨x_x, 0, none⟩) z0.w.q.length z0.w.q.length : Value).ownBlock = some k → (.slice a_g0h ps0.h.length c_g0h : Value).ownBlock ≠ some k) := Lib.hid (fun k h1 h2 => absurd (x_20.out.lt k h1).2 (Nat.not_lt.2 (o_g0h.lt k h2).1))
  have AP_xh_g0h : Hid (∀ k, (.slice (some ⟨y_x, 0, none⟩) z0.h.length z0.h.length : Value).ownBlock = some k → (.slice a_g0h ps0.h.length c_g0h : Value).ownBlock ≠ some k) := Lib.hid (fun k h1 h2 => absurd (xh_20.out.lt k h1).2 (Nat.not_lt.2 (o_g0h.lt k h2).1))
  have BV_HV_g0h : Hid (∀ k, (.slice a_g0h ps0.h.length c_g0h : Value).ownBlock = some k → W8.heap.size ≤ k) := Lib.hid (fun k h => Nat.le_trans HV_20.out.size (o_g0h.lt k h).1)
  have O_g0h := Lib.hid (ownz_base o_g0h HB_20.out.size)
  have BX_AW_g0h : Hid (∀ k, (.slice a_g0h ps0.h.length c_g0h : Value).ownBlock = some k → k ≠ R_AW) := Lib.hid (fun k h1 h2 => absurd AW_20.out.lt (Nat.not_lt.2 (by rw [← h2]; exact (o_g0h.lt k h1).1)))
  have BX_vwB0_g0h : Hid (∀ k, (.slice a_g0h ps0.h.length c_g0h : Value).ownBlock = some k → k ≠ R_vwB0) := Lib.hid (fun k h1 h2 => absurd vwB0_20.out.lt (Nat.not_lt.2 (by rw [← h2]; exact (o_g0h.lt k h1).1)))
  have BX_X_g0h : Hid (∀ k, (.slice a_g0h ps0.h.length c_g0h : Value).ownBlock = some k → k ≠ R_X) := Lib.hid (fun k h1 h2 => absurd X19_X.out.lt (Nat.not_lt.2 (by rw [← h2]; exact (o_g0h.lt k h1).1)))
  clear o_g0h
  obtain ⟨a_g1, c_g1, rfl, _, _⟩ := ownz_slice o_g1
  have AP_x_g1 : Hid (∀ k, (.slice (some ⟨x_x, 0, none⟩) z0.w.q.length z0.w.q.length : Value).ownBlock = some k → (.slice a_g1 ps1.length c_g1 : Value).ownBlock ≠ some k) := Lib.hid (fun k h1 h2 => absurd (x_20.out.lt k h1).2 (Nat.not_lt.2 (o_g1.lt k h2).1))
  have AP_xh_g1 : Hid (∀ k, (.slice (some ⟨y_x, 0, none⟩) z0.h.length z0.h.length : Value).ownBlock = some k → (.slice a_g1 ps1.length c_g1 : Value).ownBlock ≠ some k) := Lib.hid (fun k h1 h2 => absurd (xh_20.out.lt k h1).2 (Nat.not_lt.2 (o_g1.lt k h2).1))
  have BV_HV_g1 : Hid (∀ k, (.slice a_g1 ps1.length c_g1 : Value).ownBlock = some k → W8.heap.size ≤ k) := Lib.hid (fun k h => Nat.le_trans HV_20.out.size (o_g1.lt k h).1)
  have O_g1 := Lib.hid (ownz_base o_g1 HB_20.out.size)
  have BX_AW_g1 : Hid (∀ k, (.slice a_g1 ps1.length c_g1 : Value).ownBlock = some k → k ≠ R_AW) := Lib.hid (fun k h1 h2 => absurd AW_20.out.lt (Nat.not_lt.2 (by rw [← h2]; exact (o_g1.lt k h1).1)))
  have BX_vwB0_g1 : Hid (∀ k, (.slice a_g1 ps1.length c_g1 : Value).ownBlock = some k → k ≠ R_vwB0) := Lib.hid (fun k h1 h2 => absurd vwB0_20.out.lt (Nat.not_lt.2 (by rw [← h2]; exact (o_g1.lt k h1).1)))
  have BX_X_g1 : Hid (∀ k, (.slice a_g1 ps1.length c_g1 : Value).ownBlock = some k → k ≠ R_X) := Lib.hid (fun k h1 h2 => absurd X19_X.out.lt (Nat.not_lt.2 (by rw [← h2]; exact (o_g1.lt k h1).1)))
  clear o_g1
  have AP_g0_g0h := Lib.hid ap_g0_g0h
  clear ap_g0_g0h
  have AP_g0_g1 := Lib.hid ap_g0_g1
  clear ap_g0_g1
  have AP_g0h_g1 := Lib.hid ap_g0h_g1
  clear ap_g0h_g1
  clear c21_AW_0 c21_AW_1 c21_AW_2 c21_AW_3 c21_AW_4 c21_AW_5
  clear c22_vwB0_0 c22_vwB0_1 c22_vwB0_2 c22_vwB0_3 c22_vwB0_4 c22_vwB0_5
  clear c23_X_0 c23_X_1 c23_X_2 c23_X_3 c23_X_4 c23_X_5
  have HB_25 := Lib.hid (HB_20.out.trans (l24.mono HB_20.out.size))
  have x_25 := Lib.hid (ownz_below x_20.out l24 (Nat.le_refl _))
  clear x_20
  have xh_25 := Lib.hid (ownz_below xh_20.out l24 (Nat.le_refl _))
  clear xh_20
  have HV_25 := Lib.hid (HV_20.out.trans (l24.mono HV_20.out.size))
  clear HV_20
  have AW_25 := Lib.hid (AW_20.out.below l24 AW_20.out.lt)
  clear AW_20
  have vwB0_25 := Lib.hid (vwB0_20.out.below l24 vwB0_20.out.lt)
  clear vwB0_20
  have X_25 := Lib.hid (X19_X.out.below l24 X19_X.out.lt)
  clear X19_X
  clear l24
  have c26_AW_0 := AW_25.out.at 0 (v := .int .i64 z0.w.t) rfl
  have c26_AW_1 := AW_25.out.at 1 (v := .int .i64 z0.w.z) rfl
  have c26_AW_2 := AW_25.out.at 2 (v := .slice p0 z0.w.q.length cap0) rfl
  have c26_AW_3 := AW_25.out.at 3 (v := .int .i64 z0.c) rfl
  have c26_AW_4 := AW_25.out.at 4 (v := .int .i64 z0.u) rfl
  have c26_AW_5 := AW_25.out.at 5 (v := .slice p1 z0.h.length cap1) rfl
  have c27_vwB0_0 := vwB0_25.out.at 0 (v := .int .i64 ps0.w.t) rfl
  have c27_vwB0_1 := vwB0_25.out.at 1 (v := .int .i64 ps0.w.z) rfl
  have c27_vwB0_2 := vwB0_25.out.at 2 (v := .slice a_w0 ps0.w.q.length c_w0) rfl
  have c27_vwB0_3 := vwB0_25.out.at 3 (v := .int .i64 ps0.c) rfl
  have c27_vwB0_4 := vwB0_25.out.at 4 (v := .int .i64 ps0.u) rfl
  have c27_vwB0_5 := vwB0_25.out.at 5 (v := .slice a_w0h ps0.h.length c_w0h) rfl
  have c28_X_0 := X_25.out.at 0 (v := .int .i64 z0.w.t) rfl
  have c28_X_1 := X_25.out.at 1 (v := .int .i64 z0.w.z) rfl
  have c28_X_2 := X_25.out.at 2 (v := .slice (some ⟨x_x, 0, none⟩) z0.w.q.length z0.w.q.length) rfl
  have c28_X_3 := X_25.out.at 3 (v := .int .i64 z0.c) rfl
  have c28_X_4 := X_25.out.at 4 (v := .int .i64 z0.u) rfl
  have c28_X_5 := X_25.out.at 5 (v := .slice (some ⟨y_x, 0, none⟩) z0.h.length z0.h.length) rfl
  go_upto_region 8 with fail
  obtain ⟨W29, hW29⟩ : ∃ W29, W29 = W24.alloc (.cells #[.int .i64 ps0.w.t, .int .i64 ps0.w.z, .slice a_g0 ps0.w.q.length c_g0, .int .i64 ps0.c, .int .i64 ps0.u, .slice a_g0h ps0.h.length c_g0h] 29) := ⟨_, rfl⟩
  have l29 : Below W24.heap.size W24 W29 := by rw [hW29]; exact (Below.refl _ _).alloc (Nat.le_refl _) _
  have X29_gB0 : Hid (Bx W29 W24.heap.size #[.int .i64 ps0.w.t, .int .i64 ps0.w.z, .slice a_g0 ps0.w.q.length c_g0, .int .i64 ps0.c, .int .i64 ps0.u, .slice a_g0h ps0.h.length c_g0h] 29) := Lib.hid (by rw [hW29]; exact Bx.new _ _ _)
  rw [← hW29]
  clear hW29
  have BX_gB0_x : Hid (∀ k, (.slice (some ⟨x_x, 0, none⟩) z0.w.q.length z0.w.q.length : Value).ownBlock = some k → k ≠ W24.heap.size) := Lib.hid (fun k h1 h2 => absurd (x_25.out.lt k h1).2 (by omega))
  have BX_gB0_xh : Hid (∀ k, (.slice (some ⟨y_x, 0, none⟩) z0.h.length z0.h.length : Value).ownBlock = some k → k ≠ W24.heap.size) := Lib.hid (fun k h1 h2 => absurd (xh_25.out.lt k h1).2 (by omega))
  have BX_gB0_g0 : Hid (∀ k, (.slice a_g0 ps0.w.q.length c_g0 : Value).ownBlock = some k → k ≠ W24.heap.size) := Lib.hid (fun k h1 h2 => absurd (O_g0.out.lt k h1).2 (by omega))
  have BX_gB0_g0h : Hid (∀ k, (.slice a_g0h ps0.h.length c_g0h : Value).ownBlock = some k → k ≠ W24.heap.size) := Lib.hid (fun k h1 h2 => absurd (O_g0h.out.lt k h1).2 (by omega))
  have BX_gB0_g1 : Hid (∀ k, (.slice a_g1 ps1.length c_g1 : Value).ownBlock = some k → k ≠ W24.heap.size) := Lib.hid (fun k h1 h2 => absurd (O_g1.out.lt k h1).2 (by omega))
  have HG_gB0 : Hid (w.heap.size ≤ W24.heap.size) := Lib.hid HB_25.out.size
  have HN_gB0_AW : Hid (R_AW < W24.heap.size) := Lib.hid AW_25.out.lt
  have HN_gB0_vwB0 : Hid (R_vwB0 < W24.heap.size) := Lib.hid vwB0_25.out.lt
  have HN_gB0_X : Hid (R_X < W24.heap.size) := Lib.hid X_25.out.lt
  obtain ⟨R_gB0, hR_gB0⟩ : ∃ X, X = W24.heap.size := ⟨_, rfl⟩
  rw [← hR_gB0] at X29_gB0 HG_gB0 BX_gB0_x BX_gB0_xh BX_gB0_g0 BX_gB0_g0h BX_gB0_g1 HN_gB0_AW HN_gB0_vwB0 HN_gB0_X ⊢
  clear hR_gB0
  clear c26_AW_0 c26_AW_1 c26_AW_2 c26_AW_3 c26_AW_4 c26_AW_5
  clear c27_vwB0_0 c27_vwB0_1 c27_vwB0_2 c27_vwB0_3 c27_vwB0_4 c27_vwB0_5
  clear c28_X_0 c28_X_1 c28_X_2 c28_X_3 c28_X_4 c28_X_5
  have HB_30 := Lib.hid (HB_25.out.trans (l29.mono HB_25.out.size))
  have x_30 := Lib.hid (ownz_below x_25.out l29 (Nat.le_refl _))
  clear x_25
  have xh_30 := Lib.hid (ownz_below xh_25.out l29 (Nat.le_refl _))
  clear xh_25
  have g0_30 := Lib.hid (ownz_below O_g0.out l29 (Nat.le_refl _))
  clear O_g0
  have g0h_30 := Lib.hid (ownz_below O_g0h.out l29 (Nat.le_refl _))
  clear O_g0h
  have g1_30 := Lib.hid (ownz_below O_g1.out l29 (Nat.le_refl _))
  clear O_g1
  have HV_30 := Lib.hid (HV_25.out.trans (l29.mono HV_25.out.size))
  clear HV_25
  have AW_30 := Lib.hid (AW_25.out.below l29 AW_25.out.lt)
  clear AW_25
  have vwB0_30 := Lib.hid (vwB0_25.out.below l29 vwB0_25.out.lt)
  clear vwB0_25
  have X_30 := Lib.hid (X_25.out.below l29 X_25.out.lt)
  clear X_25
  clear l29
  have c31_AW_0 := AW_30.out.at 0 (v := .int .i64 z0.w.t) rfl
  have c31_AW_1 := AW_30.out.at 1 (v := .int .i64 z0.w.z) rfl
  have c31_AW_2 := AW_30.out.at 2 (v := .slice p0 z0.w.q.length cap0) rfl
  have c31_AW_3 := AW_30.out.at 3 (v := .int .i64 z0.c) rfl
  have c31_AW_4 := AW_30.out.at 4 (v := .int .i64 z0.u) rfl
  have c31_AW_5 := AW_30.out.at 5 (v := .slice p1 z0.h.length cap1) rfl
  have c32_vwB0_0 := vwB0_30.out.at 0 (v := .int .i64 ps0.w.t) rfl
  have c32_vwB0_1 := vwB0_30.out.at 1 (v := .int .i64 ps0.w.z) rfl
  have c32_vwB0_2 := vwB0_30.out.at 2 (v := .slice a_w0 ps0.w.q.length c_w0) rfl
  have c32_vwB0_3 := vwB0_30.out.at 3 (v := .int .i64 ps0.c) rfl
  have c32_vwB0_4 := vwB0_30.out.at 4 (v := .int .i64 ps0.u) rfl
  have c32_vwB0_5 := vwB0_30.out.at 5 (v := .slice a_w0h ps0.h.length c_w0h) rfl
  have c33_X_0 := X_30.out.at 0 (v := .int .i64 z0.w.t) rfl
  have c33_X_1 := X_30.out.at 1 (v := .int .i64 z0.w.z) rfl
  have c33_X_2 := X_30.out.at 2 (v := .slice (some ⟨x_x, 0, none⟩) z0.w.q.length z0.w.q.length) rfl
  have c33_X_3 := X_30.out.at 3 (v := .int .i64 z0.c) rfl
  have c33_X_4 := X_30.out.at 4 (v := .int .i64 z0.u) rfl
  have c33_X_5 := X_30.out.at 5 (v := .slice (some ⟨y_x, 0, none⟩) z0.h.length z0.h.length) rfl
  have c34_gB0_0 := X29_gB0.out.at 0 (v := .int .i64 ps0.w.t) rfl
  have c34_gB0_1 := X29_gB0.out.at 1 (v := .int .i64 ps0.w.z) rfl
  have c34_gB0_2 := X29_gB0.out.at 2 (v := .slice a_g0 ps0.w.q.length c_g0) rfl
  have c34_gB0_3 := X29_gB0.out.at 3 (v := .int .i64 ps0.c) rfl
  have c34_gB0_4 := X29_gB0.out.at 4 (v := .int .i64 ps0.u) rfl
  have c34_gB0_5 := X29_gB0.out.at 5 (v := .slice a_g0h ps0.h.length c_g0h) rfl
  go_wp2_with fail
  refine (eqSo_same _ _ _ _ ps0 _ (rowz_own g0_30.out) (rowz_own g0h_30.out) (RV0.out.below HV_30.out (Nat.le_refl _)) (RV0h.out.below HV_30.out (Nat.le_refl _))).mono ?_
  rintro e W35 ⟨rfl, l35⟩
  clear c31_AW_0 c31_AW_1 c31_AW_2 c31_AW_3 c31_AW_4 c31_AW_5
  clear c32_vwB0_0 c32_vwB0_1 c32_vwB0_2 c32_vwB0_3 c32_vwB0_4 c32_vwB0_5
  clear c33_X_0 c33_X_1 c33_X_2 c33_X_3 c33_X_4 c33_X_5
  clear c34_gB0_0 c34_gB0_1 c34_gB0_2 c34_gB0_3 c34_gB0_4 c34_gB0_5
  have HB_36 := Lib.hid (HB_30.out.trans (l35.mono HB_30.out.size))
  have x_36 := Lib.hid (ownz_below x_30.out l35 (Nat.le_refl _))
  clear x_30
  have xh_36 := Lib.hid (ownz_below xh_30.out l35 (Nat.le_refl _))
  clear xh_30
  have g0_36 := Lib.hid (ownz_below g0_30.out l35 (Nat.le_refl _))
  clear g0_30
  have g0h_36 := Lib.hid (ownz_below g0h_30.out l35 (Nat.le_refl _))
  clear g0h_30
  have g1_36 := Lib.hid (ownz_below g1_30.out l35 (Nat.le_refl _))
  clear g1_30
  have HV_36 := Lib.hid (HV_30.out.trans (l35.mono HV_30.out.size))
  clear HV_30
  have AW_36 := Lib.hid (AW_30.out.below l35 AW_30.out.lt)
  clear AW_30
  have vwB0_36 := Lib.hid (vwB0_30.out.below l35 vwB0_30.out.lt)
  clear vwB0_30
  have X_36 := Lib.hid (X_30.out.below l35 X_30.out.lt)
  clear X_30
  have gB0_36 := Lib.hid (X29_gB0.out.below l35 X29_gB0.out.lt)
  clear X29_gB0
  clear l35
  have c37_AW_0 := AW_36.out.at 0 (v := .int .i64 z0.w.t) rfl
  have c37_AW_1 := AW_36.out.at 1 (v := .int .i64 z0.w.z) rfl
  have c37_AW_2 := AW_36.out.at 2 (v := .slice p0 z0.w.q.length cap0) rfl
  have c37_AW_3 := AW_36.out.at 3 (v := .int .i64 z0.c) rfl
  have c37_AW_4 := AW_36.out.at 4 (v := .int .i64 z0.u) rfl
  have c37_AW_5 := AW_36.out.at 5 (v := .slice p1 z0.h.length cap1) rfl
  have c38_vwB0_0 := vwB0_36.out.at 0 (v := .int .i64 ps0.w.t) rfl
  have c38_vwB0_1 := vwB0_36.out.at 1 (v := .int .i64 ps0.w.z) rfl
  have c38_vwB0_2 := vwB0_36.out.at 2 (v := .slice a_w0 ps0.w.q.length c_w0) rfl
  have c38_vwB0_3 := vwB0_36.out.at 3 (v := .int .i64 ps0.c) rfl
  have c38_vwB0_4 := vwB0_36.out.at 4 (v := .int .i64 ps0.u) rfl
  have c38_vwB0_5 := vwB0_36.out.at 5 (v := .slice a_w0h ps0.h.length c_w0h) rfl
  have c39_X_0 := X_36.out.at 0 (v := .int .i64 z0.w.t) rfl
  have c39_X_1 := X_36.out.at 1 (v := .int .i64 z0.w.z) rfl
  have c39_X_2 := X_36.out.at 2 (v := .slice (some ⟨x_x, 0, none⟩) z0.w.q.length z0.w.q.length) rfl
  have c39_X_3 := X_36.out.at 3 (v := .int .i64 z0.c) rfl
  have c39_X_4 := X_36.out.at 4 (v := .int .i64 z0.u) rfl
  have c39_X_5 := X_36.out.at 5 (v := .slice (some ⟨y_x, 0, none⟩) z0.h.length z0.h.length) rfl
  have c40_gB0_0 := gB0_36.out.at 0 (v := .int .i64 ps0.w.t) rfl
  have c40_gB0_1 := gB0_36.out.at 1 (v := .int .i64 ps0.w.z) rfl
  have c40_gB0_2 := gB0_36.out.at 2 (v := .slice a_g0 ps0.w.q.length c_g0) rfl
  have c40_gB0_3 := gB0_36.out.at 3 (v := .int .i64 ps0.c) rfl
  have c40_gB0_4 := gB0_36.out.at 4 (v := .int .i64 ps0.u) rfl
  have c40_gB0_5 := gB0_36.out.at 5 (v := .slice a_g0h ps0.h.length c_g0h) rfl
  go_wp2_with fail
  refine (eqPqS_same _ _ ps1 _ (rowz_own g1_36.out) (RV1.out.below HV_36.out (Nat.le_refl _))).mono ?_
  rintro e W41 ⟨rfl, l41⟩
  clear c37_AW_0 c37_AW_1 c37_AW_2 c37_AW_3 c37_AW_4 c37_AW_5
  clear c38_vwB0_0 c38_vwB0_1 c38_vwB0_2 c38_vwB0_3 c38_vwB0_4 c38_vwB0_5
  clear c39_X_0 c39_X_1 c39_X_2 c39_X_3 c39_X_4 c39_X_5
  clear c40_gB0_0 c40_gB0_1 c40_gB0_2 c40_gB0_3 c40_gB0_4 c40_gB0_5
  have HB_42 := Lib.hid (HB_36.out.trans (l41.mono HB_36.out.size))
  have x_42 := Lib.hid (ownz_below x_36.out l41 (Nat.le_refl _))
  clear x_36
  have xh_42 := Lib.hid (ownz_below xh_36.out l41 (Nat.le_refl _))
  clear xh_36
  have g0_42 := Lib.hid (ownz_below g0_36.out l41 (Nat.le_refl _))
  clear g0_36
  have g0h_42 := Lib.hid (ownz_below g0h_36.out l41 (Nat.le_refl _))
  clear g0h_36
  have g1_42 := Lib.hid (ownz_below g1_36.out l41 (Nat.le_refl _))
  clear g1_36
  have HV_42 := Lib.hid (HV_36.out.trans (l41.mono HV_36.out.size))
  clear HV_36
  have AW_42 := Lib.hid (AW_36.out.below l41 AW_36.out.lt)
  clear AW_36
  have vwB0_42 := Lib.hid (vwB0_36.out.below l41 vwB0_36.out.lt)
  clear vwB0_36
  have X_42 := Lib.hid (X_36.out.below l41 X_36.out.lt)
  clear X_36
  have gB0_42 := Lib.hid (gB0_36.out.below l41 gB0_36.out.lt)
  clear gB0_36
  clear l41
  have c43_AW_0 := AW_42.out.at 0 (v := .int .i64 z0.w.t) rfl
  have c43_AW_1 := AW_42.out.at 1 (v := .int .i64 z0.w.z) rfl
  have c43_AW_2 := AW_42.out.at 2 (v := .slice p0 z0.w.q.length cap0) rfl
  have c43_AW_3 := AW_42.out.at 3 (v := .int .i64 z0.c) rfl
  have c43_AW_4 := AW_42.out.at 4 (v := .int .i64 z0.u) rfl
  have c43_AW_5 := AW_42.out.at 5 (v := .slice p1 z0.h.length cap1) rfl
  have c44_vwB0_0 := vwB0_42.out.at 0 (v := .int .i64 ps0.w.t) rfl
  have c44_vwB0_1 := vwB0_42.out.at 1 (v := .int .i64 ps0.w.z) rfl
  have c44_vwB0_2 := vwB0_42.out.at 2 (v := .slice a_w0 ps0.w.q.length c_w0) rfl
  have c44_vwB0_3 := vwB0_42.out.at 3 (v := .int .i64 ps0.c) rfl
  have c44_vwB0_4 := vwB0_42.out.at 4 (v := .int .i64 ps0.u) rfl
  have c44_vwB0_5 := vwB0_42.out.at 5 (v := .slice a_w0h ps0.h.length c_w0h) rfl
  have c45_X_0 := X_42.out.at 0 (v := .int .i64 z0.w.t) rfl
  have c45_X_1 := X_42.out.at 1 (v := .int .i64 z0.w.z) rfl
  have c45_X_2 := X_42.out.at 2 (v := .slice (some ⟨x_x, 0, none⟩) z0.w.q.length z0.w.q.length) rfl
  have c45_X_3 := X_42.out.at 3 (v := .int .i64 z0.c) rfl
  have c45_X_4 := X_42.out.at 4 (v := .int .i64 z0.u) rfl
  have c45_X_5 := X_42.out.at 5 (v := .slice (some ⟨y_x, 0, none⟩) z0.h.length z0.h.length) rfl
  have c46_gB0_0 := gB0_42.out.at 0 (v := .int .i64 ps0.w.t) rfl
  have c46_gB0_1 := gB0_42.out.at 1 (v := .int .i64 ps0.w.z) rfl
  have c46_gB0_2 := gB0_42.out.at 2 (v := .slice a_g0 ps0.w.q.length c_g0) rfl
  have c46_gB0_3 := gB0_42.out.at 3 (v := .int .i64 ps0.c) rfl
  have c46_gB0_4 := gB0_42.out.at 4 (v := .int .i64 ps0.u) rfl
  have c46_gB0_5 := gB0_42.out.at 5 (v := .slice a_g0h ps0.h.length c_g0h) rfl
  go_upto_region 10 with fail
  go_cut [56] from 52 to 56 (fun b wx => b = .bool false ∧ Hid (Below W41.heap.size W41 wx))
  case first => as_aux_lemma =>
    have HK1 := Lib.hid (fun (w' : World) (hb : Below W41.heap.size W41 w') => (show w'.cell? ⟨R_X, 0, none⟩ = some (.int .i64 z0.w.t) ∧ w'.cell? ⟨R_X, 1, none⟩ = some (.int .i64 z0.w.z) ∧ w'.cell? ⟨R_X, 2, none⟩ = some (.slice (some ⟨x_x, 0, none⟩) z0.w.q.length z0.w.q.length) ∧ w'.cell? ⟨R_X, 3, none⟩ = some (.int .i64 z0.c) ∧ w'.cell? ⟨R_X, 4, none⟩ = some (.int .i64 z0.u) ∧ w'.cell? ⟨R_X, 5, none⟩ = some (.slice (some ⟨y_x, 0, none⟩) z0.h.length z0.h.length) ∧ w'.cell? ⟨R_AW, 0, none⟩ = some (.int .i64 z0.w.t) ∧ w'.cell? ⟨R_AW, 1, none⟩ = some (.int .i64 z0.w.z) ∧ w'.cell? ⟨R_AW, 2, none⟩ = some (.slice p0 z0.w.q.length cap0) ∧ w'.cell? ⟨R_AW, 3, none⟩ = some (.int .i64 z0.c) ∧ w'.cell? ⟨R_AW, 4, none⟩ = some (.int .i64 z0.u) ∧ w'.cell? ⟨R_AW, 5, none⟩ = some (.slice p1 z0.h.length cap1) ∧ Below w.heap.size w w' from ⟨(hb.cell (p := ⟨R_X, 0, none⟩) X_42.out.lt).trans (X_42.out.at 0 (v := .int .i64 z0.w.t) rfl), (hb.cell (p := ⟨R_X, 1, none⟩) X_42.out.lt).trans (X_42.out.at 1 (v := .int .i64 z0.w.z) rfl), (hb.cell (p := ⟨R_X, 2, none⟩) X_42.out.lt).trans (X_42.out.at 2 (v := .slice (some ⟨x_x, 0, none⟩) z0.w.q.length z0.w.q.length) rfl), (hb.cell (p := ⟨R_X, 3, none⟩) X_42.out.lt).trans (X_42.out.at 3 (v := .int .i64 z0.c) rfl), (hb.cell (p := ⟨R_X, 4, none⟩) X_42.out.lt).trans (X_42.out.at 4 (v := .int .i64 z0.u) rfl), (hb.cell (p := ⟨R_X, 5, none⟩) X_42.out.lt).trans (X_42.out.at 5 (v := .slice (some ⟨y_x, 0, none⟩) z0.h.length z0.h.length) rfl), (hb.cell (p := ⟨R_AW, 0, none⟩) AW_42.out.lt).trans (AW_42.out.at 0 (v := .int .i64 z0.w.t) rfl), (hb.cell (p := ⟨R_AW, 1, none⟩) AW_42.out.lt).trans (AW_42.out.at 1 (v := .int .i64 z0.w.z) rfl), (hb.cell (p := ⟨R_AW, 2, none⟩) AW_42.out.lt).trans (AW_42.out.at 2 (v := .slice p0 z0.w.q.length cap0) rfl), (hb.cell (p := ⟨R_AW, 3, none⟩) AW_42.out.lt).trans (AW_42.out.at 3 (v := .int .i64 z0.c) rfl), (hb.cell (p := ⟨R_AW, 4, none⟩) AW_42.out.lt).trans (AW_42.out.at 4 (v := .int .i64 z0.u) rfl), (hb.cell (p := ⟨R_AW, 5, none⟩) AW_42.out.lt).trans (AW_42.out.at 5 (v := .slice p1 z0.h.length cap1) rfl), HB_42.out.trans (hb.mono HB_42.out.size)⟩))
    go_region_held3 (fun w' => w'.cell? ⟨R_X, 0, none⟩ = some (.int .i64 z0.w.t) ∧ w'.cell? ⟨R_X, 1, none⟩ = some (.int .i64 z0.w.z) ∧ w'.cell? ⟨R_X, 2, none⟩ = some (.slice (some ⟨x_x, 0, none⟩) z0.w.q.length z0.w.q.length) ∧ w'.cell? ⟨R_X, 3, none⟩ = some (.int .i64 z0.c) ∧ w'.cell? ⟨R_X, 4, none⟩ = some (.int .i64 z0.u) ∧ w'.cell? ⟨R_X, 5, none⟩ = some (.slice (some ⟨y_x, 0, none⟩) z0.h.length z0.h.length) ∧ w'.cell? ⟨R_AW, 0, none⟩ = some (.int .i64 z0.w.t) ∧ w'.cell? ⟨R_AW, 1, none⟩ = some (.int .i64 z0.w.z) ∧ w'.cell? ⟨R_AW, 2, none⟩ = some (.slice p0 z0.w.q.length cap0) ∧ w'.cell? ⟨R_AW, 3, none⟩ = some (.int .i64 z0.c) ∧ w'.cell? ⟨R_AW, 4, none⟩ = some (.int .i64 z0.u) ∧ w'.cell? ⟨R_AW, 5, none⟩ = some (.slice p1 z0.h.length cap1) ∧ Below w.heap.size w w')
      ((first | (with_reducible refine HK1.out _ ?_; (repeat (first | with_reducible assumption | with_reducible exact Below.refl _ _ | with_reducible refine Below.drew ?_ | with_reducible refine below_alloc' ?_)); done)))
      (first
        | (go_at_call 35; refine (toSo_lit _ _ z0 _ (HR0.out.below (HB_42.out.trans ((by repeat (first | with_reducible assumption | with_reducible exact Below.refl _ _ | with_reducible refine Below.drew ?_ | with_reducible refine below_alloc' ?_) : Below W41.heap.size W41 _).mono HB_42.out.size)) (Nat.le_refl _)) (HR1.out.below (HB_42.out.trans ((by repeat (first | with_reducible assumption | with_reducible exact Below.refl _ _ | with_reducible refine Below.drew ?_ | with_reducible refine below_alloc' ?_) : Below W41.heap.size W41 _).mono HB_42.out.size)) (Nat.le_refl _)) HN0.out HN1.out).mono ?_; rintro e w5 ⟨g5, g6, rfl, o5, o6, _, l5⟩; have hb5 := below_call7 (by repeat (first | with_reducible assumption | with_reducible exact Below.refl _ _ | with_reducible refine Below.drew ?_ | with_reducible refine below_alloc' ?_) : Below W41.heap.size W41 _) l5; have ho5 := rowz_own o5; have ho6 := rowz_own o6; clear o5 o6 l5)
        | (go_at_call 30; refine (eqSo_same _ _ _ _ z0 _ ((rowz_own x_42.out).below hb5 (Nat.le_refl _)) ((rowz_own xh_42.out).below hb5 (Nat.le_refl _)) ho5 ho6).mono ?_; rintro e w6 ⟨rfl, l6⟩; have hb6 := below_call7 hb5 l6; clear l6))
    all_goals go_wp2_with fail
    all_goals go_meet
    all_goals
      case rel => exact ⟨by simp, Lib.hid (by repeat (first | with_reducible assumption | with_reducible exact Below.refl _ _ | with_reducible refine Below.drew ?_ | with_reducible refine below_alloc' ?_))⟩
  case rest =>
    obtain ⟨rfl, HCut⟩ := hcut
    rename World => W47
    have l47 := HCut.out
    clear HCut
    clear c43_AW_0 c43_AW_1 c43_AW_2 c43_AW_3 c43_AW_4 c43_AW_5
    clear c44_vwB0_0 c44_vwB0_1 c44_vwB0_2 c44_vwB0_3 c44_vwB0_4 c44_vwB0_5
    clear c45_X_0 c45_X_1 c45_X_2 c45_X_3 c45_X_4 c45_X_5
    clear c46_gB0_0 c46_gB0_1 c46_gB0_2 c46_gB0_3 c46_gB0_4 c46_gB0_5
    have HB_48 := Lib.hid (HB_42.out.trans (l47.mono HB_42.out.size))
    have x_48 := Lib.hid (ownz_below x_42.out l47 (Nat.le_refl _))
    clear x_42
    have xh_48 := Lib.hid (ownz_below xh_42.out l47 (Nat.le_refl _))
    clear xh_42
    have g0_48 := Lib.hid (ownz_below g0_42.out l47 (Nat.le_refl _))
    clear g0_42
    have g0h_48 := Lib.hid (ownz_below g0h_42.out l47 (Nat.le_refl _))
    clear g0h_42
    have g1_48 := Lib.hid (ownz_below g1_42.out l47 (Nat.le_refl _))
    clear g1_42
    have HV_48 := Lib.hid (HV_42.out.trans (l47.mono HV_42.out.size))
    clear HV_42
    have AW_48 := Lib.hid (AW_42.out.below l47 AW_42.out.lt)
    clear AW_42
    have vwB0_48 := Lib.hid (vwB0_42.out.below l47 vwB0_42.out.lt)
    clear vwB0_42
    have X_48 := Lib.hid (X_42.out.below l47 X_42.out.lt)
    clear X_42
    have gB0_48 := Lib.hid (gB0_42.out.below l47 gB0_42.out.lt)
    clear gB0_42
    clear l47
    have c49_AW_0 := AW_48.out.at 0 (v := .int .i64 z0.w.t) rfl
    have c49_AW_1 := AW_48.out.at 1 (v := .int .i64 z0.w.z) rfl
    have c49_AW_2 := AW_48.out.at 2 (v := .slice p0 z0.w.q.length cap0) rfl
    have c49_AW_3 := AW_48.out.at 3 (v := .int .i64 z0.c) rfl
    have c49_AW_4 := AW_48.out.at 4 (v := .int .i64 z0.u) rfl
    have c49_AW_5 := AW_48.out.at 5 (v := .slice p1 z0.h.length cap1) rfl
    have c50_vwB0_0 := vwB0_48.out.at 0 (v := .int .i64 ps0.w.t) rfl
    have c50_vwB0_1 := vwB0_48.out.at 1 (v := .int .i64 ps0.w.z) rfl
    have c50_vwB0_2 := vwB0_48.out.at 2 (v := .slice a_w0 ps0.w.q.length c_w0) rfl
    have c50_vwB0_3 := vwB0_48.out.at 3 (v := .int .i64 ps0.c) rfl
    have c50_vwB0_4 := vwB0_48.out.at 4 (v := .int .i64 ps0.u) rfl
    have c50_vwB0_5 := vwB0_48.out.at 5 (v := .slice a_w0h ps0.h.length c_w0h) rfl
    have c51_X_0 := X_48.out.at 0 (v := .int .i64 z0.w.t) rfl
    have c51_X_1 := X_48.out.at 1 (v := .int .i64 z0.w.z) rfl
    have c51_X_2 := X_48.out.at 2 (v := .slice (some ⟨x_x, 0, none⟩) z0.w.q.length z0.w.q.length) rfl
    have c51_X_3 := X_48.out.at 3 (v := .int .i64 z0.c) rfl
    have c51_X_4 := X_48.out.at 4 (v := .int .i64 z0.u) rfl
    have c51_X_5 := X_48.out.at 5 (v := .slice (some ⟨y_x, 0, none⟩) z0.h.length z0.h.length) rfl
    have c52_gB0_0 := gB0_48.out.at 0 (v := .int .i64 ps0.w.t) rfl
    have c52_gB0_1 := gB0_48.out.at 1 (v := .int .i64 ps0.w.z) rfl
    have c52_gB0_2 := gB0_48.out.at 2 (v := .slice a_g0 ps0.w.q.length c_g0) rfl
    have c52_gB0_3 := gB0_48.out.at 3 (v := .int .i64 ps0.c) rfl
    have c52_gB0_4 := gB0_48.out.at 4 (v := .int .i64 ps0.u) rfl
    have c52_gB0_5 := gB0_48.out.at 5 (v := .slice a_g0h ps0.h.length c_g0h) rfl
    have hM := markSo_own (.slice (some ⟨x_x, 0, none⟩) z0.w.q.length z0.w.q.length) (.slice (some ⟨y_x, 0, none⟩) z0.h.length z0.h.length) z0.w.t z0.w.z z0.c z0.u z0.w.q.length z0.h.length 1 _ _ _ W47 x_48.out xh_48.out AP_x_xh.out (by omega) (by have := HL0.out; have := HL1.out; have := HN0.out; have := HN1.out; have := HKl0.out; have := HKl1.out; omega)
    rw [HKx.out] at hM
    have HM := Lib.hid hM
    clear hM
    go_wp2_with fail
    refine HM.out.mono ?_
    rintro e W53 ⟨rfl, m53, mh53, wm53, ga53, gb53⟩
    clear HM
    clear c49_AW_0 c49_AW_1 c49_AW_2 c49_AW_3 c49_AW_4 c49_AW_5
    clear c50_vwB0_0 c50_vwB0_1 c50_vwB0_2 c50_vwB0_3 c50_vwB0_4 c50_vwB0_5
    clear c51_X_0 c51_X_1 c51_X_2 c51_X_3 c51_X_4 c51_X_5
    clear c52_gB0_0 c52_gB0_1 c52_gB0_2 c52_gB0_3 c52_gB0_4 c52_gB0_5
    have hb54_x := Below.grown HB_48.out ga53 (Below.size HB_48.out) (fun q hq => (x_48.out.lt q hq).1)
    have hb54_xh := Below.grown hb54_x gb53 (Below.size hb54_x) (fun q hq => (xh_48.out.lt q hq).1)
    have HB_54 := Lib.hid hb54_xh
    have g0_54 := Lib.hid (ownz_apart (ownz_apart g0_48.out ga53 (fun k h1 h2 => AP_x_g0.out k h2 h1)) gb53 (fun k h1 h2 => AP_xh_g0.out k h2 h1))
    have g0h_54 := Lib.hid (ownz_apart (ownz_apart g0h_48.out ga53 (fun k h1 h2 => AP_x_g0h.out k h2 h1)) gb53 (fun k h1 h2 => AP_xh_g0h.out k h2 h1))
    have g1_54 := Lib.hid (ownz_apart (ownz_apart g1_48.out ga53 (fun k h1 h2 => AP_x_g1.out k h2 h1)) gb53 (fun k h1 h2 => AP_xh_g1.out k h2 h1))
    have AW_54 := Lib.hid (Bx.grown (Bx.grown AW_48.out ga53 (fun e => BX_AW_x.out _ e.symm rfl)) gb53 (fun e => BX_AW_xh.out _ e.symm rfl))
    clear AW_48
    have vwB0_54 := Lib.hid (Bx.grown (Bx.grown vwB0_48.out ga53 (fun e => BX_vwB0_x.out _ e.symm rfl)) gb53 (fun e => BX_vwB0_xh.out _ e.symm rfl))
    clear vwB0_48
    have X_54 := Lib.hid (Bx.grown (Bx.grown X_48.out ga53 (fun e => BX_X_x.out _ e.symm rfl)) gb53 (fun e => BX_X_xh.out _ e.symm rfl))
    clear X_48
    have gB0_54 := Lib.hid (Bx.grown (Bx.grown gB0_48.out ga53 (fun e => BX_gB0_x.out _ e.symm rfl)) gb53 (fun e => BX_gB0_xh.out _ e.symm rfl))
    clear gB0_48
    have hv54_HV_0 := Below.grown HV_48.out ga53 (Below.size HV_48.out) (fun q hq => BV_HV_x.out q hq)
    have hv54_HV_1 := Below.grown hv54_HV_0 gb53 (Below.size hv54_HV_0) (fun q hq => BV_HV_xh.out q hq)
    have HV_54 := Lib.hid hv54_HV_1
    clear HV_48 hv54_HV_0 hv54_HV_1
    clear g0_48
    clear g0h_48
    clear g1_48
    have x_54 := Lib.hid m53
    clear m53 x_48
    have xh_54 := Lib.hid mh53
    clear mh53 xh_48
    clear hb54_x hb54_xh ga53 gb53
    have c55_AW_0 := AW_54.out.at 0 (v := .int .i64 z0.w.t) rfl
    have c55_AW_1 := AW_54.out.at 1 (v := .int .i64 z0.w.z) rfl
    have c55_AW_2 := AW_54.out.at 2 (v := .slice p0 z0.w.q.length cap0) rfl
    have c55_AW_3 := AW_54.out.at 3 (v := .int .i64 z0.c) rfl
    have c55_AW_4 := AW_54.out.at 4 (v := .int .i64 z0.u) rfl
    have c55_AW_5 := AW_54.out.at 5 (v := .slice p1 z0.h.length cap1) rfl
    have c56_vwB0_0 := vwB0_54.out.at 0 (v := .int .i64 ps0.w.t) rfl
    have c56_vwB0_1 := vwB0_54.out.at 1 (v := .int .i64 ps0.w.z) rfl
    have c56_vwB0_2 := vwB0_54.out.at 2 (v := .slice a_w0 ps0.w.q.length c_w0) rfl
    have c56_vwB0_3 := vwB0_54.out.at 3 (v := .int .i64 ps0.c) rfl
    have c56_vwB0_4 := vwB0_54.out.at 4 (v := .int .i64 ps0.u) rfl
    have c56_vwB0_5 := vwB0_54.out.at 5 (v := .slice a_w0h ps0.h.length c_w0h) rfl
    have c57_X_0 := X_54.out.at 0 (v := .int .i64 z0.w.t) rfl
    have c57_X_1 := X_54.out.at 1 (v := .int .i64 z0.w.z) rfl
    have c57_X_2 := X_54.out.at 2 (v := .slice (some ⟨x_x, 0, none⟩) z0.w.q.length z0.w.q.length) rfl
    have c57_X_3 := X_54.out.at 3 (v := .int .i64 z0.c) rfl
    have c57_X_4 := X_54.out.at 4 (v := .int .i64 z0.u) rfl
    have c57_X_5 := X_54.out.at 5 (v := .slice (some ⟨y_x, 0, none⟩) z0.h.length z0.h.length) rfl
    have c58_gB0_0 := gB0_54.out.at 0 (v := .int .i64 ps0.w.t) rfl
    have c58_gB0_1 := gB0_54.out.at 1 (v := .int .i64 ps0.w.z) rfl
    have c58_gB0_2 := gB0_54.out.at 2 (v := .slice a_g0 ps0.w.q.length c_g0) rfl
    have c58_gB0_3 := gB0_54.out.at 3 (v := .int .i64 ps0.c) rfl
    have c58_gB0_4 := gB0_54.out.at 4 (v := .int .i64 ps0.u) rfl
    have c58_gB0_5 := gB0_54.out.at 5 (v := .slice a_g0h ps0.h.length c_g0h) rfl
    go_wp2_with fail
    refine (eqSo_same _ _ _ _ ps0 _ (rowz_own g0_54.out) (rowz_own g0h_54.out) (RV0.out.below HV_54.out (Nat.le_refl _)) (RV0h.out.below HV_54.out (Nat.le_refl _))).mono ?_
    rintro e W59 ⟨rfl, l59⟩
    clear c55_AW_0 c55_AW_1 c55_AW_2 c55_AW_3 c55_AW_4 c55_AW_5
    clear c56_vwB0_0 c56_vwB0_1 c56_vwB0_2 c56_vwB0_3 c56_vwB0_4 c56_vwB0_5
    clear c57_X_0 c57_X_1 c57_X_2 c57_X_3 c57_X_4 c57_X_5
    clear c58_gB0_0 c58_gB0_1 c58_gB0_2 c58_gB0_3 c58_gB0_4 c58_gB0_5
    have HB_60 := Lib.hid (HB_54.out.trans (l59.mono HB_54.out.size))
    have x_60 := Lib.hid (ownz_below x_54.out l59 (Nat.le_refl _))
    clear x_54
    have xh_60 := Lib.hid (ownz_below xh_54.out l59 (Nat.le_refl _))
    clear xh_54
    have g0_60 := Lib.hid (ownz_below g0_54.out l59 (Nat.le_refl _))
    clear g0_54
    have g0h_60 := Lib.hid (ownz_below g0h_54.out l59 (Nat.le_refl _))
    clear g0h_54
    have g1_60 := Lib.hid (ownz_below g1_54.out l59 (Nat.le_refl _))
    clear g1_54
    have HV_60 := Lib.hid (HV_54.out.trans (l59.mono HV_54.out.size))
    clear HV_54
    have AW_60 := Lib.hid (AW_54.out.below l59 AW_54.out.lt)
    clear AW_54
    have vwB0_60 := Lib.hid (vwB0_54.out.below l59 vwB0_54.out.lt)
    clear vwB0_54
    have X_60 := Lib.hid (X_54.out.below l59 X_54.out.lt)
    clear X_54
    have gB0_60 := Lib.hid (gB0_54.out.below l59 gB0_54.out.lt)
    clear gB0_54
    clear l59
    have c61_AW_0 := AW_60.out.at 0 (v := .int .i64 z0.w.t) rfl
    have c61_AW_1 := AW_60.out.at 1 (v := .int .i64 z0.w.z) rfl
    have c61_AW_2 := AW_60.out.at 2 (v := .slice p0 z0.w.q.length cap0) rfl
    have c61_AW_3 := AW_60.out.at 3 (v := .int .i64 z0.c) rfl
    have c61_AW_4 := AW_60.out.at 4 (v := .int .i64 z0.u) rfl
    have c61_AW_5 := AW_60.out.at 5 (v := .slice p1 z0.h.length cap1) rfl
    have c62_vwB0_0 := vwB0_60.out.at 0 (v := .int .i64 ps0.w.t) rfl
    have c62_vwB0_1 := vwB0_60.out.at 1 (v := .int .i64 ps0.w.z) rfl
    have c62_vwB0_2 := vwB0_60.out.at 2 (v := .slice a_w0 ps0.w.q.length c_w0) rfl
    have c62_vwB0_3 := vwB0_60.out.at 3 (v := .int .i64 ps0.c) rfl
    have c62_vwB0_4 := vwB0_60.out.at 4 (v := .int .i64 ps0.u) rfl
    have c62_vwB0_5 := vwB0_60.out.at 5 (v := .slice a_w0h ps0.h.length c_w0h) rfl
    have c63_X_0 := X_60.out.at 0 (v := .int .i64 z0.w.t) rfl
    have c63_X_1 := X_60.out.at 1 (v := .int .i64 z0.w.z) rfl
    have c63_X_2 := X_60.out.at 2 (v := .slice (some ⟨x_x, 0, none⟩) z0.w.q.length z0.w.q.length) rfl
    have c63_X_3 := X_60.out.at 3 (v := .int .i64 z0.c) rfl
    have c63_X_4 := X_60.out.at 4 (v := .int .i64 z0.u) rfl
    have c63_X_5 := X_60.out.at 5 (v := .slice (some ⟨y_x, 0, none⟩) z0.h.length z0.h.length) rfl
    have c64_gB0_0 := gB0_60.out.at 0 (v := .int .i64 ps0.w.t) rfl
    have c64_gB0_1 := gB0_60.out.at 1 (v := .int .i64 ps0.w.z) rfl
    have c64_gB0_2 := gB0_60.out.at 2 (v := .slice a_g0 ps0.w.q.length c_g0) rfl
    have c64_gB0_3 := gB0_60.out.at 3 (v := .int .i64 ps0.c) rfl
    have c64_gB0_4 := gB0_60.out.at 4 (v := .int .i64 ps0.u) rfl
    have c64_gB0_5 := gB0_60.out.at 5 (v := .slice a_g0h ps0.h.length c_g0h) rfl
    go_wp2_with fail
    refine (eqPqS_same _ _ ps1 _ (rowz_own g1_60.out) (RV1.out.below HV_60.out (Nat.le_refl _))).mono ?_
    rintro e W65 ⟨rfl, l65⟩
    clear c61_AW_0 c61_AW_1 c61_AW_2 c61_AW_3 c61_AW_4 c61_AW_5
    clear c62_vwB0_0 c62_vwB0_1 c62_vwB0_2 c62_vwB0_3 c62_vwB0_4 c62_vwB0_5
    clear c63_X_0 c63_X_1 c63_X_2 c63_X_3 c63_X_4 c63_X_5
    clear c64_gB0_0 c64_gB0_1 c64_gB0_2 c64_gB0_3 c64_gB0_4 c64_gB0_5
    have HB_66 := Lib.hid (HB_60.out.trans (l65.mono HB_60.out.size))
    have x_66 := Lib.hid (ownz_below x_60.out l65 (Nat.le_refl _))
    clear x_60
    have xh_66 := Lib.hid (ownz_below xh_60.out l65 (Nat.le_refl _))
    clear xh_60
    have g0_66 := Lib.hid (ownz_below g0_60.out l65 (Nat.le_refl _))
    clear g0_60
    have g0h_66 := Lib.hid (ownz_below g0h_60.out l65 (Nat.le_refl _))
    clear g0h_60
    have g1_66 := Lib.hid (ownz_below g1_60.out l65 (Nat.le_refl _))
    clear g1_60
    have HV_66 := Lib.hid (HV_60.out.trans (l65.mono HV_60.out.size))
    clear HV_60
    have AW_66 := Lib.hid (AW_60.out.below l65 AW_60.out.lt)
    clear AW_60
    have vwB0_66 := Lib.hid (vwB0_60.out.below l65 vwB0_60.out.lt)
    clear vwB0_60
    have X_66 := Lib.hid (X_60.out.below l65 X_60.out.lt)
    clear X_60
    have gB0_66 := Lib.hid (gB0_60.out.below l65 gB0_60.out.lt)
    clear gB0_60
    clear l65
    have c67_AW_0 := AW_66.out.at 0 (v := .int .i64 z0.w.t) rfl
    have c67_AW_1 := AW_66.out.at 1 (v := .int .i64 z0.w.z) rfl
    have c67_AW_2 := AW_66.out.at 2 (v := .slice p0 z0.w.q.length cap0) rfl
    have c67_AW_3 := AW_66.out.at 3 (v := .int .i64 z0.c) rfl
    have c67_AW_4 := AW_66.out.at 4 (v := .int .i64 z0.u) rfl
    have c67_AW_5 := AW_66.out.at 5 (v := .slice p1 z0.h.length cap1) rfl
    have c68_vwB0_0 := vwB0_66.out.at 0 (v := .int .i64 ps0.w.t) rfl
    have c68_vwB0_1 := vwB0_66.out.at 1 (v := .int .i64 ps0.w.z) rfl
    have c68_vwB0_2 := vwB0_66.out.at 2 (v := .slice a_w0 ps0.w.q.length c_w0) rfl
    have c68_vwB0_3 := vwB0_66.out.at 3 (v := .int .i64 ps0.c) rfl
    have c68_vwB0_4 := vwB0_66.out.at 4 (v := .int .i64 ps0.u) rfl
    have c68_vwB0_5 := vwB0_66.out.at 5 (v := .slice a_w0h ps0.h.length c_w0h) rfl
    have c69_X_0 := X_66.out.at 0 (v := .int .i64 z0.w.t) rfl
    have c69_X_1 := X_66.out.at 1 (v := .int .i64 z0.w.z) rfl
    have c69_X_2 := X_66.out.at 2 (v := .slice (some ⟨x_x, 0, none⟩) z0.w.q.length z0.w.q.length) rfl
    have c69_X_3 := X_66.out.at 3 (v := .int .i64 z0.c) rfl
    have c69_X_4 := X_66.out.at 4 (v := .int .i64 z0.u) rfl
    have c69_X_5 := X_66.out.at 5 (v := .slice (some ⟨y_x, 0, none⟩) z0.h.length z0.h.length) rfl
    have c70_gB0_0 := gB0_66.out.at 0 (v := .int .i64 ps0.w.t) rfl
    have c70_gB0_1 := gB0_66.out.at 1 (v := .int .i64 ps0.w.z) rfl
    have c70_gB0_2 := gB0_66.out.at 2 (v := .slice a_g0 ps0.w.q.length c_g0) rfl
    have c70_gB0_3 := gB0_66.out.at 3 (v := .int .i64 ps0.c) rfl
    have c70_gB0_4 := gB0_66.out.at 4 (v := .int .i64 ps0.u) rfl
    have c70_gB0_5 := gB0_66.out.at 5 (v := .slice a_g0h ps0.h.length c_g0h) rfl
    clear x_66
    clear xh_66
    clear c69_X_0 c69_X_1 c69_X_2 c69_X_3 c69_X_4 c69_X_5
    clear X_66
    have hM := markSo_own (.slice a_g0 ps0.w.q.length c_g0) (.slice a_g0h ps0.h.length c_g0h) ps0.w.t ps0.w.z ps0.c ps0.u ps0.w.q.length ps0.h.length 1 _ _ _ W65 g0_66.out g0h_66.out AP_g0_g0h.out (by omega) (by have := HL0.out; have := HL1.out; have := HN0.out; have := HN1.out; have := HKl0.out; have := HKl1.out; omega)
    rw [HKm0.out] at hM
    have HM := Lib.hid hM
    clear hM
    go_wp2_with fail
    refine HM.out.mono ?_
    rintro e W71 ⟨rfl, m71, mh71, wm71, ga71, gb71⟩
    clear HM
    clear c67_AW_0 c67_AW_1 c67_AW_2 c67_AW_3 c67_AW_4 c67_AW_5
    clear c68_vwB0_0 c68_vwB0_1 c68_vwB0_2 c68_vwB0_3 c68_vwB0_4 c68_vwB0_5
    clear c70_gB0_0 c70_gB0_1 c70_gB0_2 c70_gB0_3 c70_gB0_4 c70_gB0_5
    have hb72_g0 := Below.grown HB_66.out ga71 (Below.size HB_66.out) (fun q hq => (g0_66.out.lt q hq).1)
    have hb72_g0h := Below.grown hb72_g0 gb71 (Below.size hb72_g0) (fun q hq => (g0h_66.out.lt q hq).1)
    have HB_72 := Lib.hid hb72_g0h
    have g1_72 := Lib.hid (ownz_apart (ownz_apart g1_66.out ga71 (fun k h1 h2 => AP_g0_g1.out k h2 h1)) gb71 (fun k h1 h2 => AP_g0h_g1.out k h2 h1))
    have AW_72 := Lib.hid (Bx.grown (Bx.grown AW_66.out ga71 (fun e => BX_AW_g0.out _ e.symm rfl)) gb71 (fun e => BX_AW_g0h.out _ e.symm rfl))
    clear AW_66
    have vwB0_72 := Lib.hid (Bx.grown (Bx.grown vwB0_66.out ga71 (fun e => BX_vwB0_g0.out _ e.symm rfl)) gb71 (fun e => BX_vwB0_g0h.out _ e.symm rfl))
    clear vwB0_66
    have gB0_72 := Lib.hid (Bx.grown (Bx.grown gB0_66.out ga71 (fun e => BX_gB0_g0.out _ e.symm rfl)) gb71 (fun e => BX_gB0_g0h.out _ e.symm rfl))
    clear gB0_66
    have hv72_HV_0 := Below.grown HV_66.out ga71 (Below.size HV_66.out) (fun q hq => BV_HV_g0.out q hq)
    have hv72_HV_1 := Below.grown hv72_HV_0 gb71 (Below.size hv72_HV_0) (fun q hq => BV_HV_g0h.out q hq)
    have HV_72 := Lib.hid hv72_HV_1
    clear HV_66 hv72_HV_0 hv72_HV_1
    clear g1_66
    have g0_72 := Lib.hid m71
    clear m71 g0_66
    have g0h_72 := Lib.hid mh71
    clear mh71 g0h_66
    clear hb72_g0 hb72_g0h ga71 gb71
    have c73_AW_0 := AW_72.out.at 0 (v := .int .i64 z0.w.t) rfl
    have c73_AW_1 := AW_72.out.at 1 (v := .int .i64 z0.w.z) rfl
    have c73_AW_2 := AW_72.out.at 2 (v := .slice p0 z0.w.q.length cap0) rfl
    have c73_AW_3 := AW_72.out.at 3 (v := .int .i64 z0.c) rfl
    have c73_AW_4 := AW_72.out.at 4 (v := .int .i64 z0.u) rfl
    have c73_AW_5 := AW_72.out.at 5 (v := .slice p1 z0.h.length cap1) rfl
    have c74_vwB0_0 := vwB0_72.out.at 0 (v := .int .i64 ps0.w.t) rfl
    have c74_vwB0_1 := vwB0_72.out.at 1 (v := .int .i64 ps0.w.z) rfl
    have c74_vwB0_2 := vwB0_72.out.at 2 (v := .slice a_w0 ps0.w.q.length c_w0) rfl
    have c74_vwB0_3 := vwB0_72.out.at 3 (v := .int .i64 ps0.c) rfl
    have c74_vwB0_4 := vwB0_72.out.at 4 (v := .int .i64 ps0.u) rfl
    have c74_vwB0_5 := vwB0_72.out.at 5 (v := .slice a_w0h ps0.h.length c_w0h) rfl
    have c75_gB0_0 := gB0_72.out.at 0 (v := .int .i64 ps0.w.t) rfl
    have c75_gB0_1 := gB0_72.out.at 1 (v := .int .i64 ps0.w.z) rfl
    have c75_gB0_2 := gB0_72.out.at 2 (v := .slice a_g0 ps0.w.q.length c_g0) rfl
    have c75_gB0_3 := gB0_72.out.at 3 (v := .int .i64 ps0.c) rfl
    have c75_gB0_4 := gB0_72.out.at 4 (v := .int .i64 ps0.u) rfl
    have c75_gB0_5 := gB0_72.out.at 5 (v := .slice a_g0h ps0.h.length c_g0h) rfl
    have hM := markPq_own _ ps1.length km0 _ _ W71 g1_72.out (by omega) (by have := HL0.out; have := HL1.out; have := HN0.out; have := HN1.out; have := HKl0.out; have := HKl1.out; omega)
    rw [HKm1.out] at hM
    have HM := Lib.hid hM
    clear hM
    go_wp2_with fail
    refine HM.out.mono ?_
    rintro e W76 ⟨rfl, m76, ga76⟩
    clear HM
    clear c73_AW_0 c73_AW_1 c73_AW_2 c73_AW_3 c73_AW_4 c73_AW_5
    clear c74_vwB0_0 c74_vwB0_1 c74_vwB0_2 c74_vwB0_3 c74_vwB0_4 c74_vwB0_5
    clear c75_gB0_0 c75_gB0_1 c75_gB0_2 c75_gB0_3 c75_gB0_4 c75_gB0_5
    have hb77_g1 := Below.grown HB_72.out ga76 (Below.size HB_72.out) (fun q hq => (g1_72.out.lt q hq).1)
    have HB_77 := Lib.hid hb77_g1
    have g0_77 := Lib.hid (ownz_apart g0_72.out ga76 (fun k h1 h2 => AP_g0_g1.out k h1 h2))
    have g0h_77 := Lib.hid (ownz_apart g0h_72.out ga76 (fun k h1 h2 => AP_g0h_g1.out k h1 h2))
    have AW_77 := Lib.hid (Bx.grown AW_72.out ga76 (fun e => BX_AW_g1.out _ e.symm rfl))
    clear AW_72
    have vwB0_77 := Lib.hid (Bx.grown vwB0_72.out ga76 (fun e => BX_vwB0_g1.out _ e.symm rfl))
    clear vwB0_72
    have gB0_77 := Lib.hid (Bx.grown gB0_72.out ga76 (fun e => BX_gB0_g1.out _ e.symm rfl))
    clear gB0_72
    have hv77_HV_0 := Below.grown HV_72.out ga76 (Below.size HV_72.out) (fun q hq => BV_HV_g1.out q hq)
    have HV_77 := Lib.hid hv77_HV_0
    clear HV_72 hv77_HV_0
    clear g0_72
    clear g0h_72
    have g1_77 := Lib.hid m76
    clear m76 g1_72
    clear hb77_g1 ga76
    have c78_AW_0 := AW_77.out.at 0 (v := .int .i64 z0.w.t) rfl
    have c78_AW_1 := AW_77.out.at 1 (v := .int .i64 z0.w.z) rfl
    have c78_AW_2 := AW_77.out.at 2 (v := .slice p0 z0.w.q.length cap0) rfl
    have c78_AW_3 := AW_77.out.at 3 (v := .int .i64 z0.c) rfl
    have c78_AW_4 := AW_77.out.at 4 (v := .int .i64 z0.u) rfl
    have c78_AW_5 := AW_77.out.at 5 (v := .slice p1 z0.h.length cap1) rfl
    have c79_vwB0_0 := vwB0_77.out.at 0 (v := .int .i64 ps0.w.t) rfl
    have c79_vwB0_1 := vwB0_77.out.at 1 (v := .int .i64 ps0.w.z) rfl
    have c79_vwB0_2 := vwB0_77.out.at 2 (v := .slice a_w0 ps0.w.q.length c_w0) rfl
    have c79_vwB0_3 := vwB0_77.out.at 3 (v := .int .i64 ps0.c) rfl
    have c79_vwB0_4 := vwB0_77.out.at 4 (v := .int .i64 ps0.u) rfl
    have c79_vwB0_5 := vwB0_77.out.at 5 (v := .slice a_w0h ps0.h.length c_w0h) rfl
    have c80_gB0_0 := gB0_77.out.at 0 (v := .int .i64 ps0.w.t) rfl
    have c80_gB0_1 := gB0_77.out.at 1 (v := .int .i64 ps0.w.z) rfl
    have c80_gB0_2 := gB0_77.out.at 2 (v := .slice a_g0 ps0.w.q.length c_g0) rfl
    have c80_gB0_3 := gB0_77.out.at 3 (v := .int .i64 ps0.c) rfl
    have c80_gB0_4 := gB0_77.out.at 4 (v := .int .i64 ps0.u) rfl
    have c80_gB0_5 := gB0_77.out.at 5 (v := .slice a_g0h ps0.h.length c_g0h) rfl
    have hH := heldSo_own (.slice a_g0 ps0.w.q.length c_g0) (.slice a_g0h ps0.h.length c_g0h) ps0.w.t ps0.w.z ps0.c ps0.u ps0.w.q.length ps0.h.length 1 _ W76 g0_77.out g0h_77.out AP_g0_g0h.out (by omega) (by have := HL0.out; have := HL1.out; have := HN0.out; have := HN1.out; have := HKl0.out; have := HKl1.out; omega)
    rw [HKm0.out] at hH
    have HHi := Lib.hid hH
    clear hH
    go_wp2_with fail
    refine (HHi.out).mono ?_
    rintro e W81 ⟨rfl, l81⟩
    clear c78_AW_0 c78_AW_1 c78_AW_2 c78_AW_3 c78_AW_4 c78_AW_5
    clear c79_vwB0_0 c79_vwB0_1 c79_vwB0_2 c79_vwB0_3 c79_vwB0_4 c79_vwB0_5
    clear c80_gB0_0 c80_gB0_1 c80_gB0_2 c80_gB0_3 c80_gB0_4 c80_gB0_5
    have HB_82 := Lib.hid (HB_77.out.trans (l81.mono HB_77.out.size))
    have g0_82 := Lib.hid (ownz_below g0_77.out l81 (Nat.le_refl _))
    clear g0_77
    have g0h_82 := Lib.hid (ownz_below g0h_77.out l81 (Nat.le_refl _))
    clear g0h_77
    have g1_82 := Lib.hid (ownz_below g1_77.out l81 (Nat.le_refl _))
    clear g1_77
    have HV_82 := Lib.hid (HV_77.out.trans (l81.mono HV_77.out.size))
    clear HV_77
    have AW_82 := Lib.hid (AW_77.out.below l81 AW_77.out.lt)
    clear AW_77
    have vwB0_82 := Lib.hid (vwB0_77.out.below l81 vwB0_77.out.lt)
    clear vwB0_77
    have gB0_82 := Lib.hid (gB0_77.out.below l81 gB0_77.out.lt)
    clear gB0_77
    clear l81
    have c83_AW_0 := AW_82.out.at 0 (v := .int .i64 z0.w.t) rfl
    have c83_AW_1 := AW_82.out.at 1 (v := .int .i64 z0.w.z) rfl
    have c83_AW_2 := AW_82.out.at 2 (v := .slice p0 z0.w.q.length cap0) rfl
    have c83_AW_3 := AW_82.out.at 3 (v := .int .i64 z0.c) rfl
    have c83_AW_4 := AW_82.out.at 4 (v := .int .i64 z0.u) rfl
    have c83_AW_5 := AW_82.out.at 5 (v := .slice p1 z0.h.length cap1) rfl
    have c84_vwB0_0 := vwB0_82.out.at 0 (v := .int .i64 ps0.w.t) rfl
    have c84_vwB0_1 := vwB0_82.out.at 1 (v := .int .i64 ps0.w.z) rfl
    have c84_vwB0_2 := vwB0_82.out.at 2 (v := .slice a_w0 ps0.w.q.length c_w0) rfl
    have c84_vwB0_3 := vwB0_82.out.at 3 (v := .int .i64 ps0.c) rfl
    have c84_vwB0_4 := vwB0_82.out.at 4 (v := .int .i64 ps0.u) rfl
    have c84_vwB0_5 := vwB0_82.out.at 5 (v := .slice a_w0h ps0.h.length c_w0h) rfl
    have c85_gB0_0 := gB0_82.out.at 0 (v := .int .i64 ps0.w.t) rfl
    have c85_gB0_1 := gB0_82.out.at 1 (v := .int .i64 ps0.w.z) rfl
    have c85_gB0_2 := gB0_82.out.at 2 (v := .slice a_g0 ps0.w.q.length c_g0) rfl
    have c85_gB0_3 := gB0_82.out.at 3 (v := .int .i64 ps0.c) rfl
    have c85_gB0_4 := gB0_82.out.at 4 (v := .int .i64 ps0.u) rfl
    have c85_gB0_5 := gB0_82.out.at 5 (v := .slice a_g0h ps0.h.length c_g0h) rfl
    clear HHi
    have hH := heldPq_own _ ps1.length km0 _ W81 g1_82.out (by omega) (by have := HL0.out; have := HL1.out; have := HN0.out; have := HN1.out; have := HKl0.out; have := HKl1.out; omega)
    rw [HKm1.out] at hH
    have HHi := Lib.hid hH
    clear hH
    go_wp2_with fail
    refine (HHi.out).mono ?_
    rintro e W86 ⟨rfl, lg⟩
    have l86 := below_none lg
    clear lg
    clear c83_AW_0 c83_AW_1 c83_AW_2 c83_AW_3 c83_AW_4 c83_AW_5
    clear c84_vwB0_0 c84_vwB0_1 c84_vwB0_2 c84_vwB0_3 c84_vwB0_4 c84_vwB0_5
    clear c85_gB0_0 c85_gB0_1 c85_gB0_2 c85_gB0_3 c85_gB0_4 c85_gB0_5
    have HB_87 := Lib.hid (HB_82.out.trans (l86.mono HB_82.out.size))
    have g0_87 := Lib.hid (ownz_below g0_82.out l86 (Nat.le_refl _))
    clear g0_82
    have g0h_87 := Lib.hid (ownz_below g0h_82.out l86 (Nat.le_refl _))
    clear g0h_82
    have g1_87 := Lib.hid (ownz_below g1_82.out l86 (Nat.le_refl _))
    clear g1_82
    have HV_87 := Lib.hid (HV_82.out.trans (l86.mono HV_82.out.size))
    clear HV_82
    have AW_87 := Lib.hid (AW_82.out.below l86 AW_82.out.lt)
    clear AW_82
    have vwB0_87 := Lib.hid (vwB0_82.out.below l86 vwB0_82.out.lt)
    clear vwB0_82
    have gB0_87 := Lib.hid (gB0_82.out.below l86 gB0_82.out.lt)
    clear gB0_82
    clear l86
    have c88_AW_0 := AW_87.out.at 0 (v := .int .i64 z0.w.t) rfl
    have c88_AW_1 := AW_87.out.at 1 (v := .int .i64 z0.w.z) rfl
    have c88_AW_2 := AW_87.out.at 2 (v := .slice p0 z0.w.q.length cap0) rfl
    have c88_AW_3 := AW_87.out.at 3 (v := .int .i64 z0.c) rfl
    have c88_AW_4 := AW_87.out.at 4 (v := .int .i64 z0.u) rfl
    have c88_AW_5 := AW_87.out.at 5 (v := .slice p1 z0.h.length cap1) rfl
    have c89_vwB0_0 := vwB0_87.out.at 0 (v := .int .i64 ps0.w.t) rfl
    have c89_vwB0_1 := vwB0_87.out.at 1 (v := .int .i64 ps0.w.z) rfl
    have c89_vwB0_2 := vwB0_87.out.at 2 (v := .slice a_w0 ps0.w.q.length c_w0) rfl
    have c89_vwB0_3 := vwB0_87.out.at 3 (v := .int .i64 ps0.c) rfl
    have c89_vwB0_4 := vwB0_87.out.at 4 (v := .int .i64 ps0.u) rfl
    have c89_vwB0_5 := vwB0_87.out.at 5 (v := .slice a_w0h ps0.h.length c_w0h) rfl
    have c90_gB0_0 := gB0_87.out.at 0 (v := .int .i64 ps0.w.t) rfl
    have c90_gB0_1 := gB0_87.out.at 1 (v := .int .i64 ps0.w.z) rfl
    have c90_gB0_2 := gB0_87.out.at 2 (v := .slice a_g0 ps0.w.q.length c_g0) rfl
    have c90_gB0_3 := gB0_87.out.at 3 (v := .int .i64 ps0.c) rfl
    have c90_gB0_4 := gB0_87.out.at 4 (v := .int .i64 ps0.u) rfl
    have c90_gB0_5 := gB0_87.out.at 5 (v := .slice a_g0h ps0.h.length c_g0h) rfl
    clear HHi
    go_wp2_with fail
    refine (toSo_lit _ _ z0 _ (HR0.out.below HB_87.out (Nat.le_refl _)) (HR1.out.below HB_87.out (Nat.le_refl _)) HN0.out HN1.out).mono ?_
    rintro e W91 ⟨x_t, y_t, rfl, o_t, o_th, ne_t, l91⟩
    have AP_g0_t : Hid (∀ k, (.slice a_g0 ps0.w.q.length c_g0 : Value).ownBlock = some k → (.slice (some ⟨x_t, 0, none⟩) z0.w.q.length z0.w.q.length : Value).ownBlock ≠ some k) := Lib.hid (fun k h1 h2 => absurd (g0_87.out.lt k h1).2 (Nat.not_lt.2 (o_t.lt k h2).1))
    have AP_g0h_t : Hid (∀ k, (.slice a_g0h ps0.h.length c_g0h : Value).ownBlock = some k → (.slice (some ⟨x_t, 0, none⟩) z0.w.q.length z0.w.q.length : Value).ownBlock ≠ some k) := Lib.hid (fun k h1 h2 => absurd (g0h_87.out.lt k h1).2 (Nat.not_lt.2 (o_t.lt k h2).1))
    have AP_g1_t : Hid (∀ k, (.slice a_g1 ps1.length c_g1 : Value).ownBlock = some k → (.slice (some ⟨x_t, 0, none⟩) z0.w.q.length z0.w.q.length : Value).ownBlock ≠ some k) := Lib.hid (fun k h1 h2 => absurd (g1_87.out.lt k h1).2 (Nat.not_lt.2 (o_t.lt k h2).1))
    have BV_HV_t : Hid (∀ k, (.slice (some ⟨x_t, 0, none⟩) z0.w.q.length z0.w.q.length : Value).ownBlock = some k → W8.heap.size ≤ k) := Lib.hid (fun k h => Nat.le_trans HV_87.out.size (o_t.lt k h).1)
    have O_t := Lib.hid (ownz_base o_t HB_87.out.size)
    have BX_AW_t : Hid (∀ k, (.slice (some ⟨x_t, 0, none⟩) z0.w.q.length z0.w.q.length : Value).ownBlock = some k → k ≠ R_AW) := Lib.hid (fun k h1 h2 => absurd AW_87.out.lt (Nat.not_lt.2 (by rw [← h2]; exact (o_t.lt k h1).1)))
    have BX_vwB0_t : Hid (∀ k, (.slice (some ⟨x_t, 0, none⟩) z0.w.q.length z0.w.q.length : Value).ownBlock = some k → k ≠ R_vwB0) := Lib.hid (fun k h1 h2 => absurd vwB0_87.out.lt (Nat.not_lt.2 (by rw [← h2]; exact (o_t.lt k h1).1)))
    have BX_gB0_t : Hid (∀ k, (.slice (some ⟨x_t, 0, none⟩) z0.w.q.length z0.w.q.length : Value).ownBlock = some k → k ≠ R_gB0) := Lib.hid (fun k h1 h2 => absurd gB0_87.out.lt (Nat.not_lt.2 (by rw [← h2]; exact (o_t.lt k h1).1)))
    have AP_g0_th : Hid (∀ k, (.slice a_g0 ps0.w.q.length c_g0 : Value).ownBlock = some k → (.slice (some ⟨y_t, 0, none⟩) z0.h.length z0.h.length : Value).ownBlock ≠ some k) := Lib.hid (fun k h1 h2 => absurd (g0_87.out.lt k h1).2 (Nat.not_lt.2 (o_th.lt k h2).1))
    have AP_g0h_th : Hid (∀ k, (.slice a_g0h ps0.h.length c_g0h : Value).ownBlock = some k → (.slice (some ⟨y_t, 0, none⟩) z0.h.length z0.h.length : Value).ownBlock ≠ some k) := Lib.hid (fun k h1 h2 => absurd (g0h_87.out.lt k h1).2 (Nat.not_lt.2 (o_th.lt k h2).1))
    have AP_g1_th : Hid (∀ k, (.slice a_g1 ps1.length c_g1 : Value).ownBlock = some k → (.slice (some ⟨y_t, 0, none⟩) z0.h.length z0.h.length : Value).ownBlock ≠ some k) := Lib.hid (fun k h1 h2 => absurd (g1_87.out.lt k h1).2 (Nat.not_lt.2 (o_th.lt k h2).1))
    have BV_HV_th : Hid (∀ k, (.slice (some ⟨y_t, 0, none⟩) z0.h.length z0.h.length : Value).ownBlock = some k → W8.heap.size ≤ k) := Lib.hid (fun k h => Nat.le_trans HV_87.out.size (o_th.lt k h).1)
    have O_th := Lib.hid (ownz_base o_th HB_87.out.size)
    have BX_AW_th : Hid (∀ k, (.slice (some ⟨y_t, 0, none⟩) z0.h.length z0.h.length : Value).ownBlock = some k → k ≠ R_AW) := Lib.hid (fun k h1 h2 => absurd AW_87.out.lt (Nat.not_lt.2 (by rw [← h2]; exact (o_th.lt k h1).1)))
    have BX_vwB0_th : Hid (∀ k, (.slice (some ⟨y_t, 0, none⟩) z0.h.length z0.h.length : Value).ownBlock = some k → k ≠ R_vwB0) := Lib.hid (fun k h1 h2 => absurd vwB0_87.out.lt (Nat.not_lt.2 (by rw [← h2]; exact (o_th.lt k h1).1)))
    have BX_gB0_th : Hid (∀ k, (.slice (some ⟨y_t, 0, none⟩) z0.h.length z0.h.length : Value).ownBlock = some k → k ≠ R_gB0) := Lib.hid (fun k h1 h2 => absurd gB0_87.out.lt (Nat.not_lt.2 (by rw [← h2]; exact (o_th.lt k h1).1)))
    have AP_t_th : Hid (∀ k, (.slice (some ⟨x_t, 0, none⟩) z0.w.q.length z0.w.q.length : Value).ownBlock = some k → (.slice (some ⟨y_t, 0, none⟩) z0.h.length z0.h.length : Value).ownBlock ≠ some k) := Lib.hid (fun k h1 h2 => ne_t ((Option.some.inj h1).trans (Option.some.inj h2).symm))
    clear o_t o_th ne_t
    clear c88_AW_0 c88_AW_1 c88_AW_2 c88_AW_3 c88_AW_4 c88_AW_5
    clear c89_vwB0_0 c89_vwB0_1 c89_vwB0_2 c89_vwB0_3 c89_vwB0_4 c89_vwB0_5
    clear c90_gB0_0 c90_gB0_1 c90_gB0_2 c90_gB0_3 c90_gB0_4 c90_gB0_5
    have HB_92 := Lib.hid (HB_87.out.trans (l91.mono HB_87.out.size))
    have g0_92 := Lib.hid (ownz_below g0_87.out l91 (Nat.le_refl _))
    clear g0_87
    have g0h_92 := Lib.hid (ownz_below g0h_87.out l91 (Nat.le_refl _))
    clear g0h_87
    have g1_92 := Lib.hid (ownz_below g1_87.out l91 (Nat.le_refl _))
    clear g1_87
    have HV_92 := Lib.hid (HV_87.out.trans (l91.mono HV_87.out.size))
    clear HV_87
    have AW_92 := Lib.hid (AW_87.out.below l91 AW_87.out.lt)
    clear AW_87
    have vwB0_92 := Lib.hid (vwB0_87.out.below l91 vwB0_87.out.lt)
    clear vwB0_87
    have gB0_92 := Lib.hid (gB0_87.out.below l91 gB0_87.out.lt)
    clear gB0_87
    clear l91
    have c93_AW_0 := AW_92.out.at 0 (v := .int .i64 z0.w.t) rfl
    have c93_AW_1 := AW_92.out.at 1 (v := .int .i64 z0.w.z) rfl
    have c93_AW_2 := AW_92.out.at 2 (v := .slice p0 z0.w.q.length cap0) rfl
    have c93_AW_3 := AW_92.out.at 3 (v := .int .i64 z0.c) rfl
    have c93_AW_4 := AW_92.out.at 4 (v := .int .i64 z0.u) rfl
    have c93_AW_5 := AW_92.out.at 5 (v := .slice p1 z0.h.length cap1) rfl
    have c94_vwB0_0 := vwB0_92.out.at 0 (v := .int .i64 ps0.w.t) rfl
    have c94_vwB0_1 := vwB0_92.out.at 1 (v := .int .i64 ps0.w.z) rfl
    have c94_vwB0_2 := vwB0_92.out.at 2 (v := .slice a_w0 ps0.w.q.length c_w0) rfl
    have c94_vwB0_3 := vwB0_92.out.at 3 (v := .int .i64 ps0.c) rfl
    have c94_vwB0_4 := vwB0_92.out.at 4 (v := .int .i64 ps0.u) rfl
    have c94_vwB0_5 := vwB0_92.out.at 5 (v := .slice a_w0h ps0.h.length c_w0h) rfl
    have c95_gB0_0 := gB0_92.out.at 0 (v := .int .i64 ps0.w.t) rfl
    have c95_gB0_1 := gB0_92.out.at 1 (v := .int .i64 ps0.w.z) rfl
    have c95_gB0_2 := gB0_92.out.at 2 (v := .slice a_g0 ps0.w.q.length c_g0) rfl
    have c95_gB0_3 := gB0_92.out.at 3 (v := .int .i64 ps0.c) rfl
    have c95_gB0_4 := gB0_92.out.at 4 (v := .int .i64 ps0.u) rfl
    have c95_gB0_5 := gB0_92.out.at 5 (v := .slice a_g0h ps0.h.length c_g0h) rfl
    go_wp2_with fail
    refine (HIm.out _ _ _ (rowz_own O_t.out) (rowz_own O_th.out) (.inr ⟨_, _, _, rfl⟩) (.inr ⟨_, _, rfl⟩)).mono ?_
    rintro e W96 ⟨v_h0, v_h0h, v_h1, rfl, o_h0, o_h0h, ap_h0_h0h, o_h1, ap_h0_h1, ap_h0h_h1, l96⟩
    obtain ⟨a_h0, c_h0, rfl, _, _⟩ := ownz_slice o_h0
    have AP_g0_h0 : Hid (∀ k, (.slice a_g0 ps0.w.q.length c_g0 : Value).ownBlock = some k → (.slice a_h0 ps0.w.q.length c_h0 : Value).ownBlock ≠ some k) := Lib.hid (fun k h1 h2 => absurd (g0_92.out.lt k h1).2 (Nat.not_lt.2 (o_h0.lt k h2).1))
    have AP_g0h_h0 : Hid (∀ k, (.slice a_g0h ps0.h.length c_g0h : Value).ownBlock = some k → (.slice a_h0 ps0.w.q.length c_h0 : Value).ownBlock ≠ some k) := Lib.hid (fun k h1 h2 => absurd (g0h_92.out.lt k h1).2 (Nat.not_lt.2 (o_h0.lt k h2).1))
    have AP_g1_h0 : Hid (∀ k, (.slice a_g1 ps1.length c_g1 : Value).ownBlock = some k → (.slice a_h0 ps0.w.q.length c_h0 : Value).ownBlock ≠ some k) := Lib.hid (fun k h1 h2 => absurd (g1_92.out.lt k h1).2 (Nat.not_lt.2 (o_h0.lt k h2).1))
    have AP_t_h0 : Hid (∀ k, (.slice (some ⟨x_t, 0, none⟩) z0.w.q.length z0.w.q.length : Value).ownBlock = some k → (.slice a_h0 ps0.w.q.length c_h0 : Value).ownBlock ≠ some k) := Lib.hid (fun k h1 h2 => absurd (O_t.out.lt k h1).2 (Nat.not_lt.2 (o_h0.lt k h2).1))
    have AP_th_h0 : Hid (∀ k, (.slice (some ⟨y_t, 0, none⟩) z0.h.length z0.h.length : Value).ownBlock = some k → (.slice a_h0 ps0.w.q.length c_h0 : Value).ownBlock ≠ some k) := Lib.hid (fun k h1 h2 => absurd (O_th.out.lt k h1).2 (Nat.not_lt.2 (o_h0.lt k h2).1))
    have BV_HV_h0 : Hid (∀ k, (.slice a_h0 ps0.w.q.length c_h0 : Value).ownBlock = some k → W8.heap.size ≤ k) := Lib.hid (fun k h => Nat.le_trans HV_92.out.size (o_h0.lt k h).1)
    have O_h0 := Lib.hid (ownz_base o_h0 HB_92.out.size)
    have BX_AW_h0 : Hid (∀ k, (.slice a_h0 ps0.w.q.length c_h0 : Value).ownBlock = some k → k ≠ R_AW) := Lib.hid (fun k h1 h2 => absurd AW_92.out.lt (Nat.not_lt.2 (by rw [← h2]; exact (o_h0.lt k h1).1)))
    have BX_vwB0_h0 : Hid (∀ k, (.slice a_h0 ps0.w.q.length c_h0 : Value).ownBlock = some k → k ≠ R_vwB0) := Lib.hid (fun k h1 h2 => absurd vwB0_92.out.lt (Nat.not_lt.2 (by rw [← h2]; exact (o_h0.lt k h1).1)))
    have BX_gB0_h0 : Hid (∀ k, (.slice a_h0 ps0.w.q.length c_h0 : Value).ownBlock = some k → k ≠ R_gB0) := Lib.hid (fun k h1 h2 => absurd gB0_92.out.lt (Nat.not_lt.2 (by rw [← h2]; exact (o_h0.lt k h1).1)))
    clear o_h0
    obtain ⟨a_h0h, c_h0h, rfl, _, _⟩ := ownz_slice o_h0h
    have AP_g0_h0h : Hid (∀ k, (.slice a_g0 ps0.w.q.length c_g0 : Value).ownBlock = some k → (.slice a_h0h ps0.h.length c_h0h : Value).ownBlock ≠ some k) := Lib.hid (fun k h1 h2 => absurd (g0_92.out.lt k h1).2 (Nat.not_lt.2 (o_h0h.lt k h2).1))
    have AP_g0h_h0h : Hid (∀ k, (.slice a_g0h ps0.h.length c_g0h : Value).ownBlock = some k → (.slice a_h0h ps0.h.length c_h0h : Value).ownBlock ≠ some k) := Lib.hid (fun k h1 h2 => absurd (g0h_92.out.lt k h1).2 (Nat.not_lt.2 (o_h0h.lt k h2).1))
    have AP_g1_h0h : Hid (∀ k, (.slice a_g1 ps1.length c_g1 : Value).ownBlock = some k → (.slice a_h0h ps0.h.length c_h0h : Value).ownBlock ≠ some k) := Lib.hid (fun k h1 h2 => absurd (g1_92.out.lt k h1).2 (Nat.not_lt.2 (o_h0h.lt k h2).1))
    have AP_t_h0h : Hid (∀ k, (.slice (some ⟨x_t, 0, none⟩) z0.w.q.length z0.w.q.length : Value).ownBlock = some k → (.slice a_h0h ps0.h.length c_h0h : Value).ownBlock ≠ some k) := Lib.hid (fun k h1 h2 => absurd (O_t.out.lt k h1).2 (Nat.not_lt.2 (o_h0h.lt k h2).1))
    have AP_th_h0h : Hid (∀ k, (.slice (some ⟨y_t, 0, none⟩) z0.h.length z0.h.length : Value).ownBlock = some k → (.slice a_h0h ps0.h.length c_h0h : Value).ownBlock ≠ some k) := Lib.hid (fun k h1 h2 => absurd (O_th.out.lt k h1).2 (Nat.not_lt.2 (o_h0h.lt k h2).1))
    have BV_HV_h0h : Hid (∀ k, (.slice a_h0h ps0.h.length c_h0h : Value).ownBlock = some k → W8.heap.size ≤ k) := Lib.hid (fun k h => Nat.le_trans HV_92.out.size (o_h0h.lt k h).1)
    have O_h0h := Lib.hid (ownz_base o_h0h HB_92.out.size)
    have BX_AW_h0h : Hid (∀ k, (.slice a_h0h ps0.h.length c_h0h : Value).ownBlock = some k → k ≠ R_AW) := Lib.hid (fun k h1 h2 => absurd AW_92.out.lt (Nat.not_lt.2 (by rw [← h2]; exact (o_h0h.lt k h1).1)))
    have BX_vwB0_h0h : Hid (∀ k, (.slice a_h0h ps0.h.length c_h0h : Value).ownBlock = some k → k ≠ R_vwB0) := Lib.hid (fun k h1 h2 => absurd vwB0_92.out.lt (Nat.not_lt.2 (by rw [← h2]; exact (o_h0h.lt k h1).1)))
    have BX_gB0_h0h : Hid (∀ k, (.slice a_h0h ps0.h.length c_h0h : Value).ownBlock = some k → k ≠ R_gB0) := Lib.hid (fun k h1 h2 => absurd gB0_92.out.lt (Nat.not_lt.2 (by rw [← h2]; exact (o_h0h.lt k h1).1)))
    clear o_h0h
    obtain ⟨a_h1, c_h1, rfl, _, _⟩ := ownz_slice o_h1
    have AP_g0_h1 : Hid (∀ k, (.slice a_g0 ps0.w.q.length c_g0 : Value).ownBlock = some k → (.slice a_h1 ps1.length c_h1 : Value).ownBlock ≠ some k) := Lib.hid (fun k h1 h2 => absurd (g0_92.out.lt k h1).2 (Nat.not_lt.2 (o_h1.lt k h2).1))
    have AP_g0h_h1 : Hid (∀ k, (.slice a_g0h ps0.h.length c_g0h : Value).ownBlock = some k → (.slice a_h1 ps1.length c_h1 : Value).ownBlock ≠ some k) := Lib.hid (fun k h1 h2 => absurd (g0h_92.out.lt k h1).2 (Nat.not_lt.2 (o_h1.lt k h2).1))
    have AP_g1_h1 : Hid (∀ k, (.slice a_g1 ps1.length c_g1 : Value).ownBlock = some k → (.slice a_h1 ps1.length c_h1 : Value).ownBlock ≠ some k) := Lib.hid (fun k h1 h2 => absurd (g1_92.out.lt k h1).2 (Nat.not_lt.2 (o_h1.lt k h2).1))
    have AP_t_h1 : Hid (∀ k, (.slice (some ⟨x_t, 0, none⟩) z0.w.q.length z0.w.q.length : Value).ownBlock = some k → (.slice a_h1 ps1.length c_h1 : Value).ownBlock ≠ some k) := Lib.hid (fun k h1 h2 => absurd (O_t.out.lt k h1).2 (Nat.not_lt.2 (o_h1.lt k h2).1))
    have AP_th_h1 : Hid (∀ k, (.slice (some ⟨y_t, 0, none⟩) z0.h.length z0.h.length : Value).ownBlock = some k → (.slice a_h1 ps1.length c_h1 : Value).ownBlock ≠ some k) := Lib.hid (fun k h1 h2 => absurd (O_th.out.lt k h1).2 (Nat.not_lt.2 (o_h1.lt k h2).1))
    have BV_HV_h1 : Hid (∀ k, (.slice a_h1 ps1.length c_h1 : Value).ownBlock = some k → W8.heap.size ≤ k) := Lib.hid (fun k h => Nat.le_trans HV_92.out.size (o_h1.lt k h).1)
    have O_h1 := Lib.hid (ownz_base o_h1 HB_92.out.size)
    have BX_AW_h1 : Hid (∀ k, (.slice a_h1 ps1.length c_h1 : Value).ownBlock = some k → k ≠ R_AW) := Lib.hid (fun k h1 h2 => absurd AW_92.out.lt (Nat.not_lt.2 (by rw [← h2]; exact (o_h1.lt k h1).1)))
    have BX_vwB0_h1 : Hid (∀ k, (.slice a_h1 ps1.length c_h1 : Value).ownBlock = some k → k ≠ R_vwB0) := Lib.hid (fun k h1 h2 => absurd vwB0_92.out.lt (Nat.not_lt.2 (by rw [← h2]; exact (o_h1.lt k h1).1)))
    have BX_gB0_h1 : Hid (∀ k, (.slice a_h1 ps1.length c_h1 : Value).ownBlock = some k → k ≠ R_gB0) := Lib.hid (fun k h1 h2 => absurd gB0_92.out.lt (Nat.not_lt.2 (by rw [← h2]; exact (o_h1.lt k h1).1)))
    clear o_h1
    have AP_h0_h0h := Lib.hid ap_h0_h0h
    clear ap_h0_h0h
    have AP_h0_h1 := Lib.hid ap_h0_h1
    clear ap_h0_h1
    have AP_h0h_h1 := Lib.hid ap_h0h_h1
    clear ap_h0h_h1
    clear c93_AW_0 c93_AW_1 c93_AW_2 c93_AW_3 c93_AW_4 c93_AW_5
    clear c94_vwB0_0 c94_vwB0_1 c94_vwB0_2 c94_vwB0_3 c94_vwB0_4 c94_vwB0_5
    clear c95_gB0_0 c95_gB0_1 c95_gB0_2 c95_gB0_3 c95_gB0_4 c95_gB0_5
    have HB_97 := Lib.hid (HB_92.out.trans (l96.mono HB_92.out.size))
    have g0_97 := Lib.hid (ownz_below g0_92.out l96 (Nat.le_refl _))
    clear g0_92
    have g0h_97 := Lib.hid (ownz_below g0h_92.out l96 (Nat.le_refl _))
    clear g0h_92
    have g1_97 := Lib.hid (ownz_below g1_92.out l96 (Nat.le_refl _))
    clear g1_92
    have t_97 := Lib.hid (ownz_below O_t.out l96 (Nat.le_refl _))
    clear O_t
    have th_97 := Lib.hid (ownz_below O_th.out l96 (Nat.le_refl _))
    clear O_th
    have HV_97 := Lib.hid (HV_92.out.trans (l96.mono HV_92.out.size))
    clear HV_92
    have AW_97 := Lib.hid (AW_92.out.below l96 AW_92.out.lt)
    clear AW_92
    have vwB0_97 := Lib.hid (vwB0_92.out.below l96 vwB0_92.out.lt)
    clear vwB0_92
    have gB0_97 := Lib.hid (gB0_92.out.below l96 gB0_92.out.lt)
    clear gB0_92
    clear l96
    have c98_AW_0 := AW_97.out.at 0 (v := .int .i64 z0.w.t) rfl
    have c98_AW_1 := AW_97.out.at 1 (v := .int .i64 z0.w.z) rfl
    have c98_AW_2 := AW_97.out.at 2 (v := .slice p0 z0.w.q.length cap0) rfl
    have c98_AW_3 := AW_97.out.at 3 (v := .int .i64 z0.c) rfl
    have c98_AW_4 := AW_97.out.at 4 (v := .int .i64 z0.u) rfl
    have c98_AW_5 := AW_97.out.at 5 (v := .slice p1 z0.h.length cap1) rfl
    have c99_vwB0_0 := vwB0_97.out.at 0 (v := .int .i64 ps0.w.t) rfl
    have c99_vwB0_1 := vwB0_97.out.at 1 (v := .int .i64 ps0.w.z) rfl
    have c99_vwB0_2 := vwB0_97.out.at 2 (v := .slice a_w0 ps0.w.q.length c_w0) rfl
    have c99_vwB0_3 := vwB0_97.out.at 3 (v := .int .i64 ps0.c) rfl
    have c99_vwB0_4 := vwB0_97.out.at 4 (v := .int .i64 ps0.u) rfl
    have c99_vwB0_5 := vwB0_97.out.at 5 (v := .slice a_w0h ps0.h.length c_w0h) rfl
    have c100_gB0_0 := gB0_97.out.at 0 (v := .int .i64 ps0.w.t) rfl
    have c100_gB0_1 := gB0_97.out.at 1 (v := .int .i64 ps0.w.z) rfl
    have c100_gB0_2 := gB0_97.out.at 2 (v := .slice a_g0 ps0.w.q.length c_g0) rfl
    have c100_gB0_3 := gB0_97.out.at 3 (v := .int .i64 ps0.c) rfl
    have c100_gB0_4 := gB0_97.out.at 4 (v := .int .i64 ps0.u) rfl
    have c100_gB0_5 := gB0_97.out.at 5 (v := .slice a_g0h ps0.h.length c_g0h) rfl
    go_upto_region 29 with fail
    obtain ⟨W101, hW101⟩ : ∃ W101, W101 = W96.alloc (.cells #[.int .i64 ps0.w.t, .int .i64 ps0.w.z, .slice a_h0 ps0.w.q.length c_h0, .int .i64 ps0.c, .int .i64 ps0.u, .slice a_h0h ps0.h.length c_h0h] 29) := ⟨_, rfl⟩
    have l101 : Below W96.heap.size W96 W101 := by rw [hW101]; exact (Below.refl _ _).alloc (Nat.le_refl _) _
    have X101_hB0 : Hid (Bx W101 W96.heap.size #[.int .i64 ps0.w.t, .int .i64 ps0.w.z, .slice a_h0 ps0.w.q.length c_h0, .int .i64 ps0.c, .int .i64 ps0.u, .slice a_h0h ps0.h.length c_h0h] 29) := Lib.hid (by rw [hW101]; exact Bx.new _ _ _)
    rw [← hW101]
    clear hW101
    have BX_hB0_g0 : Hid (∀ k, (.slice a_g0 ps0.w.q.length c_g0 : Value).ownBlock = some k → k ≠ W96.heap.size) := Lib.hid (fun k h1 h2 => absurd (g0_97.out.lt k h1).2 (by omega))
    have BX_hB0_g0h : Hid (∀ k, (.slice a_g0h ps0.h.length c_g0h : Value).ownBlock = some k → k ≠ W96.heap.size) := Lib.hid (fun k h1 h2 => absurd (g0h_97.out.lt k h1).2 (by omega))
    have BX_hB0_g1 : Hid (∀ k, (.slice a_g1 ps1.length c_g1 : Value).ownBlock = some k → k ≠ W96.heap.size) := Lib.hid (fun k h1 h2 => absurd (g1_97.out.lt k h1).2 (by omega))
    have BX_hB0_t : Hid (∀ k, (.slice (some ⟨x_t, 0, none⟩) z0.w.q.length z0.w.q.length : Value).ownBlock = some k → k ≠ W96.heap.size) := Lib.hid (fun k h1 h2 => absurd (t_97.out.lt k h1).2 (by omega))
    have BX_hB0_th : Hid (∀ k, (.slice (some ⟨y_t, 0, none⟩) z0.h.length z0.h.length : Value).ownBlock = some k → k ≠ W96.heap.size) := Lib.hid (fun k h1 h2 => absurd (th_97.out.lt k h1).2 (by omega))
    have BX_hB0_h0 : Hid (∀ k, (.slice a_h0 ps0.w.q.length c_h0 : Value).ownBlock = some k → k ≠ W96.heap.size) := Lib.hid (fun k h1 h2 => absurd (O_h0.out.lt k h1).2 (by omega))
    have BX_hB0_h0h : Hid (∀ k, (.slice a_h0h ps0.h.length c_h0h : Value).ownBlock = some k → k ≠ W96.heap.size) := Lib.hid (fun k h1 h2 => absurd (O_h0h.out.lt k h1).2 (by omega))
    have BX_hB0_h1 : Hid (∀ k, (.slice a_h1 ps1.length c_h1 : Value).ownBlock = some k → k ≠ W96.heap.size) := Lib.hid (fun k h1 h2 => absurd (O_h1.out.lt k h1).2 (by omega))
    have HG_hB0 : Hid (w.heap.size ≤ W96.heap.size) := Lib.hid HB_97.out.size
    have HN_hB0_AW : Hid (R_AW < W96.heap.size) := Lib.hid AW_97.out.lt
    have HN_hB0_vwB0 : Hid (R_vwB0 < W96.heap.size) := Lib.hid vwB0_97.out.lt
    have HN_hB0_gB0 : Hid (R_gB0 < W96.heap.size) := Lib.hid gB0_97.out.lt
    obtain ⟨R_hB0, hR_hB0⟩ : ∃ X, X = W96.heap.size := ⟨_, rfl⟩
    rw [← hR_hB0] at X101_hB0 HG_hB0 BX_hB0_g0 BX_hB0_g0h BX_hB0_g1 BX_hB0_t BX_hB0_th BX_hB0_h0 BX_hB0_h0h BX_hB0_h1 HN_hB0_AW HN_hB0_vwB0 HN_hB0_gB0 ⊢
    clear hR_hB0
    clear c98_AW_0 c98_AW_1 c98_AW_2 c98_AW_3 c98_AW_4 c98_AW_5
    clear c99_vwB0_0 c99_vwB0_1 c99_vwB0_2 c99_vwB0_3 c99_vwB0_4 c99_vwB0_5
    clear c100_gB0_0 c100_gB0_1 c100_gB0_2 c100_gB0_3 c100_gB0_4 c100_gB0_5
    have HB_102 := Lib.hid (HB_97.out.trans (l101.mono HB_97.out.size))
    have g0_102 := Lib.hid (ownz_below g0_97.out l101 (Nat.le_refl _))
    clear g0_97
    have g0h_102 := Lib.hid (ownz_below g0h_97.out l101 (Nat.le_refl _))
    clear g0h_97
    have g1_102 := Lib.hid (ownz_below g1_97.out l101 (Nat.le_refl _))
    clear g1_97
    have t_102 := Lib.hid (ownz_below t_97.out l101 (Nat.le_refl _))
    clear t_97
    have th_102 := Lib.hid (ownz_below th_97.out l101 (Nat.le_refl _))
    clear th_97
    have h0_102 := Lib.hid (ownz_below O_h0.out l101 (Nat.le_refl _))
    clear O_h0
    have h0h_102 := Lib.hid (ownz_below O_h0h.out l101 (Nat.le_refl _))
    clear O_h0h
    have h1_102 := Lib.hid (ownz_below O_h1.out l101 (Nat.le_refl _))
    clear O_h1
    have HV_102 := Lib.hid (HV_97.out.trans (l101.mono HV_97.out.size))
    clear HV_97
    have AW_102 := Lib.hid (AW_97.out.below l101 AW_97.out.lt)
    clear AW_97
    have vwB0_102 := Lib.hid (vwB0_97.out.below l101 vwB0_97.out.lt)
    clear vwB0_97
    have gB0_102 := Lib.hid (gB0_97.out.below l101 gB0_97.out.lt)
    clear gB0_97
    clear l101
    have c103_AW_0 := AW_102.out.at 0 (v := .int .i64 z0.w.t) rfl
    have c103_AW_1 := AW_102.out.at 1 (v := .int .i64 z0.w.z) rfl
    have c103_AW_2 := AW_102.out.at 2 (v := .slice p0 z0.w.q.length cap0) rfl
    have c103_AW_3 := AW_102.out.at 3 (v := .int .i64 z0.c) rfl
    have c103_AW_4 := AW_102.out.at 4 (v := .int .i64 z0.u) rfl
    have c103_AW_5 := AW_102.out.at 5 (v := .slice p1 z0.h.length cap1) rfl
    have c104_vwB0_0 := vwB0_102.out.at 0 (v := .int .i64 ps0.w.t) rfl
    have c104_vwB0_1 := vwB0_102.out.at 1 (v := .int .i64 ps0.w.z) rfl
    have c104_vwB0_2 := vwB0_102.out.at 2 (v := .slice a_w0 ps0.w.q.length c_w0) rfl
    have c104_vwB0_3 := vwB0_102.out.at 3 (v := .int .i64 ps0.c) rfl
    have c104_vwB0_4 := vwB0_102.out.at 4 (v := .int .i64 ps0.u) rfl
    have c104_vwB0_5 := vwB0_102.out.at 5 (v := .slice a_w0h ps0.h.length c_w0h) rfl
    have c105_gB0_0 := gB0_102.out.at 0 (v := .int .i64 ps0.w.t) rfl
    have c105_gB0_1 := gB0_102.out.at 1 (v := .int .i64 ps0.w.z) rfl
    have c105_gB0_2 := gB0_102.out.at 2 (v := .slice a_g0 ps0.w.q.length c_g0) rfl
    have c105_gB0_3 := gB0_102.out.at 3 (v := .int .i64 ps0.c) rfl
    have c105_gB0_4 := gB0_102.out.at 4 (v := .int .i64 ps0.u) rfl
    have c105_gB0_5 := gB0_102.out.at 5 (v := .slice a_g0h ps0.h.length c_g0h) rfl
    have c106_hB0_0 := X101_hB0.out.at 0 (v := .int .i64 ps0.w.t) rfl
    have c106_hB0_1 := X101_hB0.out.at 1 (v := .int .i64 ps0.w.z) rfl
    have c106_hB0_2 := X101_hB0.out.at 2 (v := .slice a_h0 ps0.w.q.length c_h0) rfl
    have c106_hB0_3 := X101_hB0.out.at 3 (v := .int .i64 ps0.c) rfl
    have c106_hB0_4 := X101_hB0.out.at 4 (v := .int .i64 ps0.u) rfl
    have c106_hB0_5 := X101_hB0.out.at 5 (v := .slice a_h0h ps0.h.length c_h0h) rfl
    go_wp2_with fail
    refine (eqSo_same _ _ _ _ ps0 _ (rowz_own h0_102.out) (rowz_own h0h_102.out) (RV0.out.below HV_102.out (Nat.le_refl _)) (RV0h.out.below HV_102.out (Nat.le_refl _))).mono ?_
    rintro e W107 ⟨rfl, l107⟩
    clear c103_AW_0 c103_AW_1 c103_AW_2 c103_AW_3 c103_AW_4 c103_AW_5
    clear c104_vwB0_0 c104_vwB0_1 c104_vwB0_2 c104_vwB0_3 c104_vwB0_4 c104_vwB0_5
    clear c105_gB0_0 c105_gB0_1 c105_gB0_2 c105_gB0_3 c105_gB0_4 c105_gB0_5
    clear c106_hB0_0 c106_hB0_1 c106_hB0_2 c106_hB0_3 c106_hB0_4 c106_hB0_5
    have HB_108 := Lib.hid (HB_102.out.trans (l107.mono HB_102.out.size))
    have g0_108 := Lib.hid (ownz_below g0_102.out l107 (Nat.le_refl _))
    clear g0_102
    have g0h_108 := Lib.hid (ownz_below g0h_102.out l107 (Nat.le_refl _))
    clear g0h_102
    have g1_108 := Lib.hid (ownz_below g1_102.out l107 (Nat.le_refl _))
    clear g1_102
    have t_108 := Lib.hid (ownz_below t_102.out l107 (Nat.le_refl _))
    clear t_102
    have th_108 := Lib.hid (ownz_below th_102.out l107 (Nat.le_refl _))
    clear th_102
    have h0_108 := Lib.hid (ownz_below h0_102.out l107 (Nat.le_refl _))
    clear h0_102
    have h0h_108 := Lib.hid (ownz_below h0h_102.out l107 (Nat.le_refl _))
    clear h0h_102
    have h1_108 := Lib.hid (ownz_below h1_102.out l107 (Nat.le_refl _))
    clear h1_102
    have HV_108 := Lib.hid (HV_102.out.trans (l107.mono HV_102.out.size))
    clear HV_102
    have AW_108 := Lib.hid (AW_102.out.below l107 AW_102.out.lt)
    clear AW_102
    have vwB0_108 := Lib.hid (vwB0_102.out.below l107 vwB0_102.out.lt)
    clear vwB0_102
    have gB0_108 := Lib.hid (gB0_102.out.below l107 gB0_102.out.lt)
    clear gB0_102
    have hB0_108 := Lib.hid (X101_hB0.out.below l107 X101_hB0.out.lt)
    clear X101_hB0
    clear l107
    have c109_AW_0 := AW_108.out.at 0 (v := .int .i64 z0.w.t) rfl
    have c109_AW_1 := AW_108.out.at 1 (v := .int .i64 z0.w.z) rfl
    have c109_AW_2 := AW_108.out.at 2 (v := .slice p0 z0.w.q.length cap0) rfl
    have c109_AW_3 := AW_108.out.at 3 (v := .int .i64 z0.c) rfl
    have c109_AW_4 := AW_108.out.at 4 (v := .int .i64 z0.u) rfl
    have c109_AW_5 := AW_108.out.at 5 (v := .slice p1 z0.h.length cap1) rfl
    have c110_vwB0_0 := vwB0_108.out.at 0 (v := .int .i64 ps0.w.t) rfl
    have c110_vwB0_1 := vwB0_108.out.at 1 (v := .int .i64 ps0.w.z) rfl
    have c110_vwB0_2 := vwB0_108.out.at 2 (v := .slice a_w0 ps0.w.q.length c_w0) rfl
    have c110_vwB0_3 := vwB0_108.out.at 3 (v := .int .i64 ps0.c) rfl
    have c110_vwB0_4 := vwB0_108.out.at 4 (v := .int .i64 ps0.u) rfl
    have c110_vwB0_5 := vwB0_108.out.at 5 (v := .slice a_w0h ps0.h.length c_w0h) rfl
    have c111_gB0_0 := gB0_108.out.at 0 (v := .int .i64 ps0.w.t) rfl
    have c111_gB0_1 := gB0_108.out.at 1 (v := .int .i64 ps0.w.z) rfl
    have c111_gB0_2 := gB0_108.out.at 2 (v := .slice a_g0 ps0.w.q.length c_g0) rfl
    have c111_gB0_3 := gB0_108.out.at 3 (v := .int .i64 ps0.c) rfl
    have c111_gB0_4 := gB0_108.out.at 4 (v := .int .i64 ps0.u) rfl
    have c111_gB0_5 := gB0_108.out.at 5 (v := .slice a_g0h ps0.h.length c_g0h) rfl
    have c112_hB0_0 := hB0_108.out.at 0 (v := .int .i64 ps0.w.t) rfl
    have c112_hB0_1 := hB0_108.out.at 1 (v := .int .i64 ps0.w.z) rfl
    have c112_hB0_2 := hB0_108.out.at 2 (v := .slice a_h0 ps0.w.q.length c_h0) rfl
    have c112_hB0_3 := hB0_108.out.at 3 (v := .int .i64 ps0.c) rfl
    have c112_hB0_4 := hB0_108.out.at 4 (v := .int .i64 ps0.u) rfl
    have c112_hB0_5 := hB0_108.out.at 5 (v := .slice a_h0h ps0.h.length c_h0h) rfl
    go_wp2_with fail
    refine (eqPqS_same _ _ ps1 _ (rowz_own h1_108.out) (RV1.out.below HV_108.out (Nat.le_refl _))).mono ?_
    rintro e W113 ⟨rfl, l113⟩
    clear c109_AW_0 c109_AW_1 c109_AW_2 c109_AW_3 c109_AW_4 c109_AW_5
    clear c110_vwB0_0 c110_vwB0_1 c110_vwB0_2 c110_vwB0_3 c110_vwB0_4 c110_vwB0_5
    clear c111_gB0_0 c111_gB0_1 c111_gB0_2 c111_gB0_3 c111_gB0_4 c111_gB0_5
    clear c112_hB0_0 c112_hB0_1 c112_hB0_2 c112_hB0_3 c112_hB0_4 c112_hB0_5
    have HB_114 := Lib.hid (HB_108.out.trans (l113.mono HB_108.out.size))
    have g0_114 := Lib.hid (ownz_below g0_108.out l113 (Nat.le_refl _))
    clear g0_108
    have g0h_114 := Lib.hid (ownz_below g0h_108.out l113 (Nat.le_refl _))
    clear g0h_108
    have g1_114 := Lib.hid (ownz_below g1_108.out l113 (Nat.le_refl _))
    clear g1_108
    have t_114 := Lib.hid (ownz_below t_108.out l113 (Nat.le_refl _))
    clear t_108
    have th_114 := Lib.hid (ownz_below th_108.out l113 (Nat.le_refl _))
    clear th_108
    have h0_114 := Lib.hid (ownz_below h0_108.out l113 (Nat.le_refl _))
    clear h0_108
    have h0h_114 := Lib.hid (ownz_below h0h_108.out l113 (Nat.le_refl _))
    clear h0h_108
    have h1_114 := Lib.hid (ownz_below h1_108.out l113 (Nat.le_refl _))
    clear h1_108
    have HV_114 := Lib.hid (HV_108.out.trans (l113.mono HV_108.out.size))
    clear HV_108
    have AW_114 := Lib.hid (AW_108.out.below l113 AW_108.out.lt)
    clear AW_108
    have vwB0_114 := Lib.hid (vwB0_108.out.below l113 vwB0_108.out.lt)
    clear vwB0_108
    have gB0_114 := Lib.hid (gB0_108.out.below l113 gB0_108.out.lt)
    clear gB0_108
    have hB0_114 := Lib.hid (hB0_108.out.below l113 hB0_108.out.lt)
    clear hB0_108
    clear l113
    have c115_AW_0 := AW_114.out.at 0 (v := .int .i64 z0.w.t) rfl
    have c115_AW_1 := AW_114.out.at 1 (v := .int .i64 z0.w.z) rfl
    have c115_AW_2 := AW_114.out.at 2 (v := .slice p0 z0.w.q.length cap0) rfl
    have c115_AW_3 := AW_114.out.at 3 (v := .int .i64 z0.c) rfl
    have c115_AW_4 := AW_114.out.at 4 (v := .int .i64 z0.u) rfl
    have c115_AW_5 := AW_114.out.at 5 (v := .slice p1 z0.h.length cap1) rfl
    have c116_vwB0_0 := vwB0_114.out.at 0 (v := .int .i64 ps0.w.t) rfl
    have c116_vwB0_1 := vwB0_114.out.at 1 (v := .int .i64 ps0.w.z) rfl
    have c116_vwB0_2 := vwB0_114.out.at 2 (v := .slice a_w0 ps0.w.q.length c_w0) rfl
    have c116_vwB0_3 := vwB0_114.out.at 3 (v := .int .i64 ps0.c) rfl
    have c116_vwB0_4 := vwB0_114.out.at 4 (v := .int .i64 ps0.u) rfl
    have c116_vwB0_5 := vwB0_114.out.at 5 (v := .slice a_w0h ps0.h.length c_w0h) rfl
    have c117_gB0_0 := gB0_114.out.at 0 (v := .int .i64 ps0.w.t) rfl
    have c117_gB0_1 := gB0_114.out.at 1 (v := .int .i64 ps0.w.z) rfl
    have c117_gB0_2 := gB0_114.out.at 2 (v := .slice a_g0 ps0.w.q.length c_g0) rfl
    have c117_gB0_3 := gB0_114.out.at 3 (v := .int .i64 ps0.c) rfl
    have c117_gB0_4 := gB0_114.out.at 4 (v := .int .i64 ps0.u) rfl
    have c117_gB0_5 := gB0_114.out.at 5 (v := .slice a_g0h ps0.h.length c_g0h) rfl
    have c118_hB0_0 := hB0_114.out.at 0 (v := .int .i64 ps0.w.t) rfl
    have c118_hB0_1 := hB0_114.out.at 1 (v := .int .i64 ps0.w.z) rfl
    have c118_hB0_2 := hB0_114.out.at 2 (v := .slice a_h0 ps0.w.q.length c_h0) rfl
    have c118_hB0_3 := hB0_114.out.at 3 (v := .int .i64 ps0.c) rfl
    have c118_hB0_4 := hB0_114.out.at 4 (v := .int .i64 ps0.u) rfl
    have c118_hB0_5 := hB0_114.out.at 5 (v := .slice a_h0h ps0.h.length c_h0h) rfl
    have hH := heldSo_own (.slice a_g0 ps0.w.q.length c_g0) (.slice a_g0h ps0.h.length c_g0h) ps0.w.t ps0.w.z ps0.c ps0.u ps0.w.q.length ps0.h.length 1 _ W113 g0_114.out g0h_114.out AP_g0_g0h.out (by omega) (by have := HL0.out; have := HL1.out; have := HN0.out; have := HN1.out; have := HKl0.out; have := HKl1.out; omega)
    rw [HKm0.out] at hH
    have HHi := Lib.hid hH
    clear hH
    go_wp2_with fail
    refine (HHi.out).mono ?_
    rintro e W119 ⟨rfl, l119⟩
    clear c115_AW_0 c115_AW_1 c115_AW_2 c115_AW_3 c115_AW_4 c115_AW_5
    clear c116_vwB0_0 c116_vwB0_1 c116_vwB0_2 c116_vwB0_3 c116_vwB0_4 c116_vwB0_5
    clear c117_gB0_0 c117_gB0_1 c117_gB0_2 c117_gB0_3 c117_gB0_4 c117_gB0_5
    clear c118_hB0_0 c118_hB0_1 c118_hB0_2 c118_hB0_3 c118_hB0_4 c118_hB0_5
    have HB_120 := Lib.hid (HB_114.out.trans (l119.mono HB_114.out.size))
    have g0_120 := Lib.hid (ownz_below g0_114.out l119 (Nat.le_refl _))
    clear g0_114
    have g0h_120 := Lib.hid (ownz_below g0h_114.out l119 (Nat.le_refl _))
    clear g0h_114
    have g1_120 := Lib.hid (ownz_below g1_114.out l119 (Nat.le_refl _))
    clear g1_114
    have t_120 := Lib.hid (ownz_below t_114.out l119 (Nat.le_refl _))
    clear t_114
    have th_120 := Lib.hid (ownz_below th_114.out l119 (Nat.le_refl _))
    clear th_114
    have h0_120 := Lib.hid (ownz_below h0_114.out l119 (Nat.le_refl _))
    clear h0_114
    have h0h_120 := Lib.hid (ownz_below h0h_114.out l119 (Nat.le_refl _))
    clear h0h_114
    have h1_120 := Lib.hid (ownz_below h1_114.out l119 (Nat.le_refl _))
    clear h1_114
    have HV_120 := Lib.hid (HV_114.out.trans (l119.mono HV_114.out.size))
    clear HV_114
    have AW_120 := Lib.hid (AW_114.out.below l119 AW_114.out.lt)
    clear AW_114
    have vwB0_120 := Lib.hid (vwB0_114.out.below l119 vwB0_114.out.lt)
    clear vwB0_114
    have gB0_120 := Lib.hid (gB0_114.out.below l119 gB0_114.out.lt)
    clear gB0_114
    have hB0_120 := Lib.hid (hB0_114.out.below l119 hB0_114.out.lt)
    clear hB0_114
    clear l119
    have c121_AW_0 := AW_120.out.at 0 (v := .int .i64 z0.w.t) rfl
    have c121_AW_1 := AW_120.out.at 1 (v := .int .i64 z0.w.z) rfl
    have c121_AW_2 := AW_120.out.at 2 (v := .slice p0 z0.w.q.length cap0) rfl
    have c121_AW_3 := AW_120.out.at 3 (v := .int .i64 z0.c) rfl
    have c121_AW_4 := AW_120.out.at 4 (v := .int .i64 z0.u) rfl
    have c121_AW_5 := AW_120.out.at 5 (v := .slice p1 z0.h.length cap1) rfl
    have c122_vwB0_0 := vwB0_120.out.at 0 (v := .int .i64 ps0.w.t) rfl
    have c122_vwB0_1 := vwB0_120.out.at 1 (v := .int .i64 ps0.w.z) rfl
    have c122_vwB0_2 := vwB0_120.out.at 2 (v := .slice a_w0 ps0.w.q.length c_w0) rfl
    have c122_vwB0_3 := vwB0_120.out.at 3 (v := .int .i64 ps0.c) rfl
    have c122_vwB0_4 := vwB0_120.out.at 4 (v := .int .i64 ps0.u) rfl
    have c122_vwB0_5 := vwB0_120.out.at 5 (v := .slice a_w0h ps0.h.length c_w0h) rfl
    have c123_gB0_0 := gB0_120.out.at 0 (v := .int .i64 ps0.w.t) rfl
    have c123_gB0_1 := gB0_120.out.at 1 (v := .int .i64 ps0.w.z) rfl
    have c123_gB0_2 := gB0_120.out.at 2 (v := .slice a_g0 ps0.w.q.length c_g0) rfl
    have c123_gB0_3 := gB0_120.out.at 3 (v := .int .i64 ps0.c) rfl
    have c123_gB0_4 := gB0_120.out.at 4 (v := .int .i64 ps0.u) rfl
    have c123_gB0_5 := gB0_120.out.at 5 (v := .slice a_g0h ps0.h.length c_g0h) rfl
    have c124_hB0_0 := hB0_120.out.at 0 (v := .int .i64 ps0.w.t) rfl
    have c124_hB0_1 := hB0_120.out.at 1 (v := .int .i64 ps0.w.z) rfl
    have c124_hB0_2 := hB0_120.out.at 2 (v := .slice a_h0 ps0.w.q.length c_h0) rfl
    have c124_hB0_3 := hB0_120.out.at 3 (v := .int .i64 ps0.c) rfl
    have c124_hB0_4 := hB0_120.out.at 4 (v := .int .i64 ps0.u) rfl
    have c124_hB0_5 := hB0_120.out.at 5 (v := .slice a_h0h ps0.h.length c_h0h) rfl
    clear HHi
    have hH := heldPq_own _ ps1.length km0 _ W119 g1_120.out (by omega) (by have := HL0.out; have := HL1.out; have := HN0.out; have := HN1.out; have := HKl0.out; have := HKl1.out; omega)
    rw [HKm1.out] at hH
    have HHi := Lib.hid hH
    clear hH
    go_wp2_with fail
    refine (HHi.out).mono ?_
    rintro e W125 ⟨rfl, lg⟩
    have l125 := below_none lg
    clear lg
    clear c121_AW_0 c121_AW_1 c121_AW_2 c121_AW_3 c121_AW_4 c121_AW_5
    clear c122_vwB0_0 c122_vwB0_1 c122_vwB0_2 c122_vwB0_3 c122_vwB0_4 c122_vwB0_5
    clear c123_gB0_0 c123_gB0_1 c123_gB0_2 c123_gB0_3 c123_gB0_4 c123_gB0_5
    clear c124_hB0_0 c124_hB0_1 c124_hB0_2 c124_hB0_3 c124_hB0_4 c124_hB0_5
    have HB_126 := Lib.hid (HB_120.out.trans (l125.mono HB_120.out.size))
    have g0_126 := Lib.hid (ownz_below g0_120.out l125 (Nat.le_refl _))
    clear g0_120
    have g0h_126 := Lib.hid (ownz_below g0h_120.out l125 (Nat.le_refl _))
    clear g0h_120
    have g1_126 := Lib.hid (ownz_below g1_120.out l125 (Nat.le_refl _))
    clear g1_120
    have t_126 := Lib.hid (ownz_below t_120.out l125 (Nat.le_refl _))
    clear t_120
    have th_126 := Lib.hid (ownz_below th_120.out l125 (Nat.le_refl _))
    clear th_120
    have h0_126 := Lib.hid (ownz_below h0_120.out l125 (Nat.le_refl _))
    clear h0_120
    have h0h_126 := Lib.hid (ownz_below h0h_120.out l125 (Nat.le_refl _))
    clear h0h_120
    have h1_126 := Lib.hid (ownz_below h1_120.out l125 (Nat.le_refl _))
    clear h1_120
    have HV_126 := Lib.hid (HV_120.out.trans (l125.mono HV_120.out.size))
    clear HV_120
    have AW_126 := Lib.hid (AW_120.out.below l125 AW_120.out.lt)
    clear AW_120
    have vwB0_126 := Lib.hid (vwB0_120.out.below l125 vwB0_120.out.lt)
    clear vwB0_120
    have gB0_126 := Lib.hid (gB0_120.out.below l125 gB0_120.out.lt)
    clear gB0_120
    have hB0_126 := Lib.hid (hB0_120.out.below l125 hB0_120.out.lt)
    clear hB0_120
    clear l125
    have c127_AW_0 := AW_126.out.at 0 (v := .int .i64 z0.w.t) rfl
    have c127_AW_1 := AW_126.out.at 1 (v := .int .i64 z0.w.z) rfl
    have c127_AW_2 := AW_126.out.at 2 (v := .slice p0 z0.w.q.length cap0) rfl
    have c127_AW_3 := AW_126.out.at 3 (v := .int .i64 z0.c) rfl
    have c127_AW_4 := AW_126.out.at 4 (v := .int .i64 z0.u) rfl
    have c127_AW_5 := AW_126.out.at 5 (v := .slice p1 z0.h.length cap1) rfl
    have c128_vwB0_0 := vwB0_126.out.at 0 (v := .int .i64 ps0.w.t) rfl
    have c128_vwB0_1 := vwB0_126.out.at 1 (v := .int .i64 ps0.w.z) rfl
    have c128_vwB0_2 := vwB0_126.out.at 2 (v := .slice a_w0 ps0.w.q.length c_w0) rfl
    have c128_vwB0_3 := vwB0_126.out.at 3 (v := .int .i64 ps0.c) rfl
    have c128_vwB0_4 := vwB0_126.out.at 4 (v := .int .i64 ps0.u) rfl
    have c128_vwB0_5 := vwB0_126.out.at 5 (v := .slice a_w0h ps0.h.length c_w0h) rfl
    have c129_gB0_0 := gB0_126.out.at 0 (v := .int .i64 ps0.w.t) rfl
    have c129_gB0_1 := gB0_126.out.at 1 (v := .int .i64 ps0.w.z) rfl
    have c129_gB0_2 := gB0_126.out.at 2 (v := .slice a_g0 ps0.w.q.length c_g0) rfl
    have c129_gB0_3 := gB0_126.out.at 3 (v := .int .i64 ps0.c) rfl
    have c129_gB0_4 := gB0_126.out.at 4 (v := .int .i64 ps0.u) rfl
    have c129_gB0_5 := gB0_126.out.at 5 (v := .slice a_g0h ps0.h.length c_g0h) rfl
    have c130_hB0_0 := hB0_126.out.at 0 (v := .int .i64 ps0.w.t) rfl
    have c130_hB0_1 := hB0_126.out.at 1 (v := .int .i64 ps0.w.z) rfl
    have c130_hB0_2 := hB0_126.out.at 2 (v := .slice a_h0 ps0.w.q.length c_h0) rfl
    have c130_hB0_3 := hB0_126.out.at 3 (v := .int .i64 ps0.c) rfl
    have c130_hB0_4 := hB0_126.out.at 4 (v := .int .i64 ps0.u) rfl
    have c130_hB0_5 := hB0_126.out.at 5 (v := .slice a_h0h ps0.h.length c_h0h) rfl
    clear HHi
    go_wp2_with fail
    go_ret
    exact ⟨rfl, HB_126.out⟩
theorem fnExactTickSource_walk (w : World) (a0_0 : Int) (w0_0 : (Lit.int .i64 a0_0).wf = true) (a0_1 : Int) (w0_1 : (Lit.int .i64 a0_1).wf = true) (v0_2 : Value) (s0_2 : List ByteArray) (w0_2 : Row w v0_2 s0_2.length (s0_2.map Value.string)) (b0_2 : ∀ s ∈ s0_2, s.size ≤ maxLen) (a0_3 : Int) (w0_3 : (Lit.int .i64 a0_3).wf = true) (a0_4 : Int) (w0_4 : (Lit.int .i64 a0_4).wf = true) (v0_5 : Value) (z0_5 : List Hd) (w0_5 : Row w v0_5 z0_5.length (hdF z0_5)) (b0_5 : ∀ r ∈ z0_5, (Lit.int .i64 r.n).wf = true ∧ (Lit.int .i64 r.u).wf = true) (_hsh : w.ShapedOpen Try.prog) :
    Calls Try.prog 7 #[.agg #[.int .i64 a0_0, .int .i64 a0_1, v0_2, .int .i64 a0_3, .int .i64 a0_4, v0_5]] w fun e w' => e = .returned (.bool true) ∧ Below w.heap.size w w' :=
  fnExactTickSource_wk v0_2 v0_5 ⟨⟨a0_0, a0_1, s0_2⟩, a0_3, a0_4, z0_5⟩ w w0_2 w0_5 b0_2
end Go.Proofs.Ytlendmiolhgecaa
