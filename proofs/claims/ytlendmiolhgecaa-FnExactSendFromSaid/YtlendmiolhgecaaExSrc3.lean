/-
  The exact law of items that are sent.
-/
import Derived.Test.YtlendmiolhgecaaSrc3
import Derived.Test.YtlendmiolhgecaaSrcI2
import Derived.Test.YtlendmiolhgecaaSrcS
import Derived.Test.YtlendmiolhgecaaHldW
import Derived.Test.YtlendmiolhgecaaPkt5
import Derived.WalkLawsBesides
import Derived.Deep.RegionHeld3
import Derived.Deep.CutRange
namespace Go.Proofs.Ytlendmiolhgecaa
open Go.RowKit Go.Lib Go.Joins
set_option linter.unusedVariables false

theorem sendV11_len (s : So) (d : ByteArray) : (sendV11 s d).w.q.length ≤ 1000 ∧ (sendV11 s d).h.length ≤ 1000 := by
  unfold sendV11
  by_cases h : sendOk s d = true
  · rw [if_pos h]; have := soOk_len (sendW_ok h); omega
  · rw [if_neg h]; exact ⟨by decide, by decide⟩
set_option maxRecDepth 100000 in
set_option maxHeartbeats 16000000 in
theorem fnExactSendFrom_wk (v0 x0 : Value) (z0 : So) (w : World) (w0 : Row w v0 z0.w.q.length (z0.w.q.map Value.string)) (u0 : Row w x0 z0.h.length (hdF z0.h)) (b0 : ∀ s ∈ z0.w.q, s.size ≤ maxLen) (a1 : ByteArray) (w1 : a1.size ≤ maxLen) :
    Calls Try.prog 6 #[.agg #[.int .i64 z0.w.t, .int .i64 z0.w.z, v0, .int .i64 z0.c, .int .i64 z0.u, x0], .string a1] w fun e w' => e = .returned (.bool true) ∧ Below w.heap.size w w' := by
  obtain ⟨p0, cap0, rfl, hc10, hc20, -⟩ := row_open w0
  obtain ⟨p1, cap1, rfl, hc11, hc21, -⟩ := hd_open u0
  unfold maxLen at hc20 hc21
  have HR0 := Lib.hid w0
  have HR1 := Lib.hid u0
  have HSz := Lib.hid (fun (W : World) (hr : Row W (.slice p0 z0.w.q.length cap0) z0.w.q.length (z0.w.q.map Value.string)) (hh : Row W (.slice p1 z0.h.length cap1) z0.h.length (hdF z0.h)) => szSo_any (.slice p0 z0.w.q.length cap0) (.slice p1 z0.h.length cap1) z0 W hr hh b0 1048576 (by omega))
  have HSm := Lib.hid b0
  clear w0 u0 b0
  have hm1 := w1
  unfold maxLen at hm1
  obtain ⟨W0, R_AW, hW0, hR_AW, hX_AW, hB0⟩ := entry1 w #[.int .i64 z0.w.t, .int .i64 z0.w.z, .slice p0 z0.w.q.length cap0, .int .i64 z0.c, .int .i64 z0.u, .slice p1 z0.h.length cap1] 59
  have HW0 := Lib.hid hW0
  have HB0 := Lib.hid hB0
  have HR_AW := Lib.hid hR_AW
  have HX_AW := Lib.hid hX_AW
  clear hW0 hB0 hR_AW hX_AW
  by_cases hn1 : a1.size ≤ 1048576
  rotate_left
  · have hn1' : (1048576 : Int) < (a1.size : Int) := by omega
    go_enter Try.func6, Try.ntmps6
    go_upto_region 1 with fail
    rw [← HW0.out, ← HR_AW.out]
    go_wp2_with fail
    go_ret
    exact ⟨rfl, HB0.out⟩
  have hn1' : ¬ (1048576 : Int) < (a1.size : Int) := by omega
  have c1_AW_0 := HX_AW.out.at 0 (v := .int .i64 z0.w.t) rfl
  have c1_AW_1 := HX_AW.out.at 1 (v := .int .i64 z0.w.z) rfl
  have c1_AW_2 := HX_AW.out.at 2 (v := .slice p0 z0.w.q.length cap0) rfl
  have c1_AW_3 := HX_AW.out.at 3 (v := .int .i64 z0.c) rfl
  have c1_AW_4 := HX_AW.out.at 4 (v := .int .i64 z0.u) rfl
  have c1_AW_5 := HX_AW.out.at 5 (v := .slice p1 z0.h.length cap1) rfl
  go_enter Try.func6, Try.ntmps6
  go_upto_region 1 with fail
  rw [← HW0.out, ← HR_AW.out]
  go_wp2_with fail
  refine (HSz.out _ (HR0.out.below HB0.out (Nat.le_refl _)) (HR1.out.below HB0.out (Nat.le_refl _))).mono ?_
  rintro e W2 ⟨l2, r0, rfl, hr1, hr0⟩
  clear c1_AW_0 c1_AW_1 c1_AW_2 c1_AW_3 c1_AW_4 c1_AW_5
  have HB_3 := Lib.hid (HB0.out.trans (l2.mono HB0.out.size))
  have AW_3 := Lib.hid (HX_AW.out.below l2 HX_AW.out.lt)
  clear l2
  have c4_AW_0 := AW_3.out.at 0 (v := .int .i64 z0.w.t) rfl
  have c4_AW_1 := AW_3.out.at 1 (v := .int .i64 z0.w.z) rfl
  have c4_AW_2 := AW_3.out.at 2 (v := .slice p0 z0.w.q.length cap0) rfl
  have c4_AW_3 := AW_3.out.at 3 (v := .int .i64 z0.c) rfl
  have c4_AW_4 := AW_3.out.at 4 (v := .int .i64 z0.u) rfl
  have c4_AW_5 := AW_3.out.at 5 (v := .slice p1 z0.h.length cap1) rfl
  by_cases hneg : r0 < 0
  · clear hr0
    go_wp2_with fail
    go_ret
    exact ⟨rfl, HB_3.out⟩
  obtain ⟨hm0, hmh, hr00⟩ := hr0.resolve_left hneg
  have HN0 := Lib.hid hm0
  have HN1 := Lib.hid hmh
  clear hr0 HSz
  have HSp := Lib.hid (fun (v x : Value) (W : World) (hr : Row W v z0.w.q.length (z0.w.q.map Value.string)) (hh : Row W x z0.h.length (hdF z0.h)) (hf : FitA v z0.w.q.length) (hfh : Fit x z0.h.length) => specSend11_any v x z0 a1 W hr hh HSm.out w1 hf)
  have HIm := Lib.hid (fun (v x : Value) (W : World) (hr : Row W v z0.w.q.length (z0.w.q.map Value.string)) (hh : Row W x z0.h.length (hdF z0.h)) (hf : FitA v z0.w.q.length) (hfh : Fit x z0.h.length) => implSend11_any v x z0 a1 W hr hh HSm.out w1 hf hfh)
  have hlen0 := sendV11_len z0 a1
  generalize sendV11 z0 a1 = ps0 at HSp HIm hlen0
  have HL0 := Lib.hid hlen0
  clear hlen0
  generalize sendP11 z0 a1 = ps1 at HSp HIm
  generalize sendOk z0 a1 = r0_ at HSp HIm
  clear hm0 hmh
  obtain ⟨kx, hkx⟩ : ∃ kx : Nat, 1 + z0.w.q.length + 2 * z0.h.length = kx := ⟨_, rfl⟩
  have hkx0 : ¬ ((kx : Nat) : Int) < 0 := by omega
  have HKx := Lib.hid hkx
  clear hkx
  obtain ⟨km0, hkm0⟩ : ∃ km0 : Nat, 1 + ps0.w.q.length + 2 * ps0.h.length = km0 := ⟨_, rfl⟩
  have hkm00 : ¬ ((km0 : Nat) : Int) < 0 := by omega
  have hkm01 : 1 ≤ km0 := by omega
  have HKm0 := Lib.hid hkm0
  clear hkm0
  have HKl0 : Hid (km0 ≤ 50000000) := Lib.hid (by have := HL0.out; have := HKm0.out; omega)
  go_wp2_with fail
  refine (toSo_lit _ _ z0 _ (HR0.out.below HB_3.out (Nat.le_refl _)) (HR1.out.below HB_3.out (Nat.le_refl _)) HN0.out HN1.out).mono ?_
  rintro e W5 ⟨x_s, y_s, rfl, o_s, o_sh, ne_s, l5⟩
  have O_s := Lib.hid (ownz_base o_s HB_3.out.size)
  have BX_AW_s : Hid (∀ k, (.slice (some ⟨x_s, 0, none⟩) z0.w.q.length z0.w.q.length : Value).ownBlock = some k → k ≠ R_AW) := Lib.hid (fun k h1 h2 => absurd AW_3.out.lt (Nat.not_lt.2 (by rw [← h2]; exact (o_s.lt k h1).1)))
  have O_sh := Lib.hid (ownz_base o_sh HB_3.out.size)
  have BX_AW_sh : Hid (∀ k, (.slice (some ⟨y_s, 0, none⟩) z0.h.length z0.h.length : Value).ownBlock = some k → k ≠ R_AW) := Lib.hid (fun k h1 h2 => absurd AW_3.out.lt (Nat.not_lt.2 (by rw [← h2]; exact (o_sh.lt k h1).1)))
  have AP_s_sh : Hid (∀ k, (.slice (some ⟨x_s, 0, none⟩) z0.w.q.length z0.w.q.length : Value).ownBlock = some k → (.slice (some ⟨y_s, 0, none⟩) z0.h.length z0.h.length : Value).ownBlock ≠ some k) := Lib.hid (fun k h1 h2 => ne_s ((Option.some.inj h1).trans (Option.some.inj h2).symm))
  clear o_s o_sh ne_s
  clear c4_AW_0 c4_AW_1 c4_AW_2 c4_AW_3 c4_AW_4 c4_AW_5
  have HB_6 := Lib.hid (HB_3.out.trans (l5.mono HB_3.out.size))
  have AW_6 := Lib.hid (AW_3.out.below l5 AW_3.out.lt)
  clear AW_3
  clear l5
  have c7_AW_0 := AW_6.out.at 0 (v := .int .i64 z0.w.t) rfl
  have c7_AW_1 := AW_6.out.at 1 (v := .int .i64 z0.w.z) rfl
  have c7_AW_2 := AW_6.out.at 2 (v := .slice p0 z0.w.q.length cap0) rfl
  have c7_AW_3 := AW_6.out.at 3 (v := .int .i64 z0.c) rfl
  have c7_AW_4 := AW_6.out.at 4 (v := .int .i64 z0.u) rfl
  have c7_AW_5 := AW_6.out.at 5 (v := .slice p1 z0.h.length cap1) rfl
  go_wp2_with fail
  refine (HSp.out _ _ _ (rowz_own O_s.out) (rowz_own O_sh.out) (.inr ⟨_, _, _, rfl⟩) (.inr ⟨_, _, rfl⟩)).mono ?_
  rintro e W8 ⟨v_w0, v_w0h, rfl, o_w0, o_w0h, _, l8⟩
  have rw_0 := rowz_own o_w0
  have r2_0 := rw_0
  obtain ⟨a_w0, c_w0, rfl, _⟩ := r2_0
  have RV0 := Lib.hid rw_0
  clear rw_0 o_w0
  have rw_0h := rowz_own o_w0h
  have r2_0h := rw_0h
  obtain ⟨a_w0h, c_w0h, rfl, _⟩ := r2_0h
  have RV0h := Lib.hid rw_0h
  clear rw_0h o_w0h
  have HV0 := Lib.hid (Below.refl W8.heap.size W8)
  clear c7_AW_0 c7_AW_1 c7_AW_2 c7_AW_3 c7_AW_4 c7_AW_5
  have HB_9 := Lib.hid (HB_6.out.trans (l8.mono HB_6.out.size))
  have s_9 := Lib.hid (ownz_below O_s.out l8 (Nat.le_refl _))
  clear O_s
  have sh_9 := Lib.hid (ownz_below O_sh.out l8 (Nat.le_refl _))
  clear O_sh
  have AW_9 := Lib.hid (AW_6.out.below l8 AW_6.out.lt)
  clear AW_6
  clear l8
  have c10_AW_0 := AW_9.out.at 0 (v := .int .i64 z0.w.t) rfl
  have c10_AW_1 := AW_9.out.at 1 (v := .int .i64 z0.w.z) rfl
  have c10_AW_2 := AW_9.out.at 2 (v := .slice p0 z0.w.q.length cap0) rfl
  have c10_AW_3 := AW_9.out.at 3 (v := .int .i64 z0.c) rfl
  have c10_AW_4 := AW_9.out.at 4 (v := .int .i64 z0.u) rfl
  have c10_AW_5 := AW_9.out.at 5 (v := .slice p1 z0.h.length cap1) rfl
  clear s_9
  clear sh_9
  go_upto_region 8 with fail
  obtain ⟨W11, hW11⟩ : ∃ W11, W11 = (W8.alloc (.cells #[.int .i64 ps0.w.t, .int .i64 ps0.w.z, .slice a_w0 ps0.w.q.length c_w0, .int .i64 ps0.c, .int .i64 ps0.u, .slice a_w0h ps0.h.length c_w0h] 29)).alloc (.cells #[.int .i64 ps1.k, .int .i64 ps1.n, .int .i64 ps1.t, .int .i64 ps1.l, .string ps1.d] 64) := ⟨_, rfl⟩
  have l11 : Below W8.heap.size W8 W11 := by rw [hW11]; exact ((Below.refl _ _).alloc (Nat.le_refl _) _).alloc (by simp) _
  have X11_vwB0 : Hid (Bx W11 W8.heap.size #[.int .i64 ps0.w.t, .int .i64 ps0.w.z, .slice a_w0 ps0.w.q.length c_w0, .int .i64 ps0.c, .int .i64 ps0.u, .slice a_w0h ps0.h.length c_w0h] 29) := Lib.hid (by rw [hW11]; exact (Bx.new2 _ _ _ _ _).1)
  have X11_vwB1 : Hid (Bx W11 (W8.heap.size + 1) #[.int .i64 ps1.k, .int .i64 ps1.n, .int .i64 ps1.t, .int .i64 ps1.l, .string ps1.d] 64) := Lib.hid (by rw [hW11]; exact (Bx.new2 _ _ _ _ _).2)
  rw [← hW11]
  clear hW11
  have HG_vwB0 : Hid (w.heap.size ≤ W8.heap.size) := Lib.hid (HB_9.out.size)
  have HN_vwB0_AW : Hid (R_AW < W8.heap.size) := Lib.hid (AW_9.out.lt)
  have HG_vwB1 : Hid (w.heap.size ≤ (W8.heap.size + 1)) := Lib.hid (Nat.le_succ_of_le HB_9.out.size)
  have HN_vwB1_AW : Hid (R_AW < (W8.heap.size + 1)) := Lib.hid (Nat.lt_succ_of_lt AW_9.out.lt)
  have HN_vwB1_vwB0 : Hid (W8.heap.size < W8.heap.size + 1) := Lib.hid (Nat.lt_succ_self _)
  obtain ⟨R_vwB1, hR_vwB1⟩ : ∃ X, X = W8.heap.size + 1 := ⟨_, rfl⟩
  rw [← hR_vwB1] at X11_vwB1 HG_vwB1 HN_vwB1_vwB0 HN_vwB1_AW ⊢
  clear hR_vwB1
  obtain ⟨R_vwB0, hR_vwB0⟩ : ∃ X, X = W8.heap.size := ⟨_, rfl⟩
  rw [← hR_vwB0] at X11_vwB0 HG_vwB0 HN_vwB1_vwB0 HN_vwB0_AW ⊢
  clear hR_vwB0
  clear c10_AW_0 c10_AW_1 c10_AW_2 c10_AW_3 c10_AW_4 c10_AW_5
  have HB_12 := Lib.hid (HB_9.out.trans (l11.mono HB_9.out.size))
  have HV_12 := Lib.hid (HV0.out.trans (l11.mono HV0.out.size))
  clear HV0
  have AW_12 := Lib.hid (AW_9.out.below l11 AW_9.out.lt)
  clear AW_9
  clear l11
  have c13_AW_0 := AW_12.out.at 0 (v := .int .i64 z0.w.t) rfl
  have c13_AW_1 := AW_12.out.at 1 (v := .int .i64 z0.w.z) rfl
  have c13_AW_2 := AW_12.out.at 2 (v := .slice p0 z0.w.q.length cap0) rfl
  have c13_AW_3 := AW_12.out.at 3 (v := .int .i64 z0.c) rfl
  have c13_AW_4 := AW_12.out.at 4 (v := .int .i64 z0.u) rfl
  have c13_AW_5 := AW_12.out.at 5 (v := .slice p1 z0.h.length cap1) rfl
  have c14_vwB0_0 := X11_vwB0.out.at 0 (v := .int .i64 ps0.w.t) rfl
  have c14_vwB0_1 := X11_vwB0.out.at 1 (v := .int .i64 ps0.w.z) rfl
  have c14_vwB0_2 := X11_vwB0.out.at 2 (v := .slice a_w0 ps0.w.q.length c_w0) rfl
  have c14_vwB0_3 := X11_vwB0.out.at 3 (v := .int .i64 ps0.c) rfl
  have c14_vwB0_4 := X11_vwB0.out.at 4 (v := .int .i64 ps0.u) rfl
  have c14_vwB0_5 := X11_vwB0.out.at 5 (v := .slice a_w0h ps0.h.length c_w0h) rfl
  have c15_vwB1_0 := X11_vwB1.out.at 0 (v := .int .i64 ps1.k) rfl
  have c15_vwB1_1 := X11_vwB1.out.at 1 (v := .int .i64 ps1.n) rfl
  have c15_vwB1_2 := X11_vwB1.out.at 2 (v := .int .i64 ps1.t) rfl
  have c15_vwB1_3 := X11_vwB1.out.at 3 (v := .int .i64 ps1.l) rfl
  have c15_vwB1_4 := X11_vwB1.out.at 4 (v := .string ps1.d) rfl
  go_wp2_with fail
  refine (toSo_lit _ _ z0 _ (HR0.out.below HB_12.out (Nat.le_refl _)) (HR1.out.below HB_12.out (Nat.le_refl _)) HN0.out HN1.out).mono ?_
  rintro e W16 ⟨x_x, y_x, rfl, o_x, o_xh, ne_x, l16⟩
  have BV_HV_x : Hid (∀ k, (.slice (some ⟨x_x, 0, none⟩) z0.w.q.length z0.w.q.length : Value).ownBlock = some k → W8.heap.size ≤ k) := Lib.hid (fun k h => Nat.le_trans HV_12.out.size (o_x.lt k h).1)
  have O_x := Lib.hid (ownz_base o_x HB_12.out.size)
  have BX_AW_x : Hid (∀ k, (.slice (some ⟨x_x, 0, none⟩) z0.w.q.length z0.w.q.length : Value).ownBlock = some k → k ≠ R_AW) := Lib.hid (fun k h1 h2 => absurd AW_12.out.lt (Nat.not_lt.2 (by rw [← h2]; exact (o_x.lt k h1).1)))
  have BX_vwB0_x : Hid (∀ k, (.slice (some ⟨x_x, 0, none⟩) z0.w.q.length z0.w.q.length : Value).ownBlock = some k → k ≠ R_vwB0) := Lib.hid (fun k h1 h2 => absurd X11_vwB0.out.lt (Nat.not_lt.2 (by rw [← h2]; exact (o_x.lt k h1).1)))
  have BX_vwB1_x : Hid (∀ k, (.slice (some ⟨x_x, 0, none⟩) z0.w.q.length z0.w.q.length : Value).ownBlock = some k → k ≠ R_vwB1) := Lib.hid (fun k h1 h2 => absurd X11_vwB1.out.lt (Nat.not_lt.2 (by rw [← h2]; exact (o_x.lt k h1).1)))
  have BV_HV_xh : Hid (∀ k, (.slice (some ⟨y_x, 0, none⟩) z0.h.length z0.h.length : Value).ownBlock = some k → W8.heap.size ≤ k) := Lib.hid (fun k h => Nat.le_trans HV_12.out.size (o_xh.lt k h).1)
  have O_xh := Lib.hid (ownz_base o_xh HB_12.out.size)
  have BX_AW_xh : Hid (∀ k, (.slice (some ⟨y_x, 0, none⟩) z0.h.length z0.h.length : Value).ownBlock = some k → k ≠ R_AW) := Lib.hid (fun k h1 h2 => absurd AW_12.out.lt (Nat.not_lt.2 (by rw [← h2]; exact (o_xh.lt k h1).1)))
  have BX_vwB0_xh : Hid (∀ k, (.slice (some ⟨y_x, 0, none⟩) z0.h.length z0.h.length : Value).ownBlock = some k → k ≠ R_vwB0) := Lib.hid (fun k h1 h2 => absurd X11_vwB0.out.lt (Nat.not_lt.2 (by rw [← h2]; exact (o_xh.lt k h1).1)))
  have BX_vwB1_xh : Hid (∀ k, (.slice (some ⟨y_x, 0, none⟩) z0.h.length z0.h.length : Value).ownBlock = some k → k ≠ R_vwB1) := Lib.hid (fun k h1 h2 => absurd X11_vwB1.out.lt (Nat.not_lt.2 (by rw [← h2]; exact (o_xh.lt k h1).1)))
  have AP_x_xh : Hid (∀ k, (.slice (some ⟨x_x, 0, none⟩) z0.w.q.length z0.w.q.length : Value).ownBlock = some k → (.slice (some ⟨y_x, 0, none⟩) z0.h.length z0.h.length : Value).ownBlock ≠ some k) := Lib.hid (fun k h1 h2 => ne_x ((Option.some.inj h1).trans (Option.some.inj h2).symm))
  clear o_x o_xh ne_x
  clear c13_AW_0 c13_AW_1 c13_AW_2 c13_AW_3 c13_AW_4 c13_AW_5
  clear c14_vwB0_0 c14_vwB0_1 c14_vwB0_2 c14_vwB0_3 c14_vwB0_4 c14_vwB0_5
  clear c15_vwB1_0 c15_vwB1_1 c15_vwB1_2 c15_vwB1_3 c15_vwB1_4
  have HB_17 := Lib.hid (HB_12.out.trans (l16.mono HB_12.out.size))
  have HV_17 := Lib.hid (HV_12.out.trans (l16.mono HV_12.out.size))
  clear HV_12
  have AW_17 := Lib.hid (AW_12.out.below l16 AW_12.out.lt)
  clear AW_12
  have vwB0_17 := Lib.hid (X11_vwB0.out.below l16 X11_vwB0.out.lt)
  clear X11_vwB0
  have vwB1_17 := Lib.hid (X11_vwB1.out.below l16 X11_vwB1.out.lt)
  clear X11_vwB1
  clear l16
  have c18_AW_0 := AW_17.out.at 0 (v := .int .i64 z0.w.t) rfl
  have c18_AW_1 := AW_17.out.at 1 (v := .int .i64 z0.w.z) rfl
  have c18_AW_2 := AW_17.out.at 2 (v := .slice p0 z0.w.q.length cap0) rfl
  have c18_AW_3 := AW_17.out.at 3 (v := .int .i64 z0.c) rfl
  have c18_AW_4 := AW_17.out.at 4 (v := .int .i64 z0.u) rfl
  have c18_AW_5 := AW_17.out.at 5 (v := .slice p1 z0.h.length cap1) rfl
  have c19_vwB0_0 := vwB0_17.out.at 0 (v := .int .i64 ps0.w.t) rfl
  have c19_vwB0_1 := vwB0_17.out.at 1 (v := .int .i64 ps0.w.z) rfl
  have c19_vwB0_2 := vwB0_17.out.at 2 (v := .slice a_w0 ps0.w.q.length c_w0) rfl
  have c19_vwB0_3 := vwB0_17.out.at 3 (v := .int .i64 ps0.c) rfl
  have c19_vwB0_4 := vwB0_17.out.at 4 (v := .int .i64 ps0.u) rfl
  have c19_vwB0_5 := vwB0_17.out.at 5 (v := .slice a_w0h ps0.h.length c_w0h) rfl
  have c20_vwB1_0 := vwB1_17.out.at 0 (v := .int .i64 ps1.k) rfl
  have c20_vwB1_1 := vwB1_17.out.at 1 (v := .int .i64 ps1.n) rfl
  have c20_vwB1_2 := vwB1_17.out.at 2 (v := .int .i64 ps1.t) rfl
  have c20_vwB1_3 := vwB1_17.out.at 3 (v := .int .i64 ps1.l) rfl
  have c20_vwB1_4 := vwB1_17.out.at 4 (v := .string ps1.d) rfl
  go_upto_region 9 with fail
  obtain ⟨W21, hW21⟩ : ∃ W21, W21 = W16.alloc (.cells #[.int .i64 z0.w.t, .int .i64 z0.w.z, .slice (some ⟨x_x, 0, none⟩) z0.w.q.length z0.w.q.length, .int .i64 z0.c, .int .i64 z0.u, .slice (some ⟨y_x, 0, none⟩) z0.h.length z0.h.length] 29) := ⟨_, rfl⟩
  have l21 : Below W16.heap.size W16 W21 := by rw [hW21]; exact (Below.refl _ _).alloc (Nat.le_refl _) _
  have X21_X : Hid (Bx W21 W16.heap.size #[.int .i64 z0.w.t, .int .i64 z0.w.z, .slice (some ⟨x_x, 0, none⟩) z0.w.q.length z0.w.q.length, .int .i64 z0.c, .int .i64 z0.u, .slice (some ⟨y_x, 0, none⟩) z0.h.length z0.h.length] 29) := Lib.hid (by rw [hW21]; exact Bx.new _ _ _)
  rw [← hW21]
  clear hW21
  have BX_X_x : Hid (∀ k, (.slice (some ⟨x_x, 0, none⟩) z0.w.q.length z0.w.q.length : Value).ownBlock = some k → k ≠ W16.heap.size) := Lib.hid (fun k h1 h2 => absurd (O_x.out.lt k h1).2 (by omega))
  have BX_X_xh : Hid (∀ k, (.slice (some ⟨y_x, 0, none⟩) z0.h.length z0.h.length : Value).ownBlock = some k → k ≠ W16.heap.size) := Lib.hid (fun k h1 h2 => absurd (O_xh.out.lt k h1).2 (by omega))
  have HG_X : Hid (w.heap.size ≤ W16.heap.size) := Lib.hid HB_17.out.size
  have HN_X_AW : Hid (R_AW < W16.heap.size) := Lib.hid AW_17.out.lt
  have HN_X_vwB0 : Hid (R_vwB0 < W16.heap.size) := Lib.hid vwB0_17.out.lt
  have HN_X_vwB1 : Hid (R_vwB1 < W16.heap.size) := Lib.hid vwB1_17.out.lt
  obtain ⟨R_X, hR_X⟩ : ∃ X, X = W16.heap.size := ⟨_, rfl⟩
  rw [← hR_X] at X21_X HG_X BX_X_x BX_X_xh HN_X_AW HN_X_vwB0 HN_X_vwB1 ⊢
  clear hR_X
  clear c18_AW_0 c18_AW_1 c18_AW_2 c18_AW_3 c18_AW_4 c18_AW_5
  clear c19_vwB0_0 c19_vwB0_1 c19_vwB0_2 c19_vwB0_3 c19_vwB0_4 c19_vwB0_5
  clear c20_vwB1_0 c20_vwB1_1 c20_vwB1_2 c20_vwB1_3 c20_vwB1_4
  have HB_22 := Lib.hid (HB_17.out.trans (l21.mono HB_17.out.size))
  have x_22 := Lib.hid (ownz_below O_x.out l21 (Nat.le_refl _))
  clear O_x
  have xh_22 := Lib.hid (ownz_below O_xh.out l21 (Nat.le_refl _))
  clear O_xh
  have HV_22 := Lib.hid (HV_17.out.trans (l21.mono HV_17.out.size))
  clear HV_17
  have AW_22 := Lib.hid (AW_17.out.below l21 AW_17.out.lt)
  clear AW_17
  have vwB0_22 := Lib.hid (vwB0_17.out.below l21 vwB0_17.out.lt)
  clear vwB0_17
  have vwB1_22 := Lib.hid (vwB1_17.out.below l21 vwB1_17.out.lt)
  clear vwB1_17
  clear l21
  have c23_AW_0 := AW_22.out.at 0 (v := .int .i64 z0.w.t) rfl
  have c23_AW_1 := AW_22.out.at 1 (v := .int .i64 z0.w.z) rfl
  have c23_AW_2 := AW_22.out.at 2 (v := .slice p0 z0.w.q.length cap0) rfl
  have c23_AW_3 := AW_22.out.at 3 (v := .int .i64 z0.c) rfl
  have c23_AW_4 := AW_22.out.at 4 (v := .int .i64 z0.u) rfl
  have c23_AW_5 := AW_22.out.at 5 (v := .slice p1 z0.h.length cap1) rfl
  have c24_vwB0_0 := vwB0_22.out.at 0 (v := .int .i64 ps0.w.t) rfl
  have c24_vwB0_1 := vwB0_22.out.at 1 (v := .int .i64 ps0.w.z) rfl
  have c24_vwB0_2 := vwB0_22.out.at 2 (v := .slice a_w0 ps0.w.q.length c_w0) rfl
  have c24_vwB0_3 := vwB0_22.out.at 3 (v := .int .i64 ps0.c) rfl
  have c24_vwB0_4 := vwB0_22.out.at 4 (v := .int .i64 ps0.u) rfl
  have c24_vwB0_5 := vwB0_22.out.at 5 (v := .slice a_w0h ps0.h.length c_w0h) rfl
  have c25_vwB1_0 := vwB1_22.out.at 0 (v := .int .i64 ps1.k) rfl
  have c25_vwB1_1 := vwB1_22.out.at 1 (v := .int .i64 ps1.n) rfl
  have c25_vwB1_2 := vwB1_22.out.at 2 (v := .int .i64 ps1.t) rfl
  have c25_vwB1_3 := vwB1_22.out.at 3 (v := .int .i64 ps1.l) rfl
  have c25_vwB1_4 := vwB1_22.out.at 4 (v := .string ps1.d) rfl
  have c26_X_0 := X21_X.out.at 0 (v := .int .i64 z0.w.t) rfl
  have c26_X_1 := X21_X.out.at 1 (v := .int .i64 z0.w.z) rfl
  have c26_X_2 := X21_X.out.at 2 (v := .slice (some ⟨x_x, 0, none⟩) z0.w.q.length z0.w.q.length) rfl
  have c26_X_3 := X21_X.out.at 3 (v := .int .i64 z0.c) rfl
  have c26_X_4 := X21_X.out.at 4 (v := .int .i64 z0.u) rfl
  have c26_X_5 := X21_X.out.at 5 (v := .slice (some ⟨y_x, 0, none⟩) z0.h.length z0.h.length) rfl
  go_wp2_with fail
  refine (HIm.out _ _ _ (rowz_own x_22.out) (rowz_own xh_22.out) (.inr ⟨_, _, _, rfl⟩) (.inr ⟨_, _, rfl⟩)).mono ?_
  rintro e W27 ⟨v_g0, v_g0h, rfl, o_g0, o_g0h, ap_g0_g0h, l27⟩
  obtain ⟨a_g0, c_g0, rfl, _, _⟩ := ownz_slice o_g0
  have AP_x_g0 : Hid (∀ k, (.slice (some ⟨x_x, 0, none⟩) z0.w.q.length z0.w.q.length : Value).ownBlock = some k → (.slice a_g0 ps0.w.q.length c_g0 : Value).ownBlock ≠ some k) := Lib.hid (fun k h1 h2 => absurd (x_22.out.lt k h1).2 (Nat.not_lt.2 (o_g0.lt k h2).1))
  have AP_xh_g0 : Hid (∀ k, (.slice (some ⟨y_x, 0, none⟩) z0.h.length z0.h.length : Value).ownBlock = some k → (.slice a_g0 ps0.w.q.length c_g0 : Value).ownBlock ≠ some k) := Lib.hid (fun k h1 h2 => absurd (xh_22.out.lt k h1).2 (Nat.not_lt.2 (o_g0.lt k h2).1))
  have BV_HV_g0 : Hid (∀ k, (.slice a_g0 ps0.w.q.length c_g0 : Value).ownBlock = some k → W8.heap.size ≤ k) := Lib.hid (fun k h => Nat.le_trans HV_22.out.size (o_g0.lt k h).1)
  have O_g0 := Lib.hid (ownz_base o_g0 HB_22.out.size)
  have BX_AW_g0 : Hid (∀ k, (.slice a_g0 ps0.w.q.length c_g0 : Value).ownBlock = some k → k ≠ R_AW) := Lib.hid (fun k h1 h2 => absurd AW_22.out.lt (Nat.not_lt.2 (by rw [← h2]; exact (o_g0.lt k h1).1)))
  have BX_vwB0_g0 : Hid (∀ k, (.slice a_g0 ps0.w.q.length c_g0 : Value).ownBlock = some k → k ≠ R_vwB0) := Lib.hid (fun k h1 h2 => absurd vwB0_22.out.lt (Nat.not_lt.2 (by rw [← h2]; exact (o_g0.lt k h1).1)))
  have BX_vwB1_g0 : Hid (∀ k, (.slice a_g0 ps0.w.q.length c_g0 : Value).ownBlock = some k → k ≠ R_vwB1) := Lib.hid (fun k h1 h2 => absurd vwB1_22.out.lt (Nat.not_lt.2 (by rw [← h2]; exact (o_g0.lt k h1).1)))
  have BX_X_g0 : Hid (∀ k, (.slice a_g0 ps0.w.q.length c_g0 : Value).ownBlock = some k → k ≠ R_X) := Lib.hid (fun k h1 h2 => absurd X21_X.out.lt (Nat.not_lt.2 (by rw [← h2]; exact (o_g0.lt k h1).1)))
  clear o_g0
  obtain ⟨a_g0h, c_g0h, rfl, _, _⟩ := ownz_slice o_g0h
  have AP_x_g0h : Hid (∀ k, (.slice (some ⟨x_x, 0, none⟩) z0.w.q.length z0.w.q.length : Value).ownBlock = some k → (.slice a_g0h ps0.h.length c_g0h : Value).ownBlock ≠ some k) := Lib.hid (fun k h1 h2 => absurd (x_22.out.lt k h1).2 (Nat.not_lt.2 (o_g0h.lt k h2).1))
  have AP_xh_g0h : Hid (∀ k, (.slice (some ⟨y_x, 0, none⟩) z0.h.length z0.h.length : Value).ownBlock = some k → (.slice a_g0h ps0.h.length c_g0h : Value).ownBlock ≠ some k) := Lib.hid (fun k h1 h2 => absurd (xh_22.out.lt k h1).2 (Nat.not_lt.2 (o_g0h.lt k h2).1))
  have BV_HV_g0h : Hid (∀ k, (.slice a_g0h ps0.h.length c_g0h : Value).ownBlock = some k → W8.heap.size ≤ k) := Lib.hid (fun k h => Nat.le_trans HV_22.out.size (o_g0h.lt k h).1)
  have O_g0h := Lib.hid (ownz_base o_g0h HB_22.out.size)
  have BX_AW_g0h : Hid (∀ k, (.slice a_g0h ps0.h.length c_g0h : Value).ownBlock = some k → k ≠ R_AW) := Lib.hid (fun k h1 h2 => absurd AW_22.out.lt (Nat.not_lt.2 (by rw [← h2]; exact (o_g0h.lt k h1).1)))
  have BX_vwB0_g0h : Hid (∀ k, (.slice a_g0h ps0.h.length c_g0h : Value).ownBlock = some k → k ≠ R_vwB0) := Lib.hid (fun k h1 h2 => absurd vwB0_22.out.lt (Nat.not_lt.2 (by rw [← h2]; exact (o_g0h.lt k h1).1)))
  have BX_vwB1_g0h : Hid (∀ k, (.slice a_g0h ps0.h.length c_g0h : Value).ownBlock = some k → k ≠ R_vwB1) := Lib.hid (fun k h1 h2 => absurd vwB1_22.out.lt (Nat.not_lt.2 (by rw [← h2]; exact (o_g0h.lt k h1).1)))
  have BX_X_g0h : Hid (∀ k, (.slice a_g0h ps0.h.length c_g0h : Value).ownBlock = some k → k ≠ R_X) := Lib.hid (fun k h1 h2 => absurd X21_X.out.lt (Nat.not_lt.2 (by rw [← h2]; exact (o_g0h.lt k h1).1)))
  clear o_g0h
  have AP_g0_g0h := Lib.hid ap_g0_g0h
  clear ap_g0_g0h
  clear c23_AW_0 c23_AW_1 c23_AW_2 c23_AW_3 c23_AW_4 c23_AW_5
  clear c24_vwB0_0 c24_vwB0_1 c24_vwB0_2 c24_vwB0_3 c24_vwB0_4 c24_vwB0_5
  clear c25_vwB1_0 c25_vwB1_1 c25_vwB1_2 c25_vwB1_3 c25_vwB1_4
  clear c26_X_0 c26_X_1 c26_X_2 c26_X_3 c26_X_4 c26_X_5
  have HB_28 := Lib.hid (HB_22.out.trans (l27.mono HB_22.out.size))
  have x_28 := Lib.hid (ownz_below x_22.out l27 (Nat.le_refl _))
  clear x_22
  have xh_28 := Lib.hid (ownz_below xh_22.out l27 (Nat.le_refl _))
  clear xh_22
  have HV_28 := Lib.hid (HV_22.out.trans (l27.mono HV_22.out.size))
  clear HV_22
  have AW_28 := Lib.hid (AW_22.out.below l27 AW_22.out.lt)
  clear AW_22
  have vwB0_28 := Lib.hid (vwB0_22.out.below l27 vwB0_22.out.lt)
  clear vwB0_22
  have vwB1_28 := Lib.hid (vwB1_22.out.below l27 vwB1_22.out.lt)
  clear vwB1_22
  have X_28 := Lib.hid (X21_X.out.below l27 X21_X.out.lt)
  clear X21_X
  clear l27
  have c29_AW_0 := AW_28.out.at 0 (v := .int .i64 z0.w.t) rfl
  have c29_AW_1 := AW_28.out.at 1 (v := .int .i64 z0.w.z) rfl
  have c29_AW_2 := AW_28.out.at 2 (v := .slice p0 z0.w.q.length cap0) rfl
  have c29_AW_3 := AW_28.out.at 3 (v := .int .i64 z0.c) rfl
  have c29_AW_4 := AW_28.out.at 4 (v := .int .i64 z0.u) rfl
  have c29_AW_5 := AW_28.out.at 5 (v := .slice p1 z0.h.length cap1) rfl
  have c30_vwB0_0 := vwB0_28.out.at 0 (v := .int .i64 ps0.w.t) rfl
  have c30_vwB0_1 := vwB0_28.out.at 1 (v := .int .i64 ps0.w.z) rfl
  have c30_vwB0_2 := vwB0_28.out.at 2 (v := .slice a_w0 ps0.w.q.length c_w0) rfl
  have c30_vwB0_3 := vwB0_28.out.at 3 (v := .int .i64 ps0.c) rfl
  have c30_vwB0_4 := vwB0_28.out.at 4 (v := .int .i64 ps0.u) rfl
  have c30_vwB0_5 := vwB0_28.out.at 5 (v := .slice a_w0h ps0.h.length c_w0h) rfl
  have c31_vwB1_0 := vwB1_28.out.at 0 (v := .int .i64 ps1.k) rfl
  have c31_vwB1_1 := vwB1_28.out.at 1 (v := .int .i64 ps1.n) rfl
  have c31_vwB1_2 := vwB1_28.out.at 2 (v := .int .i64 ps1.t) rfl
  have c31_vwB1_3 := vwB1_28.out.at 3 (v := .int .i64 ps1.l) rfl
  have c31_vwB1_4 := vwB1_28.out.at 4 (v := .string ps1.d) rfl
  have c32_X_0 := X_28.out.at 0 (v := .int .i64 z0.w.t) rfl
  have c32_X_1 := X_28.out.at 1 (v := .int .i64 z0.w.z) rfl
  have c32_X_2 := X_28.out.at 2 (v := .slice (some ⟨x_x, 0, none⟩) z0.w.q.length z0.w.q.length) rfl
  have c32_X_3 := X_28.out.at 3 (v := .int .i64 z0.c) rfl
  have c32_X_4 := X_28.out.at 4 (v := .int .i64 z0.u) rfl
  have c32_X_5 := X_28.out.at 5 (v := .slice (some ⟨y_x, 0, none⟩) z0.h.length z0.h.length) rfl
  go_upto_region 10 with fail
  obtain ⟨W33, hW33⟩ : ∃ W33, W33 = (W27.alloc (.cells #[.int .i64 ps0.w.t, .int .i64 ps0.w.z, .slice a_g0 ps0.w.q.length c_g0, .int .i64 ps0.c, .int .i64 ps0.u, .slice a_g0h ps0.h.length c_g0h] 29)).alloc (.cells #[.int .i64 ps1.k, .int .i64 ps1.n, .int .i64 ps1.t, .int .i64 ps1.l, .string ps1.d] 64) := ⟨_, rfl⟩
  have l33 : Below W27.heap.size W27 W33 := by rw [hW33]; exact ((Below.refl _ _).alloc (Nat.le_refl _) _).alloc (by simp) _
  have X33_gB0 : Hid (Bx W33 W27.heap.size #[.int .i64 ps0.w.t, .int .i64 ps0.w.z, .slice a_g0 ps0.w.q.length c_g0, .int .i64 ps0.c, .int .i64 ps0.u, .slice a_g0h ps0.h.length c_g0h] 29) := Lib.hid (by rw [hW33]; exact (Bx.new2 _ _ _ _ _).1)
  have X33_gB1 : Hid (Bx W33 (W27.heap.size + 1) #[.int .i64 ps1.k, .int .i64 ps1.n, .int .i64 ps1.t, .int .i64 ps1.l, .string ps1.d] 64) := Lib.hid (by rw [hW33]; exact (Bx.new2 _ _ _ _ _).2)
  rw [← hW33]
  clear hW33
  have BX_gB0_x : Hid (∀ k, (.slice (some ⟨x_x, 0, none⟩) z0.w.q.length z0.w.q.length : Value).ownBlock = some k → k ≠ W27.heap.size) := Lib.hid (fun k h1 h2 => absurd (x_28.out.lt k h1).2 (by omega))
  have BX_gB0_xh : Hid (∀ k, (.slice (some ⟨y_x, 0, none⟩) z0.h.length z0.h.length : Value).ownBlock = some k → k ≠ W27.heap.size) := Lib.hid (fun k h1 h2 => absurd (xh_28.out.lt k h1).2 (by omega))
  have BX_gB0_g0 : Hid (∀ k, (.slice a_g0 ps0.w.q.length c_g0 : Value).ownBlock = some k → k ≠ W27.heap.size) := Lib.hid (fun k h1 h2 => absurd (O_g0.out.lt k h1).2 (by omega))
  have BX_gB0_g0h : Hid (∀ k, (.slice a_g0h ps0.h.length c_g0h : Value).ownBlock = some k → k ≠ W27.heap.size) := Lib.hid (fun k h1 h2 => absurd (O_g0h.out.lt k h1).2 (by omega))
  have HG_gB0 : Hid (w.heap.size ≤ W27.heap.size) := Lib.hid (HB_28.out.size)
  have HN_gB0_AW : Hid (R_AW < W27.heap.size) := Lib.hid (AW_28.out.lt)
  have HN_gB0_vwB0 : Hid (R_vwB0 < W27.heap.size) := Lib.hid (vwB0_28.out.lt)
  have HN_gB0_vwB1 : Hid (R_vwB1 < W27.heap.size) := Lib.hid (vwB1_28.out.lt)
  have HN_gB0_X : Hid (R_X < W27.heap.size) := Lib.hid (X_28.out.lt)
  have BX_gB1_x : Hid (∀ k, (.slice (some ⟨x_x, 0, none⟩) z0.w.q.length z0.w.q.length : Value).ownBlock = some k → k ≠ (W27.heap.size + 1)) := Lib.hid (fun k h1 h2 => absurd (x_28.out.lt k h1).2 (by omega))
  have BX_gB1_xh : Hid (∀ k, (.slice (some ⟨y_x, 0, none⟩) z0.h.length z0.h.length : Value).ownBlock = some k → k ≠ (W27.heap.size + 1)) := Lib.hid (fun k h1 h2 => absurd (xh_28.out.lt k h1).2 (by omega))
  have BX_gB1_g0 : Hid (∀ k, (.slice a_g0 ps0.w.q.length c_g0 : Value).ownBlock = some k → k ≠ (W27.heap.size + 1)) := Lib.hid (fun k h1 h2 => absurd (O_g0.out.lt k h1).2 (by omega))
  have BX_gB1_g0h : Hid (∀ k, (.slice a_g0h ps0.h.length c_g0h : Value).ownBlock = some k → k ≠ (W27.heap.size + 1)) := Lib.hid (fun k h1 h2 => absurd (O_g0h.out.lt k h1).2 (by omega))
  have HG_gB1 : Hid (w.heap.size ≤ (W27.heap.size + 1)) := Lib.hid (Nat.le_succ_of_le HB_28.out.size)
  have HN_gB1_AW : Hid (R_AW < (W27.heap.size + 1)) := Lib.hid (Nat.lt_succ_of_lt AW_28.out.lt)
  have HN_gB1_vwB0 : Hid (R_vwB0 < (W27.heap.size + 1)) := Lib.hid (Nat.lt_succ_of_lt vwB0_28.out.lt)
  have HN_gB1_vwB1 : Hid (R_vwB1 < (W27.heap.size + 1)) := Lib.hid (Nat.lt_succ_of_lt vwB1_28.out.lt)
  have HN_gB1_X : Hid (R_X < (W27.heap.size + 1)) := Lib.hid (Nat.lt_succ_of_lt X_28.out.lt)
  have HN_gB1_gB0 : Hid (W27.heap.size < W27.heap.size + 1) := Lib.hid (Nat.lt_succ_self _)
  obtain ⟨R_gB1, hR_gB1⟩ : ∃ X, X = W27.heap.size + 1 := ⟨_, rfl⟩
  rw [← hR_gB1] at X33_gB1 HG_gB1 HN_gB1_gB0 BX_gB1_x BX_gB1_xh BX_gB1_g0 BX_gB1_g0h HN_gB1_AW HN_gB1_vwB0 HN_gB1_vwB1 HN_gB1_X ⊢
  clear hR_gB1
  obtain ⟨R_gB0, hR_gB0⟩ : ∃ X, X = W27.heap.size := ⟨_, rfl⟩
  rw [← hR_gB0] at X33_gB0 HG_gB0 HN_gB1_gB0 BX_gB0_x BX_gB0_xh BX_gB0_g0 BX_gB0_g0h HN_gB0_AW HN_gB0_vwB0 HN_gB0_vwB1 HN_gB0_X ⊢
  clear hR_gB0
  clear c29_AW_0 c29_AW_1 c29_AW_2 c29_AW_3 c29_AW_4 c29_AW_5
  clear c30_vwB0_0 c30_vwB0_1 c30_vwB0_2 c30_vwB0_3 c30_vwB0_4 c30_vwB0_5
  clear c31_vwB1_0 c31_vwB1_1 c31_vwB1_2 c31_vwB1_3 c31_vwB1_4
  clear c32_X_0 c32_X_1 c32_X_2 c32_X_3 c32_X_4 c32_X_5
  have HB_34 := Lib.hid (HB_28.out.trans (l33.mono HB_28.out.size))
  have x_34 := Lib.hid (ownz_below x_28.out l33 (Nat.le_refl _))
  clear x_28
  have xh_34 := Lib.hid (ownz_below xh_28.out l33 (Nat.le_refl _))
  clear xh_28
  have g0_34 := Lib.hid (ownz_below O_g0.out l33 (Nat.le_refl _))
  clear O_g0
  have g0h_34 := Lib.hid (ownz_below O_g0h.out l33 (Nat.le_refl _))
  clear O_g0h
  have HV_34 := Lib.hid (HV_28.out.trans (l33.mono HV_28.out.size))
  clear HV_28
  have AW_34 := Lib.hid (AW_28.out.below l33 AW_28.out.lt)
  clear AW_28
  have vwB0_34 := Lib.hid (vwB0_28.out.below l33 vwB0_28.out.lt)
  clear vwB0_28
  have vwB1_34 := Lib.hid (vwB1_28.out.below l33 vwB1_28.out.lt)
  clear vwB1_28
  have X_34 := Lib.hid (X_28.out.below l33 X_28.out.lt)
  clear X_28
  clear l33
  have c35_AW_0 := AW_34.out.at 0 (v := .int .i64 z0.w.t) rfl
  have c35_AW_1 := AW_34.out.at 1 (v := .int .i64 z0.w.z) rfl
  have c35_AW_2 := AW_34.out.at 2 (v := .slice p0 z0.w.q.length cap0) rfl
  have c35_AW_3 := AW_34.out.at 3 (v := .int .i64 z0.c) rfl
  have c35_AW_4 := AW_34.out.at 4 (v := .int .i64 z0.u) rfl
  have c35_AW_5 := AW_34.out.at 5 (v := .slice p1 z0.h.length cap1) rfl
  have c36_vwB0_0 := vwB0_34.out.at 0 (v := .int .i64 ps0.w.t) rfl
  have c36_vwB0_1 := vwB0_34.out.at 1 (v := .int .i64 ps0.w.z) rfl
  have c36_vwB0_2 := vwB0_34.out.at 2 (v := .slice a_w0 ps0.w.q.length c_w0) rfl
  have c36_vwB0_3 := vwB0_34.out.at 3 (v := .int .i64 ps0.c) rfl
  have c36_vwB0_4 := vwB0_34.out.at 4 (v := .int .i64 ps0.u) rfl
  have c36_vwB0_5 := vwB0_34.out.at 5 (v := .slice a_w0h ps0.h.length c_w0h) rfl
  have c37_vwB1_0 := vwB1_34.out.at 0 (v := .int .i64 ps1.k) rfl
  have c37_vwB1_1 := vwB1_34.out.at 1 (v := .int .i64 ps1.n) rfl
  have c37_vwB1_2 := vwB1_34.out.at 2 (v := .int .i64 ps1.t) rfl
  have c37_vwB1_3 := vwB1_34.out.at 3 (v := .int .i64 ps1.l) rfl
  have c37_vwB1_4 := vwB1_34.out.at 4 (v := .string ps1.d) rfl
  have c38_X_0 := X_34.out.at 0 (v := .int .i64 z0.w.t) rfl
  have c38_X_1 := X_34.out.at 1 (v := .int .i64 z0.w.z) rfl
  have c38_X_2 := X_34.out.at 2 (v := .slice (some ⟨x_x, 0, none⟩) z0.w.q.length z0.w.q.length) rfl
  have c38_X_3 := X_34.out.at 3 (v := .int .i64 z0.c) rfl
  have c38_X_4 := X_34.out.at 4 (v := .int .i64 z0.u) rfl
  have c38_X_5 := X_34.out.at 5 (v := .slice (some ⟨y_x, 0, none⟩) z0.h.length z0.h.length) rfl
  have c39_gB0_0 := X33_gB0.out.at 0 (v := .int .i64 ps0.w.t) rfl
  have c39_gB0_1 := X33_gB0.out.at 1 (v := .int .i64 ps0.w.z) rfl
  have c39_gB0_2 := X33_gB0.out.at 2 (v := .slice a_g0 ps0.w.q.length c_g0) rfl
  have c39_gB0_3 := X33_gB0.out.at 3 (v := .int .i64 ps0.c) rfl
  have c39_gB0_4 := X33_gB0.out.at 4 (v := .int .i64 ps0.u) rfl
  have c39_gB0_5 := X33_gB0.out.at 5 (v := .slice a_g0h ps0.h.length c_g0h) rfl
  have c40_gB1_0 := X33_gB1.out.at 0 (v := .int .i64 ps1.k) rfl
  have c40_gB1_1 := X33_gB1.out.at 1 (v := .int .i64 ps1.n) rfl
  have c40_gB1_2 := X33_gB1.out.at 2 (v := .int .i64 ps1.t) rfl
  have c40_gB1_3 := X33_gB1.out.at 3 (v := .int .i64 ps1.l) rfl
  have c40_gB1_4 := X33_gB1.out.at 4 (v := .string ps1.d) rfl
  go_wp2_with fail
  refine (eqSo_same _ _ _ _ ps0 _ (rowz_own g0_34.out) (rowz_own g0h_34.out) (RV0.out.below HV_34.out (Nat.le_refl _)) (RV0h.out.below HV_34.out (Nat.le_refl _))).mono ?_
  rintro e W41 ⟨rfl, l41⟩
  clear c35_AW_0 c35_AW_1 c35_AW_2 c35_AW_3 c35_AW_4 c35_AW_5
  clear c36_vwB0_0 c36_vwB0_1 c36_vwB0_2 c36_vwB0_3 c36_vwB0_4 c36_vwB0_5
  clear c37_vwB1_0 c37_vwB1_1 c37_vwB1_2 c37_vwB1_3 c37_vwB1_4
  clear c38_X_0 c38_X_1 c38_X_2 c38_X_3 c38_X_4 c38_X_5
  clear c39_gB0_0 c39_gB0_1 c39_gB0_2 c39_gB0_3 c39_gB0_4 c39_gB0_5
  clear c40_gB1_0 c40_gB1_1 c40_gB1_2 c40_gB1_3 c40_gB1_4
  have HB_42 := Lib.hid (HB_34.out.trans (l41.mono HB_34.out.size))
  have x_42 := Lib.hid (ownz_below x_34.out l41 (Nat.le_refl _))
  clear x_34
  have xh_42 := Lib.hid (ownz_below xh_34.out l41 (Nat.le_refl _))
  clear xh_34
  have g0_42 := Lib.hid (ownz_below g0_34.out l41 (Nat.le_refl _))
  clear g0_34
  have g0h_42 := Lib.hid (ownz_below g0h_34.out l41 (Nat.le_refl _))
  clear g0h_34
  have HV_42 := Lib.hid (HV_34.out.trans (l41.mono HV_34.out.size))
  clear HV_34
  have AW_42 := Lib.hid (AW_34.out.below l41 AW_34.out.lt)
  clear AW_34
  have vwB0_42 := Lib.hid (vwB0_34.out.below l41 vwB0_34.out.lt)
  clear vwB0_34
  have vwB1_42 := Lib.hid (vwB1_34.out.below l41 vwB1_34.out.lt)
  clear vwB1_34
  have X_42 := Lib.hid (X_34.out.below l41 X_34.out.lt)
  clear X_34
  have gB0_42 := Lib.hid (X33_gB0.out.below l41 X33_gB0.out.lt)
  clear X33_gB0
  have gB1_42 := Lib.hid (X33_gB1.out.below l41 X33_gB1.out.lt)
  clear X33_gB1
  clear l41
  have c43_AW_0 := AW_42.out.at 0 (v := .int .i64 z0.w.t) rfl
  have c43_AW_1 := AW_42.out.at 1 (v := .int .i64 z0.w.z) rfl
  have c43_AW_2 := AW_42.out.at 2 (v := .slice p0 z0.w.q.length cap0) rfl
  have c43_AW_3 := AW_42.out.at 3 (v := .int .i64 z0.c) rfl
  have c43_AW_4 := AW_42.out.at 4 (v := .int .i64 z0.u) rfl
  have c43_AW_5 := AW_42.out.at 5 (v := .slice p1 z0.h.length cap1) rfl
  have c44_vwB0_0 := vwB0_42.out.at 0 (v := .int .i64 ps0.w.t) rfl
  have c44_vwB0_1 := vwB0_42.out.at 1 (v := .int .i64 ps0.w.z) rfl
  have c44_vwB0_2 := vwB0_42.out.at 2 (v := .slice a_w0 ps0.w.q.length c_w0) rfl
  have c44_vwB0_3 := vwB0_42.out.at 3 (v := .int .i64 ps0.c) rfl
  have c44_vwB0_4 := vwB0_42.out.at 4 (v := .int .i64 ps0.u) rfl
  have c44_vwB0_5 := vwB0_42.out.at 5 (v := .slice a_w0h ps0.h.length c_w0h) rfl
  have c45_vwB1_0 := vwB1_42.out.at 0 (v := .int .i64 ps1.k) rfl
  have c45_vwB1_1 := vwB1_42.out.at 1 (v := .int .i64 ps1.n) rfl
  have c45_vwB1_2 := vwB1_42.out.at 2 (v := .int .i64 ps1.t) rfl
  have c45_vwB1_3 := vwB1_42.out.at 3 (v := .int .i64 ps1.l) rfl
  have c45_vwB1_4 := vwB1_42.out.at 4 (v := .string ps1.d) rfl
  have c46_X_0 := X_42.out.at 0 (v := .int .i64 z0.w.t) rfl
  have c46_X_1 := X_42.out.at 1 (v := .int .i64 z0.w.z) rfl
  have c46_X_2 := X_42.out.at 2 (v := .slice (some ⟨x_x, 0, none⟩) z0.w.q.length z0.w.q.length) rfl
  have c46_X_3 := X_42.out.at 3 (v := .int .i64 z0.c) rfl
  have c46_X_4 := X_42.out.at 4 (v := .int .i64 z0.u) rfl
  have c46_X_5 := X_42.out.at 5 (v := .slice (some ⟨y_x, 0, none⟩) z0.h.length z0.h.length) rfl
  have c47_gB0_0 := gB0_42.out.at 0 (v := .int .i64 ps0.w.t) rfl
  have c47_gB0_1 := gB0_42.out.at 1 (v := .int .i64 ps0.w.z) rfl
  have c47_gB0_2 := gB0_42.out.at 2 (v := .slice a_g0 ps0.w.q.length c_g0) rfl
  have c47_gB0_3 := gB0_42.out.at 3 (v := .int .i64 ps0.c) rfl
  have c47_gB0_4 := gB0_42.out.at 4 (v := .int .i64 ps0.u) rfl
  have c47_gB0_5 := gB0_42.out.at 5 (v := .slice a_g0h ps0.h.length c_g0h) rfl
  have c48_gB1_0 := gB1_42.out.at 0 (v := .int .i64 ps1.k) rfl
  have c48_gB1_1 := gB1_42.out.at 1 (v := .int .i64 ps1.n) rfl
  have c48_gB1_2 := gB1_42.out.at 2 (v := .int .i64 ps1.t) rfl
  have c48_gB1_3 := gB1_42.out.at 3 (v := .int .i64 ps1.l) rfl
  have c48_gB1_4 := gB1_42.out.at 4 (v := .string ps1.d) rfl
  go_wp2_with fail
  refine (eqPacket_same ps1.k ps1.n ps1.t ps1.l ps1.d _).mono ?_
  rintro e W49 ⟨rfl, l49⟩
  clear c43_AW_0 c43_AW_1 c43_AW_2 c43_AW_3 c43_AW_4 c43_AW_5
  clear c44_vwB0_0 c44_vwB0_1 c44_vwB0_2 c44_vwB0_3 c44_vwB0_4 c44_vwB0_5
  clear c45_vwB1_0 c45_vwB1_1 c45_vwB1_2 c45_vwB1_3 c45_vwB1_4
  clear c46_X_0 c46_X_1 c46_X_2 c46_X_3 c46_X_4 c46_X_5
  clear c47_gB0_0 c47_gB0_1 c47_gB0_2 c47_gB0_3 c47_gB0_4 c47_gB0_5
  clear c48_gB1_0 c48_gB1_1 c48_gB1_2 c48_gB1_3 c48_gB1_4
  have HB_50 := Lib.hid (HB_42.out.trans (l49.mono HB_42.out.size))
  have x_50 := Lib.hid (ownz_below x_42.out l49 (Nat.le_refl _))
  clear x_42
  have xh_50 := Lib.hid (ownz_below xh_42.out l49 (Nat.le_refl _))
  clear xh_42
  have g0_50 := Lib.hid (ownz_below g0_42.out l49 (Nat.le_refl _))
  clear g0_42
  have g0h_50 := Lib.hid (ownz_below g0h_42.out l49 (Nat.le_refl _))
  clear g0h_42
  have HV_50 := Lib.hid (HV_42.out.trans (l49.mono HV_42.out.size))
  clear HV_42
  have AW_50 := Lib.hid (AW_42.out.below l49 AW_42.out.lt)
  clear AW_42
  have vwB0_50 := Lib.hid (vwB0_42.out.below l49 vwB0_42.out.lt)
  clear vwB0_42
  have vwB1_50 := Lib.hid (vwB1_42.out.below l49 vwB1_42.out.lt)
  clear vwB1_42
  have X_50 := Lib.hid (X_42.out.below l49 X_42.out.lt)
  clear X_42
  have gB0_50 := Lib.hid (gB0_42.out.below l49 gB0_42.out.lt)
  clear gB0_42
  have gB1_50 := Lib.hid (gB1_42.out.below l49 gB1_42.out.lt)
  clear gB1_42
  clear l49
  have c51_AW_0 := AW_50.out.at 0 (v := .int .i64 z0.w.t) rfl
  have c51_AW_1 := AW_50.out.at 1 (v := .int .i64 z0.w.z) rfl
  have c51_AW_2 := AW_50.out.at 2 (v := .slice p0 z0.w.q.length cap0) rfl
  have c51_AW_3 := AW_50.out.at 3 (v := .int .i64 z0.c) rfl
  have c51_AW_4 := AW_50.out.at 4 (v := .int .i64 z0.u) rfl
  have c51_AW_5 := AW_50.out.at 5 (v := .slice p1 z0.h.length cap1) rfl
  have c52_vwB0_0 := vwB0_50.out.at 0 (v := .int .i64 ps0.w.t) rfl
  have c52_vwB0_1 := vwB0_50.out.at 1 (v := .int .i64 ps0.w.z) rfl
  have c52_vwB0_2 := vwB0_50.out.at 2 (v := .slice a_w0 ps0.w.q.length c_w0) rfl
  have c52_vwB0_3 := vwB0_50.out.at 3 (v := .int .i64 ps0.c) rfl
  have c52_vwB0_4 := vwB0_50.out.at 4 (v := .int .i64 ps0.u) rfl
  have c52_vwB0_5 := vwB0_50.out.at 5 (v := .slice a_w0h ps0.h.length c_w0h) rfl
  have c53_vwB1_0 := vwB1_50.out.at 0 (v := .int .i64 ps1.k) rfl
  have c53_vwB1_1 := vwB1_50.out.at 1 (v := .int .i64 ps1.n) rfl
  have c53_vwB1_2 := vwB1_50.out.at 2 (v := .int .i64 ps1.t) rfl
  have c53_vwB1_3 := vwB1_50.out.at 3 (v := .int .i64 ps1.l) rfl
  have c53_vwB1_4 := vwB1_50.out.at 4 (v := .string ps1.d) rfl
  have c54_X_0 := X_50.out.at 0 (v := .int .i64 z0.w.t) rfl
  have c54_X_1 := X_50.out.at 1 (v := .int .i64 z0.w.z) rfl
  have c54_X_2 := X_50.out.at 2 (v := .slice (some ⟨x_x, 0, none⟩) z0.w.q.length z0.w.q.length) rfl
  have c54_X_3 := X_50.out.at 3 (v := .int .i64 z0.c) rfl
  have c54_X_4 := X_50.out.at 4 (v := .int .i64 z0.u) rfl
  have c54_X_5 := X_50.out.at 5 (v := .slice (some ⟨y_x, 0, none⟩) z0.h.length z0.h.length) rfl
  have c55_gB0_0 := gB0_50.out.at 0 (v := .int .i64 ps0.w.t) rfl
  have c55_gB0_1 := gB0_50.out.at 1 (v := .int .i64 ps0.w.z) rfl
  have c55_gB0_2 := gB0_50.out.at 2 (v := .slice a_g0 ps0.w.q.length c_g0) rfl
  have c55_gB0_3 := gB0_50.out.at 3 (v := .int .i64 ps0.c) rfl
  have c55_gB0_4 := gB0_50.out.at 4 (v := .int .i64 ps0.u) rfl
  have c55_gB0_5 := gB0_50.out.at 5 (v := .slice a_g0h ps0.h.length c_g0h) rfl
  have c56_gB1_0 := gB1_50.out.at 0 (v := .int .i64 ps1.k) rfl
  have c56_gB1_1 := gB1_50.out.at 1 (v := .int .i64 ps1.n) rfl
  have c56_gB1_2 := gB1_50.out.at 2 (v := .int .i64 ps1.t) rfl
  have c56_gB1_3 := gB1_50.out.at 3 (v := .int .i64 ps1.l) rfl
  have c56_gB1_4 := gB1_50.out.at 4 (v := .string ps1.d) rfl
  go_upto_region 12 with fail
  go_cut [63] from 59 to 63 (fun b wx => b = .bool false ∧ Hid (Below W49.heap.size W49 wx))
  case first => as_aux_lemma =>
    have HK1 := Lib.hid (fun (w' : World) (hb : Below W49.heap.size W49 w') => (show w'.cell? ⟨R_X, 0, none⟩ = some (.int .i64 z0.w.t) ∧ w'.cell? ⟨R_X, 1, none⟩ = some (.int .i64 z0.w.z) ∧ w'.cell? ⟨R_X, 2, none⟩ = some (.slice (some ⟨x_x, 0, none⟩) z0.w.q.length z0.w.q.length) ∧ w'.cell? ⟨R_X, 3, none⟩ = some (.int .i64 z0.c) ∧ w'.cell? ⟨R_X, 4, none⟩ = some (.int .i64 z0.u) ∧ w'.cell? ⟨R_X, 5, none⟩ = some (.slice (some ⟨y_x, 0, none⟩) z0.h.length z0.h.length) ∧ w'.cell? ⟨R_AW, 0, none⟩ = some (.int .i64 z0.w.t) ∧ w'.cell? ⟨R_AW, 1, none⟩ = some (.int .i64 z0.w.z) ∧ w'.cell? ⟨R_AW, 2, none⟩ = some (.slice p0 z0.w.q.length cap0) ∧ w'.cell? ⟨R_AW, 3, none⟩ = some (.int .i64 z0.c) ∧ w'.cell? ⟨R_AW, 4, none⟩ = some (.int .i64 z0.u) ∧ w'.cell? ⟨R_AW, 5, none⟩ = some (.slice p1 z0.h.length cap1) ∧ Below w.heap.size w w' from ⟨(hb.cell (p := ⟨R_X, 0, none⟩) X_50.out.lt).trans (X_50.out.at 0 (v := .int .i64 z0.w.t) rfl), (hb.cell (p := ⟨R_X, 1, none⟩) X_50.out.lt).trans (X_50.out.at 1 (v := .int .i64 z0.w.z) rfl), (hb.cell (p := ⟨R_X, 2, none⟩) X_50.out.lt).trans (X_50.out.at 2 (v := .slice (some ⟨x_x, 0, none⟩) z0.w.q.length z0.w.q.length) rfl), (hb.cell (p := ⟨R_X, 3, none⟩) X_50.out.lt).trans (X_50.out.at 3 (v := .int .i64 z0.c) rfl), (hb.cell (p := ⟨R_X, 4, none⟩) X_50.out.lt).trans (X_50.out.at 4 (v := .int .i64 z0.u) rfl), (hb.cell (p := ⟨R_X, 5, none⟩) X_50.out.lt).trans (X_50.out.at 5 (v := .slice (some ⟨y_x, 0, none⟩) z0.h.length z0.h.length) rfl), (hb.cell (p := ⟨R_AW, 0, none⟩) AW_50.out.lt).trans (AW_50.out.at 0 (v := .int .i64 z0.w.t) rfl), (hb.cell (p := ⟨R_AW, 1, none⟩) AW_50.out.lt).trans (AW_50.out.at 1 (v := .int .i64 z0.w.z) rfl), (hb.cell (p := ⟨R_AW, 2, none⟩) AW_50.out.lt).trans (AW_50.out.at 2 (v := .slice p0 z0.w.q.length cap0) rfl), (hb.cell (p := ⟨R_AW, 3, none⟩) AW_50.out.lt).trans (AW_50.out.at 3 (v := .int .i64 z0.c) rfl), (hb.cell (p := ⟨R_AW, 4, none⟩) AW_50.out.lt).trans (AW_50.out.at 4 (v := .int .i64 z0.u) rfl), (hb.cell (p := ⟨R_AW, 5, none⟩) AW_50.out.lt).trans (AW_50.out.at 5 (v := .slice p1 z0.h.length cap1) rfl), HB_50.out.trans (hb.mono HB_50.out.size)⟩))
    go_region_held3 (fun w' => w'.cell? ⟨R_X, 0, none⟩ = some (.int .i64 z0.w.t) ∧ w'.cell? ⟨R_X, 1, none⟩ = some (.int .i64 z0.w.z) ∧ w'.cell? ⟨R_X, 2, none⟩ = some (.slice (some ⟨x_x, 0, none⟩) z0.w.q.length z0.w.q.length) ∧ w'.cell? ⟨R_X, 3, none⟩ = some (.int .i64 z0.c) ∧ w'.cell? ⟨R_X, 4, none⟩ = some (.int .i64 z0.u) ∧ w'.cell? ⟨R_X, 5, none⟩ = some (.slice (some ⟨y_x, 0, none⟩) z0.h.length z0.h.length) ∧ w'.cell? ⟨R_AW, 0, none⟩ = some (.int .i64 z0.w.t) ∧ w'.cell? ⟨R_AW, 1, none⟩ = some (.int .i64 z0.w.z) ∧ w'.cell? ⟨R_AW, 2, none⟩ = some (.slice p0 z0.w.q.length cap0) ∧ w'.cell? ⟨R_AW, 3, none⟩ = some (.int .i64 z0.c) ∧ w'.cell? ⟨R_AW, 4, none⟩ = some (.int .i64 z0.u) ∧ w'.cell? ⟨R_AW, 5, none⟩ = some (.slice p1 z0.h.length cap1) ∧ Below w.heap.size w w')
      ((first | (with_reducible refine HK1.out _ ?_; (repeat (first | with_reducible assumption | with_reducible exact Below.refl _ _ | with_reducible refine Below.drew ?_ | with_reducible refine below_alloc' ?_)); done)))
      (first
        | (go_at_call 35; refine (toSo_lit _ _ z0 _ (HR0.out.below (HB_50.out.trans ((by repeat (first | with_reducible assumption | with_reducible exact Below.refl _ _ | with_reducible refine Below.drew ?_ | with_reducible refine below_alloc' ?_) : Below W49.heap.size W49 _).mono HB_50.out.size)) (Nat.le_refl _)) (HR1.out.below (HB_50.out.trans ((by repeat (first | with_reducible assumption | with_reducible exact Below.refl _ _ | with_reducible refine Below.drew ?_ | with_reducible refine below_alloc' ?_) : Below W49.heap.size W49 _).mono HB_50.out.size)) (Nat.le_refl _)) HN0.out HN1.out).mono ?_; rintro e w5 ⟨g5, g6, rfl, o5, o6, _, l5⟩; have hb5 := below_call7 (by repeat (first | with_reducible assumption | with_reducible exact Below.refl _ _ | with_reducible refine Below.drew ?_ | with_reducible refine below_alloc' ?_) : Below W49.heap.size W49 _) l5; have ho5 := rowz_own o5; have ho6 := rowz_own o6; clear o5 o6 l5)
        | (go_at_call 30; refine (eqSo_same _ _ _ _ z0 _ ((rowz_own x_50.out).below hb5 (Nat.le_refl _)) ((rowz_own xh_50.out).below hb5 (Nat.le_refl _)) ho5 ho6).mono ?_; rintro e w6 ⟨rfl, l6⟩; have hb6 := below_call7 hb5 l6; clear l6))
    all_goals go_wp2_with fail
    all_goals go_meet
    all_goals
      case rel => exact ⟨by simp, Lib.hid (by repeat (first | with_reducible assumption | with_reducible exact Below.refl _ _ | with_reducible refine Below.drew ?_ | with_reducible refine below_alloc' ?_))⟩
  case rest =>
    obtain ⟨rfl, HCut⟩ := hcut
    rename World => W57
    have l57 := HCut.out
    clear HCut
    clear c51_AW_0 c51_AW_1 c51_AW_2 c51_AW_3 c51_AW_4 c51_AW_5
    clear c52_vwB0_0 c52_vwB0_1 c52_vwB0_2 c52_vwB0_3 c52_vwB0_4 c52_vwB0_5
    clear c53_vwB1_0 c53_vwB1_1 c53_vwB1_2 c53_vwB1_3 c53_vwB1_4
    clear c54_X_0 c54_X_1 c54_X_2 c54_X_3 c54_X_4 c54_X_5
    clear c55_gB0_0 c55_gB0_1 c55_gB0_2 c55_gB0_3 c55_gB0_4 c55_gB0_5
    clear c56_gB1_0 c56_gB1_1 c56_gB1_2 c56_gB1_3 c56_gB1_4
    have HB_58 := Lib.hid (HB_50.out.trans (l57.mono HB_50.out.size))
    have x_58 := Lib.hid (ownz_below x_50.out l57 (Nat.le_refl _))
    clear x_50
    have xh_58 := Lib.hid (ownz_below xh_50.out l57 (Nat.le_refl _))
    clear xh_50
    have g0_58 := Lib.hid (ownz_below g0_50.out l57 (Nat.le_refl _))
    clear g0_50
    have g0h_58 := Lib.hid (ownz_below g0h_50.out l57 (Nat.le_refl _))
    clear g0h_50
    have HV_58 := Lib.hid (HV_50.out.trans (l57.mono HV_50.out.size))
    clear HV_50
    have AW_58 := Lib.hid (AW_50.out.below l57 AW_50.out.lt)
    clear AW_50
    have vwB0_58 := Lib.hid (vwB0_50.out.below l57 vwB0_50.out.lt)
    clear vwB0_50
    have vwB1_58 := Lib.hid (vwB1_50.out.below l57 vwB1_50.out.lt)
    clear vwB1_50
    have X_58 := Lib.hid (X_50.out.below l57 X_50.out.lt)
    clear X_50
    have gB0_58 := Lib.hid (gB0_50.out.below l57 gB0_50.out.lt)
    clear gB0_50
    have gB1_58 := Lib.hid (gB1_50.out.below l57 gB1_50.out.lt)
    clear gB1_50
    clear l57
    have c59_AW_0 := AW_58.out.at 0 (v := .int .i64 z0.w.t) rfl
    have c59_AW_1 := AW_58.out.at 1 (v := .int .i64 z0.w.z) rfl
    have c59_AW_2 := AW_58.out.at 2 (v := .slice p0 z0.w.q.length cap0) rfl
    have c59_AW_3 := AW_58.out.at 3 (v := .int .i64 z0.c) rfl
    have c59_AW_4 := AW_58.out.at 4 (v := .int .i64 z0.u) rfl
    have c59_AW_5 := AW_58.out.at 5 (v := .slice p1 z0.h.length cap1) rfl
    have c60_vwB0_0 := vwB0_58.out.at 0 (v := .int .i64 ps0.w.t) rfl
    have c60_vwB0_1 := vwB0_58.out.at 1 (v := .int .i64 ps0.w.z) rfl
    have c60_vwB0_2 := vwB0_58.out.at 2 (v := .slice a_w0 ps0.w.q.length c_w0) rfl
    have c60_vwB0_3 := vwB0_58.out.at 3 (v := .int .i64 ps0.c) rfl
    have c60_vwB0_4 := vwB0_58.out.at 4 (v := .int .i64 ps0.u) rfl
    have c60_vwB0_5 := vwB0_58.out.at 5 (v := .slice a_w0h ps0.h.length c_w0h) rfl
    have c61_vwB1_0 := vwB1_58.out.at 0 (v := .int .i64 ps1.k) rfl
    have c61_vwB1_1 := vwB1_58.out.at 1 (v := .int .i64 ps1.n) rfl
    have c61_vwB1_2 := vwB1_58.out.at 2 (v := .int .i64 ps1.t) rfl
    have c61_vwB1_3 := vwB1_58.out.at 3 (v := .int .i64 ps1.l) rfl
    have c61_vwB1_4 := vwB1_58.out.at 4 (v := .string ps1.d) rfl
    have c62_X_0 := X_58.out.at 0 (v := .int .i64 z0.w.t) rfl
    have c62_X_1 := X_58.out.at 1 (v := .int .i64 z0.w.z) rfl
    have c62_X_2 := X_58.out.at 2 (v := .slice (some ⟨x_x, 0, none⟩) z0.w.q.length z0.w.q.length) rfl
    have c62_X_3 := X_58.out.at 3 (v := .int .i64 z0.c) rfl
    have c62_X_4 := X_58.out.at 4 (v := .int .i64 z0.u) rfl
    have c62_X_5 := X_58.out.at 5 (v := .slice (some ⟨y_x, 0, none⟩) z0.h.length z0.h.length) rfl
    have c63_gB0_0 := gB0_58.out.at 0 (v := .int .i64 ps0.w.t) rfl
    have c63_gB0_1 := gB0_58.out.at 1 (v := .int .i64 ps0.w.z) rfl
    have c63_gB0_2 := gB0_58.out.at 2 (v := .slice a_g0 ps0.w.q.length c_g0) rfl
    have c63_gB0_3 := gB0_58.out.at 3 (v := .int .i64 ps0.c) rfl
    have c63_gB0_4 := gB0_58.out.at 4 (v := .int .i64 ps0.u) rfl
    have c63_gB0_5 := gB0_58.out.at 5 (v := .slice a_g0h ps0.h.length c_g0h) rfl
    have c64_gB1_0 := gB1_58.out.at 0 (v := .int .i64 ps1.k) rfl
    have c64_gB1_1 := gB1_58.out.at 1 (v := .int .i64 ps1.n) rfl
    have c64_gB1_2 := gB1_58.out.at 2 (v := .int .i64 ps1.t) rfl
    have c64_gB1_3 := gB1_58.out.at 3 (v := .int .i64 ps1.l) rfl
    have c64_gB1_4 := gB1_58.out.at 4 (v := .string ps1.d) rfl
    have hM := markSo_own (.slice (some ⟨x_x, 0, none⟩) z0.w.q.length z0.w.q.length) (.slice (some ⟨y_x, 0, none⟩) z0.h.length z0.h.length) z0.w.t z0.w.z z0.c z0.u z0.w.q.length z0.h.length 1 _ _ _ W57 x_58.out xh_58.out AP_x_xh.out (by omega) (by have := HL0.out; have := HN0.out; have := HN1.out; have := HKl0.out; omega)
    rw [HKx.out] at hM
    have HM := Lib.hid hM
    clear hM
    go_wp2_with fail
    refine HM.out.mono ?_
    rintro e W65 ⟨rfl, m65, mh65, wm65, ga65, gb65⟩
    clear HM
    clear c59_AW_0 c59_AW_1 c59_AW_2 c59_AW_3 c59_AW_4 c59_AW_5
    clear c60_vwB0_0 c60_vwB0_1 c60_vwB0_2 c60_vwB0_3 c60_vwB0_4 c60_vwB0_5
    clear c61_vwB1_0 c61_vwB1_1 c61_vwB1_2 c61_vwB1_3 c61_vwB1_4
    clear c62_X_0 c62_X_1 c62_X_2 c62_X_3 c62_X_4 c62_X_5
    clear c63_gB0_0 c63_gB0_1 c63_gB0_2 c63_gB0_3 c63_gB0_4 c63_gB0_5
    clear c64_gB1_0 c64_gB1_1 c64_gB1_2 c64_gB1_3 c64_gB1_4
    have hb66_x := Below.grown HB_58.out ga65 (Below.size HB_58.out) (fun q hq => (x_58.out.lt q hq).1)
    have hb66_xh := Below.grown hb66_x gb65 (Below.size hb66_x) (fun q hq => (xh_58.out.lt q hq).1)
    have HB_66 := Lib.hid hb66_xh
    have g0_66 := Lib.hid (ownz_apart (ownz_apart g0_58.out ga65 (fun k h1 h2 => AP_x_g0.out k h2 h1)) gb65 (fun k h1 h2 => AP_xh_g0.out k h2 h1))
    have g0h_66 := Lib.hid (ownz_apart (ownz_apart g0h_58.out ga65 (fun k h1 h2 => AP_x_g0h.out k h2 h1)) gb65 (fun k h1 h2 => AP_xh_g0h.out k h2 h1))
    have AW_66 := Lib.hid (Bx.grown (Bx.grown AW_58.out ga65 (fun e => BX_AW_x.out _ e.symm rfl)) gb65 (fun e => BX_AW_xh.out _ e.symm rfl))
    clear AW_58
    have vwB0_66 := Lib.hid (Bx.grown (Bx.grown vwB0_58.out ga65 (fun e => BX_vwB0_x.out _ e.symm rfl)) gb65 (fun e => BX_vwB0_xh.out _ e.symm rfl))
    clear vwB0_58
    have vwB1_66 := Lib.hid (Bx.grown (Bx.grown vwB1_58.out ga65 (fun e => BX_vwB1_x.out _ e.symm rfl)) gb65 (fun e => BX_vwB1_xh.out _ e.symm rfl))
    clear vwB1_58
    have X_66 := Lib.hid (Bx.grown (Bx.grown X_58.out ga65 (fun e => BX_X_x.out _ e.symm rfl)) gb65 (fun e => BX_X_xh.out _ e.symm rfl))
    clear X_58
    have gB0_66 := Lib.hid (Bx.grown (Bx.grown gB0_58.out ga65 (fun e => BX_gB0_x.out _ e.symm rfl)) gb65 (fun e => BX_gB0_xh.out _ e.symm rfl))
    clear gB0_58
    have gB1_66 := Lib.hid (Bx.grown (Bx.grown gB1_58.out ga65 (fun e => BX_gB1_x.out _ e.symm rfl)) gb65 (fun e => BX_gB1_xh.out _ e.symm rfl))
    clear gB1_58
    have hv66_HV_0 := Below.grown HV_58.out ga65 (Below.size HV_58.out) (fun q hq => BV_HV_x.out q hq)
    have hv66_HV_1 := Below.grown hv66_HV_0 gb65 (Below.size hv66_HV_0) (fun q hq => BV_HV_xh.out q hq)
    have HV_66 := Lib.hid hv66_HV_1
    clear HV_58 hv66_HV_0 hv66_HV_1
    clear g0_58
    clear g0h_58
    have x_66 := Lib.hid m65
    clear m65 x_58
    have xh_66 := Lib.hid mh65
    clear mh65 xh_58
    clear hb66_x hb66_xh ga65 gb65
    have c67_AW_0 := AW_66.out.at 0 (v := .int .i64 z0.w.t) rfl
    have c67_AW_1 := AW_66.out.at 1 (v := .int .i64 z0.w.z) rfl
    have c67_AW_2 := AW_66.out.at 2 (v := .slice p0 z0.w.q.length cap0) rfl
    have c67_AW_3 := AW_66.out.at 3 (v := .int .i64 z0.c) rfl
    have c67_AW_4 := AW_66.out.at 4 (v := .int .i64 z0.u) rfl
    have c67_AW_5 := AW_66.out.at 5 (v := .slice p1 z0.h.length cap1) rfl
    have c68_vwB0_0 := vwB0_66.out.at 0 (v := .int .i64 ps0.w.t) rfl
    have c68_vwB0_1 := vwB0_66.out.at 1 (v := .int .i64 ps0.w.z) rfl
    have c68_vwB0_2 := vwB0_66.out.at 2 (v := .slice a_w0 ps0.w.q.length c_w0) rfl
    have c68_vwB0_3 := vwB0_66.out.at 3 (v := .int .i64 ps0.c) rfl
    have c68_vwB0_4 := vwB0_66.out.at 4 (v := .int .i64 ps0.u) rfl
    have c68_vwB0_5 := vwB0_66.out.at 5 (v := .slice a_w0h ps0.h.length c_w0h) rfl
    have c69_vwB1_0 := vwB1_66.out.at 0 (v := .int .i64 ps1.k) rfl
    have c69_vwB1_1 := vwB1_66.out.at 1 (v := .int .i64 ps1.n) rfl
    have c69_vwB1_2 := vwB1_66.out.at 2 (v := .int .i64 ps1.t) rfl
    have c69_vwB1_3 := vwB1_66.out.at 3 (v := .int .i64 ps1.l) rfl
    have c69_vwB1_4 := vwB1_66.out.at 4 (v := .string ps1.d) rfl
    have c70_X_0 := X_66.out.at 0 (v := .int .i64 z0.w.t) rfl
    have c70_X_1 := X_66.out.at 1 (v := .int .i64 z0.w.z) rfl
    have c70_X_2 := X_66.out.at 2 (v := .slice (some ⟨x_x, 0, none⟩) z0.w.q.length z0.w.q.length) rfl
    have c70_X_3 := X_66.out.at 3 (v := .int .i64 z0.c) rfl
    have c70_X_4 := X_66.out.at 4 (v := .int .i64 z0.u) rfl
    have c70_X_5 := X_66.out.at 5 (v := .slice (some ⟨y_x, 0, none⟩) z0.h.length z0.h.length) rfl
    have c71_gB0_0 := gB0_66.out.at 0 (v := .int .i64 ps0.w.t) rfl
    have c71_gB0_1 := gB0_66.out.at 1 (v := .int .i64 ps0.w.z) rfl
    have c71_gB0_2 := gB0_66.out.at 2 (v := .slice a_g0 ps0.w.q.length c_g0) rfl
    have c71_gB0_3 := gB0_66.out.at 3 (v := .int .i64 ps0.c) rfl
    have c71_gB0_4 := gB0_66.out.at 4 (v := .int .i64 ps0.u) rfl
    have c71_gB0_5 := gB0_66.out.at 5 (v := .slice a_g0h ps0.h.length c_g0h) rfl
    have c72_gB1_0 := gB1_66.out.at 0 (v := .int .i64 ps1.k) rfl
    have c72_gB1_1 := gB1_66.out.at 1 (v := .int .i64 ps1.n) rfl
    have c72_gB1_2 := gB1_66.out.at 2 (v := .int .i64 ps1.t) rfl
    have c72_gB1_3 := gB1_66.out.at 3 (v := .int .i64 ps1.l) rfl
    have c72_gB1_4 := gB1_66.out.at 4 (v := .string ps1.d) rfl
    go_wp2_with fail
    refine (eqSo_same _ _ _ _ ps0 _ (rowz_own g0_66.out) (rowz_own g0h_66.out) (RV0.out.below HV_66.out (Nat.le_refl _)) (RV0h.out.below HV_66.out (Nat.le_refl _))).mono ?_
    rintro e W73 ⟨rfl, l73⟩
    clear c67_AW_0 c67_AW_1 c67_AW_2 c67_AW_3 c67_AW_4 c67_AW_5
    clear c68_vwB0_0 c68_vwB0_1 c68_vwB0_2 c68_vwB0_3 c68_vwB0_4 c68_vwB0_5
    clear c69_vwB1_0 c69_vwB1_1 c69_vwB1_2 c69_vwB1_3 c69_vwB1_4
    clear c70_X_0 c70_X_1 c70_X_2 c70_X_3 c70_X_4 c70_X_5
    clear c71_gB0_0 c71_gB0_1 c71_gB0_2 c71_gB0_3 c71_gB0_4 c71_gB0_5
    clear c72_gB1_0 c72_gB1_1 c72_gB1_2 c72_gB1_3 c72_gB1_4
    have HB_74 := Lib.hid (HB_66.out.trans (l73.mono HB_66.out.size))
    have x_74 := Lib.hid (ownz_below x_66.out l73 (Nat.le_refl _))
    clear x_66
    have xh_74 := Lib.hid (ownz_below xh_66.out l73 (Nat.le_refl _))
    clear xh_66
    have g0_74 := Lib.hid (ownz_below g0_66.out l73 (Nat.le_refl _))
    clear g0_66
    have g0h_74 := Lib.hid (ownz_below g0h_66.out l73 (Nat.le_refl _))
    clear g0h_66
    have HV_74 := Lib.hid (HV_66.out.trans (l73.mono HV_66.out.size))
    clear HV_66
    have AW_74 := Lib.hid (AW_66.out.below l73 AW_66.out.lt)
    clear AW_66
    have vwB0_74 := Lib.hid (vwB0_66.out.below l73 vwB0_66.out.lt)
    clear vwB0_66
    have vwB1_74 := Lib.hid (vwB1_66.out.below l73 vwB1_66.out.lt)
    clear vwB1_66
    have X_74 := Lib.hid (X_66.out.below l73 X_66.out.lt)
    clear X_66
    have gB0_74 := Lib.hid (gB0_66.out.below l73 gB0_66.out.lt)
    clear gB0_66
    have gB1_74 := Lib.hid (gB1_66.out.below l73 gB1_66.out.lt)
    clear gB1_66
    clear l73
    have c75_AW_0 := AW_74.out.at 0 (v := .int .i64 z0.w.t) rfl
    have c75_AW_1 := AW_74.out.at 1 (v := .int .i64 z0.w.z) rfl
    have c75_AW_2 := AW_74.out.at 2 (v := .slice p0 z0.w.q.length cap0) rfl
    have c75_AW_3 := AW_74.out.at 3 (v := .int .i64 z0.c) rfl
    have c75_AW_4 := AW_74.out.at 4 (v := .int .i64 z0.u) rfl
    have c75_AW_5 := AW_74.out.at 5 (v := .slice p1 z0.h.length cap1) rfl
    have c76_vwB0_0 := vwB0_74.out.at 0 (v := .int .i64 ps0.w.t) rfl
    have c76_vwB0_1 := vwB0_74.out.at 1 (v := .int .i64 ps0.w.z) rfl
    have c76_vwB0_2 := vwB0_74.out.at 2 (v := .slice a_w0 ps0.w.q.length c_w0) rfl
    have c76_vwB0_3 := vwB0_74.out.at 3 (v := .int .i64 ps0.c) rfl
    have c76_vwB0_4 := vwB0_74.out.at 4 (v := .int .i64 ps0.u) rfl
    have c76_vwB0_5 := vwB0_74.out.at 5 (v := .slice a_w0h ps0.h.length c_w0h) rfl
    have c77_vwB1_0 := vwB1_74.out.at 0 (v := .int .i64 ps1.k) rfl
    have c77_vwB1_1 := vwB1_74.out.at 1 (v := .int .i64 ps1.n) rfl
    have c77_vwB1_2 := vwB1_74.out.at 2 (v := .int .i64 ps1.t) rfl
    have c77_vwB1_3 := vwB1_74.out.at 3 (v := .int .i64 ps1.l) rfl
    have c77_vwB1_4 := vwB1_74.out.at 4 (v := .string ps1.d) rfl
    have c78_X_0 := X_74.out.at 0 (v := .int .i64 z0.w.t) rfl
    have c78_X_1 := X_74.out.at 1 (v := .int .i64 z0.w.z) rfl
    have c78_X_2 := X_74.out.at 2 (v := .slice (some ⟨x_x, 0, none⟩) z0.w.q.length z0.w.q.length) rfl
    have c78_X_3 := X_74.out.at 3 (v := .int .i64 z0.c) rfl
    have c78_X_4 := X_74.out.at 4 (v := .int .i64 z0.u) rfl
    have c78_X_5 := X_74.out.at 5 (v := .slice (some ⟨y_x, 0, none⟩) z0.h.length z0.h.length) rfl
    have c79_gB0_0 := gB0_74.out.at 0 (v := .int .i64 ps0.w.t) rfl
    have c79_gB0_1 := gB0_74.out.at 1 (v := .int .i64 ps0.w.z) rfl
    have c79_gB0_2 := gB0_74.out.at 2 (v := .slice a_g0 ps0.w.q.length c_g0) rfl
    have c79_gB0_3 := gB0_74.out.at 3 (v := .int .i64 ps0.c) rfl
    have c79_gB0_4 := gB0_74.out.at 4 (v := .int .i64 ps0.u) rfl
    have c79_gB0_5 := gB0_74.out.at 5 (v := .slice a_g0h ps0.h.length c_g0h) rfl
    have c80_gB1_0 := gB1_74.out.at 0 (v := .int .i64 ps1.k) rfl
    have c80_gB1_1 := gB1_74.out.at 1 (v := .int .i64 ps1.n) rfl
    have c80_gB1_2 := gB1_74.out.at 2 (v := .int .i64 ps1.t) rfl
    have c80_gB1_3 := gB1_74.out.at 3 (v := .int .i64 ps1.l) rfl
    have c80_gB1_4 := gB1_74.out.at 4 (v := .string ps1.d) rfl
    go_wp2_with fail
    refine (eqPacket_same ps1.k ps1.n ps1.t ps1.l ps1.d _).mono ?_
    rintro e W81 ⟨rfl, l81⟩
    clear c75_AW_0 c75_AW_1 c75_AW_2 c75_AW_3 c75_AW_4 c75_AW_5
    clear c76_vwB0_0 c76_vwB0_1 c76_vwB0_2 c76_vwB0_3 c76_vwB0_4 c76_vwB0_5
    clear c77_vwB1_0 c77_vwB1_1 c77_vwB1_2 c77_vwB1_3 c77_vwB1_4
    clear c78_X_0 c78_X_1 c78_X_2 c78_X_3 c78_X_4 c78_X_5
    clear c79_gB0_0 c79_gB0_1 c79_gB0_2 c79_gB0_3 c79_gB0_4 c79_gB0_5
    clear c80_gB1_0 c80_gB1_1 c80_gB1_2 c80_gB1_3 c80_gB1_4
    have HB_82 := Lib.hid (HB_74.out.trans (l81.mono HB_74.out.size))
    have x_82 := Lib.hid (ownz_below x_74.out l81 (Nat.le_refl _))
    clear x_74
    have xh_82 := Lib.hid (ownz_below xh_74.out l81 (Nat.le_refl _))
    clear xh_74
    have g0_82 := Lib.hid (ownz_below g0_74.out l81 (Nat.le_refl _))
    clear g0_74
    have g0h_82 := Lib.hid (ownz_below g0h_74.out l81 (Nat.le_refl _))
    clear g0h_74
    have HV_82 := Lib.hid (HV_74.out.trans (l81.mono HV_74.out.size))
    clear HV_74
    have AW_82 := Lib.hid (AW_74.out.below l81 AW_74.out.lt)
    clear AW_74
    have vwB0_82 := Lib.hid (vwB0_74.out.below l81 vwB0_74.out.lt)
    clear vwB0_74
    have vwB1_82 := Lib.hid (vwB1_74.out.below l81 vwB1_74.out.lt)
    clear vwB1_74
    have X_82 := Lib.hid (X_74.out.below l81 X_74.out.lt)
    clear X_74
    have gB0_82 := Lib.hid (gB0_74.out.below l81 gB0_74.out.lt)
    clear gB0_74
    have gB1_82 := Lib.hid (gB1_74.out.below l81 gB1_74.out.lt)
    clear gB1_74
    clear l81
    have c83_AW_0 := AW_82.out.at 0 (v := .int .i64 z0.w.t) rfl
    have c83_AW_1 := AW_82.out.at 1 (v := .int .i64 z0.w.z) rfl
    have c83_AW_2 := AW_82.out.at 2 (v := .slice p0 z0.w.q.length cap0) rfl
    have c83_AW_3 := AW_82.out.at 3 (v := .int .i64 z0.c) rfl
    have c83_AW_4 := AW_82.out.at 4 (v := .int .i64 z0.u) rfl
    have c83_AW_5 := AW_82.out.at 5 (v := .slice p1 z0.h.length cap1) rfl
    have c84_vwB0_0 := vwB0_82.out.at 0 (v := .int .i64 ps0.w.t) rfl
    have c84_vwB0_1 := vwB0_82.out.at 1 (v := .int .i64 ps0.w.z) rfl
    have c84_vwB0_2 := vwB0_82.out.at 2 (v := .slice a_w0 ps0.w.q.length c_w0) rfl
    have c84_vwB0_3 := vwB0_82.out.at 3 (v := .int .i64 ps0.c) rfl
    have c84_vwB0_4 := vwB0_82.out.at 4 (v := .int .i64 ps0.u) rfl
    have c84_vwB0_5 := vwB0_82.out.at 5 (v := .slice a_w0h ps0.h.length c_w0h) rfl
    have c85_vwB1_0 := vwB1_82.out.at 0 (v := .int .i64 ps1.k) rfl
    have c85_vwB1_1 := vwB1_82.out.at 1 (v := .int .i64 ps1.n) rfl
    have c85_vwB1_2 := vwB1_82.out.at 2 (v := .int .i64 ps1.t) rfl
    have c85_vwB1_3 := vwB1_82.out.at 3 (v := .int .i64 ps1.l) rfl
    have c85_vwB1_4 := vwB1_82.out.at 4 (v := .string ps1.d) rfl
    have c86_X_0 := X_82.out.at 0 (v := .int .i64 z0.w.t) rfl
    have c86_X_1 := X_82.out.at 1 (v := .int .i64 z0.w.z) rfl
    have c86_X_2 := X_82.out.at 2 (v := .slice (some ⟨x_x, 0, none⟩) z0.w.q.length z0.w.q.length) rfl
    have c86_X_3 := X_82.out.at 3 (v := .int .i64 z0.c) rfl
    have c86_X_4 := X_82.out.at 4 (v := .int .i64 z0.u) rfl
    have c86_X_5 := X_82.out.at 5 (v := .slice (some ⟨y_x, 0, none⟩) z0.h.length z0.h.length) rfl
    have c87_gB0_0 := gB0_82.out.at 0 (v := .int .i64 ps0.w.t) rfl
    have c87_gB0_1 := gB0_82.out.at 1 (v := .int .i64 ps0.w.z) rfl
    have c87_gB0_2 := gB0_82.out.at 2 (v := .slice a_g0 ps0.w.q.length c_g0) rfl
    have c87_gB0_3 := gB0_82.out.at 3 (v := .int .i64 ps0.c) rfl
    have c87_gB0_4 := gB0_82.out.at 4 (v := .int .i64 ps0.u) rfl
    have c87_gB0_5 := gB0_82.out.at 5 (v := .slice a_g0h ps0.h.length c_g0h) rfl
    have c88_gB1_0 := gB1_82.out.at 0 (v := .int .i64 ps1.k) rfl
    have c88_gB1_1 := gB1_82.out.at 1 (v := .int .i64 ps1.n) rfl
    have c88_gB1_2 := gB1_82.out.at 2 (v := .int .i64 ps1.t) rfl
    have c88_gB1_3 := gB1_82.out.at 3 (v := .int .i64 ps1.l) rfl
    have c88_gB1_4 := gB1_82.out.at 4 (v := .string ps1.d) rfl
    clear x_82
    clear xh_82
    clear c86_X_0 c86_X_1 c86_X_2 c86_X_3 c86_X_4 c86_X_5
    clear X_82
    have hM := markSo_own (.slice a_g0 ps0.w.q.length c_g0) (.slice a_g0h ps0.h.length c_g0h) ps0.w.t ps0.w.z ps0.c ps0.u ps0.w.q.length ps0.h.length 1 _ _ _ W81 g0_82.out g0h_82.out AP_g0_g0h.out (by omega) (by have := HL0.out; have := HN0.out; have := HN1.out; have := HKl0.out; omega)
    rw [HKm0.out] at hM
    have HM := Lib.hid hM
    clear hM
    go_wp2_with fail
    refine HM.out.mono ?_
    rintro e W89 ⟨rfl, m89, mh89, wm89, ga89, gb89⟩
    clear HM
    clear c83_AW_0 c83_AW_1 c83_AW_2 c83_AW_3 c83_AW_4 c83_AW_5
    clear c84_vwB0_0 c84_vwB0_1 c84_vwB0_2 c84_vwB0_3 c84_vwB0_4 c84_vwB0_5
    clear c85_vwB1_0 c85_vwB1_1 c85_vwB1_2 c85_vwB1_3 c85_vwB1_4
    clear c87_gB0_0 c87_gB0_1 c87_gB0_2 c87_gB0_3 c87_gB0_4 c87_gB0_5
    clear c88_gB1_0 c88_gB1_1 c88_gB1_2 c88_gB1_3 c88_gB1_4
    have hb90_g0 := Below.grown HB_82.out ga89 (Below.size HB_82.out) (fun q hq => (g0_82.out.lt q hq).1)
    have hb90_g0h := Below.grown hb90_g0 gb89 (Below.size hb90_g0) (fun q hq => (g0h_82.out.lt q hq).1)
    have HB_90 := Lib.hid hb90_g0h
    have AW_90 := Lib.hid (Bx.grown (Bx.grown AW_82.out ga89 (fun e => BX_AW_g0.out _ e.symm rfl)) gb89 (fun e => BX_AW_g0h.out _ e.symm rfl))
    clear AW_82
    have vwB0_90 := Lib.hid (Bx.grown (Bx.grown vwB0_82.out ga89 (fun e => BX_vwB0_g0.out _ e.symm rfl)) gb89 (fun e => BX_vwB0_g0h.out _ e.symm rfl))
    clear vwB0_82
    have vwB1_90 := Lib.hid (Bx.grown (Bx.grown vwB1_82.out ga89 (fun e => BX_vwB1_g0.out _ e.symm rfl)) gb89 (fun e => BX_vwB1_g0h.out _ e.symm rfl))
    clear vwB1_82
    have gB0_90 := Lib.hid (Bx.grown (Bx.grown gB0_82.out ga89 (fun e => BX_gB0_g0.out _ e.symm rfl)) gb89 (fun e => BX_gB0_g0h.out _ e.symm rfl))
    clear gB0_82
    have gB1_90 := Lib.hid (Bx.grown (Bx.grown gB1_82.out ga89 (fun e => BX_gB1_g0.out _ e.symm rfl)) gb89 (fun e => BX_gB1_g0h.out _ e.symm rfl))
    clear gB1_82
    have hv90_HV_0 := Below.grown HV_82.out ga89 (Below.size HV_82.out) (fun q hq => BV_HV_g0.out q hq)
    have hv90_HV_1 := Below.grown hv90_HV_0 gb89 (Below.size hv90_HV_0) (fun q hq => BV_HV_g0h.out q hq)
    have HV_90 := Lib.hid hv90_HV_1
    clear HV_82 hv90_HV_0 hv90_HV_1
    have g0_90 := Lib.hid m89
    clear m89 g0_82
    have g0h_90 := Lib.hid mh89
    clear mh89 g0h_82
    clear hb90_g0 hb90_g0h ga89 gb89
    have c91_AW_0 := AW_90.out.at 0 (v := .int .i64 z0.w.t) rfl
    have c91_AW_1 := AW_90.out.at 1 (v := .int .i64 z0.w.z) rfl
    have c91_AW_2 := AW_90.out.at 2 (v := .slice p0 z0.w.q.length cap0) rfl
    have c91_AW_3 := AW_90.out.at 3 (v := .int .i64 z0.c) rfl
    have c91_AW_4 := AW_90.out.at 4 (v := .int .i64 z0.u) rfl
    have c91_AW_5 := AW_90.out.at 5 (v := .slice p1 z0.h.length cap1) rfl
    have c92_vwB0_0 := vwB0_90.out.at 0 (v := .int .i64 ps0.w.t) rfl
    have c92_vwB0_1 := vwB0_90.out.at 1 (v := .int .i64 ps0.w.z) rfl
    have c92_vwB0_2 := vwB0_90.out.at 2 (v := .slice a_w0 ps0.w.q.length c_w0) rfl
    have c92_vwB0_3 := vwB0_90.out.at 3 (v := .int .i64 ps0.c) rfl
    have c92_vwB0_4 := vwB0_90.out.at 4 (v := .int .i64 ps0.u) rfl
    have c92_vwB0_5 := vwB0_90.out.at 5 (v := .slice a_w0h ps0.h.length c_w0h) rfl
    have c93_vwB1_0 := vwB1_90.out.at 0 (v := .int .i64 ps1.k) rfl
    have c93_vwB1_1 := vwB1_90.out.at 1 (v := .int .i64 ps1.n) rfl
    have c93_vwB1_2 := vwB1_90.out.at 2 (v := .int .i64 ps1.t) rfl
    have c93_vwB1_3 := vwB1_90.out.at 3 (v := .int .i64 ps1.l) rfl
    have c93_vwB1_4 := vwB1_90.out.at 4 (v := .string ps1.d) rfl
    have c94_gB0_0 := gB0_90.out.at 0 (v := .int .i64 ps0.w.t) rfl
    have c94_gB0_1 := gB0_90.out.at 1 (v := .int .i64 ps0.w.z) rfl
    have c94_gB0_2 := gB0_90.out.at 2 (v := .slice a_g0 ps0.w.q.length c_g0) rfl
    have c94_gB0_3 := gB0_90.out.at 3 (v := .int .i64 ps0.c) rfl
    have c94_gB0_4 := gB0_90.out.at 4 (v := .int .i64 ps0.u) rfl
    have c94_gB0_5 := gB0_90.out.at 5 (v := .slice a_g0h ps0.h.length c_g0h) rfl
    have c95_gB1_0 := gB1_90.out.at 0 (v := .int .i64 ps1.k) rfl
    have c95_gB1_1 := gB1_90.out.at 1 (v := .int .i64 ps1.n) rfl
    have c95_gB1_2 := gB1_90.out.at 2 (v := .int .i64 ps1.t) rfl
    have c95_gB1_3 := gB1_90.out.at 3 (v := .int .i64 ps1.l) rfl
    have c95_gB1_4 := gB1_90.out.at 4 (v := .string ps1.d) rfl
    have hH := heldSo_own (.slice a_g0 ps0.w.q.length c_g0) (.slice a_g0h ps0.h.length c_g0h) ps0.w.t ps0.w.z ps0.c ps0.u ps0.w.q.length ps0.h.length 1 _ W89 g0_90.out g0h_90.out AP_g0_g0h.out (by omega) (by have := HL0.out; have := HN0.out; have := HN1.out; have := HKl0.out; omega)
    rw [HKm0.out] at hH
    have HHi := Lib.hid hH
    clear hH
    go_wp2_with fail
    refine (HHi.out).mono ?_
    rintro e W96 ⟨rfl, l96⟩
    clear c91_AW_0 c91_AW_1 c91_AW_2 c91_AW_3 c91_AW_4 c91_AW_5
    clear c92_vwB0_0 c92_vwB0_1 c92_vwB0_2 c92_vwB0_3 c92_vwB0_4 c92_vwB0_5
    clear c93_vwB1_0 c93_vwB1_1 c93_vwB1_2 c93_vwB1_3 c93_vwB1_4
    clear c94_gB0_0 c94_gB0_1 c94_gB0_2 c94_gB0_3 c94_gB0_4 c94_gB0_5
    clear c95_gB1_0 c95_gB1_1 c95_gB1_2 c95_gB1_3 c95_gB1_4
    have HB_97 := Lib.hid (HB_90.out.trans (l96.mono HB_90.out.size))
    have g0_97 := Lib.hid (ownz_below g0_90.out l96 (Nat.le_refl _))
    clear g0_90
    have g0h_97 := Lib.hid (ownz_below g0h_90.out l96 (Nat.le_refl _))
    clear g0h_90
    have HV_97 := Lib.hid (HV_90.out.trans (l96.mono HV_90.out.size))
    clear HV_90
    have AW_97 := Lib.hid (AW_90.out.below l96 AW_90.out.lt)
    clear AW_90
    have vwB0_97 := Lib.hid (vwB0_90.out.below l96 vwB0_90.out.lt)
    clear vwB0_90
    have vwB1_97 := Lib.hid (vwB1_90.out.below l96 vwB1_90.out.lt)
    clear vwB1_90
    have gB0_97 := Lib.hid (gB0_90.out.below l96 gB0_90.out.lt)
    clear gB0_90
    have gB1_97 := Lib.hid (gB1_90.out.below l96 gB1_90.out.lt)
    clear gB1_90
    clear l96
    have c98_AW_0 := AW_97.out.at 0 (v := .int .i64 z0.w.t) rfl
    have c98_AW_1 := AW_97.out.at 1 (v := .int .i64 z0.w.z) rfl
    have c98_AW_2 := AW_97.out.at 2 (v := .slice p0 z0.w.q.length cap0) rfl
    have c98_AW_3 := AW_97.out.at 3 (v := .int .i64 z0.c) rfl
    have c98_AW_4 := AW_97.out.at 4 (v := .int .i64 z0.u) rfl
    have c98_AW_5 := AW_97.out.at 5 (v := .slice p1 z0.h.length cap1) rfl
    have c99_vwB0_0 := vwB0_97.out.at 0 (v := .int .i64 ps0.w.t) rfl
    have c99_vwB0_1 := vwB0_97.out.at 1 (v := .int .i64 ps0.w.z) rfl
    have c99_vwB0_2 := vwB0_97.out.at 2 (v := .slice a_w0 ps0.w.q.length c_w0) rfl
    have c99_vwB0_3 := vwB0_97.out.at 3 (v := .int .i64 ps0.c) rfl
    have c99_vwB0_4 := vwB0_97.out.at 4 (v := .int .i64 ps0.u) rfl
    have c99_vwB0_5 := vwB0_97.out.at 5 (v := .slice a_w0h ps0.h.length c_w0h) rfl
    have c100_vwB1_0 := vwB1_97.out.at 0 (v := .int .i64 ps1.k) rfl
    have c100_vwB1_1 := vwB1_97.out.at 1 (v := .int .i64 ps1.n) rfl
    have c100_vwB1_2 := vwB1_97.out.at 2 (v := .int .i64 ps1.t) rfl
    have c100_vwB1_3 := vwB1_97.out.at 3 (v := .int .i64 ps1.l) rfl
    have c100_vwB1_4 := vwB1_97.out.at 4 (v := .string ps1.d) rfl
    have c101_gB0_0 := gB0_97.out.at 0 (v := .int .i64 ps0.w.t) rfl
    have c101_gB0_1 := gB0_97.out.at 1 (v := .int .i64 ps0.w.z) rfl
    have c101_gB0_2 := gB0_97.out.at 2 (v := .slice a_g0 ps0.w.q.length c_g0) rfl
    have c101_gB0_3 := gB0_97.out.at 3 (v := .int .i64 ps0.c) rfl
    have c101_gB0_4 := gB0_97.out.at 4 (v := .int .i64 ps0.u) rfl
    have c101_gB0_5 := gB0_97.out.at 5 (v := .slice a_g0h ps0.h.length c_g0h) rfl
    have c102_gB1_0 := gB1_97.out.at 0 (v := .int .i64 ps1.k) rfl
    have c102_gB1_1 := gB1_97.out.at 1 (v := .int .i64 ps1.n) rfl
    have c102_gB1_2 := gB1_97.out.at 2 (v := .int .i64 ps1.t) rfl
    have c102_gB1_3 := gB1_97.out.at 3 (v := .int .i64 ps1.l) rfl
    have c102_gB1_4 := gB1_97.out.at 4 (v := .string ps1.d) rfl
    clear HHi
    go_wp2_with fail
    refine (toSo_lit _ _ z0 _ (HR0.out.below HB_97.out (Nat.le_refl _)) (HR1.out.below HB_97.out (Nat.le_refl _)) HN0.out HN1.out).mono ?_
    rintro e W103 ⟨x_t, y_t, rfl, o_t, o_th, ne_t, l103⟩
    have AP_g0_t : Hid (∀ k, (.slice a_g0 ps0.w.q.length c_g0 : Value).ownBlock = some k → (.slice (some ⟨x_t, 0, none⟩) z0.w.q.length z0.w.q.length : Value).ownBlock ≠ some k) := Lib.hid (fun k h1 h2 => absurd (g0_97.out.lt k h1).2 (Nat.not_lt.2 (o_t.lt k h2).1))
    have AP_g0h_t : Hid (∀ k, (.slice a_g0h ps0.h.length c_g0h : Value).ownBlock = some k → (.slice (some ⟨x_t, 0, none⟩) z0.w.q.length z0.w.q.length : Value).ownBlock ≠ some k) := Lib.hid (fun k h1 h2 => absurd (g0h_97.out.lt k h1).2 (Nat.not_lt.2 (o_t.lt k h2).1))
    have BV_HV_t : Hid (∀ k, (.slice (some ⟨x_t, 0, none⟩) z0.w.q.length z0.w.q.length : Value).ownBlock = some k → W8.heap.size ≤ k) := Lib.hid (fun k h => Nat.le_trans HV_97.out.size (o_t.lt k h).1)
    have O_t := Lib.hid (ownz_base o_t HB_97.out.size)
    have BX_AW_t : Hid (∀ k, (.slice (some ⟨x_t, 0, none⟩) z0.w.q.length z0.w.q.length : Value).ownBlock = some k → k ≠ R_AW) := Lib.hid (fun k h1 h2 => absurd AW_97.out.lt (Nat.not_lt.2 (by rw [← h2]; exact (o_t.lt k h1).1)))
    have BX_vwB0_t : Hid (∀ k, (.slice (some ⟨x_t, 0, none⟩) z0.w.q.length z0.w.q.length : Value).ownBlock = some k → k ≠ R_vwB0) := Lib.hid (fun k h1 h2 => absurd vwB0_97.out.lt (Nat.not_lt.2 (by rw [← h2]; exact (o_t.lt k h1).1)))
    have BX_vwB1_t : Hid (∀ k, (.slice (some ⟨x_t, 0, none⟩) z0.w.q.length z0.w.q.length : Value).ownBlock = some k → k ≠ R_vwB1) := Lib.hid (fun k h1 h2 => absurd vwB1_97.out.lt (Nat.not_lt.2 (by rw [← h2]; exact (o_t.lt k h1).1)))
    have BX_gB0_t : Hid (∀ k, (.slice (some ⟨x_t, 0, none⟩) z0.w.q.length z0.w.q.length : Value).ownBlock = some k → k ≠ R_gB0) := Lib.hid (fun k h1 h2 => absurd gB0_97.out.lt (Nat.not_lt.2 (by rw [← h2]; exact (o_t.lt k h1).1)))
    have BX_gB1_t : Hid (∀ k, (.slice (some ⟨x_t, 0, none⟩) z0.w.q.length z0.w.q.length : Value).ownBlock = some k → k ≠ R_gB1) := Lib.hid (fun k h1 h2 => absurd gB1_97.out.lt (Nat.not_lt.2 (by rw [← h2]; exact (o_t.lt k h1).1)))
    have AP_g0_th : Hid (∀ k, (.slice a_g0 ps0.w.q.length c_g0 : Value).ownBlock = some k → (.slice (some ⟨y_t, 0, none⟩) z0.h.length z0.h.length : Value).ownBlock ≠ some k) := Lib.hid (fun k h1 h2 => absurd (g0_97.out.lt k h1).2 (Nat.not_lt.2 (o_th.lt k h2).1))
    have AP_g0h_th : Hid (∀ k, (.slice a_g0h ps0.h.length c_g0h : Value).ownBlock = some k → (.slice (some ⟨y_t, 0, none⟩) z0.h.length z0.h.length : Value).ownBlock ≠ some k) := Lib.hid (fun k h1 h2 => absurd (g0h_97.out.lt k h1).2 (Nat.not_lt.2 (o_th.lt k h2).1))
    have BV_HV_th : Hid (∀ k, (.slice (some ⟨y_t, 0, none⟩) z0.h.length z0.h.length : Value).ownBlock = some k → W8.heap.size ≤ k) := Lib.hid (fun k h => Nat.le_trans HV_97.out.size (o_th.lt k h).1)
    have O_th := Lib.hid (ownz_base o_th HB_97.out.size)
    have BX_AW_th : Hid (∀ k, (.slice (some ⟨y_t, 0, none⟩) z0.h.length z0.h.length : Value).ownBlock = some k → k ≠ R_AW) := Lib.hid (fun k h1 h2 => absurd AW_97.out.lt (Nat.not_lt.2 (by rw [← h2]; exact (o_th.lt k h1).1)))
    have BX_vwB0_th : Hid (∀ k, (.slice (some ⟨y_t, 0, none⟩) z0.h.length z0.h.length : Value).ownBlock = some k → k ≠ R_vwB0) := Lib.hid (fun k h1 h2 => absurd vwB0_97.out.lt (Nat.not_lt.2 (by rw [← h2]; exact (o_th.lt k h1).1)))
    have BX_vwB1_th : Hid (∀ k, (.slice (some ⟨y_t, 0, none⟩) z0.h.length z0.h.length : Value).ownBlock = some k → k ≠ R_vwB1) := Lib.hid (fun k h1 h2 => absurd vwB1_97.out.lt (Nat.not_lt.2 (by rw [← h2]; exact (o_th.lt k h1).1)))
    have BX_gB0_th : Hid (∀ k, (.slice (some ⟨y_t, 0, none⟩) z0.h.length z0.h.length : Value).ownBlock = some k → k ≠ R_gB0) := Lib.hid (fun k h1 h2 => absurd gB0_97.out.lt (Nat.not_lt.2 (by rw [← h2]; exact (o_th.lt k h1).1)))
    have BX_gB1_th : Hid (∀ k, (.slice (some ⟨y_t, 0, none⟩) z0.h.length z0.h.length : Value).ownBlock = some k → k ≠ R_gB1) := Lib.hid (fun k h1 h2 => absurd gB1_97.out.lt (Nat.not_lt.2 (by rw [← h2]; exact (o_th.lt k h1).1)))
    have AP_t_th : Hid (∀ k, (.slice (some ⟨x_t, 0, none⟩) z0.w.q.length z0.w.q.length : Value).ownBlock = some k → (.slice (some ⟨y_t, 0, none⟩) z0.h.length z0.h.length : Value).ownBlock ≠ some k) := Lib.hid (fun k h1 h2 => ne_t ((Option.some.inj h1).trans (Option.some.inj h2).symm))
    clear o_t o_th ne_t
    clear c98_AW_0 c98_AW_1 c98_AW_2 c98_AW_3 c98_AW_4 c98_AW_5
    clear c99_vwB0_0 c99_vwB0_1 c99_vwB0_2 c99_vwB0_3 c99_vwB0_4 c99_vwB0_5
    clear c100_vwB1_0 c100_vwB1_1 c100_vwB1_2 c100_vwB1_3 c100_vwB1_4
    clear c101_gB0_0 c101_gB0_1 c101_gB0_2 c101_gB0_3 c101_gB0_4 c101_gB0_5
    clear c102_gB1_0 c102_gB1_1 c102_gB1_2 c102_gB1_3 c102_gB1_4
    have HB_104 := Lib.hid (HB_97.out.trans (l103.mono HB_97.out.size))
    have g0_104 := Lib.hid (ownz_below g0_97.out l103 (Nat.le_refl _))
    clear g0_97
    have g0h_104 := Lib.hid (ownz_below g0h_97.out l103 (Nat.le_refl _))
    clear g0h_97
    have HV_104 := Lib.hid (HV_97.out.trans (l103.mono HV_97.out.size))
    clear HV_97
    have AW_104 := Lib.hid (AW_97.out.below l103 AW_97.out.lt)
    clear AW_97
    have vwB0_104 := Lib.hid (vwB0_97.out.below l103 vwB0_97.out.lt)
    clear vwB0_97
    have vwB1_104 := Lib.hid (vwB1_97.out.below l103 vwB1_97.out.lt)
    clear vwB1_97
    have gB0_104 := Lib.hid (gB0_97.out.below l103 gB0_97.out.lt)
    clear gB0_97
    have gB1_104 := Lib.hid (gB1_97.out.below l103 gB1_97.out.lt)
    clear gB1_97
    clear l103
    have c105_AW_0 := AW_104.out.at 0 (v := .int .i64 z0.w.t) rfl
    have c105_AW_1 := AW_104.out.at 1 (v := .int .i64 z0.w.z) rfl
    have c105_AW_2 := AW_104.out.at 2 (v := .slice p0 z0.w.q.length cap0) rfl
    have c105_AW_3 := AW_104.out.at 3 (v := .int .i64 z0.c) rfl
    have c105_AW_4 := AW_104.out.at 4 (v := .int .i64 z0.u) rfl
    have c105_AW_5 := AW_104.out.at 5 (v := .slice p1 z0.h.length cap1) rfl
    have c106_vwB0_0 := vwB0_104.out.at 0 (v := .int .i64 ps0.w.t) rfl
    have c106_vwB0_1 := vwB0_104.out.at 1 (v := .int .i64 ps0.w.z) rfl
    have c106_vwB0_2 := vwB0_104.out.at 2 (v := .slice a_w0 ps0.w.q.length c_w0) rfl
    have c106_vwB0_3 := vwB0_104.out.at 3 (v := .int .i64 ps0.c) rfl
    have c106_vwB0_4 := vwB0_104.out.at 4 (v := .int .i64 ps0.u) rfl
    have c106_vwB0_5 := vwB0_104.out.at 5 (v := .slice a_w0h ps0.h.length c_w0h) rfl
    have c107_vwB1_0 := vwB1_104.out.at 0 (v := .int .i64 ps1.k) rfl
    have c107_vwB1_1 := vwB1_104.out.at 1 (v := .int .i64 ps1.n) rfl
    have c107_vwB1_2 := vwB1_104.out.at 2 (v := .int .i64 ps1.t) rfl
    have c107_vwB1_3 := vwB1_104.out.at 3 (v := .int .i64 ps1.l) rfl
    have c107_vwB1_4 := vwB1_104.out.at 4 (v := .string ps1.d) rfl
    have c108_gB0_0 := gB0_104.out.at 0 (v := .int .i64 ps0.w.t) rfl
    have c108_gB0_1 := gB0_104.out.at 1 (v := .int .i64 ps0.w.z) rfl
    have c108_gB0_2 := gB0_104.out.at 2 (v := .slice a_g0 ps0.w.q.length c_g0) rfl
    have c108_gB0_3 := gB0_104.out.at 3 (v := .int .i64 ps0.c) rfl
    have c108_gB0_4 := gB0_104.out.at 4 (v := .int .i64 ps0.u) rfl
    have c108_gB0_5 := gB0_104.out.at 5 (v := .slice a_g0h ps0.h.length c_g0h) rfl
    have c109_gB1_0 := gB1_104.out.at 0 (v := .int .i64 ps1.k) rfl
    have c109_gB1_1 := gB1_104.out.at 1 (v := .int .i64 ps1.n) rfl
    have c109_gB1_2 := gB1_104.out.at 2 (v := .int .i64 ps1.t) rfl
    have c109_gB1_3 := gB1_104.out.at 3 (v := .int .i64 ps1.l) rfl
    have c109_gB1_4 := gB1_104.out.at 4 (v := .string ps1.d) rfl
    go_wp2_with fail
    refine (HIm.out _ _ _ (rowz_own O_t.out) (rowz_own O_th.out) (.inr ⟨_, _, _, rfl⟩) (.inr ⟨_, _, rfl⟩)).mono ?_
    rintro e W110 ⟨v_h0, v_h0h, rfl, o_h0, o_h0h, ap_h0_h0h, l110⟩
    obtain ⟨a_h0, c_h0, rfl, _, _⟩ := ownz_slice o_h0
    have AP_g0_h0 : Hid (∀ k, (.slice a_g0 ps0.w.q.length c_g0 : Value).ownBlock = some k → (.slice a_h0 ps0.w.q.length c_h0 : Value).ownBlock ≠ some k) := Lib.hid (fun k h1 h2 => absurd (g0_104.out.lt k h1).2 (Nat.not_lt.2 (o_h0.lt k h2).1))
    have AP_g0h_h0 : Hid (∀ k, (.slice a_g0h ps0.h.length c_g0h : Value).ownBlock = some k → (.slice a_h0 ps0.w.q.length c_h0 : Value).ownBlock ≠ some k) := Lib.hid (fun k h1 h2 => absurd (g0h_104.out.lt k h1).2 (Nat.not_lt.2 (o_h0.lt k h2).1))
    have AP_t_h0 : Hid (∀ k, (.slice (some ⟨x_t, 0, none⟩) z0.w.q.length z0.w.q.length : Value).ownBlock = some k → (.slice a_h0 ps0.w.q.length c_h0 : Value).ownBlock ≠ some k) := Lib.hid (fun k h1 h2 => absurd (O_t.out.lt k h1).2 (Nat.not_lt.2 (o_h0.lt k h2).1))
    have AP_th_h0 : Hid (∀ k, (.slice (some ⟨y_t, 0, none⟩) z0.h.length z0.h.length : Value).ownBlock = some k → (.slice a_h0 ps0.w.q.length c_h0 : Value).ownBlock ≠ some k) := Lib.hid (fun k h1 h2 => absurd (O_th.out.lt k h1).2 (Nat.not_lt.2 (o_h0.lt k h2).1))
    have BV_HV_h0 : Hid (∀ k, (.slice a_h0 ps0.w.q.length c_h0 : Value).ownBlock = some k → W8.heap.size ≤ k) := Lib.hid (fun k h => Nat.le_trans HV_104.out.size (o_h0.lt k h).1)
    have O_h0 := Lib.hid (ownz_base o_h0 HB_104.out.size)
    have BX_AW_h0 : Hid (∀ k, (.slice a_h0 ps0.w.q.length c_h0 : Value).ownBlock = some k → k ≠ R_AW) := Lib.hid (fun k h1 h2 => absurd AW_104.out.lt (Nat.not_lt.2 (by rw [← h2]; exact (o_h0.lt k h1).1)))
    have BX_vwB0_h0 : Hid (∀ k, (.slice a_h0 ps0.w.q.length c_h0 : Value).ownBlock = some k → k ≠ R_vwB0) := Lib.hid (fun k h1 h2 => absurd vwB0_104.out.lt (Nat.not_lt.2 (by rw [← h2]; exact (o_h0.lt k h1).1)))
    have BX_vwB1_h0 : Hid (∀ k, (.slice a_h0 ps0.w.q.length c_h0 : Value).ownBlock = some k → k ≠ R_vwB1) := Lib.hid (fun k h1 h2 => absurd vwB1_104.out.lt (Nat.not_lt.2 (by rw [← h2]; exact (o_h0.lt k h1).1)))
    have BX_gB0_h0 : Hid (∀ k, (.slice a_h0 ps0.w.q.length c_h0 : Value).ownBlock = some k → k ≠ R_gB0) := Lib.hid (fun k h1 h2 => absurd gB0_104.out.lt (Nat.not_lt.2 (by rw [← h2]; exact (o_h0.lt k h1).1)))
    have BX_gB1_h0 : Hid (∀ k, (.slice a_h0 ps0.w.q.length c_h0 : Value).ownBlock = some k → k ≠ R_gB1) := Lib.hid (fun k h1 h2 => absurd gB1_104.out.lt (Nat.not_lt.2 (by rw [← h2]; exact (o_h0.lt k h1).1)))
    clear o_h0
    obtain ⟨a_h0h, c_h0h, rfl, _, _⟩ := ownz_slice o_h0h
    have AP_g0_h0h : Hid (∀ k, (.slice a_g0 ps0.w.q.length c_g0 : Value).ownBlock = some k → (.slice a_h0h ps0.h.length c_h0h : Value).ownBlock ≠ some k) := Lib.hid (fun k h1 h2 => absurd (g0_104.out.lt k h1).2 (Nat.not_lt.2 (o_h0h.lt k h2).1))
    have AP_g0h_h0h : Hid (∀ k, (.slice a_g0h ps0.h.length c_g0h : Value).ownBlock = some k → (.slice a_h0h ps0.h.length c_h0h : Value).ownBlock ≠ some k) := Lib.hid (fun k h1 h2 => absurd (g0h_104.out.lt k h1).2 (Nat.not_lt.2 (o_h0h.lt k h2).1))
    have AP_t_h0h : Hid (∀ k, (.slice (some ⟨x_t, 0, none⟩) z0.w.q.length z0.w.q.length : Value).ownBlock = some k → (.slice a_h0h ps0.h.length c_h0h : Value).ownBlock ≠ some k) := Lib.hid (fun k h1 h2 => absurd (O_t.out.lt k h1).2 (Nat.not_lt.2 (o_h0h.lt k h2).1))
    have AP_th_h0h : Hid (∀ k, (.slice (some ⟨y_t, 0, none⟩) z0.h.length z0.h.length : Value).ownBlock = some k → (.slice a_h0h ps0.h.length c_h0h : Value).ownBlock ≠ some k) := Lib.hid (fun k h1 h2 => absurd (O_th.out.lt k h1).2 (Nat.not_lt.2 (o_h0h.lt k h2).1))
    have BV_HV_h0h : Hid (∀ k, (.slice a_h0h ps0.h.length c_h0h : Value).ownBlock = some k → W8.heap.size ≤ k) := Lib.hid (fun k h => Nat.le_trans HV_104.out.size (o_h0h.lt k h).1)
    have O_h0h := Lib.hid (ownz_base o_h0h HB_104.out.size)
    have BX_AW_h0h : Hid (∀ k, (.slice a_h0h ps0.h.length c_h0h : Value).ownBlock = some k → k ≠ R_AW) := Lib.hid (fun k h1 h2 => absurd AW_104.out.lt (Nat.not_lt.2 (by rw [← h2]; exact (o_h0h.lt k h1).1)))
    have BX_vwB0_h0h : Hid (∀ k, (.slice a_h0h ps0.h.length c_h0h : Value).ownBlock = some k → k ≠ R_vwB0) := Lib.hid (fun k h1 h2 => absurd vwB0_104.out.lt (Nat.not_lt.2 (by rw [← h2]; exact (o_h0h.lt k h1).1)))
    have BX_vwB1_h0h : Hid (∀ k, (.slice a_h0h ps0.h.length c_h0h : Value).ownBlock = some k → k ≠ R_vwB1) := Lib.hid (fun k h1 h2 => absurd vwB1_104.out.lt (Nat.not_lt.2 (by rw [← h2]; exact (o_h0h.lt k h1).1)))
    have BX_gB0_h0h : Hid (∀ k, (.slice a_h0h ps0.h.length c_h0h : Value).ownBlock = some k → k ≠ R_gB0) := Lib.hid (fun k h1 h2 => absurd gB0_104.out.lt (Nat.not_lt.2 (by rw [← h2]; exact (o_h0h.lt k h1).1)))
    have BX_gB1_h0h : Hid (∀ k, (.slice a_h0h ps0.h.length c_h0h : Value).ownBlock = some k → k ≠ R_gB1) := Lib.hid (fun k h1 h2 => absurd gB1_104.out.lt (Nat.not_lt.2 (by rw [← h2]; exact (o_h0h.lt k h1).1)))
    clear o_h0h
    have AP_h0_h0h := Lib.hid ap_h0_h0h
    clear ap_h0_h0h
    clear c105_AW_0 c105_AW_1 c105_AW_2 c105_AW_3 c105_AW_4 c105_AW_5
    clear c106_vwB0_0 c106_vwB0_1 c106_vwB0_2 c106_vwB0_3 c106_vwB0_4 c106_vwB0_5
    clear c107_vwB1_0 c107_vwB1_1 c107_vwB1_2 c107_vwB1_3 c107_vwB1_4
    clear c108_gB0_0 c108_gB0_1 c108_gB0_2 c108_gB0_3 c108_gB0_4 c108_gB0_5
    clear c109_gB1_0 c109_gB1_1 c109_gB1_2 c109_gB1_3 c109_gB1_4
    have HB_111 := Lib.hid (HB_104.out.trans (l110.mono HB_104.out.size))
    have g0_111 := Lib.hid (ownz_below g0_104.out l110 (Nat.le_refl _))
    clear g0_104
    have g0h_111 := Lib.hid (ownz_below g0h_104.out l110 (Nat.le_refl _))
    clear g0h_104
    have t_111 := Lib.hid (ownz_below O_t.out l110 (Nat.le_refl _))
    clear O_t
    have th_111 := Lib.hid (ownz_below O_th.out l110 (Nat.le_refl _))
    clear O_th
    have HV_111 := Lib.hid (HV_104.out.trans (l110.mono HV_104.out.size))
    clear HV_104
    have AW_111 := Lib.hid (AW_104.out.below l110 AW_104.out.lt)
    clear AW_104
    have vwB0_111 := Lib.hid (vwB0_104.out.below l110 vwB0_104.out.lt)
    clear vwB0_104
    have vwB1_111 := Lib.hid (vwB1_104.out.below l110 vwB1_104.out.lt)
    clear vwB1_104
    have gB0_111 := Lib.hid (gB0_104.out.below l110 gB0_104.out.lt)
    clear gB0_104
    have gB1_111 := Lib.hid (gB1_104.out.below l110 gB1_104.out.lt)
    clear gB1_104
    clear l110
    have c112_AW_0 := AW_111.out.at 0 (v := .int .i64 z0.w.t) rfl
    have c112_AW_1 := AW_111.out.at 1 (v := .int .i64 z0.w.z) rfl
    have c112_AW_2 := AW_111.out.at 2 (v := .slice p0 z0.w.q.length cap0) rfl
    have c112_AW_3 := AW_111.out.at 3 (v := .int .i64 z0.c) rfl
    have c112_AW_4 := AW_111.out.at 4 (v := .int .i64 z0.u) rfl
    have c112_AW_5 := AW_111.out.at 5 (v := .slice p1 z0.h.length cap1) rfl
    have c113_vwB0_0 := vwB0_111.out.at 0 (v := .int .i64 ps0.w.t) rfl
    have c113_vwB0_1 := vwB0_111.out.at 1 (v := .int .i64 ps0.w.z) rfl
    have c113_vwB0_2 := vwB0_111.out.at 2 (v := .slice a_w0 ps0.w.q.length c_w0) rfl
    have c113_vwB0_3 := vwB0_111.out.at 3 (v := .int .i64 ps0.c) rfl
    have c113_vwB0_4 := vwB0_111.out.at 4 (v := .int .i64 ps0.u) rfl
    have c113_vwB0_5 := vwB0_111.out.at 5 (v := .slice a_w0h ps0.h.length c_w0h) rfl
    have c114_vwB1_0 := vwB1_111.out.at 0 (v := .int .i64 ps1.k) rfl
    have c114_vwB1_1 := vwB1_111.out.at 1 (v := .int .i64 ps1.n) rfl
    have c114_vwB1_2 := vwB1_111.out.at 2 (v := .int .i64 ps1.t) rfl
    have c114_vwB1_3 := vwB1_111.out.at 3 (v := .int .i64 ps1.l) rfl
    have c114_vwB1_4 := vwB1_111.out.at 4 (v := .string ps1.d) rfl
    have c115_gB0_0 := gB0_111.out.at 0 (v := .int .i64 ps0.w.t) rfl
    have c115_gB0_1 := gB0_111.out.at 1 (v := .int .i64 ps0.w.z) rfl
    have c115_gB0_2 := gB0_111.out.at 2 (v := .slice a_g0 ps0.w.q.length c_g0) rfl
    have c115_gB0_3 := gB0_111.out.at 3 (v := .int .i64 ps0.c) rfl
    have c115_gB0_4 := gB0_111.out.at 4 (v := .int .i64 ps0.u) rfl
    have c115_gB0_5 := gB0_111.out.at 5 (v := .slice a_g0h ps0.h.length c_g0h) rfl
    have c116_gB1_0 := gB1_111.out.at 0 (v := .int .i64 ps1.k) rfl
    have c116_gB1_1 := gB1_111.out.at 1 (v := .int .i64 ps1.n) rfl
    have c116_gB1_2 := gB1_111.out.at 2 (v := .int .i64 ps1.t) rfl
    have c116_gB1_3 := gB1_111.out.at 3 (v := .int .i64 ps1.l) rfl
    have c116_gB1_4 := gB1_111.out.at 4 (v := .string ps1.d) rfl
    go_upto_region 27 with fail
    obtain ⟨W117, hW117⟩ : ∃ W117, W117 = (W110.alloc (.cells #[.int .i64 ps0.w.t, .int .i64 ps0.w.z, .slice a_h0 ps0.w.q.length c_h0, .int .i64 ps0.c, .int .i64 ps0.u, .slice a_h0h ps0.h.length c_h0h] 29)).alloc (.cells #[.int .i64 ps1.k, .int .i64 ps1.n, .int .i64 ps1.t, .int .i64 ps1.l, .string ps1.d] 64) := ⟨_, rfl⟩
    have l117 : Below W110.heap.size W110 W117 := by rw [hW117]; exact ((Below.refl _ _).alloc (Nat.le_refl _) _).alloc (by simp) _
    have X117_hB0 : Hid (Bx W117 W110.heap.size #[.int .i64 ps0.w.t, .int .i64 ps0.w.z, .slice a_h0 ps0.w.q.length c_h0, .int .i64 ps0.c, .int .i64 ps0.u, .slice a_h0h ps0.h.length c_h0h] 29) := Lib.hid (by rw [hW117]; exact (Bx.new2 _ _ _ _ _).1)
    have X117_hB1 : Hid (Bx W117 (W110.heap.size + 1) #[.int .i64 ps1.k, .int .i64 ps1.n, .int .i64 ps1.t, .int .i64 ps1.l, .string ps1.d] 64) := Lib.hid (by rw [hW117]; exact (Bx.new2 _ _ _ _ _).2)
    rw [← hW117]
    clear hW117
    have BX_hB0_g0 : Hid (∀ k, (.slice a_g0 ps0.w.q.length c_g0 : Value).ownBlock = some k → k ≠ W110.heap.size) := Lib.hid (fun k h1 h2 => absurd (g0_111.out.lt k h1).2 (by omega))
    have BX_hB0_g0h : Hid (∀ k, (.slice a_g0h ps0.h.length c_g0h : Value).ownBlock = some k → k ≠ W110.heap.size) := Lib.hid (fun k h1 h2 => absurd (g0h_111.out.lt k h1).2 (by omega))
    have BX_hB0_t : Hid (∀ k, (.slice (some ⟨x_t, 0, none⟩) z0.w.q.length z0.w.q.length : Value).ownBlock = some k → k ≠ W110.heap.size) := Lib.hid (fun k h1 h2 => absurd (t_111.out.lt k h1).2 (by omega))
    have BX_hB0_th : Hid (∀ k, (.slice (some ⟨y_t, 0, none⟩) z0.h.length z0.h.length : Value).ownBlock = some k → k ≠ W110.heap.size) := Lib.hid (fun k h1 h2 => absurd (th_111.out.lt k h1).2 (by omega))
    have BX_hB0_h0 : Hid (∀ k, (.slice a_h0 ps0.w.q.length c_h0 : Value).ownBlock = some k → k ≠ W110.heap.size) := Lib.hid (fun k h1 h2 => absurd (O_h0.out.lt k h1).2 (by omega))
    have BX_hB0_h0h : Hid (∀ k, (.slice a_h0h ps0.h.length c_h0h : Value).ownBlock = some k → k ≠ W110.heap.size) := Lib.hid (fun k h1 h2 => absurd (O_h0h.out.lt k h1).2 (by omega))
    have HG_hB0 : Hid (w.heap.size ≤ W110.heap.size) := Lib.hid (HB_111.out.size)
    have HN_hB0_AW : Hid (R_AW < W110.heap.size) := Lib.hid (AW_111.out.lt)
    have HN_hB0_vwB0 : Hid (R_vwB0 < W110.heap.size) := Lib.hid (vwB0_111.out.lt)
    have HN_hB0_vwB1 : Hid (R_vwB1 < W110.heap.size) := Lib.hid (vwB1_111.out.lt)
    have HN_hB0_gB0 : Hid (R_gB0 < W110.heap.size) := Lib.hid (gB0_111.out.lt)
    have HN_hB0_gB1 : Hid (R_gB1 < W110.heap.size) := Lib.hid (gB1_111.out.lt)
    have BX_hB1_g0 : Hid (∀ k, (.slice a_g0 ps0.w.q.length c_g0 : Value).ownBlock = some k → k ≠ (W110.heap.size + 1)) := Lib.hid (fun k h1 h2 => absurd (g0_111.out.lt k h1).2 (by omega))
    have BX_hB1_g0h : Hid (∀ k, (.slice a_g0h ps0.h.length c_g0h : Value).ownBlock = some k → k ≠ (W110.heap.size + 1)) := Lib.hid (fun k h1 h2 => absurd (g0h_111.out.lt k h1).2 (by omega))
    have BX_hB1_t : Hid (∀ k, (.slice (some ⟨x_t, 0, none⟩) z0.w.q.length z0.w.q.length : Value).ownBlock = some k → k ≠ (W110.heap.size + 1)) := Lib.hid (fun k h1 h2 => absurd (t_111.out.lt k h1).2 (by omega))
    have BX_hB1_th : Hid (∀ k, (.slice (some ⟨y_t, 0, none⟩) z0.h.length z0.h.length : Value).ownBlock = some k → k ≠ (W110.heap.size + 1)) := Lib.hid (fun k h1 h2 => absurd (th_111.out.lt k h1).2 (by omega))
    have BX_hB1_h0 : Hid (∀ k, (.slice a_h0 ps0.w.q.length c_h0 : Value).ownBlock = some k → k ≠ (W110.heap.size + 1)) := Lib.hid (fun k h1 h2 => absurd (O_h0.out.lt k h1).2 (by omega))
    have BX_hB1_h0h : Hid (∀ k, (.slice a_h0h ps0.h.length c_h0h : Value).ownBlock = some k → k ≠ (W110.heap.size + 1)) := Lib.hid (fun k h1 h2 => absurd (O_h0h.out.lt k h1).2 (by omega))
    have HG_hB1 : Hid (w.heap.size ≤ (W110.heap.size + 1)) := Lib.hid (Nat.le_succ_of_le HB_111.out.size)
    have HN_hB1_AW : Hid (R_AW < (W110.heap.size + 1)) := Lib.hid (Nat.lt_succ_of_lt AW_111.out.lt)
    have HN_hB1_vwB0 : Hid (R_vwB0 < (W110.heap.size + 1)) := Lib.hid (Nat.lt_succ_of_lt vwB0_111.out.lt)
    have HN_hB1_vwB1 : Hid (R_vwB1 < (W110.heap.size + 1)) := Lib.hid (Nat.lt_succ_of_lt vwB1_111.out.lt)
    have HN_hB1_gB0 : Hid (R_gB0 < (W110.heap.size + 1)) := Lib.hid (Nat.lt_succ_of_lt gB0_111.out.lt)
    have HN_hB1_gB1 : Hid (R_gB1 < (W110.heap.size + 1)) := Lib.hid (Nat.lt_succ_of_lt gB1_111.out.lt)
    have HN_hB1_hB0 : Hid (W110.heap.size < W110.heap.size + 1) := Lib.hid (Nat.lt_succ_self _)
    obtain ⟨R_hB1, hR_hB1⟩ : ∃ X, X = W110.heap.size + 1 := ⟨_, rfl⟩
    rw [← hR_hB1] at X117_hB1 HG_hB1 HN_hB1_hB0 BX_hB1_g0 BX_hB1_g0h BX_hB1_t BX_hB1_th BX_hB1_h0 BX_hB1_h0h HN_hB1_AW HN_hB1_vwB0 HN_hB1_vwB1 HN_hB1_gB0 HN_hB1_gB1 ⊢
    clear hR_hB1
    obtain ⟨R_hB0, hR_hB0⟩ : ∃ X, X = W110.heap.size := ⟨_, rfl⟩
    rw [← hR_hB0] at X117_hB0 HG_hB0 HN_hB1_hB0 BX_hB0_g0 BX_hB0_g0h BX_hB0_t BX_hB0_th BX_hB0_h0 BX_hB0_h0h HN_hB0_AW HN_hB0_vwB0 HN_hB0_vwB1 HN_hB0_gB0 HN_hB0_gB1 ⊢
    clear hR_hB0
    clear c112_AW_0 c112_AW_1 c112_AW_2 c112_AW_3 c112_AW_4 c112_AW_5
    clear c113_vwB0_0 c113_vwB0_1 c113_vwB0_2 c113_vwB0_3 c113_vwB0_4 c113_vwB0_5
    clear c114_vwB1_0 c114_vwB1_1 c114_vwB1_2 c114_vwB1_3 c114_vwB1_4
    clear c115_gB0_0 c115_gB0_1 c115_gB0_2 c115_gB0_3 c115_gB0_4 c115_gB0_5
    clear c116_gB1_0 c116_gB1_1 c116_gB1_2 c116_gB1_3 c116_gB1_4
    have HB_118 := Lib.hid (HB_111.out.trans (l117.mono HB_111.out.size))
    have g0_118 := Lib.hid (ownz_below g0_111.out l117 (Nat.le_refl _))
    clear g0_111
    have g0h_118 := Lib.hid (ownz_below g0h_111.out l117 (Nat.le_refl _))
    clear g0h_111
    have t_118 := Lib.hid (ownz_below t_111.out l117 (Nat.le_refl _))
    clear t_111
    have th_118 := Lib.hid (ownz_below th_111.out l117 (Nat.le_refl _))
    clear th_111
    have h0_118 := Lib.hid (ownz_below O_h0.out l117 (Nat.le_refl _))
    clear O_h0
    have h0h_118 := Lib.hid (ownz_below O_h0h.out l117 (Nat.le_refl _))
    clear O_h0h
    have HV_118 := Lib.hid (HV_111.out.trans (l117.mono HV_111.out.size))
    clear HV_111
    have AW_118 := Lib.hid (AW_111.out.below l117 AW_111.out.lt)
    clear AW_111
    have vwB0_118 := Lib.hid (vwB0_111.out.below l117 vwB0_111.out.lt)
    clear vwB0_111
    have vwB1_118 := Lib.hid (vwB1_111.out.below l117 vwB1_111.out.lt)
    clear vwB1_111
    have gB0_118 := Lib.hid (gB0_111.out.below l117 gB0_111.out.lt)
    clear gB0_111
    have gB1_118 := Lib.hid (gB1_111.out.below l117 gB1_111.out.lt)
    clear gB1_111
    clear l117
    have c119_AW_0 := AW_118.out.at 0 (v := .int .i64 z0.w.t) rfl
    have c119_AW_1 := AW_118.out.at 1 (v := .int .i64 z0.w.z) rfl
    have c119_AW_2 := AW_118.out.at 2 (v := .slice p0 z0.w.q.length cap0) rfl
    have c119_AW_3 := AW_118.out.at 3 (v := .int .i64 z0.c) rfl
    have c119_AW_4 := AW_118.out.at 4 (v := .int .i64 z0.u) rfl
    have c119_AW_5 := AW_118.out.at 5 (v := .slice p1 z0.h.length cap1) rfl
    have c120_vwB0_0 := vwB0_118.out.at 0 (v := .int .i64 ps0.w.t) rfl
    have c120_vwB0_1 := vwB0_118.out.at 1 (v := .int .i64 ps0.w.z) rfl
    have c120_vwB0_2 := vwB0_118.out.at 2 (v := .slice a_w0 ps0.w.q.length c_w0) rfl
    have c120_vwB0_3 := vwB0_118.out.at 3 (v := .int .i64 ps0.c) rfl
    have c120_vwB0_4 := vwB0_118.out.at 4 (v := .int .i64 ps0.u) rfl
    have c120_vwB0_5 := vwB0_118.out.at 5 (v := .slice a_w0h ps0.h.length c_w0h) rfl
    have c121_vwB1_0 := vwB1_118.out.at 0 (v := .int .i64 ps1.k) rfl
    have c121_vwB1_1 := vwB1_118.out.at 1 (v := .int .i64 ps1.n) rfl
    have c121_vwB1_2 := vwB1_118.out.at 2 (v := .int .i64 ps1.t) rfl
    have c121_vwB1_3 := vwB1_118.out.at 3 (v := .int .i64 ps1.l) rfl
    have c121_vwB1_4 := vwB1_118.out.at 4 (v := .string ps1.d) rfl
    have c122_gB0_0 := gB0_118.out.at 0 (v := .int .i64 ps0.w.t) rfl
    have c122_gB0_1 := gB0_118.out.at 1 (v := .int .i64 ps0.w.z) rfl
    have c122_gB0_2 := gB0_118.out.at 2 (v := .slice a_g0 ps0.w.q.length c_g0) rfl
    have c122_gB0_3 := gB0_118.out.at 3 (v := .int .i64 ps0.c) rfl
    have c122_gB0_4 := gB0_118.out.at 4 (v := .int .i64 ps0.u) rfl
    have c122_gB0_5 := gB0_118.out.at 5 (v := .slice a_g0h ps0.h.length c_g0h) rfl
    have c123_gB1_0 := gB1_118.out.at 0 (v := .int .i64 ps1.k) rfl
    have c123_gB1_1 := gB1_118.out.at 1 (v := .int .i64 ps1.n) rfl
    have c123_gB1_2 := gB1_118.out.at 2 (v := .int .i64 ps1.t) rfl
    have c123_gB1_3 := gB1_118.out.at 3 (v := .int .i64 ps1.l) rfl
    have c123_gB1_4 := gB1_118.out.at 4 (v := .string ps1.d) rfl
    have c124_hB0_0 := X117_hB0.out.at 0 (v := .int .i64 ps0.w.t) rfl
    have c124_hB0_1 := X117_hB0.out.at 1 (v := .int .i64 ps0.w.z) rfl
    have c124_hB0_2 := X117_hB0.out.at 2 (v := .slice a_h0 ps0.w.q.length c_h0) rfl
    have c124_hB0_3 := X117_hB0.out.at 3 (v := .int .i64 ps0.c) rfl
    have c124_hB0_4 := X117_hB0.out.at 4 (v := .int .i64 ps0.u) rfl
    have c124_hB0_5 := X117_hB0.out.at 5 (v := .slice a_h0h ps0.h.length c_h0h) rfl
    have c125_hB1_0 := X117_hB1.out.at 0 (v := .int .i64 ps1.k) rfl
    have c125_hB1_1 := X117_hB1.out.at 1 (v := .int .i64 ps1.n) rfl
    have c125_hB1_2 := X117_hB1.out.at 2 (v := .int .i64 ps1.t) rfl
    have c125_hB1_3 := X117_hB1.out.at 3 (v := .int .i64 ps1.l) rfl
    have c125_hB1_4 := X117_hB1.out.at 4 (v := .string ps1.d) rfl
    go_wp2_with fail
    refine (eqSo_same _ _ _ _ ps0 _ (rowz_own h0_118.out) (rowz_own h0h_118.out) (RV0.out.below HV_118.out (Nat.le_refl _)) (RV0h.out.below HV_118.out (Nat.le_refl _))).mono ?_
    rintro e W126 ⟨rfl, l126⟩
    clear c119_AW_0 c119_AW_1 c119_AW_2 c119_AW_3 c119_AW_4 c119_AW_5
    clear c120_vwB0_0 c120_vwB0_1 c120_vwB0_2 c120_vwB0_3 c120_vwB0_4 c120_vwB0_5
    clear c121_vwB1_0 c121_vwB1_1 c121_vwB1_2 c121_vwB1_3 c121_vwB1_4
    clear c122_gB0_0 c122_gB0_1 c122_gB0_2 c122_gB0_3 c122_gB0_4 c122_gB0_5
    clear c123_gB1_0 c123_gB1_1 c123_gB1_2 c123_gB1_3 c123_gB1_4
    clear c124_hB0_0 c124_hB0_1 c124_hB0_2 c124_hB0_3 c124_hB0_4 c124_hB0_5
    clear c125_hB1_0 c125_hB1_1 c125_hB1_2 c125_hB1_3 c125_hB1_4
    have HB_127 := Lib.hid (HB_118.out.trans (l126.mono HB_118.out.size))
    have g0_127 := Lib.hid (ownz_below g0_118.out l126 (Nat.le_refl _))
    clear g0_118
    have g0h_127 := Lib.hid (ownz_below g0h_118.out l126 (Nat.le_refl _))
    clear g0h_118
    have t_127 := Lib.hid (ownz_below t_118.out l126 (Nat.le_refl _))
    clear t_118
    have th_127 := Lib.hid (ownz_below th_118.out l126 (Nat.le_refl _))
    clear th_118
    have h0_127 := Lib.hid (ownz_below h0_118.out l126 (Nat.le_refl _))
    clear h0_118
    have h0h_127 := Lib.hid (ownz_below h0h_118.out l126 (Nat.le_refl _))
    clear h0h_118
    have HV_127 := Lib.hid (HV_118.out.trans (l126.mono HV_118.out.size))
    clear HV_118
    have AW_127 := Lib.hid (AW_118.out.below l126 AW_118.out.lt)
    clear AW_118
    have vwB0_127 := Lib.hid (vwB0_118.out.below l126 vwB0_118.out.lt)
    clear vwB0_118
    have vwB1_127 := Lib.hid (vwB1_118.out.below l126 vwB1_118.out.lt)
    clear vwB1_118
    have gB0_127 := Lib.hid (gB0_118.out.below l126 gB0_118.out.lt)
    clear gB0_118
    have gB1_127 := Lib.hid (gB1_118.out.below l126 gB1_118.out.lt)
    clear gB1_118
    have hB0_127 := Lib.hid (X117_hB0.out.below l126 X117_hB0.out.lt)
    clear X117_hB0
    have hB1_127 := Lib.hid (X117_hB1.out.below l126 X117_hB1.out.lt)
    clear X117_hB1
    clear l126
    have c128_AW_0 := AW_127.out.at 0 (v := .int .i64 z0.w.t) rfl
    have c128_AW_1 := AW_127.out.at 1 (v := .int .i64 z0.w.z) rfl
    have c128_AW_2 := AW_127.out.at 2 (v := .slice p0 z0.w.q.length cap0) rfl
    have c128_AW_3 := AW_127.out.at 3 (v := .int .i64 z0.c) rfl
    have c128_AW_4 := AW_127.out.at 4 (v := .int .i64 z0.u) rfl
    have c128_AW_5 := AW_127.out.at 5 (v := .slice p1 z0.h.length cap1) rfl
    have c129_vwB0_0 := vwB0_127.out.at 0 (v := .int .i64 ps0.w.t) rfl
    have c129_vwB0_1 := vwB0_127.out.at 1 (v := .int .i64 ps0.w.z) rfl
    have c129_vwB0_2 := vwB0_127.out.at 2 (v := .slice a_w0 ps0.w.q.length c_w0) rfl
    have c129_vwB0_3 := vwB0_127.out.at 3 (v := .int .i64 ps0.c) rfl
    have c129_vwB0_4 := vwB0_127.out.at 4 (v := .int .i64 ps0.u) rfl
    have c129_vwB0_5 := vwB0_127.out.at 5 (v := .slice a_w0h ps0.h.length c_w0h) rfl
    have c130_vwB1_0 := vwB1_127.out.at 0 (v := .int .i64 ps1.k) rfl
    have c130_vwB1_1 := vwB1_127.out.at 1 (v := .int .i64 ps1.n) rfl
    have c130_vwB1_2 := vwB1_127.out.at 2 (v := .int .i64 ps1.t) rfl
    have c130_vwB1_3 := vwB1_127.out.at 3 (v := .int .i64 ps1.l) rfl
    have c130_vwB1_4 := vwB1_127.out.at 4 (v := .string ps1.d) rfl
    have c131_gB0_0 := gB0_127.out.at 0 (v := .int .i64 ps0.w.t) rfl
    have c131_gB0_1 := gB0_127.out.at 1 (v := .int .i64 ps0.w.z) rfl
    have c131_gB0_2 := gB0_127.out.at 2 (v := .slice a_g0 ps0.w.q.length c_g0) rfl
    have c131_gB0_3 := gB0_127.out.at 3 (v := .int .i64 ps0.c) rfl
    have c131_gB0_4 := gB0_127.out.at 4 (v := .int .i64 ps0.u) rfl
    have c131_gB0_5 := gB0_127.out.at 5 (v := .slice a_g0h ps0.h.length c_g0h) rfl
    have c132_gB1_0 := gB1_127.out.at 0 (v := .int .i64 ps1.k) rfl
    have c132_gB1_1 := gB1_127.out.at 1 (v := .int .i64 ps1.n) rfl
    have c132_gB1_2 := gB1_127.out.at 2 (v := .int .i64 ps1.t) rfl
    have c132_gB1_3 := gB1_127.out.at 3 (v := .int .i64 ps1.l) rfl
    have c132_gB1_4 := gB1_127.out.at 4 (v := .string ps1.d) rfl
    have c133_hB0_0 := hB0_127.out.at 0 (v := .int .i64 ps0.w.t) rfl
    have c133_hB0_1 := hB0_127.out.at 1 (v := .int .i64 ps0.w.z) rfl
    have c133_hB0_2 := hB0_127.out.at 2 (v := .slice a_h0 ps0.w.q.length c_h0) rfl
    have c133_hB0_3 := hB0_127.out.at 3 (v := .int .i64 ps0.c) rfl
    have c133_hB0_4 := hB0_127.out.at 4 (v := .int .i64 ps0.u) rfl
    have c133_hB0_5 := hB0_127.out.at 5 (v := .slice a_h0h ps0.h.length c_h0h) rfl
    have c134_hB1_0 := hB1_127.out.at 0 (v := .int .i64 ps1.k) rfl
    have c134_hB1_1 := hB1_127.out.at 1 (v := .int .i64 ps1.n) rfl
    have c134_hB1_2 := hB1_127.out.at 2 (v := .int .i64 ps1.t) rfl
    have c134_hB1_3 := hB1_127.out.at 3 (v := .int .i64 ps1.l) rfl
    have c134_hB1_4 := hB1_127.out.at 4 (v := .string ps1.d) rfl
    go_wp2_with fail
    refine (eqPacket_same ps1.k ps1.n ps1.t ps1.l ps1.d _).mono ?_
    rintro e W135 ⟨rfl, l135⟩
    clear c128_AW_0 c128_AW_1 c128_AW_2 c128_AW_3 c128_AW_4 c128_AW_5
    clear c129_vwB0_0 c129_vwB0_1 c129_vwB0_2 c129_vwB0_3 c129_vwB0_4 c129_vwB0_5
    clear c130_vwB1_0 c130_vwB1_1 c130_vwB1_2 c130_vwB1_3 c130_vwB1_4
    clear c131_gB0_0 c131_gB0_1 c131_gB0_2 c131_gB0_3 c131_gB0_4 c131_gB0_5
    clear c132_gB1_0 c132_gB1_1 c132_gB1_2 c132_gB1_3 c132_gB1_4
    clear c133_hB0_0 c133_hB0_1 c133_hB0_2 c133_hB0_3 c133_hB0_4 c133_hB0_5
    clear c134_hB1_0 c134_hB1_1 c134_hB1_2 c134_hB1_3 c134_hB1_4
    have HB_136 := Lib.hid (HB_127.out.trans (l135.mono HB_127.out.size))
    have g0_136 := Lib.hid (ownz_below g0_127.out l135 (Nat.le_refl _))
    clear g0_127
    have g0h_136 := Lib.hid (ownz_below g0h_127.out l135 (Nat.le_refl _))
    clear g0h_127
    have t_136 := Lib.hid (ownz_below t_127.out l135 (Nat.le_refl _))
    clear t_127
    have th_136 := Lib.hid (ownz_below th_127.out l135 (Nat.le_refl _))
    clear th_127
    have h0_136 := Lib.hid (ownz_below h0_127.out l135 (Nat.le_refl _))
    clear h0_127
    have h0h_136 := Lib.hid (ownz_below h0h_127.out l135 (Nat.le_refl _))
    clear h0h_127
    have HV_136 := Lib.hid (HV_127.out.trans (l135.mono HV_127.out.size))
    clear HV_127
    have AW_136 := Lib.hid (AW_127.out.below l135 AW_127.out.lt)
    clear AW_127
    have vwB0_136 := Lib.hid (vwB0_127.out.below l135 vwB0_127.out.lt)
    clear vwB0_127
    have vwB1_136 := Lib.hid (vwB1_127.out.below l135 vwB1_127.out.lt)
    clear vwB1_127
    have gB0_136 := Lib.hid (gB0_127.out.below l135 gB0_127.out.lt)
    clear gB0_127
    have gB1_136 := Lib.hid (gB1_127.out.below l135 gB1_127.out.lt)
    clear gB1_127
    have hB0_136 := Lib.hid (hB0_127.out.below l135 hB0_127.out.lt)
    clear hB0_127
    have hB1_136 := Lib.hid (hB1_127.out.below l135 hB1_127.out.lt)
    clear hB1_127
    clear l135
    have c137_AW_0 := AW_136.out.at 0 (v := .int .i64 z0.w.t) rfl
    have c137_AW_1 := AW_136.out.at 1 (v := .int .i64 z0.w.z) rfl
    have c137_AW_2 := AW_136.out.at 2 (v := .slice p0 z0.w.q.length cap0) rfl
    have c137_AW_3 := AW_136.out.at 3 (v := .int .i64 z0.c) rfl
    have c137_AW_4 := AW_136.out.at 4 (v := .int .i64 z0.u) rfl
    have c137_AW_5 := AW_136.out.at 5 (v := .slice p1 z0.h.length cap1) rfl
    have c138_vwB0_0 := vwB0_136.out.at 0 (v := .int .i64 ps0.w.t) rfl
    have c138_vwB0_1 := vwB0_136.out.at 1 (v := .int .i64 ps0.w.z) rfl
    have c138_vwB0_2 := vwB0_136.out.at 2 (v := .slice a_w0 ps0.w.q.length c_w0) rfl
    have c138_vwB0_3 := vwB0_136.out.at 3 (v := .int .i64 ps0.c) rfl
    have c138_vwB0_4 := vwB0_136.out.at 4 (v := .int .i64 ps0.u) rfl
    have c138_vwB0_5 := vwB0_136.out.at 5 (v := .slice a_w0h ps0.h.length c_w0h) rfl
    have c139_vwB1_0 := vwB1_136.out.at 0 (v := .int .i64 ps1.k) rfl
    have c139_vwB1_1 := vwB1_136.out.at 1 (v := .int .i64 ps1.n) rfl
    have c139_vwB1_2 := vwB1_136.out.at 2 (v := .int .i64 ps1.t) rfl
    have c139_vwB1_3 := vwB1_136.out.at 3 (v := .int .i64 ps1.l) rfl
    have c139_vwB1_4 := vwB1_136.out.at 4 (v := .string ps1.d) rfl
    have c140_gB0_0 := gB0_136.out.at 0 (v := .int .i64 ps0.w.t) rfl
    have c140_gB0_1 := gB0_136.out.at 1 (v := .int .i64 ps0.w.z) rfl
    have c140_gB0_2 := gB0_136.out.at 2 (v := .slice a_g0 ps0.w.q.length c_g0) rfl
    have c140_gB0_3 := gB0_136.out.at 3 (v := .int .i64 ps0.c) rfl
    have c140_gB0_4 := gB0_136.out.at 4 (v := .int .i64 ps0.u) rfl
    have c140_gB0_5 := gB0_136.out.at 5 (v := .slice a_g0h ps0.h.length c_g0h) rfl
    have c141_gB1_0 := gB1_136.out.at 0 (v := .int .i64 ps1.k) rfl
    have c141_gB1_1 := gB1_136.out.at 1 (v := .int .i64 ps1.n) rfl
    have c141_gB1_2 := gB1_136.out.at 2 (v := .int .i64 ps1.t) rfl
    have c141_gB1_3 := gB1_136.out.at 3 (v := .int .i64 ps1.l) rfl
    have c141_gB1_4 := gB1_136.out.at 4 (v := .string ps1.d) rfl
    have c142_hB0_0 := hB0_136.out.at 0 (v := .int .i64 ps0.w.t) rfl
    have c142_hB0_1 := hB0_136.out.at 1 (v := .int .i64 ps0.w.z) rfl
    have c142_hB0_2 := hB0_136.out.at 2 (v := .slice a_h0 ps0.w.q.length c_h0) rfl
    have c142_hB0_3 := hB0_136.out.at 3 (v := .int .i64 ps0.c) rfl
    have c142_hB0_4 := hB0_136.out.at 4 (v := .int .i64 ps0.u) rfl
    have c142_hB0_5 := hB0_136.out.at 5 (v := .slice a_h0h ps0.h.length c_h0h) rfl
    have c143_hB1_0 := hB1_136.out.at 0 (v := .int .i64 ps1.k) rfl
    have c143_hB1_1 := hB1_136.out.at 1 (v := .int .i64 ps1.n) rfl
    have c143_hB1_2 := hB1_136.out.at 2 (v := .int .i64 ps1.t) rfl
    have c143_hB1_3 := hB1_136.out.at 3 (v := .int .i64 ps1.l) rfl
    have c143_hB1_4 := hB1_136.out.at 4 (v := .string ps1.d) rfl
    have hH := heldSo_own (.slice a_g0 ps0.w.q.length c_g0) (.slice a_g0h ps0.h.length c_g0h) ps0.w.t ps0.w.z ps0.c ps0.u ps0.w.q.length ps0.h.length 1 _ W135 g0_136.out g0h_136.out AP_g0_g0h.out (by omega) (by have := HL0.out; have := HN0.out; have := HN1.out; have := HKl0.out; omega)
    rw [HKm0.out] at hH
    have HHi := Lib.hid hH
    clear hH
    go_wp2_with fail
    refine (HHi.out).mono ?_
    rintro e W144 ⟨rfl, l144⟩
    clear c137_AW_0 c137_AW_1 c137_AW_2 c137_AW_3 c137_AW_4 c137_AW_5
    clear c138_vwB0_0 c138_vwB0_1 c138_vwB0_2 c138_vwB0_3 c138_vwB0_4 c138_vwB0_5
    clear c139_vwB1_0 c139_vwB1_1 c139_vwB1_2 c139_vwB1_3 c139_vwB1_4
    clear c140_gB0_0 c140_gB0_1 c140_gB0_2 c140_gB0_3 c140_gB0_4 c140_gB0_5
    clear c141_gB1_0 c141_gB1_1 c141_gB1_2 c141_gB1_3 c141_gB1_4
    clear c142_hB0_0 c142_hB0_1 c142_hB0_2 c142_hB0_3 c142_hB0_4 c142_hB0_5
    clear c143_hB1_0 c143_hB1_1 c143_hB1_2 c143_hB1_3 c143_hB1_4
    have HB_145 := Lib.hid (HB_136.out.trans (l144.mono HB_136.out.size))
    have g0_145 := Lib.hid (ownz_below g0_136.out l144 (Nat.le_refl _))
    clear g0_136
    have g0h_145 := Lib.hid (ownz_below g0h_136.out l144 (Nat.le_refl _))
    clear g0h_136
    have t_145 := Lib.hid (ownz_below t_136.out l144 (Nat.le_refl _))
    clear t_136
    have th_145 := Lib.hid (ownz_below th_136.out l144 (Nat.le_refl _))
    clear th_136
    have h0_145 := Lib.hid (ownz_below h0_136.out l144 (Nat.le_refl _))
    clear h0_136
    have h0h_145 := Lib.hid (ownz_below h0h_136.out l144 (Nat.le_refl _))
    clear h0h_136
    have HV_145 := Lib.hid (HV_136.out.trans (l144.mono HV_136.out.size))
    clear HV_136
    have AW_145 := Lib.hid (AW_136.out.below l144 AW_136.out.lt)
    clear AW_136
    have vwB0_145 := Lib.hid (vwB0_136.out.below l144 vwB0_136.out.lt)
    clear vwB0_136
    have vwB1_145 := Lib.hid (vwB1_136.out.below l144 vwB1_136.out.lt)
    clear vwB1_136
    have gB0_145 := Lib.hid (gB0_136.out.below l144 gB0_136.out.lt)
    clear gB0_136
    have gB1_145 := Lib.hid (gB1_136.out.below l144 gB1_136.out.lt)
    clear gB1_136
    have hB0_145 := Lib.hid (hB0_136.out.below l144 hB0_136.out.lt)
    clear hB0_136
    have hB1_145 := Lib.hid (hB1_136.out.below l144 hB1_136.out.lt)
    clear hB1_136
    clear l144
    have c146_AW_0 := AW_145.out.at 0 (v := .int .i64 z0.w.t) rfl
    have c146_AW_1 := AW_145.out.at 1 (v := .int .i64 z0.w.z) rfl
    have c146_AW_2 := AW_145.out.at 2 (v := .slice p0 z0.w.q.length cap0) rfl
    have c146_AW_3 := AW_145.out.at 3 (v := .int .i64 z0.c) rfl
    have c146_AW_4 := AW_145.out.at 4 (v := .int .i64 z0.u) rfl
    have c146_AW_5 := AW_145.out.at 5 (v := .slice p1 z0.h.length cap1) rfl
    have c147_vwB0_0 := vwB0_145.out.at 0 (v := .int .i64 ps0.w.t) rfl
    have c147_vwB0_1 := vwB0_145.out.at 1 (v := .int .i64 ps0.w.z) rfl
    have c147_vwB0_2 := vwB0_145.out.at 2 (v := .slice a_w0 ps0.w.q.length c_w0) rfl
    have c147_vwB0_3 := vwB0_145.out.at 3 (v := .int .i64 ps0.c) rfl
    have c147_vwB0_4 := vwB0_145.out.at 4 (v := .int .i64 ps0.u) rfl
    have c147_vwB0_5 := vwB0_145.out.at 5 (v := .slice a_w0h ps0.h.length c_w0h) rfl
    have c148_vwB1_0 := vwB1_145.out.at 0 (v := .int .i64 ps1.k) rfl
    have c148_vwB1_1 := vwB1_145.out.at 1 (v := .int .i64 ps1.n) rfl
    have c148_vwB1_2 := vwB1_145.out.at 2 (v := .int .i64 ps1.t) rfl
    have c148_vwB1_3 := vwB1_145.out.at 3 (v := .int .i64 ps1.l) rfl
    have c148_vwB1_4 := vwB1_145.out.at 4 (v := .string ps1.d) rfl
    have c149_gB0_0 := gB0_145.out.at 0 (v := .int .i64 ps0.w.t) rfl
    have c149_gB0_1 := gB0_145.out.at 1 (v := .int .i64 ps0.w.z) rfl
    have c149_gB0_2 := gB0_145.out.at 2 (v := .slice a_g0 ps0.w.q.length c_g0) rfl
    have c149_gB0_3 := gB0_145.out.at 3 (v := .int .i64 ps0.c) rfl
    have c149_gB0_4 := gB0_145.out.at 4 (v := .int .i64 ps0.u) rfl
    have c149_gB0_5 := gB0_145.out.at 5 (v := .slice a_g0h ps0.h.length c_g0h) rfl
    have c150_gB1_0 := gB1_145.out.at 0 (v := .int .i64 ps1.k) rfl
    have c150_gB1_1 := gB1_145.out.at 1 (v := .int .i64 ps1.n) rfl
    have c150_gB1_2 := gB1_145.out.at 2 (v := .int .i64 ps1.t) rfl
    have c150_gB1_3 := gB1_145.out.at 3 (v := .int .i64 ps1.l) rfl
    have c150_gB1_4 := gB1_145.out.at 4 (v := .string ps1.d) rfl
    have c151_hB0_0 := hB0_145.out.at 0 (v := .int .i64 ps0.w.t) rfl
    have c151_hB0_1 := hB0_145.out.at 1 (v := .int .i64 ps0.w.z) rfl
    have c151_hB0_2 := hB0_145.out.at 2 (v := .slice a_h0 ps0.w.q.length c_h0) rfl
    have c151_hB0_3 := hB0_145.out.at 3 (v := .int .i64 ps0.c) rfl
    have c151_hB0_4 := hB0_145.out.at 4 (v := .int .i64 ps0.u) rfl
    have c151_hB0_5 := hB0_145.out.at 5 (v := .slice a_h0h ps0.h.length c_h0h) rfl
    have c152_hB1_0 := hB1_145.out.at 0 (v := .int .i64 ps1.k) rfl
    have c152_hB1_1 := hB1_145.out.at 1 (v := .int .i64 ps1.n) rfl
    have c152_hB1_2 := hB1_145.out.at 2 (v := .int .i64 ps1.t) rfl
    have c152_hB1_3 := hB1_145.out.at 3 (v := .int .i64 ps1.l) rfl
    have c152_hB1_4 := hB1_145.out.at 4 (v := .string ps1.d) rfl
    clear HHi
    go_wp2_with fail
    go_ret
    exact ⟨rfl, HB_145.out⟩
theorem fnExactSendFrom_walk (w : World) (a0_0 : Int) (w0_0 : (Lit.int .i64 a0_0).wf = true) (a0_1 : Int) (w0_1 : (Lit.int .i64 a0_1).wf = true) (v0_2 : Value) (s0_2 : List ByteArray) (w0_2 : Row w v0_2 s0_2.length (s0_2.map Value.string)) (b0_2 : ∀ s ∈ s0_2, s.size ≤ maxLen) (a0_3 : Int) (w0_3 : (Lit.int .i64 a0_3).wf = true) (a0_4 : Int) (w0_4 : (Lit.int .i64 a0_4).wf = true) (v0_5 : Value) (z0_5 : List Hd) (w0_5 : Row w v0_5 z0_5.length (hdF z0_5)) (b0_5 : ∀ r ∈ z0_5, (Lit.int .i64 r.n).wf = true ∧ (Lit.int .i64 r.u).wf = true) (a1 : ByteArray) (w1 : a1.size ≤ maxLen) (_hsh : w.ShapedOpen Try.prog) :
    Calls Try.prog 6 #[.agg #[.int .i64 a0_0, .int .i64 a0_1, v0_2, .int .i64 a0_3, .int .i64 a0_4, v0_5], .string a1] w fun e w' => e = .returned (.bool true) ∧ Below w.heap.size w w' :=
  fnExactSendFrom_wk v0_2 v0_5 ⟨⟨a0_0, a0_1, s0_2⟩, a0_3, a0_4, z0_5⟩ w w0_2 w0_5 b0_2 a1 w1
end Go.Proofs.Ytlendmiolhgecaa
