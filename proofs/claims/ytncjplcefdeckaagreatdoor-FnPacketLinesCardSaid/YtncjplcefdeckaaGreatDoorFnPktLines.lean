/-
  The law of packets' lines: packets are recovered from their lines, and a repair has the number and the data of its packet.
-/
import Derived.Test.YtncjplcefdeckaaGreatDoorDec3
import Derived.Test.YtncjplcefdeckaaGreatDoorDrawCk
import Derived.Test.YtncjplcefdeckaaGreatDoorKw
import Derived.Test.YtncjplcefdeckaaGreatDoorBig
import Derived.Deep.CutRange
import Derived.BigQuiet
import Derived.WalkLawsBesides
namespace Go.Proofs.YtncjplcefdeckaaGreatDoor
open Go.RowKit Go.Lib Go.Joins
set_option linter.unusedVariables false
set_option linter.unusedSimpArgs false

theorem pv_inj {k n t l k1 n1 t1 l1 : Int} {d d1 : ByteArray} (h : pv k n t l d = pv k1 n1 t1 l1 d1) : k = k1 ∧ n = n1 ∧ t = t1 ∧ l = l1 ∧ d = d1 := by
  unfold pv at h
  injection h with h
  have := congrArg Array.toList h
  simp at this
  exact this
theorem lineV_size (k n t l : Int) (d : ByteArray) : (lineV k n t l d).size ≤ 100 := by
  cases h : pktOk k n t l d with
  | true => rw [lineV_yes h]; exact lineB_size h
  | false => rw [lineV_no h]; decide
theorem par_back {k n t l k1 n1 t1 l1 : Int} {d d1 : ByteArray} (h : pktOk k n t l d = true) (hv : parV (lineV k n t l d) = pv k1 n1 t1 l1 d1) : parB (lineV k n t l d) = true ∧ k = k1 ∧ n = n1 ∧ t = t1 ∧ l = l1 ∧ d = d1 := by
  rw [lineV_yes h] at hv ⊢
  obtain ⟨h1, h2⟩ := par_line h
  unfold parV at hv
  rw [h2] at hv
  exact ⟨h1, pv_inj hv⟩
theorem line_back {s : ByteArray} {k n t l : Int} {d : ByteArray} (hv : parV s = pv k n t l d) (h : parB s = true) : pktOk k n t l d = true ∧ lineV k n t l d = s := by
  have hi := par_is h
  unfold parV at hv
  obtain ⟨rfl, rfl, rfl, rfl, rfl⟩ := pv_inj hv
  exact ⟨hi.1, by rw [lineV_yes hi.1]; exact hi.2⟩
theorem parV_form (s : ByteArray) : ∃ k n t l d, parV s = pv k n t l d ∧ d.size ≤ 8 := by
  cases h : parB s with
  | false => exact ⟨_, _, _, _, _, parV_no h, by decide⟩
  | true => exact ⟨_, _, _, _, _, rfl, (pktOk_bd (par_is h).1).2.2.2.2.2.2.1⟩
theorem rep_back {k n t l tr le k1 n1 t1 l1 : Int} {d d1 : ByteArray} (hv : repV k n t l d tr le = pv k1 n1 t1 l1 d1) (h : repOk k n t l d tr le = true) : k1 = 2 ∧ n1 = n ∧ d1 = d := by
  rw [repV_yes h] at hv
  obtain ⟨rfl, rfl, rfl, rfl, rfl⟩ := pv_inj hv
  exact ⟨rfl, rfl, rfl⟩
set_option maxRecDepth 100000 in
set_option maxHeartbeats 4000000 in
theorem fnPacketLines_walk (w : World) (v0 : Value) (z0 : List Int) (w0 : Row w v0 z0.length (z0.map (Value.int .u8))) (b0 : ∀ z ∈ z0, (Lit.int .u8 z).wf = true) (_hsh : w.ShapedOpen Tryz.prog) (hL : laidMetH Tryz.prog Rows.fnPacketLinesRow.laid w) :
    Calls Tryz.prog 3 #[v0] w fun e w' => e = .returned (.bool true) ∧ Below w.heap.size w w' := by
  have he : Errs w := errs_of_laid hL rfl (by simp [Rows.fnPacketLinesRow]) (by simp [Rows.fnPacketLinesRow])
  have HT := Lib.hid (tab_of_laid hL rfl (by simp [Rows.fnPacketLinesRow]))
  have HK := Lib.hid (kw_of_laid hL rfl (by simp [Rows.fnPacketLinesRow]))
  have HM := Lib.hid (mlOk_of _hsh)
  clear hL _hsh
  have hz : ∀ x ∈ z0, 0 ≤ x ∧ x < 256 := fun x hx => by have := bounds_u8 (b0 x hx); omega
  obtain ⟨a0, cap0, e0, _, _, _⟩ := row_open w0
  by_cases hbig : (65536 : Int) < z0.length
  · subst e0
    have hd : decide ((65536 : Int) < (z0.length : Int)) = true := decide_eq_true hbig
    clear w0 b0 hz
    go_enter Tryz.func3, Tryz.ntmps3
    go_wp2_with (go_at_call 4; refine (vBigI_any _ _ _ _).mono ?_; rintro e w' ⟨rfl, rfl⟩)
    go_ret
    exact ⟨rfl, Below.refl _ _⟩
  have hd : decide ((65536 : Int) < (z0.length : Int)) = false := decide_eq_false hbig
  have HR := Lib.hid w0
  have HE := Lib.hid he
  have HD1 := Lib.hid (fun w hr => drawPacketLine_any v0 z0 w hr hz)
  have HD2 := Lib.hid (fun w hr => drawParseLine_any v0 z0 w hr hz)
  have HD3 := Lib.hid (fun w hr => drawRepair_any v0 z0 w hr hz)
  have HD4 := Lib.hid (fun w hr => drawCheck_any v0 z0 w hr hz)
  subst e0
  clear w0 b0 hz he
  go_enter Tryz.func3, Tryz.ntmps3
  go_wp2_with (go_at_call 4; refine (vBigI_any _ _ _ _).mono ?_; rintro e w' ⟨rfl, rfl⟩)
  refine (HD1.out _ HR.out).mono ?_
  rintro e W1 ⟨k, n, t, l, d, hd9, rfl, l1⟩
  have HB1 := Lib.hid l1
  clear l1 HD1 hd hbig
  obtain ⟨k1, n1, t1, l1, d1, hv1, hd8⟩ := parV_form (lineV k n t l d)
  have hs100 := lineV_size k n t l d
  have HIl := Lib.hid (fun W ht hw => implLine_any k n t l d W (by unfold maxLen; omega) ht hw)
  have HSl := Lib.hid (fun W => specLine_any k n t l d W (by unfold maxLen; omega))
  have HPa := Lib.hid (fun W hm ht he hw => implParseLine_any (lineV k n t l d) W (by omega) hm ht he hw)
  have HF : Hid (pktOk k n t l d = true → parB (lineV k n t l d) = true ∧ k = k1 ∧ n = n1 ∧ t = t1 ∧ l = l1 ∧ d = d1) := Lib.hid (fun h => par_back h hv1)
  rw [hv1] at HPa
  generalize parB (lineV k n t l d) = f1 at HPa HF
  generalize lineV k n t l d = s at *
  obtain ⟨ok, hok⟩ : ∃ ok, ok = pktOk k n t l d := ⟨_, rfl⟩
  rw [← hok] at HIl HSl HF
  clear hv1 hok hd8
  unfold pv at HIl HSl HPa ⊢
  go_wp2_with fail
  obtain ⟨W2, hW2⟩ : ∃ W2, W2 = W1.alloc (.cells #[.int .i64 k, .int .i64 n, .int .i64 t, .int .i64 l, .string d] 25) := ⟨_, rfl⟩
  have HQ2 : Hid (Pb W2 W1.heap.size k n t l d) := Lib.hid (by rw [hW2]; exact heap_alloc_new W1 _)
  have HB2 : Hid (Below w.heap.size w W2) := Lib.hid (by rw [hW2]; exact HB1.out.alloc HB1.out.size _)
  have hwp : w.heap.size ≤ W1.heap.size := HB1.out.size
  obtain ⟨p, hp⟩ : ∃ p, p = W1.heap.size := ⟨_, rfl⟩
  rw [← hW2]
  rw [← hp] at HQ2 hwp ⊢
  clear hW2 hp HB1
  refine (HIl.out _ (HT.out.below HB2.out) (HK.out.below HB2.out)).mono ?_
  rintro e W3 ⟨rfl, l3⟩
  have HQ3 := Lib.hid (HQ2.out.below l3 HQ2.out.lt)
  have HB3 := Lib.hid (HB2.out.trans (l3.mono HB2.out.size))
  clear l3 HQ2 HB2 HIl
  go_wp2_with fail
  refine (HPa.out _ (HM.out.below HB3.out) (HT.out.below HB3.out) (HE.out.below HB3.out) (HK.out.below HB3.out)).mono ?_
  rintro e W4 ⟨rfl, l4⟩
  have HQ4 := Lib.hid (HQ3.out.below l4 HQ3.out.lt)
  have HB4 := Lib.hid (HB3.out.trans (l4.mono HB3.out.size))
  clear l4 HQ3 HB3 HPa
  obtain ⟨c0, c1, c2, c3, c4⟩ := HQ4.out.cells
  have hlt := HQ4.out.lt
  go_wp2_with fail
  clear c0 c1 c2 c3 c4
  obtain ⟨W5, hW5⟩ : ∃ W5, W5 = W4.alloc (.cells #[.int .i64 k1, .int .i64 n1, .int .i64 t1, .int .i64 l1, .string d1] 25) := ⟨_, rfl⟩
  have HR5 : Hid (Pb W5 W4.heap.size k1 n1 t1 l1 d1) := Lib.hid (by rw [hW5]; exact heap_alloc_new W4 _)
  have hb5 : Below W4.heap.size W4 W5 := by rw [hW5]; exact (Below.refl _ _).alloc (Nat.le_refl _) _
  have HQ5 := Lib.hid (HQ4.out.below hb5 HQ4.out.lt)
  have HB5 := Lib.hid (HB4.out.trans (hb5.mono HB4.out.size))
  obtain ⟨q, hq⟩ : ∃ q, q = W4.heap.size := ⟨_, rfl⟩
  rw [← hW5]
  rw [← hq] at HR5 hlt ⊢
  clear hW5 hq HB4 HQ4 hb5
  have hpq : p ≠ q := by omega
  have hqp : q ≠ p := by omega
  refine (HSl.out _).mono ?_
  rintro e W6 ⟨rfl, l6⟩
  have HQ6 := Lib.hid (HQ5.out.below l6 HQ5.out.lt)
  have HR6 := Lib.hid (HR5.out.below l6 HR5.out.lt)
  have HB6 := Lib.hid (HB5.out.trans (l6.mono HB5.out.size))
  clear l6 HQ5 HR5 HB5 HSl
  go_upto_region 7 with fail
  go_cut [67] from 48 to 67 (fun b wx => b = .bool false ∧ wx = W6)
  case first => as_aux_lemma =>
    obtain ⟨c0, c1, c2, c3, c4⟩ := HQ6.out.cells
    obtain ⟨r0, r1, r2, r3, r4⟩ := HR6.out.cells
    cases ok with
    | true =>
      obtain ⟨rfl, rfl, rfl, rfl, rfl, rfl⟩ := HF.out rfl
      go_wp2_with fail
      go_meet
      case rel => exact ⟨rfl, rfl⟩
    | false =>
      go_wp2_with fail
      go_meet
      case rel => exact ⟨rfl, rfl⟩
  case rest => as_aux_lemma =>
    obtain ⟨rfl, rfl⟩ := hcut
    clear HQ6 HR6 HF hpq hqp hlt hwp hs100 hd9
    go_wp2_with fail
    refine (HD2.out _ (HR.out.below HB6.out (Nat.le_refl _))).mono ?_
    rintro e W8 ⟨u, hu, rfl, l8⟩
    have HB8 := Lib.hid (HB6.out.trans (l8.mono HB6.out.size))
    clear l8 HB6 HD2
    obtain ⟨k2, n2, t2, l2, d2, hv2, hd2⟩ := parV_form u
    have HPi := Lib.hid (fun W hm ht he hw => implParseLine_any u W (by omega) hm ht he hw)
    have HPs := Lib.hid (fun W => specParseLine_any u W (by omega))
    have HLi := Lib.hid (fun W ht hw => implLine_any k2 n2 t2 l2 d2 W (by unfold maxLen; omega) ht hw)
    have HG : Hid (parB u = true → pktOk k2 n2 t2 l2 d2 = true ∧ lineV k2 n2 t2 l2 d2 = u) := Lib.hid (fun h => line_back hv2 h)
    rw [hv2] at HPi HPs
    generalize parB u = f2 at HPi HPs HG
    generalize lineV k2 n2 t2 l2 d2 = u2 at HLi HG
    generalize pktOk k2 n2 t2 l2 d2 = f3 at HLi HG
    clear hv2 hd2
    unfold pv at HPi HPs HLi
    go_wp2_with fail
    refine (HPi.out _ (HM.out.below HB8.out) (HT.out.below HB8.out) (HE.out.below HB8.out) (HK.out.below HB8.out)).mono ?_
    rintro e W9 ⟨rfl, l9⟩
    have HB9 := Lib.hid (HB8.out.trans (l9.mono HB8.out.size))
    clear l9 HB8 HPi
    go_wp2_with fail
    obtain ⟨W10, hW10⟩ : ∃ W, W = W9.alloc (.cells #[.int .i64 k2, .int .i64 n2, .int .i64 t2, .int .i64 l2, .string d2] 25) := ⟨_, rfl⟩
    have HR10 : Hid (Pb W10 W9.heap.size k2 n2 t2 l2 d2) := Lib.hid (by rw [hW10]; exact heap_alloc_new W9 _)
    have hb : Below W9.heap.size W9 W10 := by rw [hW10]; exact (Below.refl _ _).alloc (Nat.le_refl _) _
    have HB10 := Lib.hid (HB9.out.trans (hb.mono HB9.out.size))
    obtain ⟨q2, hq2⟩ : ∃ q, q = W9.heap.size := ⟨_, rfl⟩
    rw [← hW10]
    rw [← hq2] at HR10 ⊢
    clear hW10 hq2 hb HB9
    refine (HLi.out _ (HT.out.below HB10.out) (HK.out.below HB10.out)).mono ?_
    rintro e W11 ⟨rfl, l11⟩
    have HB11 := Lib.hid (HB10.out.trans (l11.mono HB10.out.size))
    have HR11 := Lib.hid (HR10.out.below l11 HR10.out.lt)
    clear l11 HB10 HR10 HLi
    go_wp2_with fail
    refine (HPs.out _).mono ?_
    rintro e W12 ⟨rfl, l12⟩
    have HB12 := Lib.hid (HB11.out.trans (l12.mono HB11.out.size))
    have HR12 := Lib.hid (HR11.out.below l12 HR11.out.lt)
    clear l12 HB11 HR11 HPs
    go_upto_region 13 with fail
    obtain ⟨W13, hW13⟩ : ∃ W, W = W12.alloc (.cells #[.int .i64 k2, .int .i64 n2, .int .i64 t2, .int .i64 l2, .string d2] 25) := ⟨_, rfl⟩
    have HX13 : Hid (Pb W13 W12.heap.size k2 n2 t2 l2 d2) := Lib.hid (by rw [hW13]; exact heap_alloc_new W12 _)
    have hb : Below W12.heap.size W12 W13 := by rw [hW13]; exact (Below.refl _ _).alloc (Nat.le_refl _) _
    have HB13 := Lib.hid (HB12.out.trans (hb.mono HB12.out.size))
    have HR13 := Lib.hid (HR12.out.below hb HR12.out.lt)
    have ltq3_HR13 := HR12.out.lt
    obtain ⟨q3, hq3⟩ : ∃ q, q = W12.heap.size := ⟨_, rfl⟩
    rw [← hW13]
    rw [← hq3] at HX13 ltq3_HR13 ⊢
    clear hW13 hq3 hb HB12 HR12
    go_cut [104] from 85 to 104 (fun b wx => b = .bool false ∧ wx = W13)
    case first => as_aux_lemma =>
      obtain ⟨r0, r1, r2, r3, r4⟩ := HR13.out.cells
      obtain ⟨x0, x1, x2, x3, x4⟩ := HX13.out.cells
      cases f2 with
      | true =>
        obtain ⟨rfl, rfl⟩ := HG.out rfl
        go_wp2_with fail
        go_meet
        case rel => exact ⟨rfl, rfl⟩
      | false =>
        go_wp2_with fail
        go_meet
        case rel => exact ⟨rfl, rfl⟩
    case rest => as_aux_lemma =>
      obtain ⟨rfl, rfl⟩ := hcut
      clear HG HR13 HX13 HE HT HK HM ltq3_HR13
      go_wp2_with fail
      refine (HD3.out _ (HR.out.below HB13.out (Nat.le_refl _))).mono ?_
      rintro e W14 ⟨k, n, t, l, d, tr, le, hd9, rfl, l14⟩
      have HB14 := Lib.hid (HB13.out.trans (l14.mono HB13.out.size))
      clear l14 HB13 HD3
      obtain ⟨k3, n3, t3, l3, d3, hv3⟩ := repV_form k n t l d tr le
      have HRi := Lib.hid (fun W => implRepair_any k n t l d tr le W (by unfold maxLen; omega))
      have HRs := Lib.hid (fun W => specRepair_any k n t l d tr le W (by unfold maxLen; omega))
      have HH : Hid (repOk k n t l d tr le = true → k3 = 2 ∧ n3 = n ∧ d3 = d) := Lib.hid (fun h => rep_back hv3 h)
      rw [hv3] at HRi HRs
      generalize repOk k n t l d tr le = f4 at HRi HRs HH
      clear hv3
      unfold pv at HRi HRs ⊢
      go_wp2_with fail
      obtain ⟨W15, hW15⟩ : ∃ W, W = W14.alloc (.cells #[.int .i64 k, .int .i64 n, .int .i64 t, .int .i64 l, .string d] 25) := ⟨_, rfl⟩
      have HQ15 : Hid (Pb W15 W14.heap.size k n t l d) := Lib.hid (by rw [hW15]; exact heap_alloc_new W14 _)
      have HB15 : Hid (Below w.heap.size w W15) := Lib.hid (by rw [hW15]; exact HB14.out.alloc HB14.out.size _)
      obtain ⟨p3, hp3⟩ : ∃ q, q = W14.heap.size := ⟨_, rfl⟩
      rw [← hW15]
      rw [← hp3] at HQ15 ⊢
      clear hW15 hp3 HB14
      refine (HRi.out _).mono ?_
      rintro e W16 ⟨rfl, l16⟩
      have HB16 := Lib.hid (HB15.out.trans (l16.mono HB15.out.size))
      have HQ16 := Lib.hid (HQ15.out.below l16 HQ15.out.lt)
      clear l16 HB15 HQ15 HRi
      obtain ⟨c0, c1, c2, c3, c4⟩ := HQ16.out.cells
      have hlt := HQ16.out.lt
      go_wp2_with fail
      clear c0 c1 c2 c3 c4
      obtain ⟨W17, hW17⟩ : ∃ W, W = W16.alloc (.cells #[.int .i64 k3, .int .i64 n3, .int .i64 t3, .int .i64 l3, .string d3] 25) := ⟨_, rfl⟩
      have HX17 : Hid (Pb W17 W16.heap.size k3 n3 t3 l3 d3) := Lib.hid (by rw [hW17]; exact heap_alloc_new W16 _)
      have hb : Below W16.heap.size W16 W17 := by rw [hW17]; exact (Below.refl _ _).alloc (Nat.le_refl _) _
      have HB17 := Lib.hid (HB16.out.trans (hb.mono HB16.out.size))
      have HQ17 := Lib.hid (HQ16.out.below hb HQ16.out.lt)
      obtain ⟨q4, hq4⟩ : ∃ q, q = W16.heap.size := ⟨_, rfl⟩
      rw [← hW17]
      rw [← hq4] at HX17 hlt ⊢
      clear hW17 hq4 hb HB16 HQ16
      have hpq : p3 ≠ q4 := by omega
      have hqp : q4 ≠ p3 := by omega
      refine (HRs.out _).mono ?_
      rintro e W18 ⟨rfl, l18⟩
      have HB18 := Lib.hid (HB17.out.trans (l18.mono HB17.out.size))
      have HQ18 := Lib.hid (HQ17.out.below l18 HQ17.out.lt)
      have HX18 := Lib.hid (HX17.out.below l18 HX17.out.lt)
      clear l18 HB17 HQ17 HX17 HRs
      go_upto_region 18 with fail
      obtain ⟨W19, hW19⟩ : ∃ W, W = W18.alloc (.cells #[.int .i64 k3, .int .i64 n3, .int .i64 t3, .int .i64 l3, .string d3] 25) := ⟨_, rfl⟩
      have HY19 : Hid (Pb W19 W18.heap.size k3 n3 t3 l3 d3) := Lib.hid (by rw [hW19]; exact heap_alloc_new W18 _)
      have hb : Below W18.heap.size W18 W19 := by rw [hW19]; exact (Below.refl _ _).alloc (Nat.le_refl _) _
      have HB19 := Lib.hid (HB18.out.trans (hb.mono HB18.out.size))
      have HQ19 := Lib.hid (HQ18.out.below hb HQ18.out.lt)
      have HX19 := Lib.hid (HX18.out.below hb HX18.out.lt)
      have ltx_HX19 := HX18.out.lt
      have ltx_HQ19 := HQ18.out.lt
      obtain ⟨q5, hq5⟩ : ∃ q, q = W18.heap.size := ⟨_, rfl⟩
      rw [← hW19]
      rw [← hq5] at HY19 ltx_HX19 ltx_HQ19 ⊢
      clear hW19 hq5 hb HB18 HQ18 HX18
      go_cut [154] from 125 to 154 (fun b wx => b = .bool false ∧ wx = W19)
      case first => as_aux_lemma =>
        obtain ⟨r0, r1, r2, r3, r4⟩ := HX19.out.cells
        obtain ⟨x0, x1, x2, x3, x4⟩ := HY19.out.cells
        obtain ⟨c0, c1, c2, c3, c4⟩ := HQ19.out.cells
        cases f4 with
        | true =>
          obtain ⟨rfl, rfl, rfl⟩ := HH.out rfl
          go_wp2_with fail
          go_meet
          case rel => exact ⟨rfl, rfl⟩
        | false =>
          go_wp2_with fail
          go_meet
          case rel => exact ⟨rfl, rfl⟩
      case rest => as_aux_lemma =>
        obtain ⟨rfl, rfl⟩ := hcut
        clear HH HQ19 HX19 HY19 ltx_HX19 ltx_HQ19 hpq hqp hlt hd9
        go_wp2_with fail
        refine (HD4.out _ (HR.out.below HB19.out (Nat.le_refl _))).mono ?_
        rintro e W20 ⟨g, c, zs, rfl, hzs, o20, l20⟩
        have HB20 := Lib.hid (HB19.out.trans (l20.mono HB19.out.size))
        have HCi := Lib.hid (implCheck_any _ zs W20 (row_own o20))
        have HCs := Lib.hid (specCheck_any _ zs W20 (row_own o20))
        clear l20 HB19 HD4 HR o20
        generalize ck4V zs = cv at HCi HCs
        generalize ck4Ok zs = cb at HCi HCs
        go_wp2_with fail
        refine HCi.out.mono ?_
        rintro e W21 ⟨rfl, rfl⟩
        go_wp2_with fail
        refine HCs.out.mono ?_
        rintro e W22 ⟨rfl, rfl⟩
        go_wp2_with fail
        go_ret
        exact ⟨rfl, HB20.out⟩
end Go.Proofs.YtncjplcefdeckaaGreatDoor
