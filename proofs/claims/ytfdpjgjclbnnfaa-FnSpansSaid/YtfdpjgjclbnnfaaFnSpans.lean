/-
  The walk of the law FnSpans.
-/
import Derived.Test.YtfdpjgjclbnnfaaSpanMath
import Derived.Test.YtfdpjgjclbnnfaaDrawSer2
import Derived.Test.YtfdpjgjclbnnfaaVHas
import Derived.Test.YtfdpjgjclbnnfaaBig
import Derived.Test.YtfdpjgjclbnnfaaSpan2
import Derived.Test.YtfdpjgjclbnnfaaSpanOf3
import Derived.Test.YtfdpjgjclbnnfaaSortI
namespace Go.Proofs.Ytfdpjgjclbnnfaa
open Go.RowKit Go.Lib
set_option linter.unusedVariables false

theorem own_cell {w : World} {base n c k : Nat} {e : TypeId} {a : Option Addr} {xs : List Int} (h : w.ownsRow base e 1 (.slice a n c) n (xs.map (Value.int .i64))) (hk : k < n) (hx : k < xs.length) :
    ∃ g, a = some ⟨g, 0, none⟩ ∧ w.cell? ⟨g, k, none⟩ = some (.int .i64 xs[k]) := by
  obtain ⟨g, c', e'⟩ := own_form h (by omega)
  injection e' with e1 _ e3
  subst e1; subst e3
  obtain ⟨⟨u, hu, hc⟩, _⟩ := own_facts h hk
  rw [List.getElem?_map, List.getElem?_eq_getElem hx] at hu
  exact ⟨g, rfl, by rw [hc, ← Option.some.inj hu]⟩

set_option maxRecDepth 100000 in
set_option maxHeartbeats 4000000 in
theorem fnSpans_walk (w : World) (v0 : Value) (z0 : List Int) (w0 : Row w v0 z0.length (z0.map (Value.int .u8))) (b0 : ∀ z ∈ z0, (Lit.int .u8 z).wf = true) (_hsh : w.ShapedOpen Try.prog) :
    Calls Try.prog 4 #[v0] w fun e w' => e = .returned (.bool true) ∧ Below w.heap.size w w' := by
  have hz : ∀ x ∈ z0, 0 ≤ x ∧ x < 256 := fun x hx => by have := bounds_u8 (b0 x hx); omega
  by_cases hbig : (65536 : Int) < z0.length
  · have HV := Lib.hid (vBig_row v0 _ _ true w0 (decide_eq_true hbig))
    clear w0 b0 hz
    go_enter Try.func4, Try.ntmps4
    go_wp2_with (go_at_call 14; refine (HV.out _).mono ?_; rintro e w' ⟨rfl, rfl⟩)
    go_ret
    exact ⟨rfl, Below.refl _ _⟩
  · have HV := Lib.hid (vBig_row v0 _ _ false w0 (decide_eq_false hbig))
    have HR := Lib.hid w0
    have HD1 := Lib.hid (fun w hr => drawSpan_any v0 z0 w hr hz)
    have HD2 := Lib.hid (fun w hr => drawSort_any v0 z0 w hr hz)
    have HD3 := Lib.hid (fun w hr => drawSpanOf_any v0 z0 w hr hz)
    clear w0 b0 hz
    go_enter Try.func4, Try.ntmps4
    go_wp2_with fail
    refine (HV.out _).mono ?_
    rintro e w' ⟨rfl, rfl⟩
    go_wp2_with fail
    refine (HD1.out _ HR.out).mono ?_
    rintro e W1 ⟨a, b, rfl, l1⟩
    have HB1 := Lib.hid l1
    have HI := Lib.hid (fun w => implSpan_any a b w)
    have HS := Lib.hid (fun w => specSpan_any a b w)
    have HF : Hid (∀ n : Nat, n = (ssL a b).length → ∀ i (hi : i < (ssL a b).length), spanOk (ssL a b)[i] a (n : Int) = true ∧ spanV (ssL a b)[i] a (n : Int) = true) := Lib.hid (fun n hn i hi => by rw [hn]; exact span_in hi)
    have hl := ssL_len a b
    generalize ssOk a b = ok at HI HS
    generalize ssL a b = ps at HI HS HF hl
    clear l1
    go_wp2_with fail
    refine (HI.out _).mono ?_
    rintro e W2 ⟨vg, rfl, og2, l2⟩
    have HB2 := Lib.hid (HB1.out.trans (l2.mono HB1.out.size))
    have HG2 := Lib.hid og2
    clear l2 og2
    go_wp2_with fail
    refine (HS.out _).mono ?_
    rintro e W3 ⟨vs, rfl, os3, l3⟩
    have HB3 := Lib.hid (HB2.out.trans (l3.mono HB2.out.size))
    have HG3 := Lib.hid (own_below HG2.out l3 (Nat.le_refl _))
    have HO3 := Lib.hid os3
    clear l3 os3 HB1 HG2
    go_wp2_with fail
    refine (vInts_any _ _ ps ps _ (row_own HG3.out) (row_own HO3.out)).mono ?_
    rintro e W4 ⟨rfl, k4, hw4⟩
    have l4 : Below W3.heap.size W3 W4 := by rw [hw4]; exact bdrew _ _
    have HB4 := Lib.hid (HB3.out.trans (l4.mono HB3.out.size))
    have HG4 := Lib.hid (own_below HG3.out l4 (Nat.le_refl _))
    clear l4 hw4 HB3 HG3 HO3 HB2
    obtain ⟨xa, xc, rfl⟩ := own_slice_i HG4.out
    obtain ⟨n, hn⟩ : ∃ n, n = ps.length := ⟨_, rfl⟩
    have HN := Lib.hid hn
    rw [← hn] at hl HG4 ⊢
    clear hn
    go_wp2_with fail
    go_loopw [9] (fun i wr => ∃ k : Nat, k ≤ n ∧ i = .int .i64 k ∧ Hid (Below W4.heap.size W4 wr)) (fun i _ => n - (intOf i).toNat)
    case atStart => exact ⟨0, Nat.zero_le _, rfl, Lib.hid (Below.refl _ _)⟩
    case round =>
      obtain ⟨k, hk, rfl, HW⟩ := hrel
      by_cases hkn : k < n
      · have hks : k < ps.length := by rw [← HN.out]; exact hkn
        obtain ⟨g, rfl, hc⟩ := own_cell (own_below HG4.out HW.out (Nat.le_refl _)) hkn hks
        obtain ⟨f1, f2⟩ := HF.out n HN.out k hks
        obtain ⟨u, hu⟩ : ∃ u, u = ps[k] := ⟨_, rfl⟩
        rw [← hu] at hc f1 f2
        have HJ := Lib.hid (fun w => implInSpan_any u a n w)
        rw [f1, f2] at HJ
        clear hu f1 f2
        go_wp2_with fail
        refine (HJ.out _).mono ?_
        rintro e w5 ⟨rfl, l5⟩
        have HW5 := Lib.hid (HW.out.trans (l5.mono HW.out.size))
        clear l5
        go_wp2_with fail
        go_roundw
        case rel => exact ⟨k + 1, by omega, by go_num, HW5⟩
        case measure => (first | (simp [intOf]; done) | (simp [intOf]; omega))
      · have HB5 := Lib.hid (HB4.out.trans (HW.out.mono HB4.out.size))
        clear HB4 HW HF HI HS HN HG4 hl HD1
        go_wp2_with fail
        refine (HD2.out _ (HR.out.below HB5.out (Nat.le_refl _))).mono ?_
        rintro e W6 ⟨gl, cl, zs, a2, rfl, hzl, ol6, l6⟩
        have HB6 := Lib.hid (HB5.out.trans (l6.mono HB5.out.size))
        have HL6 := Lib.hid ol6
        have HI := Lib.hid (fun w h => implSort_any ⟨gl, 0, none⟩ cl zs a2 w h)
        have HS := Lib.hid (fun w h => specSort_any (.slice (some ⟨gl, 0, none⟩) zs.length cl) zs a2 w h)
        have HF : Hid (srtOk zs a2 = true → ∀ i (h0 : i < (srtL zs a2).length) (h1 : i + 1 < (srtL zs a2).length), gapOk a2 (srtL zs a2)[i] = true ∧ gapOk a2 (srtL zs a2)[i + 1] = true ∧ gapV a2 (srtL zs a2)[i] ≤ gapV a2 (srtL zs a2)[i + 1] ∧ (srtL zs a2)[i + 1] ∈ zs) := Lib.hid (fun h i _ hi => srt_in h hi)
        have hle : srtOk zs a2 = true → (srtL zs a2).length = zs.length := fun h => by rw [srtL_yes h, sortI_len]
        have hln : srtOk zs a2 = false → (srtL zs a2).length = 0 := fun h => by rw [srtL_no h]; rfl
        generalize srtL zs a2 = qs at HI HS HF hle hln
        generalize srtOk zs a2 = ok2 at HI HS HF hle hln
        clear l6 ol6 HB5
        go_wp2_with fail
        refine (HI.out _ (row_own HL6.out)).mono ?_
        rintro e W7 ⟨vg, rfl, og7, l7⟩
        have HB7 := Lib.hid (HB6.out.trans (l7.mono HB6.out.size))
        have HL7 := Lib.hid (own_below HL6.out l7 (Nat.le_refl _))
        have HG7 := Lib.hid og7
        clear l7 og7 HL6 HB6
        go_wp2_with fail
        refine (HS.out _ (row_own HL7.out)).mono ?_
        rintro e W8 ⟨vs, rfl, os8, l8⟩
        have HB8 := Lib.hid (HB7.out.trans (l8.mono HB7.out.size))
        have HL8 := Lib.hid (own_below HL7.out l8 (Nat.le_refl _))
        have HG8 := Lib.hid (own_below HG7.out l8 (Nat.le_refl _))
        have HO8 := Lib.hid os8
        clear l8 os8 HL7 HG7 HB7
        go_wp2_with fail
        refine (vInts_any _ _ qs qs _ (row_own HG8.out) (row_own HO8.out)).mono ?_
        rintro e W9 ⟨rfl, k9, hw9⟩
        have l9 : Below W8.heap.size W8 W9 := by rw [hw9]; exact bdrew _ _
        have HB9 := Lib.hid (HB8.out.trans (l9.mono HB8.out.size))
        have HL9 := Lib.hid (own_below HL8.out l9 (Nat.le_refl _))
        have HG9 := Lib.hid (own_below HG8.out l9 (Nat.le_refl _))
        clear l9 hw9 HB8 HL8 HG8 HO8
        obtain ⟨ya, yc, rfl⟩ := own_slice_i HG9.out
        obtain ⟨n2, hn2⟩ : ∃ n2, n2 = qs.length := ⟨_, rfl⟩
        have HN2 := Lib.hid hn2
        obtain ⟨nz, hnz⟩ : ∃ nz, nz = zs.length := ⟨_, rfl⟩
        have HNZ := Lib.hid hnz
        rw [← hn2] at HG9 hle hln ⊢
        rw [← hnz] at HL9 hle hzl ⊢
        have hn240 : n2 ≤ 40 := by
          cases ok2 with
          | true => rw [hle rfl]; exact hzl
          | false => rw [hln rfl]; omega
        clear hn2 hnz HI HS HD2
        have hcmp : ok2 = true → ((n2 : Int) != (nz : Int)) = false := fun h => by rw [hle h]; simp
        have HFn : Hid (∀ i, i + 1 < n2 → ok2 = true) := Lib.hid (fun i hi => by
          cases ok2 with
          | true => rfl
          | false => rw [hln rfl] at hi; omega)
        cases ok2
        all_goals
          first
          | (have hcm := hcmp rfl; clear hcmp hle hln)
          | clear hcmp hle hln
          go_wp2_with fail
          go_loopw [18] (fun i wr => ∃ k : Nat, 1 ≤ k ∧ k ≤ n2 + 1 ∧ i = .int .i64 k ∧ Hid (Below W9.heap.size W9 wr)) (fun i _ => n2 + 2 - (intOf i).toNat)
          case atStart => exact ⟨1, Nat.le_refl _, by omega, rfl, Lib.hid (Below.refl _ _)⟩
        all_goals
          case round =>
            obtain ⟨k, hk1, hk, rfl, HW⟩ := hrel
            obtain ⟨k, rfl⟩ : ∃ q, k = q + 1 := ⟨k - 1, by omega⟩
            by_cases hkn : k + 1 < n2
            · have hok := HFn.out k hkn
              first | exact hok.elim | (cases hok; done) | skip
              all_goals
                have hq0 : k < qs.length := by rw [← HN2.out]; omega
                have hq1 : k + 1 < qs.length := by rw [← HN2.out]; exact hkn
                obtain ⟨g, rfl, hc0⟩ := own_cell (own_below HG9.out HW.out (Nat.le_refl _)) (show k < n2 by omega) hq0
                obtain ⟨g', eg, hc1⟩ := own_cell (own_below HG9.out HW.out (Nat.le_refl _)) hkn hq1
                obtain rfl : g = g' := by injection eg with eg; injection eg
                obtain ⟨f1, f2, f3, f4⟩ := HF.out (by first | exact trivial | rfl) k hq0 hq1
                obtain ⟨u, hu⟩ : ∃ u, u = qs[k] := ⟨_, rfl⟩
                obtain ⟨y, hy⟩ : ∃ y, y = qs[k + 1] := ⟨_, rfl⟩
                rw [← hu] at hc0 f1 f3
                rw [← hy] at hc1 f2 f3 f4
                have HJ := Lib.hid (fun w => implGap_any a2 u w)
                have HK := Lib.hid (fun w => implGap_any a2 y w)
                rw [f1] at HJ
                rw [f2] at HK
                have HHs := Lib.hid (fun (w : World) h => vHas_any (.slice (some ⟨gl, 0, none⟩) nz cl) zs y w h)
                rw [decide_eq_true f4] at HHs
                obtain ⟨g0, g1⟩ := gapV_bd a2 u
                obtain ⟨g2, g3⟩ := gapV_bd a2 y
                generalize gapV a2 u = gu at HJ f3 g0 g1
                generalize gapV a2 y = gy at HK f3 g2 g3
                have HC1 := Lib.hid hc1
                have hblt : g < wr.heap.size := World.block_lt_of_cell? wr _ hc1
                clear hu hy f1 f2 f4 eg hq0 hq1
                go_wp2_with fail
                refine (HJ.out _).mono ?_
                rintro e w10 ⟨rfl, l10⟩
                have HW10 := Lib.hid (HW.out.trans (l10.mono HW.out.size))
                have hc2 : w10.cell? ⟨g, k + 1, none⟩ = some (.int .i64 y) := (l10.cell (p := ⟨g, k + 1, none⟩) hblt).trans HC1.out
                have hbl2 : g < w10.heap.size := World.block_lt_of_cell? w10 _ hc2
                have HC2 := Lib.hid hc2
                clear l10 hc1 hc0
                go_wp2_with fail
                refine (HK.out _).mono ?_
                rintro e w11 ⟨rfl, l11⟩
                have HW11 := Lib.hid (HW10.out.trans (l11.mono HW10.out.size))
                have hc3 : w11.cell? ⟨g, k + 1, none⟩ = some (.int .i64 y) := (l11.cell (p := ⟨g, k + 1, none⟩) hbl2).trans HC2.out
                have HRz : Hid (Row w11 (.slice (some ⟨gl, 0, none⟩) nz cl) zs.length (zs.map (Value.int .i64))) := Lib.hid (by rw [← HNZ.out]; exact row_own (own_below HL9.out HW11.out (Nat.le_refl _)))
                clear l11 hc2
                go_wp2_with fail
                refine (HHs.out _ HRz.out).mono ?_
                rintro e w12 ⟨rfl, rfl⟩
                go_wp2_with fail
                go_roundw
                case rel => exact ⟨k + 2, by omega, by omega, by go_num, HW11⟩
                case measure => (first | (simp [intOf]; done) | (simp [intOf]; omega))
            · have HB10 := Lib.hid (HB9.out.trans (HW.out.mono HB9.out.size))
              clear HB9 HW HF HFn HN2 HNZ HG9 HL9 hn240
              go_wp2_with fail
              refine (HD3.out _ (HR.out.below HB10.out (Nat.le_refl _))).mono ?_
              rintro e W10 ⟨gx, cx, ys, rfl, hyl, ox, l10⟩
              have HB11 := Lib.hid (HB10.out.trans (l10.mono HB10.out.size))
              have HX := Lib.hid ox
              have HI := Lib.hid (fun w h => implSpanOf_any (.slice (some ⟨gx, 0, none⟩) ys.length cx) ys w h)
              have HS := Lib.hid (fun w h => specSpanOf_any (.slice (some ⟨gx, 0, none⟩) ys.length cx) ys w h)
              have HF : Hid (soOk ys = true → (soV ys).1 ∈ ys ∧ ∀ x ∈ ys, spanOk x (soV ys).1 (soV ys).2 = true ∧ spanV x (soV ys).1 (soV ys).2 = true) := Lib.hid (fun h => so_in h)
              generalize (soV ys).1 = s1 at HI HS HF
              generalize (soV ys).2 = s2 at HI HS HF
              generalize soOk ys = ok3 at HI HS HF
              clear l10 ox HB10 HD3
              go_wp2_with fail
              refine (HI.out _ (row_own HX.out)).mono ?_
              rintro e w12 ⟨rfl, rfl⟩
              go_wp2_with fail
              refine (HS.out _ (row_own HX.out)).mono ?_
              rintro e W12 ⟨rfl, q12, hw12⟩
              have l12 : Below W10.heap.size W10 W12 := by rw [hw12]; exact bdrew _ _
              have HB12 := Lib.hid (HB11.out.trans (l12.mono HB11.out.size))
              have HX2 := Lib.hid (own_below HX.out l12 (Nat.le_refl _))
              obtain ⟨n3, hn3⟩ : ∃ n3, n3 = ys.length := ⟨_, rfl⟩
              have HN3 := Lib.hid hn3
              rw [← hn3] at HX2 hyl ⊢
              clear hn3 l12 hw12 HB11 HX HI HS
              cases ok3
              all_goals
                go_wp2_with fail
                go_loopw [30] (fun i wr => ∃ k : Nat, k ≤ n3 ∧ i = .int .i64 k ∧ Hid (Below W12.heap.size W12 wr)) (fun i _ => n3 - (intOf i).toNat)
                case atStart => exact ⟨0, Nat.zero_le _, rfl, Lib.hid (Below.refl _ _)⟩
              · case round =>
                  obtain ⟨k, hk, rfl, HW⟩ := hrel
                  have HBe := Lib.hid (HB12.out.trans (HW.out.mono HB12.out.size))
                  by_cases hkn : k < n3
                  · go_wp2_with fail
                    go_ret
                    exact ⟨rfl, HBe.out⟩
                  · go_wp2_with fail
                    go_ret
                    exact ⟨rfl, HBe.out⟩
              · case round =>
                  obtain ⟨k, hk, rfl, HW⟩ := hrel
                  by_cases hkn : k < n3
                  · have hks : k < ys.length := by rw [← HN3.out]; exact hkn
                    obtain ⟨g, eg, hc⟩ := own_cell (a := some ⟨gx, 0, none⟩) (own_below HX2.out HW.out (Nat.le_refl _)) hkn hks
                    obtain rfl : gx = g := by injection eg with eg; injection eg
                    clear eg
                    obtain ⟨f0, f1⟩ := HF.out (by first | exact trivial | rfl)
                    obtain ⟨f1, f2⟩ := f1 _ (List.getElem_mem hks)
                    obtain ⟨u, hu⟩ : ∃ u, u = ys[k] := ⟨_, rfl⟩
                    rw [← hu] at hc f1 f2
                    have HJ := Lib.hid (fun w => implInSpan_any u s1 s2 w)
                    rw [f1, f2] at HJ
                    have HHs := Lib.hid (fun (w : World) h => vHas_any (.slice (some ⟨gx, 0, none⟩) n3 cx) ys s1 w h)
                    rw [decide_eq_true f0] at HHs
                    clear hu f1 f2 f0 hks
                    go_wp2_with fail
                    refine (HJ.out _).mono ?_
                    rintro e w13 ⟨rfl, l13⟩
                    have HW13 := Lib.hid (HW.out.trans (l13.mono HW.out.size))
                    have HRx : Hid (Row w13 (.slice (some ⟨gx, 0, none⟩) n3 cx) ys.length (ys.map (Value.int .i64))) := Lib.hid (by rw [← HN3.out]; exact row_own (own_below HX2.out HW13.out (Nat.le_refl _)))
                    clear l13 hc
                    go_wp2_with fail
                    refine (HHs.out _ HRx.out).mono ?_
                    rintro e w14 ⟨rfl, rfl⟩
                    go_wp2_with fail
                    go_roundw
                    case rel => exact ⟨k + 1, by omega, by first | rfl | go_num | (congr 1; omega), HW13⟩
                    case measure => (first | (simp [intOf]; done) | (simp [intOf]; omega))
                  · have HBe := Lib.hid (HB12.out.trans (HW.out.mono HB12.out.size))
                    go_wp2_with fail
                    go_ret
                    exact ⟨rfl, HBe.out⟩
end Go.Proofs.Ytfdpjgjclbnnfaa
