/-
  The law of paths: nodes below a node have it on their paths, and the face to one of them is a child of the node.
-/
import Derived.Test.YtejdphfcogfcmaaTreeMath4
import Derived.Test.YtejdphfcogfcmaaDrawTree5
import Derived.Test.YtejdphfcogfcmaaTreeI7
import Derived.Test.YtejdphfcogfcmaaTreeI3b
import Derived.Test.YtejdphfcogfcmaaExTreeB
import Derived.Test.YtejdphfcogfcmaaVHas
import Derived.Test.YtejdphfcogfcmaaBig
import Derived.Deep.RegionHeld3
import Derived.Deep.CutRange
import Derived.BigQuiet
import Derived.WalkLawsBesides
namespace Go.Proofs.Ytejdphfcogfcmaa
open Go.RowKit Go.Lib Go.Joins
set_option linter.unusedVariables false

theorem own_cell6 {w : World} {base n c k : Nat} {e : TypeId} {a : Option Addr} {xs : List Int} (h : w.ownsRow base e 1 (.slice a n c) n (xs.map (Value.int .i64))) (hk : k < n) (hx : k < xs.length) :
    ∃ g, a = some ⟨g, 0, none⟩ ∧ w.cell? ⟨g, k, none⟩ = some (.int .i64 xs[k]) ∧ g < w.heap.size := by
  obtain ⟨g, c', e'⟩ := own_form h (by omega)
  injection e' with e1 _ e3
  subst e1; subst e3
  obtain ⟨⟨u, hu, hc⟩, _⟩ := own_facts h hk
  rw [List.getElem?_map, List.getElem?_eq_getElem hx] at hu
  exact ⟨g, rfl, by rw [hc, ← Option.some.inj hu], (h.lt g rfl).2⟩
set_option maxRecDepth 100000 in
set_option maxHeartbeats 16000000 in
theorem fnTreePaths_walk (w : World) (v0 : Value) (z0 : List Int) (w0 : Row w v0 z0.length (z0.map (Value.int .u8))) (b0 : ∀ z ∈ z0, (Lit.int .u8 z).wf = true) (_hsh : w.ShapedOpen Try.prog) :
    Calls Try.prog 3 #[v0] w fun e w' => e = .returned (.bool true) ∧ Below w.heap.size w w' := by
  have hz : ∀ x ∈ z0, 0 ≤ x ∧ x < 256 := fun x hx => by have := bounds_u8 (b0 x hx); omega
  by_cases hbig : (65536 : Int) < z0.length
  · have HV := Lib.hid (vBig_row v0 _ _ true w0 (decide_eq_true hbig))
    clear w0 b0 hz
    go_enter Try.func3, Try.ntmps3
    go_wp2_with (go_at_call 12; refine (HV.out _).mono ?_; rintro e w' ⟨rfl, rfl⟩)
    go_ret
    exact ⟨rfl, Below.refl _ _⟩
  have HV := Lib.hid (vBig_row v0 _ _ false w0 (decide_eq_false hbig))
  have HR := Lib.hid w0
  have HD1 := Lib.hid (fun w hr => drawTrP_any v0 z0 w hr hz)
  have HD2 := Lib.hid (fun w hr => drawTrNN_any v0 z0 w hr hz)
  have HD3 := Lib.hid (fun w hr => drawTrF_any v0 z0 w hr hz)
  clear w0 b0 hz hbig
  go_enter Try.func3, Try.ntmps3
  go_wp2_with fail
  refine (HV.out _).mono ?_
  rintro e w' ⟨rfl, rfl⟩
  go_wp2_with fail
  refine (HD1.out _ HR.out).mono ?_
  rintro e W1 ⟨g, c, p, x, rfl, hp9, x0, x1, _, hs, l1⟩
  clear HV HD1
  go_upto_region 4 with fail
  obtain ⟨W2, hW2⟩ : ∃ W2, W2 = W1.alloc (.cells #[.slice (some ⟨g, 0, none⟩) p.length c] 26) := ⟨_, rfl⟩
  have ht2 : Tr W2 W1.heap.size (.slice (some ⟨g, 0, none⟩) p.length c) p := by rw [hW2]; exact Tr.new (row_own hs)
  have HB2 := Lib.hid (l1.trans (show Below w.heap.size W1 W2 by rw [hW2]; exact (Below.refl _ _).alloc l1.size _))
  rw [← hW2]
  obtain ⟨X, hX⟩ : ∃ X, X = W1.heap.size := ⟨_, rfl⟩
  rw [← hX] at ht2 ⊢
  have HT2 := Lib.hid ht2
  clear hW2 ht2 hX hs l1
  obtain ⟨n, hN⟩ : ∃ n, n = p.length := ⟨_, rfl⟩
  have HPi := Lib.hid (fun (u : Int) W h => implPath_any (.slice (some ⟨g, 0, none⟩) p.length c) p u W h)
  have HPs := Lib.hid (fun W h => (specPath_any (.slice (some ⟨g, 0, none⟩) p.length c) p x W h).mono (fun _ _ h => outI_form h))
  have HNi := Lib.hid (fun W h => implBelow_any (.slice (some ⟨g, 0, none⟩) p.length c) p x W h)
  have HNs := Lib.hid (fun W h => (specBelow_any (.slice (some ⟨g, 0, none⟩) p.length c) p x W h).mono (fun _ _ h => outI_form h))
  have HFi := Lib.hid (fun (u : Int) W h => implFace_any (.slice (some ⟨g, 0, none⟩) p.length c) p x u W h)
  have HCi := Lib.hid (fun W h => (implChildren_any (.slice (some ⟨g, 0, none⟩) p.length c) p x W h).mono (fun _ _ h => outI_form h))
  have HCs := Lib.hid (fun W h => (specChildren_any (.slice (some ⟨g, 0, none⟩) p.length c) p x W h).mono (fun _ _ h => outI_form h))
  have HF := Lib.hid (fun (b : Int) (hm : b ∈ okL (ndOk p x) (nbl p x)) => below_all hm)
  have hl9 := nbl_len9 (x := x) hp9
  have HP1 := Lib.hid (HPi.out x)
  generalize okL (ndOk p x) (nbl p x) = nb at HNi HNs HF hl9
  generalize okL (ndOk p x) (pth p x) = pl at HP1 HPs
  generalize okL (ndOk p x) (chl p x) = ch at HCi HCs
  generalize ndOk p x = ok at HP1 HPs HNi HNs HCi HCs
  rw [← hN] at HT2 HPi HP1 HPs HNi HNs HFi HCi HCs hp9 HF ⊢
  have HN := Lib.hid hN
  clear hN
  have hx := HT2.out.cell
  go_wp2_with fail
  refine (HP1.out _ (by have := HT2.out.row; rw [← HN.out] at this; exact this)).mono ?_
  rintro e W3 ⟨v3, rfl, o3, l3⟩
  have HT3 := Lib.hid (HT2.out.below l3)
  have HB3 := Lib.hid (HB2.out.trans (l3.mono HB2.out.size))
  have HO3 := Lib.hid o3
  clear l3 o3 hx HT2 HB2 HP1
  have hx := HT3.out.cell
  go_wp2_with fail
  refine (HPs.out _ (by have := HT3.out.row; rw [← HN.out] at this; exact this)).mono ?_
  rintro e W4 ⟨v4, rfl, o4, l4⟩
  have HT4 := Lib.hid (HT3.out.below l4)
  have HB4 := Lib.hid (HB3.out.trans (l4.mono HB3.out.size))
  have HV4 := Lib.hid (vInts_any v3 v4 pl pl W4 ((row_own HO3.out).below l4 (Nat.le_refl _)) (row_own o4))
  clear l4 o4 hx HT3 HB3 HO3 HPs
  go_wp2_with fail
  refine HV4.out.mono ?_
  rintro e W5 ⟨rfl, k5, hw5⟩
  have l5 : Below W4.heap.size W4 W5 := by rw [hw5]; exact bdrew _ _
  have HT5 := Lib.hid (HT4.out.below l5)
  have HB5 := Lib.hid (HB4.out.trans (l5.mono HB4.out.size))
  clear l5 hw5 HT4 HB4 HV4
  have hx := HT5.out.cell
  go_wp2_with fail
  refine (HNi.out _ (by have := HT5.out.row; rw [← HN.out] at this; exact this)).mono ?_
  rintro e W6 ⟨v6, rfl, o6, l6⟩
  have HT6 := Lib.hid (HT5.out.below l6)
  have HB6 := Lib.hid (HB5.out.trans (l6.mono HB5.out.size))
  have HO6 := Lib.hid o6
  clear l6 o6 hx HT5 HB5 HNi
  have hx := HT6.out.cell
  go_wp2_with fail
  refine (HNs.out _ (by have := HT6.out.row; rw [← HN.out] at this; exact this)).mono ?_
  rintro e W7 ⟨v7, rfl, o7, l7⟩
  have HT7 := Lib.hid (HT6.out.below l7)
  have HB7 := Lib.hid (HB6.out.trans (l7.mono HB6.out.size))
  have HO7 := Lib.hid (own_below HO6.out l7 (Nat.le_refl _))
  have HV7 := Lib.hid (vInts_any v6 v7 nb nb W7 (row_own HO7.out) (row_own o7))
  clear l7 o7 hx HT6 HB6 HO6 HNs
  go_wp2_with fail
  refine HV7.out.mono ?_
  rintro e W8 ⟨rfl, k8, hw8⟩
  have l8 : Below W7.heap.size W7 W8 := by rw [hw8]; exact bdrew _ _
  have HT8 := Lib.hid (HT7.out.below l8)
  have HB8 := Lib.hid (HB7.out.trans (l8.mono HB7.out.size))
  have HO8 := Lib.hid (own_below HO7.out l8 (Nat.le_refl _))
  clear l8 hw8 HT7 HB7 HO7 HV7
  obtain ⟨xa, xc, rfl⟩ := own_slice_i HO8.out
  obtain ⟨m, hM⟩ : ∃ m, m = nb.length := ⟨_, rfl⟩
  have HM := Lib.hid hM
  rw [← hM] at hl9 HO8 ⊢
  clear hM
  go_wp2_with fail
  go_loopw [13] (fun i wr => ∃ k : Nat, k ≤ m ∧ i = .int .i64 k ∧ Hid (Below W8.heap.size W8 wr)) (fun i _ => m - (intOf i).toNat)
  case atStart => exact ⟨0, Nat.zero_le _, rfl, Lib.hid (Below.refl _ _)⟩
  case round =>
    obtain ⟨k, hk, rfl, HW⟩ := hrel
    by_cases hkn : k < m
    · have hks : k < nb.length := by rw [← HM.out]; exact hkn
      have HTr := Lib.hid (HT8.out.below HW.out)
      obtain ⟨g5, rfl, hc, hlt⟩ := own_cell6 (own_below HO8.out HW.out (Nat.le_refl _)) hkn hks
      obtain ⟨f1, f2, f3, f4⟩ := HF.out nb[k] (List.getElem_mem hks)
      obtain ⟨u, hu⟩ : ∃ u, u = nb[k] := ⟨_, rfl⟩
      rw [← hu] at hc f1 f2 f3 f4
      have HJ1 := Lib.hid (fun W h => HPi.out u W h)
      rw [f1] at HJ1
      have HJ2 := Lib.hid (fun W h => HFi.out u W h)
      have e1 : okL true (pth p u) = pth p u := rfl
      rw [e1] at HJ1
      generalize pth p u = pu at HJ1 f2
      generalize faceOk p x u = fo at HJ2 f3 f4
      generalize faceV p x u = fv at HJ2 f4
      have HCe := Lib.hid hc
      have HLt := Lib.hid hlt
      have HX1 := Lib.hid HTr.out.cell
      have HF2 := Lib.hid f2
      have HF3 := Lib.hid f3
      have HF4 := Lib.hid f4
      clear hu f1 f2 f3 f4 e1 hc hlt
      go_upto_region 15 with fail
      go_cut [14, 15] from 99 to 106 (fun a b wx => b = .bool true ∧ Hid (wx.ownsRow wr.heap.size 3 1 a pu.length (pu.map (Value.int .i64))) ∧ Hid (Below wr.heap.size wr wx))
      case first => as_aux_lemma =>
        have hcX := HX1.out
        have hcE := HCe.out
        go_region_held3 (fun w' => w'.cell? ⟨X, 0, none⟩ = some (.slice (some ⟨g, 0, none⟩) n c) ∧ w'.cell? ⟨g5, k, none⟩ = some (.int .i64 u) ∧ Below wr.heap.size wr w')
          ((refine keep_two6 HX1.out HTr.out.lt HCe.out HLt.out ?_; repeat (first | assumption | exact Below.refl _ _ | refine Below.drew ?_)))
          (first
            | (go_at_call 14; refine (HJ1.out _ (by have := (HTr.out.below (by repeat (first | assumption | exact Below.refl _ _ | refine Below.drew ?_) : Below wr.heap.size wr _)).row; rw [← HN.out] at this; exact this)).mono ?_; rintro e w5 ⟨v5, rfl, o5, l5⟩; have hb5 := below_call6 (by repeat (first | assumption | exact Below.refl _ _ | refine Below.drew ?_) : Below wr.heap.size wr _) l5; have ho5 := own_base o5 (show wr.heap.size ≤ _ from Nat.le_refl _); clear o5 l5))
        all_goals go_wp2_with fail
        all_goals go_meet
        all_goals
          case rel => exact ⟨rfl, Lib.hid (by first | exact ho5 | exact own_below ho5 (Below.drew (Below.refl _ _)) (Nat.le_refl _)), Lib.hid (by repeat (first | assumption | exact Below.refl _ _ | refine Below.drew ?_))⟩
      case rest => as_aux_lemma =>
        obtain ⟨rfl, HA, HBw⟩ := hcut
        rename World => W9
        have HT9 := Lib.hid (HTr.out.below HBw.out)
        have HE9 := Lib.hid ((HBw.out.cell HLt.out).trans HCe.out)
        have HL9 := Lib.hid (Nat.lt_of_lt_of_le HLt.out HBw.out.size)
        have HX9 := Lib.hid HT9.out.cell
        have HW9 := Lib.hid (HW.out.trans (HBw.out.mono HW.out.size))
        have HA9 := Lib.hid (row_own HA.out)
        clear HBw HA HX1 HCe HLt HTr HJ1 HW
        go_upto_region 16 with fail
        go_cut [16, 17] from 108 to 116 (fun a b wx => a = .int .i64 fv ∧ b = .bool fo ∧ Hid (Below W9.heap.size W9 wx))
        case first => as_aux_lemma =>
          have hcX := HX9.out
          have hcE := HE9.out
          go_region_held3 (fun w' => w'.cell? ⟨X, 0, none⟩ = some (.slice (some ⟨g, 0, none⟩) n c) ∧ w'.cell? ⟨g5, k, none⟩ = some (.int .i64 u) ∧ Below W9.heap.size W9 w')
            ((refine keep_two6 HX9.out HT9.out.lt HE9.out HL9.out ?_; repeat (first | assumption | exact Below.refl _ _ | refine Below.drew ?_)))
            (first
              | (go_at_call 19; refine (HJ2.out _ (by have := (HT9.out.below (by repeat (first | assumption | exact Below.refl _ _ | refine Below.drew ?_) : Below W9.heap.size W9 _)).row; rw [← HN.out] at this; exact this)).mono ?_; rintro e w5 ⟨rfl, l5⟩; have hb5 := below_call6 (by repeat (first | assumption | exact Below.refl _ _ | refine Below.drew ?_) : Below W9.heap.size W9 _) l5; clear l5))
          all_goals go_wp2_with fail
          all_goals go_meet
          all_goals
            case rel => exact ⟨rfl, rfl, Lib.hid (by repeat (first | assumption | exact Below.refl _ _ | refine Below.drew ?_))⟩
        case rest => as_aux_lemma =>
          obtain ⟨rfl, rfl, HBw⟩ := hcut
          rename World => W10
          have HT10 := Lib.hid (HT9.out.below HBw.out)
          have hcE := (HBw.out.cell HL9.out).trans HE9.out
          have hcX := HT10.out.cell
          have HW10 := Lib.hid (HW9.out.trans (HBw.out.mono HW9.out.size))
          have HVh := Lib.hid (vHas_any u14 pu x W10 (HA9.out.below HBw.out (Nat.le_refl _)))
          rw [decide_eq_true HF2.out] at HVh
          clear HBw HA9 HE9 HX9 HT9 HW9 HL9 HF2 HJ2
          cases fo with
          | false =>
            have hux : (u != x) = false := HF3.out.symm
            clear HF3 HF4
            go_wp2_with fail
            refine HVh.out.mono ?_
            rintro e w5 ⟨rfl, rfl⟩
            go_wp2_with fail
            go_roundw
            case rel => exact ⟨k + 1, by omega, by go_num, HW10⟩
            case measure => (first | (simp [intOf]; done) | (simp [intOf]; omega))
          | true =>
            have hux : (u != x) = true := HF3.out.symm
            obtain ⟨y, rfl, hy, hpy⟩ := HF4.out rfl
            obtain ⟨b8, o8, e8, hc8⟩ := HT10.out.get (k := y) (by rw [← HN.out]; exact hy)
            injection e8 with e8
            injection e8 with e8 e9 _
            subst e8; subst e9
            rw [hpy, Nat.zero_add] at hc8
            clear HF3 HF4 hpy
            go_wp2_with fail
            refine HVh.out.mono ?_
            rintro e w5 ⟨rfl, rfl⟩
            go_wp2_with fail
            go_roundw
            case rel => exact ⟨k + 1, by omega, by go_num, HW10⟩
            case measure => (first | (simp [intOf]; done) | (simp [intOf]; omega))
    · have HB9 := Lib.hid (HB8.out.trans (HW.out.mono HB8.out.size))
      have HT9 := Lib.hid (HT8.out.below HW.out)
      clear HB8 HT8 HO8 HM HPi HFi HF hl9 HW
      go_wp2_with fail
      refine (HD2.out _ (HR.out.below HB9.out (Nat.le_refl _))).mono ?_
      rintro e W10 ⟨g2, c2, q, a, b, rfl, hq9, _, _, _, _, _, hs2, l10⟩
      have HB10 := Lib.hid (HB9.out.trans (l10.mono HB9.out.size))
      have HT10 := Lib.hid (HT9.out.below l10)
      clear HD2 HT9 HB9
      go_upto_region 20 with fail
      obtain ⟨W11, hW11⟩ : ∃ W11, W11 = W10.alloc (.cells #[.slice (some ⟨g2, 0, none⟩) q.length c2] 26) := ⟨_, rfl⟩
      have ht11 : Tr W11 W10.heap.size (.slice (some ⟨g2, 0, none⟩) q.length c2) q := by rw [hW11]; exact Tr.new (row_own hs2)
      have l11 : Below W10.heap.size W10 W11 := by rw [hW11]; exact (Below.refl _ _).alloc (Nat.le_refl _) _
      have HB11 := Lib.hid (HB10.out.trans (l11.mono HB10.out.size))
      have HT11 := Lib.hid (HT10.out.below l11)
      rw [← hW11]
      obtain ⟨Y, hY⟩ : ∃ Y, Y = W10.heap.size := ⟨_, rfl⟩
      rw [← hY] at ht11 ⊢
      have HQ11 := Lib.hid ht11
      clear hW11 ht11 hY hs2 l10 l11 HB10 HT10
      have HMi := Lib.hid (fun W h => implMeet_any (.slice (some ⟨g2, 0, none⟩) q.length c2) q a b W h)
      have HMj := Lib.hid (fun W h => implMeet_any (.slice (some ⟨g2, 0, none⟩) q.length c2) q b a W h)
      have HMs := Lib.hid (fun W h => specMeet_any (.slice (some ⟨g2, 0, none⟩) q.length c2) q a b W h)
      rw [meetW_sym q b a, meetOk_sym q b a] at HMj
      generalize meetW q a b = mv at HMi HMj HMs
      generalize meetOk q a b = mo at HMi HMj HMs
      have hx := HQ11.out.cell
      go_wp2_with fail
      refine (HMi.out _ HQ11.out.row).mono ?_
      rintro e W12 ⟨rfl, l12⟩
      have HB12 := Lib.hid (HB11.out.trans (l12.mono HB11.out.size))
      have HT12 := Lib.hid (HT11.out.below l12)
      have HQ12 := Lib.hid (HQ11.out.below l12)
      clear l12 HB11 HT11 HQ11 hx HMi
      have hx := HQ12.out.cell
      go_wp2_with fail
      refine (HMj.out _ HQ12.out.row).mono ?_
      rintro e W13 ⟨rfl, l13⟩
      have HB13 := Lib.hid (HB12.out.trans (l13.mono HB12.out.size))
      have HT13 := Lib.hid (HT12.out.below l13)
      have HQ13 := Lib.hid (HQ12.out.below l13)
      clear l13 HB12 HT12 HQ12 hx HMj
      have hx := HQ13.out.cell
      go_wp2_with fail
      refine (HMs.out _ HQ13.out.row).mono ?_
      rintro e W14 ⟨rfl, l14⟩
      have HB14 := Lib.hid (HB13.out.trans (l14.mono HB13.out.size))
      have HT14 := Lib.hid (HT13.out.below l14)
      clear l14 HB13 HT13 HQ13 hx HMs
      go_wp2_with fail
      refine (HD3.out _ (HR.out.below HB14.out (Nat.le_refl _))).mono ?_
      rintro e W15 ⟨g3, c3, r, fm, tt, rfl, hr9, _, _, _, _, _, hs3, l15⟩
      have HB15 := Lib.hid (HB14.out.trans (l15.mono HB14.out.size))
      have HT15 := Lib.hid (HT14.out.below l15)
      clear HD3 HT14 HB14
      go_upto_region 26 with fail
      obtain ⟨W16, hW16⟩ : ∃ W16, W16 = W15.alloc (.cells #[.slice (some ⟨g3, 0, none⟩) r.length c3] 26) := ⟨_, rfl⟩
      have ht16 : Tr W16 W15.heap.size (.slice (some ⟨g3, 0, none⟩) r.length c3) r := by rw [hW16]; exact Tr.new (row_own hs3)
      have l16 : Below W15.heap.size W15 W16 := by rw [hW16]; exact (Below.refl _ _).alloc (Nat.le_refl _) _
      have HB16 := Lib.hid (HB15.out.trans (l16.mono HB15.out.size))
      have HT16 := Lib.hid (HT15.out.below l16)
      rw [← hW16]
      obtain ⟨Z, hZ⟩ : ∃ Z, Z = W15.heap.size := ⟨_, rfl⟩
      rw [← hZ] at ht16 ⊢
      have HQ16 := Lib.hid ht16
      clear hW16 ht16 hZ hs3 l15 l16 HB15 HT15
      have HFi := Lib.hid (fun W h => implFace_any (.slice (some ⟨g3, 0, none⟩) r.length c3) r fm tt W h)
      have HFs := Lib.hid (fun W h => specFace_any (.slice (some ⟨g3, 0, none⟩) r.length c3) r fm tt W h)
      generalize faceV r fm tt = mv2 at HFi HFs
      generalize faceOk r fm tt = mo2 at HFi HFs
      have hx := HQ16.out.cell
      go_wp2_with fail
      refine (HFi.out _ HQ16.out.row).mono ?_
      rintro e W17 ⟨rfl, l17⟩
      have HB17 := Lib.hid (HB16.out.trans (l17.mono HB16.out.size))
      have HT17 := Lib.hid (HT16.out.below l17)
      have HQ17 := Lib.hid (HQ16.out.below l17)
      clear l17 HB16 HT16 HQ16 hx HFi
      have hx := HQ17.out.cell
      go_wp2_with fail
      refine (HFs.out _ HQ17.out.row).mono ?_
      rintro e W18 ⟨rfl, l18⟩
      have HB18 := Lib.hid (HB17.out.trans (l18.mono HB17.out.size))
      have HT18 := Lib.hid (HT17.out.below l18)
      clear l18 HB17 HT17 HQ17 hx HFs
      have hx := HT18.out.cell
      go_wp2_with fail
      refine (HCi.out _ (by have := HT18.out.row; rw [← HN.out] at this; exact this)).mono ?_
      rintro e W19 ⟨v19, rfl, o19, l19⟩
      have HB19 := Lib.hid (HB18.out.trans (l19.mono HB18.out.size))
      have HT19 := Lib.hid (HT18.out.below l19)
      have HO19 := Lib.hid o19
      clear l19 o19 HB18 HT18 hx HCi
      have hx := HT19.out.cell
      go_wp2_with fail
      refine (HCs.out _ (by have := HT19.out.row; rw [← HN.out] at this; exact this)).mono ?_
      rintro e W20 ⟨v20, rfl, o20, l20⟩
      have HB20 := Lib.hid (HB19.out.trans (l20.mono HB19.out.size))
      have HV20 := Lib.hid (vInts_any v19 v20 ch ch W20 ((row_own HO19.out).below l20 (Nat.le_refl _)) (row_own o20))
      clear l20 o20 HB19 HT19 HO19 hx HCs
      go_wp2_with fail
      refine HV20.out.mono ?_
      rintro e W21 ⟨rfl, k21, hw21⟩
      have l21 : Below W20.heap.size W20 W21 := by rw [hw21]; exact bdrew _ _
      have HB21 := Lib.hid (HB20.out.trans (l21.mono HB20.out.size))
      clear l21 hw21 HB20 HV20
      go_wp2_with fail
      go_ret
      exact ⟨by simp, HB21.out⟩
end Go.Proofs.Ytejdphfcogfcmaa
