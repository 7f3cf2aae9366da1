/-
  The law of sets: a number that is added is in the set and one that is removed is not, and the size changes by what was new.
-/
import Derived.Test.YtneimcacpbepfaaDrawRng3
import Derived.Test.YtneimcacpbepfaaRngL
import Derived.Test.YtneimcacpbepfaaRngI4
import Derived.Test.YtneimcacpbepfaaRngI7
import Derived.Test.YtneimcacpbepfaaRBig
import Derived.Deep.CutRange
import Derived.BigQuiet
import Derived.WalkLawsBesides
namespace Go.Proofs.Ytneimcacpbepfaa
open Go.RowKit Go.Lib Go.Joins
set_option linter.unusedVariables false

theorem has_val {s : List Rg} {x : Int} (h : rgOk s = true) (h0 : 0 ≤ x) (h1 : x ≤ 65535) : hasOk s x = true ∧ hasV s x = hasB s x := by
  have e : hasOk s x = true := by unfold hasOk; rw [h, serB_yes h0 h1]; rfl
  exact ⟨e, by unfold hasV; rw [e, Bool.true_and]⟩
theorem add_law {s : List Rg} {f t : Int} (h : addROk s f t = true) :
    hasOk (addL s f t) f = true ∧ hasV (addL s f t) f = true ∧ hasOk (addL s f t) t = true ∧ hasV (addL s f t) t = true ∧ (nxOk (addL s f t) f = true → t < nxV (addL s f t) f) ∧ rgOk (addL s f t) = true := by
  have hl : addL s f t = addG s (f, t) := if_pos h
  rw [hl]
  unfold addROk at h
  rw [Bool.and_eq_true] at h
  obtain ⟨ha, hr⟩ := h
  obtain ⟨hc, _, f0, ft, t1⟩ := askOk_parts ha
  obtain ⟨_, h1, h2, h3⟩ := add_facts hc f0 ft t1
  obtain ⟨a1, a2⟩ := has_val hr f0 (by omega)
  obtain ⟨b1, b2⟩ := has_val (x := t) hr (by omega) t1
  refine ⟨a1, by rw [a2, h1], b1, by rw [b2, h2], fun hn => ?_, hr⟩
  unfold nxV
  rw [hn]
  exact h3
theorem rem_law {s : List Rg} {f t : Int} (h : remOk s f t = true) :
    hasOk (remL s f t) f = true ∧ hasV (remL s f t) f = false ∧ hasOk (remL s f t) t = true ∧ hasV (remL s f t) t = false ∧ rgOk (remL s f t) = true := by
  have hl : remL s f t = remG s (f, t) := if_pos h
  rw [hl]
  unfold remOk at h
  rw [Bool.and_eq_true] at h
  obtain ⟨ha, hr⟩ := h
  obtain ⟨hc, _, f0, ft, t1⟩ := askOk_parts ha
  obtain ⟨_, h1, h2⟩ := rem_facts hc ft
  obtain ⟨a1, a2⟩ := has_val hr f0 (by omega)
  obtain ⟨b1, b2⟩ := has_val (x := t) hr (by omega) t1
  exact ⟨a1, by rw [a2, h1], b1, by rw [b2, h2], hr⟩
theorem siz_val {s : List Rg} (h : rgOk s = true) : sizV s = sizG s ∧ 0 ≤ sizV s ∧ sizV s ≤ 65536 := by
  have e : sizV s = sizG s := if_pos h
  have := siz_nonneg (rgOk_parts h).1
  exact ⟨e, by rw [e]; exact this.1, by rw [e]; exact this.2⟩
theorem siz_law {s : List Rg} {f t : Int} (h : addROk s f t = true) (h2 : remOk s f t = true) :
    rgOk (addL s f t) = true ∧ rgOk (remL s f t) = true ∧ 0 ≤ sizV (addL s f t) ∧ sizV (addL s f t) ≤ 65536 ∧ 0 ≤ sizV (remL s f t) ∧ sizV (remL s f t) ≤ 65536 ∧ sizV (addL s f t) - sizV (remL s f t) = t - f + 1 := by
  obtain ⟨_, _, _, _, _, r1⟩ := add_law h
  obtain ⟨_, _, _, _, r2⟩ := rem_law h2
  obtain ⟨e1, x0, x1⟩ := siz_val r1
  obtain ⟨e2, y0, y1⟩ := siz_val r2
  refine ⟨r1, r2, x0, x1, y0, y1, ?_⟩
  rw [e1, e2]
  have l1 : addL s f t = addG s (f, t) := if_pos h
  have l2 : remL s f t = remG s (f, t) := if_pos h2
  rw [l1, l2]
  unfold addROk at h
  rw [Bool.and_eq_true] at h
  obtain ⟨hc, _, f0, ft, t1⟩ := askOk_parts h.1
  exact siz_add hc f0 ft t1
theorem next_law {u : List Rg} {n : Int} (h : nxOk u n = true) : hasOk u (nxV u n) = true ∧ hasV u (nxV u n) = false ∧ n ≤ nxV u n := by
  have e : nxV u n = nextG u n := if_pos h
  rw [e]
  unfold nxOk at h
  rw [Bool.and_eq_true, Bool.and_eq_true] at h
  obtain ⟨hr, hn, hy⟩ := h
  obtain ⟨y0, y1⟩ := serB_bd hy
  obtain ⟨a1, a2⟩ := has_val hr y0 y1
  obtain ⟨f1, f2⟩ := next_facts (x := n) (rgOk_parts hr).1
  exact ⟨a1, by rw [a2, f1], f2⟩
theorem nxV_bd (u : List Rg) (n : Int) : 0 ≤ nxV u n ∧ nxV u n ≤ 65535 := by
  unfold nxV
  split
  · rename_i h
    unfold nxOk at h
    rw [Bool.and_eq_true, Bool.and_eq_true] at h
    exact serB_bd h.2.2
  · omega
set_option maxRecDepth 100000 in
set_option maxHeartbeats 4000000 in
theorem fnRangeSets_walk (w : World) (v0 : Value) (z0 : List Int) (w0 : Row w v0 z0.length (z0.map (Value.int .u8))) (b0 : ∀ z ∈ z0, (Lit.int .u8 z).wf = true) (_hsh : w.ShapedOpen Try.prog) :
    Calls Try.prog 3 #[v0] w fun e w' => e = .returned (.bool true) ∧ Below w.heap.size w w' := by
  have hz : ∀ x ∈ z0, 0 ≤ x ∧ x < 256 := fun x hx => by have := bounds_u8 (b0 x hx); omega
  by_cases hbig : (65536 : Int) < z0.length
  · have HV := Lib.hid (rBig_row v0 _ _ true w0 (decide_eq_true hbig))
    clear w0 b0 hz
    go_enter Try.func3, Try.ntmps3
    go_wp2_with (go_at_call 13; refine (HV.out _).mono ?_; rintro e w' ⟨rfl, rfl⟩)
    go_ret
    exact ⟨rfl, Below.refl _ _⟩
  have HV := Lib.hid (rBig_row v0 _ _ false w0 (decide_eq_false hbig))
  have HR := Lib.hid w0
  have HD1 := Lib.hid (fun w hr => drawAdd5_any v0 z0 w hr hz)
  have HD2 := Lib.hid (fun w hr => drawNext5_any v0 z0 w hr hz)
  have HD3 := Lib.hid (fun w hr => drawHas5_any v0 z0 w hr hz)
  clear w0 b0 hz hbig
  go_enter Try.func3, Try.ntmps3
  go_wp2_with fail
  refine (HV.out _).mono ?_
  rintro e w' ⟨rfl, rfl⟩
  go_wp2_with fail
  refine (HD1.out _ HR.out).mono ?_
  rintro e W1 ⟨g, c, s, f, t, rfl, f0, f1, t0, t1, hs, l1⟩
  have HB1 := Lib.hid l1
  have HS1 := Lib.hid hs.2
  clear l1 hs HD1 HV
  have HAi := Lib.hid (fun W h => implAdd_any (.slice (some ⟨g, 0, none⟩) s.length c) s f t W h (fit_some _ _ _))
  have HAs := Lib.hid (fun W h => specAddRange_any (.slice (some ⟨g, 0, none⟩) s.length c) s f t W h)
  have HRi := Lib.hid (fun W h => implRemove_any (.slice (some ⟨g, 0, none⟩) s.length c) s f t W h)
  have HRs := Lib.hid (fun W h => specRemoveRange_any (.slice (some ⟨g, 0, none⟩) s.length c) s f t W h)
  have HF1 := Lib.hid (@add_law s f t)
  have HF2 := Lib.hid (@rem_law s f t)
  have HF3 := Lib.hid (@siz_law s f t)
  generalize addROk s f t = ok at HAi HAs HF1 HF3
  generalize addL s f t = L at HAi HAs HF1 HF3
  generalize remOk s f t = fine at HRi HRs HF2 HF3
  generalize remL s f t = M at HRi HRs HF2 HF3
  go_wp2_with fail
  refine (HAi.out _ (rowz_own HS1.out)).mono ?_
  rintro e W2 ⟨vm, rfl, o2, l2⟩
  have HS2 := Lib.hid (ownz_below HS1.out l2 (Nat.le_refl _))
  have HB2 := Lib.hid (HB1.out.trans (l2.mono HB1.out.size))
  have HL2 := Lib.hid o2
  clear l2 o2 HS1 HB1 HAi
  go_wp2_with fail
  refine (HAs.out _ (rowz_own HS2.out)).mono ?_
  rintro e W3 ⟨v3, rfl, o3, l3⟩
  have HS3 := Lib.hid (ownz_below HS2.out l3 (Nat.le_refl _))
  have HB3 := Lib.hid (HB2.out.trans (l3.mono HB2.out.size))
  have HL3 := Lib.hid (ownz_below HL2.out l3 (Nat.le_refl _))
  have HE3 := Lib.hid (rRanges_same vm v3 L W3 (rowz_own HL3.out) (rowz_own o3))
  clear l3 o3 HS2 HB2 HL2 HAs
  go_wp2_with fail
  refine HE3.out.mono ?_
  rintro e W4 ⟨rfl, l4⟩
  have HS4 := Lib.hid (ownz_below HS3.out l4 (Nat.le_refl _))
  have HB4 := Lib.hid (HB3.out.trans (l4.mono HB3.out.size))
  have HL4 := Lib.hid (ownz_below HL3.out l4 (Nat.le_refl _))
  clear l4 HS3 HB3 HL3 HE3
  go_wp2_with fail
  refine (HRi.out _ (rowz_own HS4.out)).mono ?_
  rintro e W5 ⟨vl, rfl, o5, l5⟩
  have HS5 := Lib.hid (ownz_below HS4.out l5 (Nat.le_refl _))
  have HB5 := Lib.hid (HB4.out.trans (l5.mono HB4.out.size))
  have HL5 := Lib.hid (ownz_below HL4.out l5 (Nat.le_refl _))
  have HM5 := Lib.hid o5
  clear l5 o5 HS4 HB4 HL4 HRi
  go_wp2_with fail
  refine (HRs.out _ (rowz_own HS5.out)).mono ?_
  rintro e W6 ⟨v6, rfl, o6, l6⟩
  have HB6 := Lib.hid (HB5.out.trans (l6.mono HB5.out.size))
  have HL6 := Lib.hid (ownz_below HL5.out l6 (Nat.le_refl _))
  have HM6 := Lib.hid (ownz_below HM5.out l6 (Nat.le_refl _))
  have HE6 := Lib.hid (rRanges_same vl v6 M W6 (rowz_own HM6.out) (rowz_own o6))
  clear l6 o6 HS5 HB5 HL5 HM5 HRs
  go_wp2_with fail
  refine HE6.out.mono ?_
  rintro e W7 ⟨rfl, l7⟩
  have HB7 := Lib.hid (HB6.out.trans (l7.mono HB6.out.size))
  have HL7 := Lib.hid (rowz_own (ownz_below HL6.out l7 (Nat.le_refl _)))
  have HM7 := Lib.hid (rowz_own (ownz_below HM6.out l7 (Nat.le_refl _)))
  clear l7 HB6 HL6 HM6 HE6
  go_upto_if 96 with fail
  go_cut [] from 14 to 141 (fun wx => Hid (Below W7.heap.size W7 wx))
  case first =>
    have HZ := Lib.hid (Below.refl W7.heap.size W7)
    cases ok with
    | false =>
      go_wp2_with fail
      go_meet
      case rel => exact HZ
    | true =>
      obtain ⟨a1, a2, a3, a4, a5, a6⟩ := HF1.out rfl
      have HX1 := Lib.hid (fun W h => implHas_any vm L f W h)
      rw [a1, a2] at HX1
      have HX2 := Lib.hid (fun W h => implHas_any vm L t W h)
      rw [a3, a4] at HX2
      have HX3 := Lib.hid (fun W h => implNext_any vm L f W h)
      have HX4 := Lib.hid (fun W h => implIsSet_any vm L W h)
      rw [a6] at HX4
      have HA5 := Lib.hid a5
      clear a1 a2 a3 a4 a5 a6
      generalize nxOk L f = three at HX3 HA5
      generalize nxV L f = next at HX3 HA5
      go_wp2_with fail
      refine (HX1.out _ HL7.out).mono ?_
      rintro e X1 ⟨rfl, l1⟩
      have HY1 := Lib.hid l1
      clear l1
      go_wp2_with fail
      refine (HX2.out _ (HL7.out.below HY1.out (Nat.le_refl _))).mono ?_
      rintro e X2 ⟨rfl, l2⟩
      have HY2 := Lib.hid (HY1.out.trans (l2.mono HY1.out.size))
      clear l2 HY1
      go_wp2_with fail
      refine (HX3.out _ (HL7.out.below HY2.out (Nat.le_refl _))).mono ?_
      rintro e X3 ⟨rfl, l3⟩
      have HY3 := Lib.hid (HY2.out.trans (l3.mono HY2.out.size))
      clear l3 HY2
      cases three with
      | false =>
        go_wp2_with fail
        refine (HX4.out _ (HL7.out.below HY3.out (Nat.le_refl _))).mono ?_
        rintro e X4 ⟨rfl, l4⟩
        have HY4 := Lib.hid (HY3.out.trans (l4.mono HY3.out.size))
        clear l4 HY3
        go_wp2_with fail
        go_meet
        case rel => exact HY4
      | true =>
        have hlt := HA5.out rfl
        have hle : ¬ next ≤ t := by omega
        go_wp2_with fail
        refine (HX4.out _ (HL7.out.below HY3.out (Nat.le_refl _))).mono ?_
        rintro e X4 ⟨rfl, l4⟩
        have HY4 := Lib.hid (HY3.out.trans (l4.mono HY3.out.size))
        clear l4 HY3
        go_wp2_with fail
        go_meet
        case rel => exact HY4
  case rest =>
    have HB8 := Lib.hid (HB7.out.trans (hcut.out.mono HB7.out.size))
    have HL8 := Lib.hid (HL7.out.below hcut.out (Nat.le_refl _))
    have HM8 := Lib.hid (HM7.out.below hcut.out (Nat.le_refl _))
    clear hcut HB7 HL7 HM7 HF1
    rename World => W8
    go_upto_if 142 with fail
    go_cut [] from 20 to 171 (fun wx => Hid (Below W8.heap.size W8 wx))
    case first =>
      have HZ := Lib.hid (Below.refl W8.heap.size W8)
      cases fine with
      | false =>
        go_wp2_with fail
        go_meet
        case rel => exact HZ
      | true =>
        obtain ⟨a1, a2, a3, a4, a6⟩ := HF2.out rfl
        have HX1 := Lib.hid (fun W h => implHas_any vl M f W h)
        rw [a1, a2] at HX1
        have HX2 := Lib.hid (fun W h => implHas_any vl M t W h)
        rw [a3, a4] at HX2
        have HX4 := Lib.hid (fun W h => implIsSet_any vl M W h)
        rw [a6] at HX4
        clear a1 a2 a3 a4 a6
        go_wp2_with fail
        refine (HX1.out _ HM8.out).mono ?_
        rintro e X1 ⟨rfl, l1⟩
        have HY1 := Lib.hid l1
        clear l1
        go_wp2_with fail
        refine (HX2.out _ (HM8.out.below HY1.out (Nat.le_refl _))).mono ?_
        rintro e X2 ⟨rfl, l2⟩
        have HY2 := Lib.hid (HY1.out.trans (l2.mono HY1.out.size))
        clear l2 HY1
        go_wp2_with fail
        refine (HX4.out _ (HM8.out.below HY2.out (Nat.le_refl _))).mono ?_
        rintro e X4 ⟨rfl, l4⟩
        have HY4 := Lib.hid (HY2.out.trans (l4.mono HY2.out.size))
        clear l4 HY2
        go_wp2_with fail
        go_meet
        case rel => exact HY4
    case rest =>
      have HB9 := Lib.hid (HB8.out.trans (hcut.out.mono HB8.out.size))
      have HL9 := Lib.hid (HL8.out.below hcut.out (Nat.le_refl _))
      have HM9 := Lib.hid (HM8.out.below hcut.out (Nat.le_refl _))
      clear hcut HB8 HL8 HM8 HF2
      rename World => W9
      go_upto_region 23 with fail
      go_cut [175] from 172 to 175 (fun b wx => b = .bool (ok && fine) ∧ wx = W9)
      case first =>
        cases ok with
        | false =>
          go_wp2_with fail
          go_meet
          case rel => exact ⟨rfl, rfl⟩
        | true =>
          go_wp2_with fail
          go_meet
          case rel => exact ⟨rfl, rfl⟩
      case rest =>
        obtain ⟨rfl, rfl⟩ := hcut
        rename World => W9
        go_upto_if 175 with fail
        go_cut [] from 24 to 201 (fun wx => Hid (Below W9.heap.size W9 wx))
        case first =>
          have HZ := Lib.hid (Below.refl W9.heap.size W9)
          cases hb : ok && fine with
          | false =>
            go_wp2_with fail
            go_meet
            case rel => exact HZ
          | true =>
            rw [Bool.and_eq_true] at hb
            obtain ⟨r1, r2, x0, x1, y0, y1, hxy⟩ := HF3.out hb.1 hb.2
            have HX1 := Lib.hid (fun W h => implSize_any vm L W h)
            rw [r1] at HX1
            have HX2 := Lib.hid (fun W h => implSize_any vl M W h)
            rw [r2] at HX2
            generalize sizV L = x at x0 x1 hxy HX1
            generalize sizV M = y at y0 y1 hxy HX2
            have hd : ((x - y) != (t - f + 1)) = false := by simp; omega
            clear r1 r2 hb hxy
            go_wp2_with fail
            refine (HX1.out _ HL9.out).mono ?_
            rintro e X1 ⟨rfl, l1⟩
            have HY1 := Lib.hid l1
            clear l1
            go_wp2_with fail
            refine (HX2.out _ (HM9.out.below HY1.out (Nat.le_refl _))).mono ?_
            rintro e X2 ⟨rfl, l2⟩
            have HY2 := Lib.hid (HY1.out.trans (l2.mono HY1.out.size))
            clear l2 HY1
            go_wp2_with fail
            go_meet
            case rel => exact HY2
        case rest =>
          have HB10 := Lib.hid (HB9.out.trans (hcut.out.mono HB9.out.size))
          clear hcut HB9 HL9 HM9 HF3 f0 f1 t0 t1
          go_wp2_with fail
          refine (HD2.out _ (HR.out.below HB10.out (Nat.le_refl _))).mono ?_
          rintro e W11 ⟨g2, c2, u, n, rfl, n0, n1, hs, l1⟩
          have HB11 := Lib.hid (HB10.out.trans (l1.mono HB10.out.size))
          have HU := Lib.hid (rowz_own hs.2)
          have HNi := Lib.hid (fun W h => implNext_any (.slice (some ⟨g2, 0, none⟩) u.length c2) u n W h)
          have HNs := Lib.hid (fun W h => specNext_any (.slice (some ⟨g2, 0, none⟩) u.length c2) u n W h)
          have HNl := Lib.hid (@next_law u n)
          have HNh := Lib.hid (fun W h => implHas_any (.slice (some ⟨g2, 0, none⟩) u.length c2) u (nxV u n) W h)
          obtain ⟨v0, v1⟩ := nxV_bd u n
          generalize nxV u n = y at HNi HNs HNl HNh v0 v1
          generalize nxOk u n = told at HNi HNs HNl
          clear hs l1 HB10 HD2
          go_wp2_with fail
          refine (HNi.out _ HU.out).mono ?_
          rintro e W12 ⟨rfl, l1⟩
          have HB12 := Lib.hid (HB11.out.trans (l1.mono HB11.out.size))
          have HU12 := Lib.hid (HU.out.below l1 (Nat.le_refl _))
          clear l1 HB11 HU HNi
          go_wp2_with fail
          refine (HNs.out _ HU12.out).mono ?_
          rintro e W13 ⟨rfl, q, hq⟩
          have l1 : Below W12.heap.size W12 W13 := by rw [hq]; exact bdrew _ _
          have HB13 := Lib.hid (HB12.out.trans (l1.mono HB12.out.size))
          have HU13 := Lib.hid (HU12.out.below l1 (Nat.le_refl _))
          clear l1 hq HB12 HU12 HNs
          go_upto_if 227 with fail
          go_cut [] from 34 to 243 (fun wx => Hid (Below W13.heap.size W13 wx))
          case first =>
            have HZ := Lib.hid (Below.refl W13.heap.size W13)
            cases told with
            | false =>
              go_wp2_with fail
              go_meet
              case rel => exact HZ
            | true =>
              obtain ⟨h1, h2, h3⟩ := HNl.out rfl
              rw [h1, h2] at HNh
              have h4 : ¬ y < n := by omega
              clear h1 h2
              go_wp2_with fail
              refine (HNh.out _ HU13.out).mono ?_
              rintro e X1 ⟨rfl, l1⟩
              have HY1 := Lib.hid l1
              clear l1
              go_wp2_with fail
              go_meet
              case rel => exact HY1
          case rest =>
            have HB14 := Lib.hid (HB13.out.trans (hcut.out.mono HB13.out.size))
            clear hcut HB13 HU13 HNl HNh n0 n1 v0 v1
            go_wp2_with fail
            refine (HD3.out _ (HR.out.below HB14.out (Nat.le_refl _))).mono ?_
            rintro e W15 ⟨g3, c3, v, x, rfl, x0, x1, hs, l1⟩
            have HB15 := Lib.hid (HB14.out.trans (l1.mono HB14.out.size))
            have HV := Lib.hid (rowz_own hs.2)
            have HHi := Lib.hid (fun W h => implHas_any (.slice (some ⟨g3, 0, none⟩) v.length c3) v x W h)
            have HHs := Lib.hid (fun W h => specHas_any (.slice (some ⟨g3, 0, none⟩) v.length c3) v x W h)
            generalize hasV v x = has at HHi HHs
            generalize hasOk v x = known at HHi HHs
            clear hs l1 HB14 HD3
            go_wp2_with fail
            refine (HHi.out _ HV.out).mono ?_
            rintro e W16 ⟨rfl, l1⟩
            have HB16 := Lib.hid (HB15.out.trans (l1.mono HB15.out.size))
            have HV16 := Lib.hid (HV.out.below l1 (Nat.le_refl _))
            clear l1 HB15 HV HHi
            go_wp2_with fail
            refine (HHs.out _ HV16.out).mono ?_
            rintro e W17 ⟨rfl, q2, hq2⟩
            have l1 : Below W16.heap.size W16 W17 := by rw [hq2]; exact bdrew _ _
            have HB17 := Lib.hid (HB16.out.trans (l1.mono HB16.out.size))
            clear l1 hq2 HB16 HV16 HHs
            go_wp2_with fail
            go_ret
            exact ⟨rfl, HB17.out⟩
end Go.Proofs.Ytneimcacpbepfaa
