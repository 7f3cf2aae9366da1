/-
  The law of sets' sums: the sizes of the union and of the common numbers add up to both sizes, and sets are recovered from their texts.
-/
import Derived.Test.YtneimcacpbepfaaGreatDoorProg
import Derived.Test.YtneimcacpbepfaaGreatDoorBase
import Derived.Laws.AppendOwn
import Derived.Test.YtneimcacpbepfaaGreatDoorZ1
import Derived.Test.YtneimcacpbepfaaGreatDoorZ3
import Derived.Test.YtneimcacpbepfaaGreatDoorZ4
import Derived.Test.YtneimcacpbepfaaGreatDoorZ8
import Derived.Deep.CutRange
import Derived.BigQuiet
import Derived.WalkLawsBesides
namespace Go.Proofs.YtneimcacpbepfaaGreatDoor
open Go.RowKit

theorem rBigI_any (a : Option Addr) (n cap : Nat) (w : World) :
    Calls Tryz.prog 4 #[.slice a n cap] w fun e w' => e = .returned (.bool (decide ((65536 : Int) < n))) ∧ w = w' := by
  go_enter Tryz.func4, Tryz.ntmps4
  go_wp2
  go_ret
  exact ⟨rfl, rfl⟩
theorem rBig_row (v : Value) (n : Nat) (xs : List Value) (r : Bool) {w0 : World} (h : Row w0 v n xs) (hr : decide ((65536 : Int) < n) = r) (w : World) :
    Calls Tryz.prog 4 #[v] w fun e w' => e = .returned (.bool r) ∧ w = w' := by
  obtain ⟨a, cap, rfl, _⟩ := h
  rw [← hr]
  exact rBigI_any a n cap w
theorem own_slice_r {w : World} {base n : Nat} {e : TypeId} {v : Value} {xs : List Value} (h : w.ownsRow base e 1 v n xs) : ∃ a cap, v = .slice a n cap := by
  obtain ⟨hl, ⟨rfl, rfl⟩ | ⟨g, cap, cur, rfl, _⟩⟩ := h
  · exact ⟨_, _, rfl⟩
  · exact ⟨_, _, rfl⟩
end Go.Proofs.YtneimcacpbepfaaGreatDoor

namespace Go.Proofs.YtneimcacpbepfaaGreatDoor
open Go.RowKit Go.Lib Go.Joins
set_option linter.unusedVariables false

theorem two_parts {a b z : List Rg} (h : twoOk a b z = true) : rgOk a = true ∧ rgOk b = true ∧ rgOk z = true ∧ twoL a b z = z := by
  refine ⟨?_, ?_, ?_, if_pos h⟩ <;> (unfold twoOk at h; rw [Bool.and_eq_true, Bool.and_eq_true] at h)
  · exact h.1.1
  · exact h.1.2
  · exact h.2
theorem siz_val6 {s : List Rg} (h : rgOk s = true) : sizV s = sizG s ∧ 0 ≤ sizV s ∧ sizV s ≤ 65536 := by
  have e : sizV s = sizG s := if_pos h
  have := siz_nonneg (rgOk_parts h).1
  exact ⟨e, by rw [e]; exact this.1, by rw [e]; exact this.2⟩
theorem two_mk {a b z : List Rg} (ha : rgOk a = true) (hb : rgOk b = true) (hz : rgOk z = true) : twoOk a b z = true ∧ twoL a b z = z := by
  have e : twoOk a b z = true := by unfold twoOk; rw [ha, hb, hz]; rfl
  exact ⟨e, if_pos e⟩
/-- What the law asks of the union and the common numbers. -/
theorem sums1 {a b : List Rg} (h1 : twoOk a b (unG a b) = true) (h2 : twoOk a b (coG a b) = true) :
    rgOk a = true ∧ rgOk b = true ∧ rgOk (twoL a b (unG a b)) = true ∧ rgOk (twoL a b (coG a b)) = true ∧ sizV (twoL a b (unG a b)) + sizV (twoL a b (coG a b)) = sizV a + sizV b ∧
      (0 ≤ sizV a ∧ sizV a ≤ 65536) ∧ (0 ≤ sizV b ∧ sizV b ≤ 65536) ∧ (0 ≤ sizV (twoL a b (unG a b)) ∧ sizV (twoL a b (unG a b)) ≤ 65536) ∧ (0 ≤ sizV (twoL a b (coG a b)) ∧ sizV (twoL a b (coG a b)) ≤ 65536) ∧
      twoOk b a (unG b a) = true ∧ twoL b a (unG b a) = twoL a b (unG a b) := by
  obtain ⟨ra, rb, ru, eu⟩ := two_parts h1
  obtain ⟨_, _, rc, ec⟩ := two_parts h2
  have ca := (rgOk_parts ra).1
  have cb := (rgOk_parts rb).1
  rw [eu, ec, un_comm ca cb]
  obtain ⟨k1, k2⟩ := two_mk rb ra ru
  refine ⟨ra, rb, ru, rc, ?_, (siz_val6 ra).2, (siz_val6 rb).2, (siz_val6 ru).2, (siz_val6 rc).2, k1, k2⟩
  rw [(siz_val6 ra).1, (siz_val6 rb).1, (siz_val6 ru).1, (siz_val6 rc).1]
  exact siz_un ca cb
/-- What the law asks of the common numbers and the rest. -/
theorem sums2 {a b : List Rg} (h2 : twoOk a b (coG a b) = true) (h3 : twoOk a b (wiG a b) = true) :
    rgOk (twoL a b (coG a b)) = true ∧ rgOk (twoL a b (wiG a b)) = true ∧ sizV (twoL a b (coG a b)) + sizV (twoL a b (wiG a b)) = sizV a ∧
      (0 ≤ sizV a ∧ sizV a ≤ 65536) ∧ (0 ≤ sizV (twoL a b (coG a b)) ∧ sizV (twoL a b (coG a b)) ≤ 65536) ∧ (0 ≤ sizV (twoL a b (wiG a b)) ∧ sizV (twoL a b (wiG a b)) ≤ 65536) ∧
      twoOk (twoL a b (coG a b)) (twoL a b (wiG a b)) (unG (twoL a b (coG a b)) (twoL a b (wiG a b))) = true ∧
      twoL (twoL a b (coG a b)) (twoL a b (wiG a b)) (unG (twoL a b (coG a b)) (twoL a b (wiG a b))) = a := by
  obtain ⟨ra, rb, rc, ec⟩ := two_parts h2
  obtain ⟨_, _, rd, ed⟩ := two_parts h3
  have ca := (rgOk_parts ra).1
  have cb := (rgOk_parts rb).1
  rw [ec, ed, un_back ca cb]
  obtain ⟨k1, k2⟩ := two_mk rc rd ra
  refine ⟨rc, rd, ?_, (siz_val6 ra).2, (siz_val6 rc).2, (siz_val6 rd).2, k1, k2⟩
  rw [(siz_val6 ra).1, (siz_val6 rc).1, (siz_val6 rd).1]
  exact siz_wi ca cb
theorem back_law {s : List Rg} (h : rgOk s = true) : psB (stV s) = true ∧ psL (stV s) = s := by
  rw [stV_yes h]
  exact ps_text h
set_option maxRecDepth 100000 in
set_option maxHeartbeats 4000000 in
theorem fnSetSums_walk (w : World) (v0 : Value) (z0 : List Int) (w0 : Row w v0 z0.length (z0.map (Value.int .u8))) (b0 : ∀ z ∈ z0, (Lit.int .u8 z).wf = true) (_hsh : w.ShapedOpen Tryz.prog) (hL : laidMetH Tryz.prog Rows.fnSetSumsRow.laid w) :
    Calls Tryz.prog 3 #[v0] w fun e w' => e = .returned (.bool true) ∧ Below w.heap.size w w' := by
  have HTab := Lib.hid (tab_of_laid hL rfl (by simp [Rows.fnSetSumsRow]))
  have HErr := Lib.hid (errs_of_laid hL rfl (by simp [Rows.fnSetSumsRow]) (by simp [Rows.fnSetSumsRow]))
  have HMl := Lib.hid (mlOk_of _hsh)
  clear hL _hsh
  have hz : ∀ x ∈ z0, 0 ≤ x ∧ x < 256 := fun x hx => by have := bounds_u8 (b0 x hx); omega
  by_cases hbig : (65536 : Int) < z0.length
  · have HV := Lib.hid (rBig_row v0 _ _ true w0 (decide_eq_true hbig))
    clear w0 b0 hz
    go_enter Tryz.func3, Tryz.ntmps3
    go_wp2_with (go_at_call 4; refine (HV.out _).mono ?_; rintro e w' ⟨rfl, rfl⟩)
    go_ret
    exact ⟨rfl, Below.refl _ _⟩
  have HV := Lib.hid (rBig_row v0 _ _ false w0 (decide_eq_false hbig))
  have HR := Lib.hid w0
  have HD1 := Lib.hid (fun w hr => drawUnion5_any v0 z0 w hr hz)
  have HD2 := Lib.hid (fun w hr => drawSetText5_any v0 z0 w hr hz)
  have HD3 := Lib.hid (fun w hr => drawParseSet_any v0 z0 w hr hz)
  clear w0 b0 hz hbig
  go_enter Tryz.func3, Tryz.ntmps3
  go_wp2_with fail
  refine (HV.out _).mono ?_
  rintro e w' ⟨rfl, rfl⟩
  go_wp2_with fail
  refine (HD1.out _ HR.out).mono ?_
  rintro e W1 ⟨ga, ka, a, gb, kb, b, rfl, ha, hb, l1⟩
  have HB1 := Lib.hid l1
  have HA1 := Lib.hid (rowz_own ha.2)
  have HO1 := Lib.hid (rowz_own hb.2)
  clear l1 ha hb HD1 HV
  have HUi := Lib.hid (fun W h1 h2 => implUnion_any (.slice (some ⟨ga, 0, none⟩) a.length ka) (.slice (some ⟨gb, 0, none⟩) b.length kb) a b W h1 h2 (fit_some _ _ _) (fit_some _ _ _))
  have HUj := Lib.hid (fun W h1 h2 => implUnion_any (.slice (some ⟨gb, 0, none⟩) b.length kb) (.slice (some ⟨ga, 0, none⟩) a.length ka) b a W h1 h2 (fit_some _ _ _) (fit_some _ _ _))
  have HUs := Lib.hid (fun W h1 h2 => specUnion_any ⟨ga, 0, none⟩ ka (.slice (some ⟨gb, 0, none⟩) b.length kb) a b W h1 h2)
  have HCi := Lib.hid (fun W h1 h2 => implCommon_any (.slice (some ⟨ga, 0, none⟩) a.length ka) (.slice (some ⟨gb, 0, none⟩) b.length kb) a b W h1 h2)
  have HCs := Lib.hid (fun W h1 h2 => specCommon_any ⟨ga, 0, none⟩ ka (.slice (some ⟨gb, 0, none⟩) b.length kb) a b W h1 h2)
  have HWi := Lib.hid (fun W h1 h2 => implWithout_any (.slice (some ⟨ga, 0, none⟩) a.length ka) (.slice (some ⟨gb, 0, none⟩) b.length kb) a b W h1 h2)
  have HWs := Lib.hid (fun W h1 h2 => specWithout_any ⟨ga, 0, none⟩ ka (.slice (some ⟨gb, 0, none⟩) b.length kb) a b W h1 h2)
  have HXa := Lib.hid (fun W h => implSize_any (.slice (some ⟨ga, 0, none⟩) a.length ka) a W h)
  have HXb := Lib.hid (fun W h => implSize_any (.slice (some ⟨gb, 0, none⟩) b.length kb) b W h)
  have HF1 := Lib.hid (@sums1 a b)
  have HF2 := Lib.hid (@sums2 a b)
  generalize twoOk a b (unG a b) = ok at HUi HUs HF1
  generalize twoL a b (unG a b) = U at HUi HUs HF1
  generalize twoOk a b (coG a b) = fine at HCi HCs HF1 HF2
  generalize twoL a b (coG a b) = C at HCi HCs HF1 HF2
  generalize twoOk a b (wiG a b) = told at HWi HWs HF2
  generalize twoL a b (wiG a b) = D at HWi HWs HF2
  generalize twoOk b a (unG b a) = okj at HUj HF1
  generalize twoL b a (unG b a) = Uj at HUj HF1
  go_wp2_with fail
  refine (HUi.out _ HA1.out HO1.out).mono ?_
  rintro e W2 ⟨vu, rfl, o2, l2⟩
  have HA2 := Lib.hid (HA1.out.below l2 (Nat.le_refl _))
  have HO2 := Lib.hid (HO1.out.below l2 (Nat.le_refl _))
  have HB2 := Lib.hid (HB1.out.trans (l2.mono HB1.out.size))
  have HU2 := Lib.hid (rowz_own o2)
  have HFu := Lib.hid (fit_own o2)
  clear l2 o2 HA1 HO1 HB1 HUi
  go_wp2_with fail
  refine (HCi.out _ HA2.out HO2.out).mono ?_
  rintro e W3 ⟨vc, rfl, o3, l3⟩
  have HA3 := Lib.hid (HA2.out.below l3 (Nat.le_refl _))
  have HO3 := Lib.hid (HO2.out.below l3 (Nat.le_refl _))
  have HU3 := Lib.hid (HU2.out.below l3 (Nat.le_refl _))
  have HB3 := Lib.hid (HB2.out.trans (l3.mono HB2.out.size))
  have HC3 := Lib.hid (rowz_own o3)
  have HFc := Lib.hid (fit_own o3)
  clear l3 o3 HA2 HO2 HU2 HB2 HCi
  go_wp2_with fail
  refine (HWi.out _ HA3.out HO3.out).mono ?_
  rintro e W4 ⟨vd, rfl, o4, l4⟩
  have HA4 := Lib.hid (HA3.out.below l4 (Nat.le_refl _))
  have HO4 := Lib.hid (HO3.out.below l4 (Nat.le_refl _))
  have HU4 := Lib.hid (HU3.out.below l4 (Nat.le_refl _))
  have HC4 := Lib.hid (HC3.out.below l4 (Nat.le_refl _))
  have HB4 := Lib.hid (HB3.out.trans (l4.mono HB3.out.size))
  have HD4 := Lib.hid (rowz_own o4)
  have HFd := Lib.hid (fit_own o4)
  clear l4 o4 HA3 HO3 HU3 HC3 HB3 HWi
  go_wp2_with fail
  refine (HUs.out _ HA4.out HO4.out).mono ?_
  rintro e W5 ⟨v5, rfl, o5, l5⟩
  have HA5 := Lib.hid (HA4.out.below l5 (Nat.le_refl _))
  have HO5 := Lib.hid (HO4.out.below l5 (Nat.le_refl _))
  have HU5 := Lib.hid (HU4.out.below l5 (Nat.le_refl _))
  have HC5 := Lib.hid (HC4.out.below l5 (Nat.le_refl _))
  have HD5 := Lib.hid (HD4.out.below l5 (Nat.le_refl _))
  have HB5 := Lib.hid (HB4.out.trans (l5.mono HB4.out.size))
  have HE5 := Lib.hid (rRanges_same vu v5 U W5 HU5.out (rowz_own o5))
  clear l5 o5 HA4 HO4 HU4 HC4 HD4 HB4 HUs
  go_wp2_with fail
  refine HE5.out.mono ?_
  rintro e W6 ⟨rfl, l6⟩
  have HA6 := Lib.hid (HA5.out.below l6 (Nat.le_refl _))
  have HO6 := Lib.hid (HO5.out.below l6 (Nat.le_refl _))
  have HU6 := Lib.hid (HU5.out.below l6 (Nat.le_refl _))
  have HC6 := Lib.hid (HC5.out.below l6 (Nat.le_refl _))
  have HD6 := Lib.hid (HD5.out.below l6 (Nat.le_refl _))
  have HB6 := Lib.hid (HB5.out.trans (l6.mono HB5.out.size))
  clear l6 HA5 HO5 HU5 HC5 HD5 HB5 HE5
  go_wp2_with fail
  refine (HCs.out _ HA6.out HO6.out).mono ?_
  rintro e W7 ⟨v7, rfl, o7, l7⟩
  have HA7 := Lib.hid (HA6.out.below l7 (Nat.le_refl _))
  have HO7 := Lib.hid (HO6.out.below l7 (Nat.le_refl _))
  have HU7 := Lib.hid (HU6.out.below l7 (Nat.le_refl _))
  have HC7 := Lib.hid (HC6.out.below l7 (Nat.le_refl _))
  have HD7 := Lib.hid (HD6.out.below l7 (Nat.le_refl _))
  have HB7 := Lib.hid (HB6.out.trans (l7.mono HB6.out.size))
  have HE7 := Lib.hid (rRanges_same vc v7 C W7 HC7.out (rowz_own o7))
  clear l7 o7 HA6 HO6 HU6 HC6 HD6 HB6 HCs
  go_wp2_with fail
  refine HE7.out.mono ?_
  rintro e W8 ⟨rfl, l8⟩
  have HA8 := Lib.hid (HA7.out.below l8 (Nat.le_refl _))
  have HO8 := Lib.hid (HO7.out.below l8 (Nat.le_refl _))
  have HU8 := Lib.hid (HU7.out.below l8 (Nat.le_refl _))
  have HC8 := Lib.hid (HC7.out.below l8 (Nat.le_refl _))
  have HD8 := Lib.hid (HD7.out.below l8 (Nat.le_refl _))
  have HB8 := Lib.hid (HB7.out.trans (l8.mono HB7.out.size))
  clear l8 HA7 HO7 HU7 HC7 HD7 HB7 HE7
  go_wp2_with fail
  refine (HWs.out _ HA8.out HO8.out).mono ?_
  rintro e W9 ⟨v9, rfl, o9, l9⟩
  have HA9 := Lib.hid (HA8.out.below l9 (Nat.le_refl _))
  have HO9 := Lib.hid (HO8.out.below l9 (Nat.le_refl _))
  have HU9 := Lib.hid (HU8.out.below l9 (Nat.le_refl _))
  have HC9 := Lib.hid (HC8.out.below l9 (Nat.le_refl _))
  have HD9 := Lib.hid (HD8.out.below l9 (Nat.le_refl _))
  have HB9 := Lib.hid (HB8.out.trans (l9.mono HB8.out.size))
  have HE9 := Lib.hid (rRanges_same vd v9 D W9 HD9.out (rowz_own o9))
  clear l9 o9 HA8 HO8 HU8 HC8 HD8 HB8 HWs
  go_wp2_with fail
  refine HE9.out.mono ?_
  rintro e W10 ⟨rfl, l10⟩
  have HA10 := Lib.hid (HA9.out.below l10 (Nat.le_refl _))
  have HO10 := Lib.hid (HO9.out.below l10 (Nat.le_refl _))
  have HU10 := Lib.hid (HU9.out.below l10 (Nat.le_refl _))
  have HC10 := Lib.hid (HC9.out.below l10 (Nat.le_refl _))
  have HD10 := Lib.hid (HD9.out.below l10 (Nat.le_refl _))
  have HB10 := Lib.hid (HB9.out.trans (l10.mono HB9.out.size))
  clear l10 HA9 HO9 HU9 HC9 HD9 HB9 HE9
  generalize rgOk a = ra at HXa HF1
  generalize rgOk b = rb at HXb HF1
  generalize sizV a = sa at HXa HF1 HF2
  generalize sizV b = sb at HXb HF1
  go_wp2_with fail
  refine (HXa.out _ HA10.out).mono ?_
  rintro e W11 ⟨rfl, l11⟩
  have HA11 := Lib.hid (HA10.out.below l11 (Nat.le_refl _))
  have HO11 := Lib.hid (HO10.out.below l11 (Nat.le_refl _))
  have HU11 := Lib.hid (HU10.out.below l11 (Nat.le_refl _))
  have HC11 := Lib.hid (HC10.out.below l11 (Nat.le_refl _))
  have HD11 := Lib.hid (HD10.out.below l11 (Nat.le_refl _))
  have HB11 := Lib.hid (HB10.out.trans (l11.mono HB10.out.size))
  clear l11 HA10 HO10 HU10 HC10 HD10 HB10 HXa
  go_wp2_with fail
  refine (HXb.out _ HO11.out).mono ?_
  rintro e W12 ⟨rfl, l12⟩
  have HA12 := Lib.hid (HA11.out.below l12 (Nat.le_refl _))
  have HO12 := Lib.hid (HO11.out.below l12 (Nat.le_refl _))
  have HU12 := Lib.hid (HU11.out.below l12 (Nat.le_refl _))
  have HC12 := Lib.hid (HC11.out.below l12 (Nat.le_refl _))
  have HD12 := Lib.hid (HD11.out.below l12 (Nat.le_refl _))
  have HB12 := Lib.hid (HB11.out.trans (l12.mono HB11.out.size))
  clear l12 HA11 HO11 HU11 HC11 HD11 HB11 HXb
  go_upto_region 18 with fail
  go_cut [128] from 125 to 128 (fun b wx => b = .bool (ok && fine) ∧ wx = W12)
  case first =>
    cases ok with
    | false =>
      go_wp2_with fail
      go_meet
      case rel => exact ⟨rfl, rfl⟩
    | true =>
      go_wp2_with fail
      go_meet
      case rel => exact ⟨rfl, rfl⟩
  case rest =>
    obtain ⟨rfl, rfl⟩ := hcut
    rename World => W12
    go_upto_if 128 with fail
    go_cut [] from 21 to 177 (fun wx => Hid (Below W12.heap.size W12 wx))
    case first =>
      have HZ := Lib.hid (Below.refl W12.heap.size W12)
      cases hbo : ok && fine with
      | false =>
        go_wp2_with fail
        go_meet
        case rel => exact HZ
      | true =>
        rw [Bool.and_eq_true] at hbo
        obtain ⟨rfl, rfl, r1, r2, hsum, ⟨a0, a1⟩, ⟨b0, b1⟩, ⟨u0, u1⟩, ⟨c0, c1⟩, rfl, rfl⟩ := HF1.out hbo.1 hbo.2
        have HX1 := Lib.hid (fun W h => implSize_any vu Uj W h)
        rw [r1] at HX1
        have HX2 := Lib.hid (fun W h => implSize_any vc C W h)
        rw [r2] at HX2
        generalize sizV Uj = x at u0 u1 hsum HX1
        generalize sizV C = y at c0 c1 hsum HX2
        have hd : ((x + y) != (sa + sb)) = false := by simp; omega
        clear r1 r2 hbo hsum HF1 HF2
        go_wp2_with fail
        refine (HX1.out _ HU12.out).mono ?_
        rintro e X1 ⟨rfl, l1⟩
        have HY1 := Lib.hid l1
        clear l1 HX1
        go_wp2_with fail
        refine (HX2.out _ (HC12.out.below HY1.out (Nat.le_refl _))).mono ?_
        rintro e X2 ⟨rfl, l2⟩
        have HY2 := Lib.hid (HY1.out.trans (l2.mono HY1.out.size))
        clear l2 HY1 HX2
        go_wp2_with fail
        refine (HUj.out _ (HO12.out.below HY2.out (Nat.le_refl _)) (HA12.out.below HY2.out (Nat.le_refl _))).mono ?_
        rintro e X3 ⟨vj, rfl, o3, l3⟩
        have HY3 := Lib.hid (HY2.out.trans (l3.mono HY2.out.size))
        have HE3 := Lib.hid (rRanges_same vj vu Uj X3 (rowz_own o3) (HU12.out.below HY3.out (Nat.le_refl _)))
        clear l3 o3 HY2 HUj
        go_wp2_with fail
        refine HE3.out.mono ?_
        rintro e X4 ⟨rfl, l4⟩
        have HY4 := Lib.hid (HY3.out.trans (l4.mono HY3.out.size))
        clear l4 HY3 HE3
        go_wp2_with fail
        go_meet
        case rel => exact HY4
    case rest =>
      have HA13 := Lib.hid (HA12.out.below hcut.out (Nat.le_refl _))
      have HC13 := Lib.hid (HC12.out.below hcut.out (Nat.le_refl _))
      have HD13 := Lib.hid (HD12.out.below hcut.out (Nat.le_refl _))
      have HB13 := Lib.hid (HB12.out.trans (hcut.out.mono HB12.out.size))
      clear hcut HA12 HO12 HU12 HC12 HD12 HB12 HF1 HUj HFu
      rename World => W13
      go_upto_region 24 with fail
      go_cut [181] from 178 to 181 (fun b wx => b = .bool (fine && told) ∧ wx = W13)
      case first =>
        cases fine with
        | false =>
          go_wp2_with fail
          go_meet
          case rel => exact ⟨rfl, rfl⟩
        | true =>
          go_wp2_with fail
          go_meet
          case rel => exact ⟨rfl, rfl⟩
      case rest =>
        obtain ⟨rfl, rfl⟩ := hcut
        rename World => W13
        go_upto_if 181 with fail
        go_cut [] from 27 to 219 (fun wx => Hid (Below W13.heap.size W13 wx))
        case first =>
          have HZ := Lib.hid (Below.refl W13.heap.size W13)
          cases hbo : fine && told with
          | false =>
            go_wp2_with fail
            go_meet
            case rel => exact HZ
          | true =>
            rw [Bool.and_eq_true] at hbo
            obtain ⟨r1, r2, hsum, ⟨a0, a1⟩, ⟨c0, c1⟩, ⟨d0, d1⟩, k1, k2⟩ := HF2.out hbo.1 hbo.2
            have HX1 := Lib.hid (fun W h => implSize_any vc C W h)
            rw [r1] at HX1
            have HX2 := Lib.hid (fun W h => implSize_any vd D W h)
            rw [r2] at HX2
            have HX3 := Lib.hid (fun W h1 h2 => implUnion_any vc vd C D W h1 h2 HFc.out HFd.out)
            rw [k1, k2] at HX3
            generalize sizV C = x at c0 c1 hsum HX1
            generalize sizV D = y at d0 d1 hsum HX2
            have hd : ((x + y) != sa) = false := by simp; omega
            clear r1 r2 hbo hsum k1 k2 HF2
            go_wp2_with fail
            refine (HX1.out _ HC13.out).mono ?_
            rintro e X1 ⟨rfl, l1⟩
            have HY1 := Lib.hid l1
            clear l1 HX1
            go_wp2_with fail
            refine (HX2.out _ (HD13.out.below HY1.out (Nat.le_refl _))).mono ?_
            rintro e X2 ⟨rfl, l2⟩
            have HY2 := Lib.hid (HY1.out.trans (l2.mono HY1.out.size))
            clear l2 HY1 HX2
            go_wp2_with fail
            refine (HX3.out _ (HC13.out.below HY2.out (Nat.le_refl _)) (HD13.out.below HY2.out (Nat.le_refl _))).mono ?_
            rintro e X3 ⟨vj, rfl, o3, l3⟩
            have HY3 := Lib.hid (HY2.out.trans (l3.mono HY2.out.size))
            have HE3 := Lib.hid (rRanges_same vj (.slice (some ⟨ga, 0, none⟩) a.length ka) a X3 (rowz_own o3) (HA13.out.below HY3.out (Nat.le_refl _)))
            clear l3 o3 HY2 HX3
            go_wp2_with fail
            refine HE3.out.mono ?_
            rintro e X4 ⟨rfl, l4⟩
            have HY4 := Lib.hid (HY3.out.trans (l4.mono HY3.out.size))
            clear l4 HY3 HE3
            go_wp2_with fail
            go_meet
            case rel => exact HY4
        case rest =>
          have HB14 := Lib.hid (HB13.out.trans (hcut.out.mono HB13.out.size))
          clear hcut HA13 HC13 HD13 HB13 HF2 HFc HFd
          go_wp2_with fail
          refine (HD2.out _ (HR.out.below HB14.out (Nat.le_refl _))).mono ?_
          rintro e W15 ⟨gs, ks, s, rfl, hs, l15⟩
          have HB15 := Lib.hid (HB14.out.trans (l15.mono HB14.out.size))
          have HS15 := Lib.hid (rowz_own hs.2)
          have HTi := Lib.hid (fun W h ht => implSetText_any (.slice (some ⟨gs, 0, none⟩) s.length ks) s W h ht)
          have HTs := Lib.hid (fun W h => specSetText_any (.slice (some ⟨gs, 0, none⟩) s.length ks) s W h)
          have HIs := Lib.hid (fun W h => implIsSet_any (.slice (some ⟨gs, 0, none⟩) s.length ks) s W h)
          have HPa := Lib.hid (fun W hm ht he => implParseSet_any (stV s) W (by have := stV_size s; omega) hm ht he)
          have HBk := Lib.hid (@back_law s)
          generalize stV s = tx at HTi HTs HPa HBk
          generalize rgOk s = good at HTi HTs HIs HBk
          generalize psB tx = three at HPa HBk
          generalize psL tx = bk at HPa HBk
          clear hs l15 HB14 HD2
          go_wp2_with fail
          refine (HTi.out _ HS15.out (HTab.out.below HB15.out)).mono ?_
          rintro e W16 ⟨rfl, l16⟩
          have HS16 := Lib.hid (HS15.out.below l16 (Nat.le_refl _))
          have HB16 := Lib.hid (HB15.out.trans (l16.mono HB15.out.size))
          clear l16 HS15 HB15 HTi
          go_wp2_with fail
          refine (HTs.out _ HS16.out).mono ?_
          rintro e W17 ⟨rfl, l17⟩
          have HS17 := Lib.hid (HS16.out.below l17 (Nat.le_refl _))
          have HB17 := Lib.hid (HB16.out.trans (l17.mono HB16.out.size))
          clear l17 HS16 HB16 HTs
          go_wp2_with fail
          refine (HIs.out _ HS17.out).mono ?_
          rintro e W18 ⟨rfl, l18⟩
          have HS18 := Lib.hid (HS17.out.below l18 (Nat.le_refl _))
          have HB18 := Lib.hid (HB17.out.trans (l18.mono HB17.out.size))
          clear l18 HS17 HB17 HIs
          go_wp2_with fail
          refine (HPa.out _ (HMl.out.below HB18.out) (HTab.out.below HB18.out) (HErr.out.below HB18.out)).mono ?_
          rintro e W19 ⟨vb, rfl, ob, l19⟩
          have HS19 := Lib.hid (HS18.out.below l19 (Nat.le_refl _))
          have HB19 := Lib.hid (HB18.out.trans (l19.mono HB18.out.size))
          have HO19 := Lib.hid (rowz_own ob)
          clear l19 ob HS18 HB18 HPa
          go_upto_region 36 with fail
          go_cut [261] from 252 to 261 (fun b wx => b = .bool false ∧ Hid (Below W19.heap.size W19 wx))
          case first =>
            have HZ := Lib.hid (Below.refl W19.heap.size W19)
            cases good with
            | false =>
              go_wp2_with fail
              go_meet
              case rel => exact ⟨rfl, HZ⟩
            | true =>
              obtain ⟨rfl, rfl⟩ := HBk.out rfl
              have HE := Lib.hid (rRanges_same vb _ _ W19 HO19.out HS19.out)
              go_wp2_with fail
              refine HE.out.mono ?_
              rintro e X1 ⟨rfl, l1⟩
              have HY1 := Lib.hid l1
              clear l1
              go_wp2_with fail
              go_meet
              case rel => exact ⟨rfl, HY1⟩
          case rest =>
            obtain ⟨rfl, hcut⟩ := hcut
            have HB20 := Lib.hid (HB19.out.trans (hcut.out.mono HB19.out.size))
            clear hcut HS19 HB19 HO19 HBk
            go_wp2_with fail
            refine (HD3.out _ (HR.out.below HB20.out (Nat.le_refl _))).mono ?_
            rintro e W21 ⟨t, rfl, ht, l21⟩
            have HB21 := Lib.hid (HB20.out.trans (l21.mono HB20.out.size))
            have HPi := Lib.hid (fun W hm ht he => implParseSet_any t W (by omega) hm ht he)
            have HPs := Lib.hid (fun W => specParseSet_any t W (by omega))
            generalize psB t = known at HPi HPs
            generalize psL t = P at HPi HPs
            clear l21 HB20 HD3
            go_wp2_with fail
            refine (HPi.out _ (HMl.out.below HB21.out) (HTab.out.below HB21.out) (HErr.out.below HB21.out)).mono ?_
            rintro e W22 ⟨vp, rfl, op, l22⟩
            have HB22 := Lib.hid (HB21.out.trans (l22.mono HB21.out.size))
            have HP22 := Lib.hid op
            clear l22 op HB21 HPi
            go_wp2_with fail
            refine (HPs.out _).mono ?_
            rintro e W23 ⟨vq, rfl, oq, l23⟩
            have HB23 := Lib.hid (HB22.out.trans (l23.mono HB22.out.size))
            have HE := Lib.hid (rRanges_same vp vq P W23 (rowz_own (ownz_below HP22.out l23 (Nat.le_refl _))) (rowz_own oq))
            clear l23 oq HB22 HPs HP22
            go_wp2_with fail
            refine HE.out.mono ?_
            rintro e W24 ⟨rfl, l24⟩
            have HB24 := Lib.hid (HB23.out.trans (l24.mono HB23.out.size))
            clear l24 HB23 HE
            go_wp2_with fail
            go_ret
            exact ⟨rfl, HB24.out⟩
end Go.Proofs.YtneimcacpbepfaaGreatDoor
