/-
  Sets as ranges: the program's UnionOf and AddRange.
-/
import Derived.Test.YtneimcacpbepfaaGreatDoorZ6
import Derived.Test.YtneimcacpbepfaaGreatDoorZ7
namespace Go.Proofs.YtneimcacpbepfaaGreatDoor
open Go.RowKit Go.Lib Go.Joins
set_option linter.unusedVariables false

set_option maxHeartbeats 2000000 in
theorem implUnion_any (v u : Value) (x y : List Rg) (w : World) (hx : Row w v x.length (rgF x)) (hy : Row w u y.length (rgF y)) (hfx : Fit v x.length) (hfy : Fit u y.length) :
    Calls Tryz.prog 6 #[v, u] w fun e w' => ∃ v', e = .returned (.tuple #[v', .bool (twoOk x y (unG x y))]) ∧ w'.ownsRow w.heap.size 47 2 v' (twoL x y (unG x y)).length (rgF (twoL x y (unG x y))) ∧ Below w.heap.size w w' := by
  have HX := Lib.hid hx
  have HFx := Lib.hid hfx
  have HFy := Lib.hid hfy
  have HY := Lib.hid hy
  have HG1 := Lib.hid (implIsSet_any _ x w hx)
  have HG2 := Lib.hid (fun (W : World) (hW : Below w.heap.size w W) => implIsSet_any _ y W (hy.below hW (Nat.le_refl _)))
  have hp := fun h => @rgOk_parts x h
  have hq := fun h => @rgOk_parts y h
  have HNo := Lib.hid (two_no (x := x) (y := y) (unG x y))
  have HYes := Lib.hid (two_yes (x := x) (y := y) (unG x y))
  obtain ⟨a, ca, rfl, _, _, _⟩ := rg_open hx
  obtain ⟨b, cb, rfl, _, _, _⟩ := rg_open hy
  clear hx hy hfx hfy
  cases b1 : rgOk x with
  | false =>
    rw [b1] at HG1
    obtain ⟨h1, h2⟩ := HNo.out (by rw [b1]; rfl)
    have HO := Lib.hid h1
    have HL := Lib.hid h2
    clear h1 h2 b1 hp hq HYes HNo
    go_enter Tryz.func6, Tryz.ntmps6
    go_wp2_with fail
    refine HG1.out.mono ?_
    rintro e w1 ⟨rfl, l1⟩
    have HB1 := Lib.hid l1
    clear l1
    go_wp2_with fail
    go_ret2
    exact ⟨_, ret_vb5 rfl HO.out.symm, by rw [HL.out]; exact lit_none w1 w.heap.size HB1.out.size, b_a HB1.out _⟩
  | true =>
    rw [b1] at HG1
    cases b2 : rgOk y with
    | false =>
      rw [b2] at HG2
      obtain ⟨h1, h2⟩ := HNo.out (by rw [b1, b2]; rfl)
      have HO := Lib.hid h1
      have HL := Lib.hid h2
      clear h1 h2 b1 b2 hp hq HYes HNo
      go_enter Tryz.func6, Tryz.ntmps6
      go_wp2_with fail
      refine HG1.out.mono ?_
      rintro e w1 ⟨rfl, l1⟩
      have HB1 := Lib.hid l1
      clear l1
      go_wp2_with fail
      refine (HG2.out _ HB1.out).mono ?_
      rintro e w2 ⟨rfl, l2⟩
      have HB2 := Lib.hid (HB1.out.trans (l2.mono HB1.out.size))
      clear l2
      go_wp2_with fail
      go_ret2
      exact ⟨_, ret_vb5 rfl HO.out.symm, by rw [HL.out]; exact lit_none w2 w.heap.size HB2.out.size, b_a HB2.out _⟩
    | true =>
      rw [b2] at HG2
      obtain ⟨h1, h2⟩ := HYes.out (by rw [b1, b2]; rfl)
      have HO := Lib.hid h1
      have HL := Lib.hid h2
      have HCx := Lib.hid (hp b1).1
      have HCy := Lib.hid (hq b2).1
      have hlx : x.length ≤ 10 := (hp b1).2
      have hly : y.length ≤ 10 := (hq b2).2
      clear h1 h2 b1 b2 hp hq HYes HNo
      have hE := mrg_union HCx.out HCy.out
      have HM1 := Lib.hid (fun (W : World) (hW : Below w.heap.size w W) => concatR_any _ _ x y W.heap.size (W.alloc (.cells #[.slice a x.length ca, .slice b y.length cb] 24)) (HX.out.below (b_a hW _) (Nat.le_refl _)) (HY.out.below (b_a hW _) (Nat.le_refl _)) HFx.out HFy.out (by omega) (by omega) (heap_alloc_new W _))
      have hv : ∀ r ∈ x ++ y, 0 ≤ r.1 ∧ r.1 ≤ r.2 ∧ r.2 ≤ 65535 := fun r hr => (List.mem_append.1 hr).elim (HCx.out.2 r) (HCy.out.2 r)
      have hl20 : (x ++ y).length ≤ 20 := by rw [List.length_append]; omega
      have HM2 := Lib.hid (fun (B : Nat) (W : World) (vv : Value) (ho : W.ownsRow B 47 2 vv (x ++ y).length (rgF (x ++ y))) => merged_any B vv (x ++ y) W ho hl20 hv)
      rw [hE] at HM2
      generalize unG x y = zs at HO HL HM2
      clear hE hv hl20
      generalize x ++ y = xy at HM1 HM2
      go_enter Tryz.func6, Tryz.ntmps6
      go_wp2_with fail
      refine HG1.out.mono ?_
      rintro e w1 ⟨rfl, l1⟩
      have HB1 := Lib.hid l1
      clear l1
      go_wp2_with fail
      refine (HG2.out _ HB1.out).mono ?_
      rintro e w2 ⟨rfl, l2⟩
      have HB2 := Lib.hid (HB1.out.trans (l2.mono HB1.out.size))
      clear l2 HB1 HG1 HG2
      go_wp2_with fail
      refine (HM1.out _ HB2.out).mono ?_
      rintro e w3 ⟨v3, rfl, o3, l3⟩
      have HB3 := Lib.hid ((b_a HB2.out (.cells #[.slice a x.length ca, .slice b y.length cb] 24)).trans (l3.mono (b_a HB2.out _).size))
      have HO3 := Lib.hid o3
      obtain ⟨a3, c3, rfl, _, _⟩ := ownz_slice o3
      clear o3 l3 HM1
      go_wp2_with fail
      refine (HM2.out _ _ _ HO3.out).mono ?_
      rintro e w4 ⟨v4, rfl, o4, l4⟩
      replace l4 := HB3.out.trans (l4.mono HB3.out.size)
      replace o4 := ownz_base o4 HB3.out.size
      clear HM2
      have HC3 := Lib.hid (keepIf_any w.heap.size v4 zs w4 o4 l4.size)
      obtain ⟨a4, c4, rfl, _, _⟩ := ownz_slice o4
      have HB4 := Lib.hid l4
      clear l4 o4
      go_wp2_with fail
      refine HC3.out.mono ?_
      rintro e w5 ⟨v5, rfl, o5, l5⟩
      have HB5 := Lib.hid (HB4.out.trans (l5.mono HB4.out.size))
      have HO5 := Lib.hid o5
      obtain ⟨a5, c5, rfl, _, _⟩ := ownz_slice o5
      clear l5 o5
      go_wp2_with fail
      go_ret2
      exact ⟨_, ret_vb5 rfl HO.out.symm, by rw [HL.out]; exact HO5.out, HB5.out⟩
theorem addR_two (s : List Rg) (f t : Int) : twoOk s [(f, t)] (unG s [(f, t)]) = addROk s f t ∧ twoL s [(f, t)] (unG s [(f, t)]) = addL s f t := by
  have e : twoOk s [(f, t)] (unG s [(f, t)]) = addROk s f t := by
    unfold twoOk addROk askOk
    rw [rgOk_one]
    rfl
  refine ⟨e, ?_⟩
  unfold twoL addL
  rw [e]
  rfl
end Go.Proofs.YtneimcacpbepfaaGreatDoor
