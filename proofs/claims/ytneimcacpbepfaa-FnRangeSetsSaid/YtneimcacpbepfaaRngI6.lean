/-
  Sets as ranges: the program's CommonOf and WithoutOf, RemoveRange.
-/
import Derived.Test.YtneimcacpbepfaaRngI5
import Derived.Test.YtneimcacpbepfaaRng6
namespace Go.Proofs.Ytneimcacpbepfaa
open Go.RowKit Go.Lib Go.Joins
set_option linter.unusedVariables false

set_option maxHeartbeats 1000000 in
theorem keepIf_any (B : Nat) (v : Value) (s : List Rg) (w : World) (ho : w.ownsRow B 58 2 v s.length (rgF s)) (hB : B ≤ w.heap.size) :
    Calls Try.prog 60 #[v] w fun e w' => ∃ v', e = .returned (.tuple #[v', .bool (rgOk s)]) ∧ w'.ownsRow B 58 2 v' (chkL s).length (rgF (chkL s)) ∧ Below w.heap.size w w' := by
  have HO := Lib.hid ho
  obtain ⟨a, cap, rfl, _, _⟩ := ownz_slice ho
  have HG := Lib.hid (implIsSet_any _ s w (rowz_own ho))
  have HB := Lib.hid hB
  clear ho hB
  cases hg : rgOk s with
  | false =>
    rw [hg] at HG
    have HL : Hid (chkL s = []) := Lib.hid (chkL_no hg)
    clear hg
    go_enter Try.func60, Try.ntmps60
    go_wp2_with fail
    refine HG.out.mono ?_
    rintro e w1 ⟨rfl, l1⟩
    have HB1 := Lib.hid l1
    clear l1
    go_wp2_with fail
    go_ret2
    exact ⟨_, rfl, by rw [HL.out]; exact lit_none w1 B (Nat.le_trans HB.out HB1.out.size), b_a HB1.out _⟩
  | true =>
    rw [hg] at HG
    have HL : Hid (chkL s = s) := Lib.hid (chkL_yes hg)
    clear hg
    go_enter Try.func60, Try.ntmps60
    go_wp2_with fail
    refine HG.out.mono ?_
    rintro e w1 ⟨rfl, l1⟩
    have HB1 := Lib.hid l1
    clear l1
    go_wp2_with fail
    go_ret2
    exact ⟨_, rfl, by rw [HL.out]; exact ownz_below HO.out HB1.out (Nat.le_refl _), HB1.out⟩
set_option maxHeartbeats 2000000 in
theorem implCommon_any (v u : Value) (x y : List Rg) (w : World) (hx : Row w v x.length (rgF x)) (hy : Row w u y.length (rgF y)) :
    Calls Try.prog 37 #[v, u] w fun e w' => ∃ v', e = .returned (.tuple #[v', .bool (twoOk x y (coG x y))]) ∧ w'.ownsRow w.heap.size 58 2 v' (twoL x y (coG x y)).length (rgF (twoL x y (coG x y))) ∧ Below w.heap.size w w' := by
  have HX := Lib.hid hx
  have HY := Lib.hid hy
  have HG1 := Lib.hid (implIsSet_any _ x w hx)
  have HG2 := Lib.hid (fun (W : World) (hW : Below w.heap.size w W) => implIsSet_any _ y W (hy.below hW (Nat.le_refl _)))
  have hp := fun h => @rgOk_parts x h
  have hq := fun h => @rgOk_parts y h
  have HNo := Lib.hid (two_no (x := x) (y := y) (coG x y))
  have HYes := Lib.hid (two_yes (x := x) (y := y) (coG x y))
  obtain ⟨a, ca, rfl, _, _, _⟩ := rg_open hx
  obtain ⟨b, cb, rfl, _, _, _⟩ := rg_open hy
  clear hx hy
  cases b1 : rgOk x with
  | false =>
    rw [b1] at HG1
    obtain ⟨h1, h2⟩ := HNo.out (by rw [b1]; rfl)
    have HO := Lib.hid h1
    have HL := Lib.hid h2
    clear h1 h2 b1 hp hq HYes HNo
    go_enter Try.func37, Try.ntmps37
    go_wp2_with fail
    refine HG1.out.mono ?_
    rintro e w1 ⟨rfl, l1⟩
    have HB1 := Lib.hid l1
    clear l1
    go_wp2_with fail
    go_ret2
    exact ⟨_, ret_vb5 rfl HO.out.symm, by rw [HL.out]; exact lit_none w1 w.heap.size HB1.out.size, b_a HB1.out _⟩
  | true =>
    rw [b1] at HG1
    cases b2 : rgOk y with
    | false =>
      rw [b2] at HG2
      obtain ⟨h1, h2⟩ := HNo.out (by rw [b1, b2]; rfl)
      have HO := Lib.hid h1
      have HL := Lib.hid h2
      clear h1 h2 b1 b2 hp hq HYes HNo
      go_enter Try.func37, Try.ntmps37
      go_wp2_with fail
      refine HG1.out.mono ?_
      rintro e w1 ⟨rfl, l1⟩
      have HB1 := Lib.hid l1
      clear l1
      go_wp2_with fail
      refine (HG2.out _ HB1.out).mono ?_
      rintro e w2 ⟨rfl, l2⟩
      have HB2 := Lib.hid (HB1.out.trans (l2.mono HB1.out.size))
      clear l2
      go_wp2_with fail
      go_ret2
      exact ⟨_, ret_vb5 rfl HO.out.symm, by rw [HL.out]; exact lit_none w2 w.heap.size HB2.out.size, b_a HB2.out _⟩
    | true =>
      rw [b2] at HG2
      obtain ⟨h1, h2⟩ := HYes.out (by rw [b1, b2]; rfl)
      have HO := Lib.hid h1
      have HL := Lib.hid h2
      have HCx := Lib.hid (hp b1).1
      have HCy := Lib.hid (hq b2).1
      have hlx : x.length ≤ 10 := (hp b1).2
      have hly : y.length ≤ 10 := (hq b2).2
      clear h1 h2 b1 b2 hp hq HYes HNo
      have hE := com_co HCx.out HCy.out
      have HM := Lib.hid (fun (W : World) (hW : Below w.heap.size w W) => common_any _ _ x y W (HX.out.below hW (Nat.le_refl _)) (HY.out.below hW (Nat.le_refl _)) HCx.out HCy.out)
      rw [hE] at HM
      generalize coG x y = zs at HO HL HM
      clear hE
      go_enter Try.func37, Try.ntmps37
      go_wp2_with fail
      refine HG1.out.mono ?_
      rintro e w1 ⟨rfl, l1⟩
      have HB1 := Lib.hid l1
      clear l1
      go_wp2_with fail
      refine (HG2.out _ HB1.out).mono ?_
      rintro e w2 ⟨rfl, l2⟩
      have HB2 := Lib.hid (HB1.out.trans (l2.mono HB1.out.size))
      clear l2 HB1 HG1 HG2
      go_wp2_with fail
      refine (HM.out _ HB2.out).mono ?_
      rintro e w4 ⟨v4, rfl, o4, l4⟩
      replace l4 := HB2.out.trans (l4.mono HB2.out.size)
      replace o4 := ownz_base o4 HB2.out.size
      clear HM
      have HC3 := Lib.hid (keepIf_any w.heap.size v4 zs w4 o4 l4.size)
      obtain ⟨a4, c4, rfl, _, _⟩ := ownz_slice o4
      have HB4 := Lib.hid l4
      clear l4 o4
      go_wp2_with fail
      refine HC3.out.mono ?_
      rintro e w5 ⟨v5, rfl, o5, l5⟩
      have HB5 := Lib.hid (HB4.out.trans (l5.mono HB4.out.size))
      have HO5 := Lib.hid o5
      obtain ⟨a5, c5, rfl, _, _⟩ := ownz_slice o5
      clear l5 o5
      go_wp2_with fail
      go_ret2
      exact ⟨_, ret_vb5 rfl HO.out.symm, by rw [HL.out]; exact HO5.out, HB5.out⟩
set_option maxHeartbeats 2000000 in
theorem implWithout_any (v u : Value) (x y : List Rg) (w : World) (hx : Row w v x.length (rgF x)) (hy : Row w u y.length (rgF y)) :
    Calls Try.prog 39 #[v, u] w fun e w' => ∃ v', e = .returned (.tuple #[v', .bool (twoOk x y (wiG x y))]) ∧ w'.ownsRow w.heap.size 58 2 v' (twoL x y (wiG x y)).length (rgF (twoL x y (wiG x y))) ∧ Below w.heap.size w w' := by
  have HX := Lib.hid hx
  have HY := Lib.hid hy
  have HG1 := Lib.hid (implIsSet_any _ x w hx)
  have HG2 := Lib.hid (fun (W : World) (hW : Below w.heap.size w W) => implIsSet_any _ y W (hy.below hW (Nat.le_refl _)))
  have hp := fun h => @rgOk_parts x h
  have hq := fun h => @rgOk_parts y h
  have HNo := Lib.hid (two_no (x := x) (y := y) (wiG x y))
  have HYes := Lib.hid (two_yes (x := x) (y := y) (wiG x y))
  obtain ⟨a, ca, rfl, _, _, _⟩ := rg_open hx
  obtain ⟨b, cb, rfl, _, _, _⟩ := rg_open hy
  clear hx hy
  cases b1 : rgOk x with
  | false =>
    rw [b1] at HG1
    obtain ⟨h1, h2⟩ := HNo.out (by rw [b1]; rfl)
    have HO := Lib.hid h1
    have HL := Lib.hid h2
    clear h1 h2 b1 hp hq HYes HNo
    go_enter Try.func39, Try.ntmps39
    go_wp2_with fail
    refine HG1.out.mono ?_
    rintro e w1 ⟨rfl, l1⟩
    have HB1 := Lib.hid l1
    clear l1
    go_wp2_with fail
    go_ret2
    exact ⟨_, ret_vb5 rfl HO.out.symm, by rw [HL.out]; exact lit_none w1 w.heap.size HB1.out.size, b_a HB1.out _⟩
  | true =>
    rw [b1] at HG1
    cases b2 : rgOk y with
    | false =>
      rw [b2] at HG2
      obtain ⟨h1, h2⟩ := HNo.out (by rw [b1, b2]; rfl)
      have HO := Lib.hid h1
      have HL := Lib.hid h2
      clear h1 h2 b1 b2 hp hq HYes HNo
      go_enter Try.func39, Try.ntmps39
      go_wp2_with fail
      refine HG1.out.mono ?_
      rintro e w1 ⟨rfl, l1⟩
      have HB1 := Lib.hid l1
      clear l1
      go_wp2_with fail
      refine (HG2.out _ HB1.out).mono ?_
      rintro e w2 ⟨rfl, l2⟩
      have HB2 := Lib.hid (HB1.out.trans (l2.mono HB1.out.size))
      clear l2
      go_wp2_with fail
      go_ret2
      exact ⟨_, ret_vb5 rfl HO.out.symm, by rw [HL.out]; exact lit_none w2 w.heap.size HB2.out.size, b_a HB2.out _⟩
    | true =>
      rw [b2] at HG2
      obtain ⟨h1, h2⟩ := HYes.out (by rw [b1, b2]; rfl)
      have HO := Lib.hid h1
      have HL := Lib.hid h2
      have HCx := Lib.hid (hp b1).1
      have HCy := Lib.hid (hq b2).1
      have hlx : x.length ≤ 10 := (hp b1).2
      have hly : y.length ≤ 10 := (hq b2).2
      clear h1 h2 b1 b2 hp hq HYes HNo
      have hE := com_wi HCx.out HCy.out
      have hmg := (misG_good (n := 0) HCy.out (Int.le_refl _) (by omega) (fun r hr => (HCy.out.2 r hr).1)).1
      have HM1 := Lib.hid (fun (W : World) (hW : Below w.heap.size w W) => missing_any _ y W (HY.out.below hW (Nat.le_refl _)) HCy.out)
      have HM2 := Lib.hid (fun (W : World) (vv : Value) (hW : Below w.heap.size w W) (hv : Row W vv (misG y 0).length (rgF (misG y 0))) => common_any _ vv x (misG y 0) W (HX.out.below hW (Nat.le_refl _)) hv HCx.out hmg)
      rw [hE] at HM2
      generalize wiG x y = zs at HO HL HM2
      clear hE hmg
      generalize misG y 0 = ms at HM1 HM2
      go_enter Try.func39, Try.ntmps39
      go_wp2_with fail
      refine HG1.out.mono ?_
      rintro e w1 ⟨rfl, l1⟩
      have HB1 := Lib.hid l1
      clear l1
      go_wp2_with fail
      refine (HG2.out _ HB1.out).mono ?_
      rintro e w2 ⟨rfl, l2⟩
      have HB2 := Lib.hid (HB1.out.trans (l2.mono HB1.out.size))
      clear l2 HB1 HG1 HG2
      go_wp2_with fail
      refine (HM1.out _ HB2.out).mono ?_
      rintro e w3 ⟨v3, rfl, o3, l3⟩
      have HB3 := Lib.hid (HB2.out.trans (l3.mono HB2.out.size))
      have HO3 := Lib.hid (rowz_own o3)
      obtain ⟨a3, c3, rfl, _, _⟩ := ownz_slice o3
      clear o3 l3 HM1
      go_wp2_with fail
      refine (HM2.out _ _ HB3.out HO3.out).mono ?_
      rintro e w4 ⟨v4, rfl, o4, l4⟩
      replace l4 := HB3.out.trans (l4.mono HB3.out.size)
      replace o4 := ownz_base o4 HB3.out.size
      clear HM2
      have HC3 := Lib.hid (keepIf_any w.heap.size v4 zs w4 o4 l4.size)
      obtain ⟨a4, c4, rfl, _, _⟩ := ownz_slice o4
      have HB4 := Lib.hid l4
      clear l4 o4
      go_wp2_with fail
      refine HC3.out.mono ?_
      rintro e w5 ⟨v5, rfl, o5, l5⟩
      have HB5 := Lib.hid (HB4.out.trans (l5.mono HB4.out.size))
      have HO5 := Lib.hid o5
      obtain ⟨a5, c5, rfl, _, _⟩ := ownz_slice o5
      clear l5 o5
      go_wp2_with fail
      go_ret2
      exact ⟨_, ret_vb5 rfl HO.out.symm, by rw [HL.out]; exact HO5.out, HB5.out⟩
theorem rgOk_one (f t : Int) : rgOk [(f, t)] = (serB f && (serB t && decide (f ≤ t))) := by
  by_cases h : 0 ≤ f ∧ f ≤ t ∧ t ≤ 65535
  · have hc : rgCh [(f, t)] := rgCh_cons.2 ⟨by simp, ⟨h.1, h.2.1, h.2.2⟩, rgCh_nil⟩
    rw [rgOk_len hc, serB_yes h.1 (by omega), serB_yes (by omega) h.2.2, decide_eq_true h.2.1]
    rfl
  · have hc : ¬ rgCh [(f, t)] := fun hc => h ((rgCh_cons.1 hc).2.1)
    rw [rgOk_ch hc]
    by_cases hf : 0 ≤ f ∧ f ≤ 65535
    · by_cases ht : 0 ≤ t ∧ t ≤ 65535
      · rw [decide_eq_false (p := f ≤ t) (by omega)]
        simp
      · rw [serB_no ht]
        simp
    · rw [serB_no hf]
      rfl
theorem rem_two (s : List Rg) (f t : Int) : twoOk s [(f, t)] (wiG s [(f, t)]) = remOk s f t ∧ twoL s [(f, t)] (wiG s [(f, t)]) = remL s f t := by
  have e : twoOk s [(f, t)] (wiG s [(f, t)]) = remOk s f t := by
    unfold twoOk remOk askOk
    rw [rgOk_one]
    rfl
  refine ⟨e, ?_⟩
  unfold twoL remL
  rw [e]
  rfl
theorem row_one2 (w : World) (f t : Int) : Row (w.alloc (.cells #[.int .i64 f, .int .i64 t] 58)) (.slice (some ⟨w.heap.size, 0, none⟩) 1 1) [(f, t)].length (rgF [(f, t)]) := row_new2 w f t
set_option maxHeartbeats 1000000 in
theorem implRemove_any (v : Value) (s : List Rg) (f t : Int) (w : World) (hrow : Row w v s.length (rgF s)) :
    Calls Try.prog 18 #[v, .int .i64 f, .int .i64 t] w fun e w' => ∃ v', e = .returned (.tuple #[v', .bool (remOk s f t)]) ∧ w'.ownsRow w.heap.size 58 2 v' (remL s f t).length (rgF (remL s f t)) ∧ Below w.heap.size w w' := by
  have hb0 := (Below.refl w.heap.size w).alloc (Nat.le_refl _) (.cells #[.int .i64 f, .int .i64 t] 58)
  have HC := implWithout_any _ _ s [(f, t)] _ (hrow.below hb0 (Nat.le_refl _)) (row_one2 w f t)
  rw [(rem_two s f t).1, (rem_two s f t).2] at HC
  have HC := Lib.hid HC
  have HB := Lib.hid hb0
  obtain ⟨a, cap, rfl, _, _, _⟩ := rg_open hrow
  generalize remOk s f t = ok at HC ⊢
  generalize remL s f t = l at HC ⊢
  clear hb0 hrow
  go_enter Try.func18, Try.ntmps18
  go_wp2_with fail
  refine HC.out.mono ?_
  rintro e w1 ⟨v1, rfl, o1, l1⟩
  have HB1 := Lib.hid (HB.out.trans (l1.mono HB.out.size))
  have HO1 := Lib.hid (ownz_base o1 HB.out.size)
  obtain ⟨a1, c1, rfl, _, _⟩ := ownz_slice o1
  clear o1 l1
  go_wp2_with fail
  go_ret2
  exact ⟨_, rfl, HO1.out, HB1.out⟩
end Go.Proofs.Ytneimcacpbepfaa
