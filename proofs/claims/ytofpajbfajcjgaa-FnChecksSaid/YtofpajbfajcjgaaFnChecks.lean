/-
  The walk of the law FnChecks.
-/
import Derived.Test.YtofpajbfajcjgaaDrawWord2
import Derived.Test.YtofpajbfajcjgaaRHas
import Derived.Test.YtofpajbfajcjgaaRBig
import Derived.Deep.CutRange
namespace Go.Proofs.Ytofpajbfajcjgaa
open Go.RowKit Go.Lib
set_option linter.unusedVariables false

theorem set_facts {zs : List Int} (h : wOk zs = true) (h0 : 0 < zs.length) :
    ∃ (x : Int) (ys : List Int), zs[0]? = some x ∧ (zs.map (Value.int .i64)).set 0 (.int .i64 (65535 - x)) = ys.map (Value.int .i64) ∧ ys.length = zs.length ∧ ys[0]? = some (65535 - x) ∧ 0 ≤ x ∧ x ≤ 65535 ∧ wOk ys = true ∧
      updOk (chkV zs) x (65535 - x) = true ∧ 0 ≤ updV (chkV zs) x (65535 - x) ∧ updV (chkV zs) x (65535 - x) ≤ 65535 ∧ 0 ≤ chkV ys ∧ chkV ys ≤ 65535 ∧ (chkV ys - updV (chkV zs) x (65535 - x)).tmod 65535 = 0 := by
  cases zs with
  | nil => simp at h0
  | cons x tl =>
    obtain ⟨x0, x1⟩ := word_mem (wOk_all h) (List.mem_cons_self ..)
    have hys : ((65535 - x) :: tl).all serB = true := by
      have := wOk_all h
      rw [List.all_cons, Bool.and_eq_true] at this
      rw [List.all_cons, this.2, serB_yes (by omega) (by omega)]; rfl
    have hy : wOk ((65535 - x) :: tl) = true := wOk_yes hys (by have := wOk_len h; simpa using this)
    obtain ⟨s0, s1⟩ := sum_bd (wOk_all h)
    obtain ⟨t0, t1⟩ := sum_bd hys
    have hc : chkV (x :: tl) = 65535 - sumW (x :: tl) := if_pos h
    have hc2 : chkV ((65535 - x) :: tl) = 65535 - sumW ((65535 - x) :: tl) := if_pos hy
    have ho : updOk (chkV (x :: tl)) x (65535 - x) = true := by
      unfold updOk
      rw [hc, serB_yes (by omega) (by omega), serB_yes x0 x1, serB_yes (by omega) (by omega)]; rfl
    have hu : updV (chkV (x :: tl)) x (65535 - x) = 65535 - addW (addW (65535 - chkV (x :: tl)) (65535 - x)) (65535 - x) := if_pos ho
    obtain ⟨a0, a1⟩ := addW_bd (a := 65535 - chkV (x :: tl)) (b := 65535 - x) (by omega) (by omega) (by omega) (by omega)
    obtain ⟨b0, b1⟩ := addW_bd (a := addW (65535 - chkV (x :: tl)) (65535 - x)) (b := 65535 - x) a0 a1 (by omega) (by omega)
    obtain ⟨k, hk⟩ := sum_set (x := x) (y := 65535 - x) (xs := tl) (wOk_all h) (by omega) (by omega)
    refine ⟨x, (65535 - x) :: tl, rfl, rfl, rfl, rfl, x0, x1, hy, ho, by omega, by omega, by omega, by omega, ?_⟩
    rw [hu, hc2, hc, hk]
    simp
theorem ts_left {a b : ByteArray} (h : tsOk a b = true) : tsOk a ⟨#[]⟩ = true ∧ tsOk ⟨#[]⟩ b = true := by
  unfold tsOk at h ⊢
  have := of_decide_eq_true h
  exact ⟨decide_eq_true (by show a.size + 0 ≤ 80; omega), decide_eq_true (by show 0 + b.size ≤ 80; omega)⟩
theorem ts_add {a b : ByteArray} (h : tsOk a b = true) (he : a.size % 2 = 0) : addOk (tsV a ⟨#[]⟩) (tsV ⟨#[]⟩ b) = true ∧ addV (tsV a ⟨#[]⟩) (tsV ⟨#[]⟩ b) = tsV a b := by
  obtain ⟨h1, h2⟩ := ts_left h
  have e1 : tsV a ⟨#[]⟩ = sumW (wrdsOf a) := by
    have : tsV a ⟨#[]⟩ = sumW (wrdsOf (a ++ ⟨#[]⟩)) := if_pos h1
    rw [this]
    exact congrArg (fun x => sumW (wrdsOf x)) ByteArray.append_empty
  have e2 : tsV ⟨#[]⟩ b = sumW (wrdsOf b) := by
    have : tsV ⟨#[]⟩ b = sumW (wrdsOf (⟨#[]⟩ ++ b)) := if_pos h2
    rw [this]
    exact congrArg (fun x => sumW (wrdsOf x)) ByteArray.empty_append
  have e3 : tsV a b = sumW (wrdsOf (a ++ b)) := if_pos h
  obtain ⟨a0, a1⟩ := sum_bd (wrds_all a ((a.size + 1) / 2))
  obtain ⟨b0, b1⟩ := sum_bd (wrds_all b ((b.size + 1) / 2))
  have ho : addOk (tsV a ⟨#[]⟩) (tsV ⟨#[]⟩ b) = true := by
    rw [e1, e2]
    unfold addOk wrdsOf
    rw [serB_yes a0 a1, serB_yes b0 b1]; rfl
  refine ⟨ho, ?_⟩
  have : addV (tsV a ⟨#[]⟩) (tsV ⟨#[]⟩ b) = addW (tsV a ⟨#[]⟩) (tsV ⟨#[]⟩ b) := if_pos ho
  rw [this, e1, e2, e3, wrdsOf_append a b he, sum_append (xs := wrdsOf a) (ys := wrdsOf b) (wrds_all _ _) (wrds_all _ _)]
theorem add_comm (a b : Int) : addV a b = addV b a ∧ addOk a b = addOk b a := by
  have h : addOk a b = addOk b a := by unfold addOk; exact Bool.and_comm _ _
  refine ⟨?_, h⟩
  unfold addV
  rw [h, addW_comm a b]
theorem swp_twice {x : Int} (h : serB x = true) : serB (swpV x) = true ∧ swpV (swpV x) = x := by
  obtain ⟨x0, x1⟩ := serB_bd h
  have e1 : swpV x = swp x := if_pos h
  obtain ⟨y0, y1⟩ := swp_bd x0 x1
  have h2 := serB_yes y0 y1
  refine ⟨by rw [e1]; exact h2, ?_⟩
  rw [e1]
  have : swpV (swp x) = swp (swp x) := if_pos h2
  rw [this, swp_swp x0 x1]
theorem keep_two {W0 W : World} {p q : Addr} {x y : Value} (hx : W0.cell? p = some x) (hp : p.block < W0.heap.size) (hy : W0.cell? q = some y) (hq : q.block < W0.heap.size) (h : Below W0.heap.size W0 W) : W.cell? p = some x ∧ W.cell? q = some y ∧ Below W0.heap.size W0 W :=
  ⟨(h.cell hp).trans hx, (h.cell hq).trans hy, h⟩
theorem below_call {W0 W W1 : World} (h : Below W0.heap.size W0 W) (l : Below W.heap.size W W1) : Below W0.heap.size W0 W1 := h.trans (l.mono h.size)
theorem own_cellr {w : World} {base n c k : Nat} {e : TypeId} {a : Option Addr} {xs : List Int} (h : w.ownsRow base e 1 (.slice a n c) n (xs.map (Value.int .i64))) (hk : k < n) (hx : k < xs.length) :
    ∃ g, a = some ⟨g, 0, none⟩ ∧ w.cell? ⟨g, k, none⟩ = some (.int .i64 xs[k]) := by
  obtain ⟨g, c', e'⟩ := own_form h (by omega)
  injection e' with e1 _ e3
  subst e1; subst e3
  obtain ⟨⟨u, hu, hc⟩, _⟩ := own_facts h hk
  rw [List.getElem?_map, List.getElem?_eq_getElem hx] at hu
  exact ⟨g, rfl, by rw [hc, ← Option.some.inj hu]⟩
theorem get_zero {zs : List Int} {x : Int} (h : zs[0]? = some x) : ∃ h0 : 0 < zs.length, zs[0] = x := by
  obtain ⟨h0, e⟩ := List.getElem?_eq_some_iff.1 h
  exact ⟨h0, e⟩

set_option maxRecDepth 100000 in
set_option maxHeartbeats 4000000 in
theorem fnChecks_walk (w : World) (v0 : Value) (z0 : List Int) (w0 : Row w v0 z0.length (z0.map (Value.int .u8))) (b0 : ∀ z ∈ z0, (Lit.int .u8 z).wf = true) (_hsh : w.ShapedOpen Try.prog) :
    Calls Try.prog 4 #[v0] w fun e w' => e = .returned (.bool true) ∧ Below w.heap.size w w' := by
  obtain ⟨i0, hi, hz0, hz1, hz2⟩ := info_parts infoInt
  have hz : ∀ x ∈ z0, 0 ≤ x ∧ x < 256 := fun x hx => by have := bounds_u8 (b0 x hx); omega
  by_cases hbig : (65536 : Int) < z0.length
  · have HV := Lib.hid (rBig_row v0 _ _ true w0 (decide_eq_true hbig))
    clear w0 b0 hz
    go_enter Try.func4, Try.ntmps4
    go_wp2_with (go_at_call 14; refine (HV.out _).mono ?_; rintro e w' ⟨rfl, rfl⟩)
    go_ret
    exact ⟨rfl, Below.refl _ _⟩
  have HV := Lib.hid (rBig_row v0 _ _ false w0 (decide_eq_false hbig))
  have HR := Lib.hid w0
  have HD1 := Lib.hid (fun w hr => drawUpd_any v0 z0 w hr hz)
  have HD2 := Lib.hid (fun w hr => drawWordCheck_any v0 z0 w hr hz)
  have HD3 := Lib.hid (fun w hr => drawTextSum_any v0 z0 w hr hz)
  have HD4 := Lib.hid (fun w hr => drawWordsOf_any v0 z0 w hr hz)
  have HD5 := Lib.hid (fun w hr => drawAddW_any v0 z0 w hr hz)
  have HD6 := Lib.hid (fun w hr => drawSwap_any v0 z0 w hr hz)
  clear w0 b0 hz hbig
  go_enter Try.func4, Try.ntmps4
  go_wp2_with fail
  refine (HV.out _).mono ?_
  rintro e w' ⟨rfl, rfl⟩
  go_wp2_with fail
  refine (HD1.out _ HR.out).mono ?_
  rintro e W1 ⟨ca, cb, cc, rfl, l1⟩
  have HB1 := Lib.hid l1
  have HI := Lib.hid (fun w => implUpd_any ca cb cc w)
  have HS := Lib.hid (fun w => specUpd_any ca cb cc w)
  generalize updV ca cb cc = uv at HI HS
  generalize updOk ca cb cc = uk at HI HS
  clear l1 HD1 HV
  go_wp2_with fail
  refine (HI.out _).mono ?_
  rintro e W2 ⟨rfl, l2⟩
  have HB2 := Lib.hid (HB1.out.trans (l2.mono HB1.out.size))
  clear l2 HB1
  go_wp2_with fail
  refine (HS.out _).mono ?_
  rintro e w' ⟨rfl, rfl⟩
  clear HI HS
  go_wp2_with fail
  refine (HD2.out _ (HR.out.below HB2.out (Nat.le_refl _))).mono ?_
  rintro e W3 ⟨g, c, zs, rfl, hzl, ol3, l3⟩
  have HB3 := Lib.hid (HB2.out.trans (l3.mono HB2.out.size))
  have HL3 := Lib.hid ol3
  have HC3 := Lib.hid (implChk_any _ zs W3 (row_own ol3))
  have HF := Lib.hid (@set_facts zs)
  generalize chkV zs = ck at HC3 HF
  generalize wOk zs = fine at HC3 HF
  clear l3 ol3 HB2 HD2
  go_wp2_with fail
  refine HC3.out.mono ?_
  rintro e w' ⟨rfl, rfl⟩
  go_upto_region 10 with fail
  obtain ⟨n, hn⟩ : ∃ n, n = zs.length := ⟨_, rfl⟩
  have HN := Lib.hid hn
  rw [← hn] at HL3 hzl ⊢
  clear hn HC3
  go_cut [92] from 83 to 92 (fun b wx => b = .bool (fine && decide (0 < n)) ∧ wx = W3)
  case first => as_aux_lemma =>
    cases fine with
    | false =>
      go_wp2_with fail
      go_meet
      case rel => exact ⟨rfl, rfl⟩
    | true =>
      by_cases h0 : 0 < n
      · have h0' : decide (0 < n) = true := decide_eq_true h0
        have h0i : (0 : Int) < (n : Int) := by omega
        go_wp2_with fail
        go_meet
        case rel => exact ⟨by rw [h0']; rfl, rfl⟩
      · obtain rfl : n = 0 := by omega
        go_wp2_with fail
        go_meet
        case rel => exact ⟨by simp, rfl⟩
  case rest => as_aux_lemma =>
    obtain ⟨rfl, rfl⟩ := hcut
    go_upto_if 92 with fail
    go_cut [] from 3 (fun wx => Hid (Below w.heap.size w wx))
    case first => as_aux_lemma =>
      cases hc : fine && decide (0 < n) with
      | false =>
        go_wp2_with fail
        go_meet
        case rel => exact HB3
      | true =>
        rw [Bool.and_eq_true] at hc
        obtain ⟨rfl, hn0⟩ := hc
        have hn0 : 0 < n := of_decide_eq_true hn0
        obtain ⟨x, ys, hx, hys, hyl, hy0, x0, x1, hyw, huo, up0, up1, cy0, cy1, hmod⟩ := HF.out rfl (by rw [← HN.out]; exact hn0)
        have hgw : g < wc.heap.size := (HL3.out.lt g rfl).2
        go_upto_region 12 with (at_builtin; refine wpList_append_own_at _ rfl _ _ 24 rfl wc.heap.size 3 i0 (.int .i64 0) 1 8 Try.underlying24 hi hz0 hz1 hz2 rfl (by decide) _ 0 [] rfl (own_lit (heap_alloc_new wc _) (Nat.le_refl _)) ⟨g, 0, none⟩ n c (zs.map (Value.int .i64)) rfl (by rw [List.length_map, Nat.mul_one, ← HN.out]) (row_news ((row_own HL3.out).below ((Below.refl wc.heap.size wc).alloc (Nat.le_refl _) _) (Nat.le_refl _))) (one_ints zs) (by unfold maxLen; omega) (by omega) (by simp) ?_; intro v1 w1 hown hgrow hnil hat)
        have hb1 := below_lit hgrow
        rw [Nat.zero_add, List.nil_append] at hown
        obtain ⟨g1, c1, rfl⟩ := own_form hown hn0
        obtain ⟨⟨u1, e1, hcu⟩, hfr, hg1, hg1l⟩ := own_facts hown hn0
        obtain ⟨h0z, hx0⟩ := get_zero hx
        obtain ⟨g', eg, hcx⟩ := own_cellr (own_below HL3.out hb1 (Nat.le_refl _)) hn0 h0z
        obtain rfl : g = g' := by injection eg with eg; injection eg
        rw [hx0] at hcx
        have hs := own_set hown (j := 0) (.int .i64 (65535 - x))
        rw [hys] at hs
        have HS1 := Lib.hid hs.1
        have HS2 := Lib.hid hs.2
        have HX := Lib.hid hx0
        have HY := Lib.hid hy0
        have HYL := Lib.hid hyl
        clear hown hgrow hnil hat hs hx hys hyl hy0 eg e1 hx0 HF
        go_upto_region 13 with fail
        obtain ⟨W0, hW0⟩ : ∃ W, W = w1.setCell ⟨g1, 0, none⟩ (.int .i64 (65535 - x)) := ⟨_, rfl⟩
        rw [← hW0] at HS1 HS2 ⊢
        have hb0 : Below wc.heap.size wc W0 := hb1.trans (gbelow HS2.out hb1.size hg1)
        have HB0 := Lib.hid (HB3.out.trans (hb0.mono HB3.out.size))
        have hgl : g < W0.heap.size := Nat.lt_of_lt_of_le hgw hb0.size
        have hgl1 : g1 < W0.heap.size := Nat.lt_of_lt_of_le hg1l HS2.out.size
        obtain ⟨g2, eg2, hcx0⟩ := own_cellr (own_below HL3.out hb0 (Nat.le_refl _)) hn0 h0z
        obtain rfl : g = g2 := by injection eg2 with eg2; injection eg2
        rw [HX.out] at hcx0
        obtain ⟨h0y, hy0⟩ := get_zero HY.out
        obtain ⟨g3, eg3, hcy0⟩ := own_cellr HS1.out hn0 h0y
        obtain rfl : g1 = g3 := by injection eg3 with eg3; injection eg3
        rw [hy0] at hcy0
        have HCk := Lib.hid (implChk_any _ ys W0 (by rw [HYL.out, ← HN.out]; exact row_own HS1.out))
        rw [hyw] at HCk
        have HU := Lib.hid (fun w => implUpd_any ck x (65535 - x) w)
        rw [huo] at HU
        generalize updV ck x (65535 - x) = up at HU up0 up1 hmod
        generalize chkV ys = cy at HCk cy0 cy1 hmod
        generalize 65535 - x = y at HU hcy0
        have hmod2 : ((cy - up).tmod 65535 != 0) = false := by rw [hmod]; rfl
        have HM := Lib.hid hmod2
        have HX0 := Lib.hid hcx0
        have HY0 := Lib.hid hcy0
        clear hW0 HS2 hcx hcu hfr hb1 hb0 eg2 eg3 hy0 h0y h0z huo hyw hmod hmod2 HY HX hcx0 hcy0 hg1 hg1l hgw
        go_wp2_with fail
        refine HCk.out.mono ?_
        rintro e w' ⟨rfl, rfl⟩
        clear HCk HS1 HYL
        go_upto_region 14 with fail
        go_cut [16, 17] from 107 to 117 (fun a b wx => a = .int .i64 up ∧ b = .bool true ∧ Hid (Below W0.heap.size W0 wx))
        case first => as_aux_lemma =>
          have hcx0 := HX0.out
          have hcy0 := HY0.out
          go_region_held3 (fun w' => w'.cell? ⟨g, 0, none⟩ = some (.int .i64 x) ∧ w'.cell? ⟨g1, 0, none⟩ = some (.int .i64 y) ∧ Below W0.heap.size W0 w')
            ((refine keep_two HX0.out hgl HY0.out hgl1 ?_; repeat (first | assumption | exact Below.refl _ _ | refine Below.drew ?_)))
            (first | (go_at_call 28; refine (HU.out _).mono ?_; rintro e w5 ⟨rfl, l5⟩; have hb5 := below_call (W0 := W0) (by repeat (first | assumption | exact Below.refl _ _ | refine Below.drew ?_)) l5))
          all_goals go_wp2_with fail
          all_goals go_meet
          all_goals
            case rel => exact ⟨rfl, rfl, Lib.hid (by repeat (first | assumption | exact Below.refl _ _ | refine Below.drew ?_))⟩
        case rest => as_aux_lemma =>
          obtain ⟨rfl, rfl, HW⟩ := hcut
          have hm := HM.out
          go_wp2_with fail
          go_meet
          case rel => exact Lib.hid (HB0.out.trans (HW.out.mono HB0.out.size))
    case rest => as_aux_lemma =>
      have HB4 := hcut
      clear hcut HB3 HL3 HF HN hzl
      go_wp2_with fail
      refine (HD3.out _ (HR.out.below HB4.out (Nat.le_refl _))).mono ?_
      rintro e W5 ⟨sa, sb, hsa, hsb, rfl, l5⟩
      have HB5 := Lib.hid (HB4.out.trans (l5.mono HB4.out.size))
      have HI := Lib.hid (fun w => implTs_any sa sb w (by omega) (by omega))
      have HS := Lib.hid (fun w => specTs_any sa sb w (by omega) (by omega))
      have HIa := Lib.hid (fun w => implTs_any sa ⟨#[]⟩ w (by omega) (by show (0 : Nat) ≤ _; omega))
      have HIb := Lib.hid (fun w => implTs_any ⟨#[]⟩ sb w (by show (0 : Nat) ≤ _; omega) (by omega))
      have HL := Lib.hid (@ts_left sa sb)
      have HA := Lib.hid (@ts_add sa sb)
      generalize tsV sa sb = tv at HI HS HA
      generalize tsOk sa sb = tk at HI HS HA HL
      clear l5 HB4 HD3
      go_wp2_with fail
      refine (HI.out _).mono ?_
      rintro e W6 ⟨rfl, l6⟩
      have HB6 := Lib.hid (HB5.out.trans (l6.mono HB5.out.size))
      clear l6 HB5 HI
      go_wp2_with fail
      refine (HS.out _).mono ?_
      rintro e W7 ⟨rfl, l7⟩
      have HB7 := Lib.hid (HB6.out.trans (l7.mono HB6.out.size))
      clear l7 HB6 HS
      go_upto_region 22 with fail
      go_cut [162] from 156 to 162 (fun b wx => b = .bool (tk && decide (sa.size % 2 = 0)) ∧ wx = W7)
      case first => as_aux_lemma =>
        cases tk with
        | false =>
          go_wp2_with fail
          go_meet
          case rel => exact ⟨rfl, rfl⟩
        | true =>
          by_cases h0 : sa.size % 2 = 0
          · have h0' : decide (sa.size % 2 = 0) = true := decide_eq_true h0
            have h0i : (((sa.size : Int) % 2 == 0) : Bool) = true := by simp; omega
            go_wp2_with fail
            go_meet
            case rel => exact ⟨by rw [h0']; rfl, rfl⟩
          · have h0' : decide (sa.size % 2 = 0) = false := decide_eq_false h0
            have h0i : (((sa.size : Int) % 2 == 0) : Bool) = false := by simp; omega
            go_wp2_with fail
            go_meet
            case rel => exact ⟨by rw [h0']; rfl, rfl⟩
      case rest => as_aux_lemma =>
        obtain ⟨rfl, rfl⟩ := hcut
        go_upto_if 162 with fail
        go_cut [] from 3 (fun wx => Hid (Below w.heap.size w wx))
        case first => as_aux_lemma =>
          cases hc : tk && decide (sa.size % 2 = 0) with
          | false =>
            go_wp2_with fail
            go_meet
            case rel => exact HB7
          | true =>
            rw [Bool.and_eq_true] at hc
            obtain ⟨rfl, he⟩ := hc
            have he : sa.size % 2 = 0 := of_decide_eq_true he
            obtain ⟨f1, f2⟩ := HL.out rfl
            obtain ⟨f3, f4⟩ := HA.out rfl he
            rw [f1] at HIa
            rw [f2] at HIb
            generalize tsV sa ⟨#[]⟩ = xa at HIa f3 f4
            generalize tsV ⟨#[]⟩ sb = xb at HIb f3 f4
            have HJ := Lib.hid (fun w => implAddW_any xa xb w)
            rw [f3, f4] at HJ
            clear f1 f2 f3 f4 HL HA he
            go_wp2_with fail
            refine (HIa.out _).mono ?_
            rintro e W8 ⟨rfl, l8⟩
            have HB8 := Lib.hid (HB7.out.trans (l8.mono HB7.out.size))
            clear l8
            go_wp2_with fail
            refine (HIb.out _).mono ?_
            rintro e W9 ⟨rfl, l9⟩
            have HB9 := Lib.hid (HB8.out.trans (l9.mono HB8.out.size))
            clear l9
            go_wp2_with fail
            refine (HJ.out _).mono ?_
            rintro e W10 ⟨rfl, l10⟩
            have HB10 := Lib.hid (HB9.out.trans (l10.mono HB9.out.size))
            clear l10
            go_wp2_with fail
            go_meet
            case rel => exact HB10
        case rest => as_aux_lemma =>
          have HB11 := hcut
          clear hcut HB7 HIa HIb HL HA
          go_wp2_with fail
          refine (HD4.out _ (HR.out.below HB11.out (Nat.le_refl _))).mono ?_
          rintro e W12 ⟨st, hst, rfl, l12⟩
          have HB12 := Lib.hid (HB11.out.trans (l12.mono HB11.out.size))
          have HI := Lib.hid (fun w => implWo_any st w (by omega))
          have HS := Lib.hid (fun w => specWo_any st w (by omega))
          have hlen : woOk st = true → (woL st).length = (st.size + 1) / 2 := fun h => by rw [woL_yes h]; unfold wrdsOf; rw [wrds_len]
          generalize woL st = ps at HI HS hlen
          generalize woOk st = ok at HI HS hlen
          clear l12 HB11 HD4
          go_wp2_with fail
          refine (HI.out _).mono ?_
          rintro e W13 ⟨vg, rfl, og, l13⟩
          have HB13 := Lib.hid (HB12.out.trans (l13.mono HB12.out.size))
          have HG13 := Lib.hid og
          clear l13 og HB12 HI
          go_wp2_with fail
          refine (HS.out _).mono ?_
          rintro e W14 ⟨vs, rfl, os, l14⟩
          have HB14 := Lib.hid (HB13.out.trans (l14.mono HB13.out.size))
          have HG14 := Lib.hid (own_below HG13.out l14 (Nat.le_refl _))
          have HO14 := Lib.hid os
          clear l14 os HB13 HG13 HS
          obtain ⟨pa, pc, rfl⟩ := own_slice_r HG14.out
          have hl2 : ok = true → ((ps.length : Int) != ((st.size : Int) + 1) / 2) = false := fun h => by
            have := hlen h
            simp
            omega
          have hl0 := hl2
          go_upto_region 31 with fail
          go_cut [226] from 206 to 226 (fun b wx => b = .bool false ∧ Hid (Below w.heap.size w wx))
          case first => as_aux_lemma =>
            cases ok
            all_goals
              first
                | (have hl3 := hl2 rfl; clear hl2 hl0 hlen)
                | clear hl2 hl0 hlen
              go_wp2_with fail
              refine (rInts_any _ _ ps ps _ (row_own HG14.out) (row_own HO14.out)).mono ?_
              rintro e W15 ⟨rfl, k15, hw15⟩
              have l15 : Below W14.heap.size W14 W15 := by rw [hw15]; exact bdrew _ _
              have HB15 := Lib.hid (HB14.out.trans (l15.mono HB14.out.size))
              clear l15 hw15 HB14 HG14 HO14
              go_wp2_with fail
              go_meet
              case rel => exact ⟨rfl, HB15⟩
          case rest => as_aux_lemma =>
            obtain ⟨rfl, HB15⟩ := hcut
            clear HB14 HG14 HO14 hl0 hl2 hlen
            go_wp2_with fail
            refine (HD5.out _ (HR.out.below HB15.out (Nat.le_refl _))).mono ?_
            rintro e W16 ⟨a, b, rfl, l16⟩
            have HB16 := Lib.hid (HB15.out.trans (l16.mono HB15.out.size))
            have HI := Lib.hid (fun w => implAddW_any a b w)
            have HI2 := Lib.hid (fun w => implAddW_any b a w)
            have HS := Lib.hid (fun w => specAddW_any a b w)
            rw [(add_comm b a).1, (add_comm b a).2] at HI2
            generalize addV a b = av at HI HI2 HS
            generalize addOk a b = ak at HI HI2 HS
            clear l16 HB15 HD5
            go_wp2_with fail
            refine (HI.out _).mono ?_
            rintro e W17 ⟨rfl, l17⟩
            have HB17 := Lib.hid (HB16.out.trans (l17.mono HB16.out.size))
            clear l17 HB16
            go_wp2_with fail
            refine (HI2.out _).mono ?_
            rintro e W18 ⟨rfl, l18⟩
            have HB18 := Lib.hid (HB17.out.trans (l18.mono HB17.out.size))
            clear l18 HB17
            go_wp2_with fail
            refine (HS.out _).mono ?_
            rintro e w' ⟨rfl, rfl⟩
            clear HI HI2 HS
            go_wp2_with fail
            refine (HD6.out _ (HR.out.below HB18.out (Nat.le_refl _))).mono ?_
            rintro e W19 ⟨x, rfl, l19⟩
            have HB19 := Lib.hid (HB18.out.trans (l19.mono HB18.out.size))
            have HI := Lib.hid (fun w => implSwap_any x w)
            have HI2 := Lib.hid (fun w => implSwap_any (swpV x) w)
            have HS := Lib.hid (fun w => specSwap_any x w)
            have hf := @swp_twice x
            generalize swpV (swpV x) = y2 at HI2 hf
            generalize serB (swpV x) = k2 at HI2 hf
            generalize swpV x = y1 at HI HI2 HS
            generalize serB x = k1 at HI HS hf
            clear l19 HB18 HD6
            go_wp2_with fail
            refine (HI.out _).mono ?_
            rintro e W20 ⟨rfl, l20⟩
            have HB20 := Lib.hid (HB19.out.trans (l20.mono HB19.out.size))
            clear l20 HB19
            go_wp2_with fail
            refine (HI2.out _).mono ?_
            rintro e W21 ⟨rfl, l21⟩
            have HB21 := Lib.hid (HB20.out.trans (l21.mono HB20.out.size))
            clear l21 HB20
            go_wp2_with fail
            refine (HS.out _).mono ?_
            rintro e w' ⟨rfl, rfl⟩
            clear HI HI2 HS
            cases k1 with
            | false =>
              clear hf
              go_wp2_with fail
              go_ret
              exact ⟨rfl, HB21.out⟩
            | true =>
              obtain ⟨rfl, rfl⟩ := hf rfl
              go_wp2_with fail
              go_ret
              exact ⟨rfl, HB21.out⟩
end Go.Proofs.Ytofpajbfajcjgaa
