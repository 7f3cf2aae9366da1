/-
  Receive windows: items that are taken (the specification's l10Take).
-/
import Derived.Test.YtpmjdppipalfcaaRcv4
import Derived.Test.YtpmjdppipalfcaaRcvMath2
import Derived.Deep.QuietTactic
import Derived.BigQuiet
import Derived.IntWalk
import Derived.Deep.CutRange
import Derived.WalkLawsBesides
import Derived.Lib.SmallJoins
import Derived.Deep.RegionHeld3
namespace Go.Proofs.Ytpmjdppipalfcaa
open Go.RowKit Go.Lib Go.Joins
set_option linter.unusedVariables false

/-- The loop of an item that is taken: empty slots are appended. -/
structure TakI (W0 wr : World) (R B : Nat) (x : Int) (q : List Sl) (n : Nat) (aS : Option Addr) (cS : Nat) : Prop where
  bx : Bx wr R #[.int .i64 x, .slice aS n cS] 26
  own : wr.ownsRow B 66 2 (.slice aS n cS) n (slF (q ++ List.replicate (n - q.length) sl0))
  apart : ∀ k, (Value.slice aS n cS).ownBlock = some k → k ≠ R
  bel : Below W0.heap.size W0 wr
theorem tak_step {W0 wr w3 : World} {R B n : Nat} {x : Int} {q : List Sl} {aS a3 : Option Addr} {cS c3 : Nat} {o : Obj} (HI : TakI W0 wr R B x q n aS cS) (hn : q.length ≤ n) (hR : W0.heap.size ≤ R)
    (hown : w3.ownsRow B 66 2 (.slice a3 (n + 1) c3) (n + 1) (slF (q ++ List.replicate (n - q.length) sl0) ++ slC sl0)) (hgr : (wr.alloc o).grownBy w3 (Value.slice aS n cS).ownBlock)
    (hat : (Value.slice a3 (n + 1) c3).ownBlock = (Value.slice aS n cS).ownBlock ∨ (Value.slice a3 (n + 1) c3).ownBlock = some (wr.alloc o).heap.size) (hB : W0.heap.size ≤ B) :
    TakI W0 (w3.setCell ⟨R, 1, none⟩ (.slice a3 (n + 1) c3)) R B x q (n + 1) a3 c3 := by
  have hbx := (HI.bx.alloc o).grown hgr (fun e => HI.apart R e.symm rfl)
  obtain ⟨p1, q1⟩ := hbx.set 1 (.slice a3 (n + 1) c3)
  have hap : ∀ k, (Value.slice a3 (n + 1) c3).ownBlock = some k → k ≠ R := by
    intro k hk
    rcases hat with e | e
    · exact HI.apart k (e.symm.trans hk)
    · rw [e, World.size_alloc] at hk
      have e2 := Option.some.inj hk
      have := HI.bx.lt
      omega
  have hbel : Below W0.heap.size W0 w3 := (HI.bel.alloc HI.bel.size o).grown hgr (by have := HI.bel.size; simp; omega) (fun k hk => Nat.le_trans hB (HI.own.lt k hk).1)
  refine ⟨p1, ?_, hap, hbel.grown q1 hbel.size (fun k hk => by have e2 : R = k := Option.some.inj hk; omega)⟩
  have e : q ++ List.replicate (n + 1 - q.length) sl0 = (q ++ List.replicate (n - q.length) sl0) ++ [sl0] := by
    rw [show n + 1 - q.length = (n - q.length) + 1 by omega, List.replicate_succ', List.append_assoc]
  rw [e, slF_snoc]
  refine hown.kept q1 ?_
  cases hv : (Value.slice a3 (n + 1) c3).ownBlock with
  | none => exact .inl rfl
  | some k => exact .inr (fun e => hap k hv (Option.some.inj e))
set_option maxRecDepth 100000 in
set_option maxHeartbeats 16000000 in
theorem l10Take_any (v : Value) (l : Rw) (w : World) (hrow : Row w v l.q.length (slF l.q)) (n : Int) (s : ByteArray) (hok : takeOk l n s = true) (hfit : Fit v l.q.length) :
    Calls Try.prog 65 #[.agg #[.int .i64 l.x, v], .int .i64 n, .string s] w fun e w' => ∃ v' u', e = .returned (.tuple #[.agg #[.int .i64 (takeW l n s).x, v'], u']) ∧ Row w' v' (takeW l n s).q.length (slF (takeW l n s).q) ∧ w'.ownsRow w.heap.size 9 1 u' (takeE l n s).length ((takeE l n s).map Value.string) ∧ (∀ k, v'.ownBlock = some k → w.heap.size ≤ k) ∧ Below w.heap.size w w' := by
  obtain ⟨i0, hi, hz0, hz1, hz2⟩ := info_parts infoSl
  obtain ⟨x, q⟩ := l
  dsimp only at hrow hfit ⊢
  obtain ⟨a, cap, rfl, hc1, hm1, _⟩ := sl_open hrow
  unfold maxLen at hm1
  have HP := Lib.hid hrow
  have HFit := Lib.hid hfit
  clear hrow hfit
  obtain ⟨hrok, hn, his, hrch⟩ := takeOk_parts hok
  obtain ⟨hxb, hl8, hso, hfb, hlb⟩ := rwOk_iff.1 hrok
  dsimp only at hxb hl8 hso hfb hlb
  have hgk := gapI_bd x n
  have HGp := Lib.hid (fun (W1 : World) => l2Gap_any x n W1 hxb.1 hxb.2 hn.1 hn.2)
  have HBf := Lib.hid (fun (W1 : World) => l2Before_any n x W1 hn.1 hn.2 hxb.1 hxb.2)
  obtain ⟨k, hk⟩ : ∃ k : Nat, gapI x n = (k : Int) := ⟨(gapI x n).toNat, by omega⟩
  have hh : haveB ⟨x, q⟩ n = (befB n x || hasQ q k) := by
    show (befB n x || hasQ q (gapI x n).toNat) = _
    rw [hk]; rfl
  have hpq : putQ ⟨x, q⟩ n s = setQ q k ⟨true, s⟩ := by
    show setQ q (gapI x n).toNat _ = _
    rw [hk]; rfl
  have HK8 : Hid (befB n x = false → k < 8) := Lib.hid (fun h => by unfold reachB at hrch; rw [show befB n x = false from h, Bool.false_or, decide_eq_true_eq] at hrch; dsimp only at hrch; omega)
  have HYes : Hid (haveB ⟨x, q⟩ n = true → takeW ⟨x, q⟩ n s = ⟨x, q⟩ ∧ takeE ⟨x, q⟩ n s = []) := Lib.hid (fun h => ⟨if_pos h, if_pos h⟩)
  have HNo : Hid (haveB ⟨x, q⟩ n = false → takeW ⟨x, q⟩ n s = relW ⟨x, setQ q k ⟨true, s⟩⟩ ∧ takeE ⟨x, q⟩ n s = relE (setQ q k ⟨true, s⟩) ∧ (setQ q k ⟨true, s⟩).length ≤ 1000 ∧ ∀ a ∈ setQ q k ⟨true, s⟩, a.s.size ≤ 8) := Lib.hid (fun h => by
    have h1 := put_items hok h
    have h2 := (put_facts hok h).1
    rw [hpq] at h1 h2
    refine ⟨?_, ?_, by omega, h1⟩
    · unfold takeW; rw [h, hpq]; rfl
    · unfold takeE; rw [h, hpq]; rfl)
  have HH := Lib.hid hh
  rw [hk] at HGp
  generalize befB n x = bf at HBf HK8 HH
  clear hpq hk hgk hok hrch his hrok hso hfb hlb hh
  obtain ⟨W0, R_T, R_A, hW0, hR_T, hR_A, hX_T, hX_A, hB0⟩ := entry2 w #[.int .i64 x, .slice a q.length cap] #[.int .i64 0, .slice none 0 0] 26 26
  have HW0 := Lib.hid hW0
  have HB0 := Lib.hid hB0
  have HR_T := Lib.hid hR_T
  have HX_T := Lib.hid hX_T
  have HR_A := Lib.hid hR_A
  have HX_A := Lib.hid hX_A
  clear hW0 hB0 hR_T hX_T hR_A hX_A
  have c1_T_0 := HX_T.out.at 0 (v := .int .i64 x) rfl
  have c1_T_1 := HX_T.out.at 1 (v := .slice a q.length cap) rfl
  have c2_A_0 := HX_A.out.at 0 (v := .int .i64 0) rfl
  have c2_A_1 := HX_A.out.at 1 (v := .slice none 0 0) rfl
  go_enter Try.func65, Try.ntmps65
  go_upto_region 1 with fail
  rw [← HW0.out, ← HR_A.out, ← HR_T.out]
  go_wp2_with fail
  refine (HGp.out _).mono ?_
  rintro e _ ⟨rfl, rfl⟩
  go_upto_region 2 with fail
  go_cut [9] from 14 to 20 (fun p wx => ∃ X v', p = .pointer (some ⟨X, 0, none⟩) ∧ Hid (Bx wx X #[.int .i64 x, v'] 26) ∧ Hid (wx.ownsRow W0.heap.size 66 2 v' q.length (slF q)) ∧ Hid (∀ k, v'.ownBlock = some k → k ≠ X) ∧ Hid (Below W0.heap.size W0 wx) ∧ Hid (W0.heap.size ≤ X))
  case first => as_aux_lemma =>
    have HK1 := Lib.hid (fun (w' : World) (hb : Below W0.heap.size W0 w') => (show w'.cell? ⟨R_T, 0, none⟩ = some (.int .i64 x) ∧ w'.cell? ⟨R_T, 1, none⟩ = some (.slice a q.length cap) ∧ Below w.heap.size w w' from ⟨(hb.cell (p := ⟨R_T, 0, none⟩) HX_T.out.lt).trans (HX_T.out.at 0 (v := .int .i64 x) rfl), (hb.cell (p := ⟨R_T, 1, none⟩) HX_T.out.lt).trans (HX_T.out.at 1 (v := .slice a q.length cap) rfl), HB0.out.trans (hb.mono HB0.out.size)⟩))
    have HKx := Lib.hid (fun (w' w9 : World) (X : Nat) (hb : Below W0.heap.size W0 w') (hX : W0.heap.size ≤ X) (hg : w'.grownBy w9 (some X)) => (show (w9).cell? ⟨R_T, 0, none⟩ = some (.int .i64 x) ∧ (w9).cell? ⟨R_T, 1, none⟩ = some (.slice a q.length cap) ∧ Below w.heap.size w (w9) from HK1.out w9 (hb.grown hg hb.size (fun k hk => by have e2 : X = k := Option.some.inj hk; omega))))
    have tokA : True := trivial
    go_region_held3 (fun w' => w'.cell? ⟨R_T, 0, none⟩ = some (.int .i64 x) ∧ w'.cell? ⟨R_T, 1, none⟩ = some (.slice a q.length cap) ∧ Below w.heap.size w w')
      ((first | (with_reducible refine HK1.out _ ?_; (repeat (first | with_reducible assumption | with_reducible exact Below.refl _ _ | with_reducible refine Below.drew ?_ | with_reducible refine below_alloc' ?_)); done) | (refine HKx.out _ _ _ hb6 ?_ (hXa.store2 _ _).2; first | exact Nat.le_refl _ | exact hb6.size | omega)))
      (first | (have _t := tokA; refine step_append_fitZ (by rfl) _ _ _ (by rfl) W0.heap.size 66 i0 (.agg #[.bool false, .string ⟨#[]⟩]) 2 24 Try.underlying24 hi hz0 hz1 hz2 rfl (by decide) _ 0 [] (by rfl) (ownz_lit (by first | exact heap_alloc_new _ _ | exact heap_new_drew _ _ | exact heap_first _ _ _ | exact heap_second _ _ _) (by simp)) _ q.length (slF q) (by rfl) HFit.out ((HP.out.below HB0.out (Nat.le_refl _)).below (by repeat (first | with_reducible assumption | with_reducible exact Below.refl _ _ | with_reducible refine Below.drew ?_ | with_reducible refine below_alloc' ?_) : Below W0.heap.size W0 _) (Nat.le_refl _)) (slF_len q) (slF_one q) (by unfold maxLen; omega) (by omega) (below_size' (by repeat (first | with_reducible assumption | with_reducible exact Below.refl _ _ | with_reducible refine Below.drew ?_ | with_reducible refine below_alloc' ?_) : Below W0.heap.size W0 _)) ?_; intro v2 w6 hown2 hgrow2 hat2; obtain ⟨a2, c2, rfl, hcc2, hcm2⟩ := ownz_slice hown2; rw [Nat.zero_add, List.nil_append] at hown2; rw [Nat.zero_add] at hat2; have hb6 : Below W0.heap.size W0 w6 := below_grown (by repeat (first | assumption | exact Below.refl _ _ | refine Below.drew ?_ | refine below_alloc' ?_)) hgrow2 (fun q hq => lit_block (by simp) hq); (first | have hXa : Bx w6 (W0.heap.size + 1) #[.int .i64 0, .slice none 0 0] 26 := Bx.grown (show Bx ((W0.alloc (.cells #[] 66)).alloc (.cells #[.int .i64 0, .slice none 0 0] 26)).drew (W0.heap.size + 1) #[.int .i64 0, .slice none 0 0] 26 from heap_second W0 _ _) hgrow2 (fun e => by have e2 : W0.heap.size + 1 = W0.heap.size := Option.some.inj e; omega) | have hXa : Bx w6 W0.heap.size #[.int .i64 0, .slice none 0 0] 26 := Bx.grown (show Bx ((W0.alloc (.cells #[.int .i64 0, .slice none 0 0] 26)).alloc (.cells #[] 66)).drew W0.heap.size #[.int .i64 0, .slice none 0 0] 26 from heap_first W0 _ _) hgrow2 (fun e => by have e2 : W0.heap.size = W0.heap.size + 1 := Option.some.inj e; omega) | skip); (first | have hNe : ∀ k, (Value.slice a2 q.length c2).ownBlock = some k → k ≠ W0.heap.size + 1 := (fun k h1 h2 => by rcases hat2 with e | e; (have e2 : W0.heap.size = k := Option.some.inj (e.symm.trans h1); omega); (have e2 := Option.some.inj (e.symm.trans h1); simp at e2; omega)) | have hNe : ∀ k, (Value.slice a2 q.length c2).ownBlock = some k → k ≠ W0.heap.size := (fun k h1 h2 => by rcases hat2 with e | e; (have e2 : W0.heap.size + 1 = k := Option.some.inj (e.symm.trans h1); omega); (have e2 := Option.some.inj (e.symm.trans h1); simp at e2; omega)) | skip); clear hat2; (try have y0 := hXa.at 0 (v := .int .i64 0) rfl); (try have y1 := hXa.at 1 (v := .slice none 0 0) rfl); (try have f0 := hXa.free 0); (try have f1 := hXa.free 1); clear tokA _t))
    all_goals go_wp2_with fail
    all_goals go_meet
    all_goals
      case rel => first
        | with_reducible exact ⟨_, _, rfl, Lib.hid (Bx.new _ _ _), Lib.hid (ownz_none hown2 (World.grownBy_alloc _ _ none)), Lib.hid (fun k h1 h2 => by have := (hown2.lt k h1).2; omega), Lib.hid (below_alloc' hb6), Lib.hid hb6.size⟩
        | exact ⟨_, _, rfl, Lib.hid (hXa.store2 _ _).1, Lib.hid (hown2.kept (hXa.store2 _ _).2 (by
            cases hv : (Value.slice a2 q.length c2).ownBlock with
            | none => exact .inl rfl
            | some k => exact .inr (fun e => hNe k hv (Option.some.inj e)))), Lib.hid hNe, Lib.hid (hb6.grown (hXa.store2 _ _).2 hb6.size (fun k hk => by have e2 := Option.some.inj hk; omega)), Lib.hid (by omega)⟩
  case rest =>
    obtain ⟨R_O, v_O, rfl, HX_O, HO_O, HNE_O, HCut, HG0_O⟩ := hcut
    rename World => W3
    have l3 := HCut.out
    have HCutB := HCut
    clear HCut
    obtain ⟨a_O, c_O, rfl, _, _⟩ := ownz_slice HO_O.out
    have HN_O_T : Hid (R_T < R_O) := Lib.hid (Nat.lt_of_lt_of_le HX_T.out.lt HG0_O.out)
    have HN_O_A : Hid (R_A < R_O) := Lib.hid (Nat.lt_of_lt_of_le HX_A.out.lt HG0_O.out)
    have HG_O : Hid (w.heap.size ≤ R_O) := Lib.hid (Nat.le_trans HB0.out.size HG0_O.out)
    clear c1_T_0 c1_T_1
    clear c2_A_0 c2_A_1
    have HB_4 := Lib.hid (HB0.out.trans (l3.mono HB0.out.size))
    have T_4 := Lib.hid (HX_T.out.below l3 HX_T.out.lt)
    have A_4 := Lib.hid (HX_A.out.below l3 HX_A.out.lt)
    clear l3
    have c5_T_0 := T_4.out.at 0 (v := .int .i64 x) rfl
    have c5_T_1 := T_4.out.at 1 (v := .slice a q.length cap) rfl
    have c6_A_0 := A_4.out.at 0 (v := .int .i64 0) rfl
    have c6_A_1 := A_4.out.at 1 (v := .slice none 0 0) rfl
    have c7_O_0 := HX_O.out.at 0 (v := .int .i64 x) rfl
    have c7_O_1 := HX_O.out.at 1 (v := .slice a_O q.length c_O) rfl
    have hsl0 : (q ++ List.replicate (q.length - q.length) sl0) = q := by rw [Nat.sub_self]; exact List.append_nil q
    have HI0 : Hid (TakI W0 W3 R_O W0.heap.size x q q.length a_O c_O) := Lib.hid ⟨HX_O.out, by rw [hsl0]; exact HO_O.out, HNE_O.out, HCutB.out⟩
    clear hsl0
    cases bf with
    | true =>
      have hE := HYes.out (by rw [HH.out]; first | rfl | (rw [hhq]; rfl))
      obtain ⟨e1, e2⟩ := hE
      have HE1 := Lib.hid e1
      have HE2 := Lib.hid e2
      clear e1 e2
      go_wp2_with fail
      refine (HBf.out _).mono ?_
      rintro e _ ⟨rfl, rfl⟩
      go_upto_region 4 with fail
      have hAl := A_4.out.alloc (.cells #[] 9)
      have z0 := hAl.at 0 (v := .int .i64 0) rfl
      have y0 := hAl.free 0
      have z1 := hAl.at 1 (v := .slice none 0 0) rfl
      have y1 := hAl.free 1
      have HAl := Lib.hid hAl
      clear hAl
      have hOl := HX_O.out.alloc (.cells #[] 9)
      have t0 := hOl.at 0 (v := .int .i64 x) rfl
      have t1 := hOl.at 1 (v := .slice a_O q.length c_O) rfl
      clear hOl
      go_wp2_with fail
      obtain ⟨p1, q1⟩ := HAl.out.store2 (.int .i64 x) (.slice a_O q.length c_O)
      have hB9 := HB_4.out.alloc HB_4.out.size (.cells #[] 9)
      refine bodyPost_ret (results_bx1 rfl isRw _ _ R_A rfl rfl rfl p1) rfl ?_
      rw [HE1.out, HE2.out]
      exact ⟨_, _, rfl, row_kept ((rowz_own HO_O.out).below ((Below.refl _ _).alloc (Nat.le_refl _) _) (Nat.le_refl _)) q1 (fun k hk e => by have e2 : R_A = k := Option.some.inj e; have h1 := (HO_O.out.lt k hk).1; have h2 := HX_A.out.lt; omega), (own_lit (heap_alloc_new W3 (.cells #[] 9)) HB_4.out.size).kept q1 (.inr (fun e => by have e2 : W3.heap.size = R_A := Option.some.inj e; have h1 := A_4.out.lt; omega)), (fun k hk => Nat.le_trans HB0.out.size (HO_O.out.lt k hk).1), hB9.grown q1 hB9.size (fun k hk => by have e2 : R_A = k := Option.some.inj hk; have := HR_A.out; omega)⟩
    | false =>
      have hk8 := HK8.out rfl
      by_cases hkn : k < q.length
      · have hkn2 : (k : Int) < (q.length : Int) := by omega
        obtain ⟨b, off, rfl, hb, d0, _⟩ := row_sl HP.out hkn
        have e0 := (HB_4.out.cell (p := ⟨b, off + k * 2, none⟩) hb).trans d0
        have hq1 : hasQ q k = q[k].h := by unfold hasQ; rw [List.getElem?_eq_getElem hkn]
        generalize q[k].h = hv at e0 hq1
        clear d0
        have i31 : (0 : Int) ≤ (k : Int) := by omega
        clear c5_T_0 c5_T_1
        clear c6_A_0 c6_A_1
        clear c7_O_0 c7_O_1
        have c8_T_0 := T_4.out.at 0 (v := .int .i64 x) rfl
        have c8_T_1 := T_4.out.at 1 (v := .slice (some ⟨b, off, none⟩) q.length cap) rfl
        have c9_A_0 := A_4.out.at 0 (v := .int .i64 0) rfl
        have c9_A_1 := A_4.out.at 1 (v := .slice none 0 0) rfl
        have c10_O_0 := HX_O.out.at 0 (v := .int .i64 x) rfl
        have c10_O_1 := HX_O.out.at 1 (v := .slice a_O q.length c_O) rfl
        cases hv with
        | true =>
          have hhq := hq1
          have hE := HYes.out (by rw [HH.out]; first | rfl | (rw [hhq]; rfl))
          obtain ⟨e1, e2⟩ := hE
          have HE1 := Lib.hid e1
          have HE2 := Lib.hid e2
          clear e1 e2
          go_wp2_with fail
          refine (HBf.out _).mono ?_
          rintro e _ ⟨rfl, rfl⟩
          go_upto_region 4 with fail
          have hAl := A_4.out.alloc (.cells #[] 9)
          have z0 := hAl.at 0 (v := .int .i64 0) rfl
          have y0 := hAl.free 0
          have z1 := hAl.at 1 (v := .slice none 0 0) rfl
          have y1 := hAl.free 1
          have HAl := Lib.hid hAl
          clear hAl
          have hOl := HX_O.out.alloc (.cells #[] 9)
          have t0 := hOl.at 0 (v := .int .i64 x) rfl
          have t1 := hOl.at 1 (v := .slice a_O q.length c_O) rfl
          clear hOl
          go_wp2_with fail
          obtain ⟨p1, q1⟩ := HAl.out.store2 (.int .i64 x) (.slice a_O q.length c_O)
          have hB9 := HB_4.out.alloc HB_4.out.size (.cells #[] 9)
          refine bodyPost_ret (results_bx1 rfl isRw _ _ R_A rfl rfl rfl p1) rfl ?_
          rw [HE1.out, HE2.out]
          exact ⟨_, _, rfl, row_kept ((rowz_own HO_O.out).below ((Below.refl _ _).alloc (Nat.le_refl _) _) (Nat.le_refl _)) q1 (fun k hk e => by have e2 : R_A = k := Option.some.inj e; have h1 := (HO_O.out.lt k hk).1; have h2 := HX_A.out.lt; omega), (own_lit (heap_alloc_new W3 (.cells #[] 9)) HB_4.out.size).kept q1 (.inr (fun e => by have e2 : W3.heap.size = R_A := Option.some.inj e; have h1 := A_4.out.lt; omega)), (fun k hk => Nat.le_trans HB0.out.size (HO_O.out.lt k hk).1), hB9.grown q1 hB9.size (fun k hk => by have e2 : R_A = k := Option.some.inj hk; have := HR_A.out; omega)⟩
        | false =>
          have hhq := hq1
          go_wp2_with fail
          refine (HBf.out _).mono ?_
          rintro e _ ⟨rfl, rfl⟩
          go_wp2_with fail
          go_loopw [] (fun wr => ∃ (n1 : Nat) (aS : Option Addr) (cS : Nat), q.length ≤ n1 ∧ (n1 = q.length ∨ n1 ≤ k + 1) ∧ Hid (TakI W0 wr R_O W0.heap.size x q n1 aS cS)) (fun wr => q.length + k + 1 - sLen ((wr.cell? ⟨R_O, 1, none⟩).getD undef))
          case atStart => exact ⟨q.length, a_O, c_O, Nat.le_refl _, .inl rfl, HI0⟩
          case round =>
            obtain ⟨n1, aS, cS, hq1, hq2, HI⟩ := hrel
            have HBr := Lib.hid (HB0.out.trans (HI.out.bel.mono HB0.out.size))
            have hAr := HX_A.out.below HI.out.bel HX_A.out.lt
            have A_r := Lib.hid hAr
            clear hAr
            have T_r := Lib.hid (HX_T.out.below HI.out.bel HX_T.out.lt)
            have HXo := Lib.hid HI.out.bx
            have hT0 : sLen ((wr.cell? ⟨R_O, 1, none⟩).getD undef) = n1 := by rw [HXo.out.at 1 (v := .slice aS n1 cS) rfl]; rfl
            have HT0 := Lib.hid hT0
            clear hT0
            have HOw := Lib.hid HI.out.own
            have hszr := HI.out.bel.size
            have c11_T_0 := T_r.out.at 0 (v := .int .i64 x) rfl
            have c11_T_1 := T_r.out.at 1 (v := .slice (some ⟨b, off, none⟩) q.length cap) rfl
            have c12_A_0 := A_r.out.at 0 (v := .int .i64 0) rfl
            have c12_A_1 := A_r.out.at 1 (v := .slice none 0 0) rfl
            have c13_O_0 := HXo.out.at 0 (v := .int .i64 x) rfl
            have c13_O_1 := HXo.out.at 1 (v := .slice aS n1 cS) rfl
            by_cases hnk : n1 ≤ k
            · omega
            · have hnk2 : ¬ (n1 : Int) ≤ (k : Int) := by omega
              have hP : (q ++ List.replicate (n1 - q.length) sl0).set k ⟨true, s⟩ = setQ q k ⟨true, s⟩ := by unfold setQ; rw [show n1 - q.length = k + 1 - q.length by omega]
              have hPl : (q ++ List.replicate (n1 - q.length) sl0).length = n1 := by rw [List.length_append, List.length_replicate]; omega
              have hSl : (setQ q k ⟨true, s⟩).length = n1 := by rw [← hP, List.length_set]; exact hPl
              have HPs := Lib.hid hP
              have HSl := Lib.hid hSl
              have HPl := Lib.hid hPl
              clear hP hSl hPl
              obtain ⟨g1, cap1, e1⟩ := ownz_form HOw.out (by omega)
              injection e1 with e1 _ e3
              subst e1 e3
              obtain ⟨t, ht⟩ : ∃ t, (q ++ List.replicate (n1 - q.length) sl0)[k]? = some t := ⟨_, List.getElem?_eq_getElem (by rw [HPl.out]; omega)⟩
              obtain ⟨d0, d1, f0, f1, _⟩ := ownSl_facts HOw.out ht
              clear ht
              generalize t.h = th at d0
              generalize t.s = ts at d1
              have i1 : (k : Int) < (n1 : Int) := by omega
              have i3 : (0 : Int) ≤ (k : Int) := by omega
              have hgO := HI.out.apart g1 rfl
              have HgO := Lib.hid hgO
              clear hgO
              clear c11_T_0 c11_T_1
              clear c12_A_0 c12_A_1
              clear c13_O_0 c13_O_1
              have c14_T_0 := T_r.out.at 0 (v := .int .i64 x) rfl
              have c14_T_1 := T_r.out.at 1 (v := .slice (some ⟨b, off, none⟩) q.length cap) rfl
              have c15_A_0 := A_r.out.at 0 (v := .int .i64 0) rfl
              have c15_A_1 := A_r.out.at 1 (v := .slice none 0 0) rfl
              have c16_O_0 := HXo.out.at 0 (v := .int .i64 x) rfl
              have c16_O_1 := HXo.out.at 1 (v := .slice (some ⟨g1, 0, none⟩) n1 cS) rfl
              go_upto_region 8 with fail
              obtain ⟨pS, qS⟩ := ownSl_set HOw.out ⟨true, s⟩ (k := k) (by rw [HPl.out]; omega)
              rw [HPs.out] at pS
              dsimp only at pS qS
              have HOs := Lib.hid pS
              have HqS := Lib.hid qS
              clear pS qS d0 d1 f0 f1
              obtain ⟨WS, hWS⟩ : ∃ W9, W9 = (wr.setCell ⟨g1, k * 2, none⟩ (.bool true)).setCell ⟨g1, k * 2 + 1, none⟩ (.string s) := ⟨_, rfl⟩
              rw [← hWS] at HOs HqS ⊢
              clear hWS
              clear c14_T_0 c14_T_1
              clear c15_A_0 c15_A_1
              clear c16_O_0 c16_O_1
              have hg1 := (HOs.out.lt g1 rfl).1
              have HB_s := Lib.hid (HBr.out.grown HqS.out HBr.out.size (fun k hk => by have e2 : g1 = k := Option.some.inj hk; have h2 := HB0.out.size; omega))
              have O_s := Lib.hid (HXo.out.grown HqS.out (fun e => HgO.out (Option.some.inj e).symm))
              have A_s := Lib.hid (A_r.out.grown HqS.out (fun e => by have e2 : R_A = g1 := Option.some.inj e; have h3 := HX_A.out.lt; omega))
              clear HqS HXo A_r hg1 T_r
              have c17_A_0 := A_s.out.at 0 (v := .int .i64 0) rfl
              have c17_A_1 := A_s.out.at 1 (v := .slice none 0 0) rfl
              have c18_O_0 := O_s.out.at 0 (v := .int .i64 x) rfl
              have c18_O_1 := O_s.out.at 1 (v := .slice (some ⟨g1, 0, none⟩) n1 cS) rfl
              obtain ⟨e1, e2, e3, e4⟩ := HNo.out (by rw [HH.out]; first | rfl | (rw [hhq]; rfl))
              have HE1 := Lib.hid e1
              have HE2 := Lib.hid e2
              clear e1 e2
              have HRl := Lib.hid (fun (v' : Value) (W1 : World) (hr : Row W1 v' (setQ q k ⟨true, s⟩).length (slF (setQ q k ⟨true, s⟩))) (hf : Fit v' (setQ q k ⟨true, s⟩).length) => l10Release_any v' ⟨x, setQ q k ⟨true, s⟩⟩ W1 hr hf hxb e3 e4)
              dsimp only at HRl
              rw [HSl.out] at HRl
              generalize setQ q k ⟨true, s⟩ = pq at HRl HOs HE1 HE2
              clear e3 e4 HPl
              generalize relE pq = wl at HRl HE2
              generalize relW ⟨x, pq⟩ = wv at HRl HE1
              obtain ⟨xx, qq⟩ := wv
              dsimp only at HRl
              go_wp2_with fail
              refine (HRl.out _ _ (rowz_own HOs.out) (fit_own HOs.out)).mono ?_
              rintro e W19 ⟨v_m, u_m, rfl, r_m, o_u, nb, l19⟩
              obtain ⟨a_m, c_m, rfl, _, _, _⟩ := sl_open r_m
              obtain ⟨a_u, c_u, rfl, _, _⟩ := ownz_slice o_u
              have R_m := Lib.hid r_m
              have O_u := Lib.hid (ownz_base o_u HB_s.out.size)
              have NB : Hid (∀ k, (.slice a_m qq.length c_m : Value).ownBlock = some k → w.heap.size ≤ k) := Lib.hid (fun k h => Nat.le_trans HB_s.out.size (nb k h))
              have BX_A_m : Hid (∀ k, (.slice a_m qq.length c_m : Value).ownBlock = some k → k ≠ R_A) := Lib.hid (fun k h1 h2 => absurd A_s.out.lt (Nat.not_lt.2 (by rw [← h2]; exact nb k h1)))
              have BX_A_u : Hid (∀ k, (.slice a_u wl.length c_u : Value).ownBlock = some k → k ≠ R_A) := Lib.hid (fun k h1 h2 => absurd A_s.out.lt (Nat.not_lt.2 (by rw [← h2]; exact (o_u.lt k h1).1)))
              have BX_O_m : Hid (∀ k, (.slice a_m qq.length c_m : Value).ownBlock = some k → k ≠ R_O) := Lib.hid (fun k h1 h2 => absurd O_s.out.lt (Nat.not_lt.2 (by rw [← h2]; exact nb k h1)))
              have BX_O_u : Hid (∀ k, (.slice a_u wl.length c_u : Value).ownBlock = some k → k ≠ R_O) := Lib.hid (fun k h1 h2 => absurd O_s.out.lt (Nat.not_lt.2 (by rw [← h2]; exact (o_u.lt k h1).1)))
              clear r_m o_u nb
              clear c17_A_0 c17_A_1
              clear c18_O_0 c18_O_1
              have HB_20 := Lib.hid (HB_s.out.trans (l19.mono HB_s.out.size))
              have P_20 := Lib.hid (ownz_below HOs.out l19 (Nat.le_refl _))
              clear HOs
              have A_20 := Lib.hid (A_s.out.below l19 A_s.out.lt)
              clear A_s
              have O_20 := Lib.hid (O_s.out.below l19 O_s.out.lt)
              clear O_s
              clear l19
              have c21_A_0 := A_20.out.at 0 (v := .int .i64 0) rfl
              have c21_A_1 := A_20.out.at 1 (v := .slice none 0 0) rfl
              have c22_O_0 := O_20.out.at 0 (v := .int .i64 x) rfl
              have c22_O_1 := O_20.out.at 1 (v := .slice (some ⟨g1, 0, none⟩) n1 cS) rfl
              clear c22_O_0 c22_O_1
              clear O_20
              have fr23_A_0 := A_20.out.free 0
              have fr23_A_1 := A_20.out.free 1
              go_wp2_with fail
              obtain ⟨p1, q1⟩ := A_20.out.store2 (.int .i64 xx) (.slice a_m qq.length c_m)
              refine bodyPost_ret (results_bx1 rfl isRw _ _ R_A rfl rfl rfl p1) rfl ?_
              rw [HE1.out, HE2.out]
              exact ⟨_, _, rfl, row_kept R_m.out q1 (fun k hk e => BX_A_m.out k hk (Option.some.inj e).symm), (O_u.out.kept q1 (by
                cases hv : (.slice a_u wl.length c_u : Value).ownBlock with
                | none => exact .inl rfl
                | some k => exact .inr (fun e => BX_A_u.out k hv (Option.some.inj e)))), NB.out, (HB_20.out.grown q1 HB_20.out.size (fun k hk => by have e2 : R_A = k := Option.some.inj hk; have := HR_A.out; omega))⟩
      · have hkn2 : ¬ (k : Int) < (q.length : Int) := by omega
        have hhq : hasQ q k = false := by unfold hasQ; rw [List.getElem?_eq_none (by omega)]
        clear c5_T_0 c5_T_1
        clear c6_A_0 c6_A_1
        clear c7_O_0 c7_O_1
        have c24_T_0 := T_4.out.at 0 (v := .int .i64 x) rfl
        have c24_T_1 := T_4.out.at 1 (v := .slice a q.length cap) rfl
        have c25_A_0 := A_4.out.at 0 (v := .int .i64 0) rfl
        have c25_A_1 := A_4.out.at 1 (v := .slice none 0 0) rfl
        have c26_O_0 := HX_O.out.at 0 (v := .int .i64 x) rfl
        have c26_O_1 := HX_O.out.at 1 (v := .slice a_O q.length c_O) rfl
        go_wp2_with fail
        refine (HBf.out _).mono ?_
        rintro e _ ⟨rfl, rfl⟩
        go_wp2_with fail
        go_loopw [] (fun wr => ∃ (n1 : Nat) (aS : Option Addr) (cS : Nat), q.length ≤ n1 ∧ (n1 = q.length ∨ n1 ≤ k + 1) ∧ Hid (TakI W0 wr R_O W0.heap.size x q n1 aS cS)) (fun wr => q.length + k + 1 - sLen ((wr.cell? ⟨R_O, 1, none⟩).getD undef))
        case atStart => exact ⟨q.length, a_O, c_O, Nat.le_refl _, .inl rfl, HI0⟩
        case round =>
          obtain ⟨n1, aS, cS, hq1, hq2, HI⟩ := hrel
          have HBr := Lib.hid (HB0.out.trans (HI.out.bel.mono HB0.out.size))
          have hAr := HX_A.out.below HI.out.bel HX_A.out.lt
          have A_r := Lib.hid hAr
          clear hAr
          have T_r := Lib.hid (HX_T.out.below HI.out.bel HX_T.out.lt)
          have HXo := Lib.hid HI.out.bx
          have hT0 : sLen ((wr.cell? ⟨R_O, 1, none⟩).getD undef) = n1 := by rw [HXo.out.at 1 (v := .slice aS n1 cS) rfl]; rfl
          have HT0 := Lib.hid hT0
          clear hT0
          have HOw := Lib.hid HI.out.own
          have hszr := HI.out.bel.size
          have c27_T_0 := T_r.out.at 0 (v := .int .i64 x) rfl
          have c27_T_1 := T_r.out.at 1 (v := .slice a q.length cap) rfl
          have c28_A_0 := A_r.out.at 0 (v := .int .i64 0) rfl
          have c28_A_1 := A_r.out.at 1 (v := .slice none 0 0) rfl
          have c29_O_0 := HXo.out.at 0 (v := .int .i64 x) rfl
          have c29_O_1 := HXo.out.at 1 (v := .slice aS n1 cS) rfl
          by_cases hnk : n1 ≤ k
          · have hnk2 : (n1 : Int) ≤ (k : Int) := by omega
            have fr30_O_0 := HXo.out.free 0
            have fr30_O_1 := HXo.out.free 1
            go_wp2_with (at_builtin; refine wpList_append_own_at _ rfl _ _ 24 rfl W0.heap.size 66 i0 (.agg #[.bool false, .string ⟨#[]⟩]) 2 24 Try.underlying24 hi hz0 hz1 hz2 rfl (by decide) _ n1 (slF (q ++ List.replicate (n1 - q.length) sl0)) rfl (ownz_none HOw.out (World.grownBy_alloc _ _ none)) ⟨wr.heap.size, 0, none⟩ 1 1 (slC sl0) rfl rfl (row_news (row_litSl (t := sl0) (Bx.new wr _ _))) (slC_one _) (by unfold maxLen; omega) (by omega) (by simp; omega) ?_; intro v3 w3 hown3 hgrow3 hnil3 hat3; obtain ⟨a3, c3, rfl, _, _⟩ := ownz_slice hown3; have hBx := (HXo.out.alloc (.cells #[.bool false, .string ⟨#[]⟩] 66)).grown hgrow3 (fun e => HI.out.apart R_O e.symm rfl); have o0 := hBx.at 0 (v := .int .i64 x) rfl; have o1 := hBx.at 1 (v := .slice aS n1 cS) rfl; have fo0 := hBx.free 0; have fo1 := hBx.free 1; have HSt := Lib.hid (tak_step HI.out hq1 HG0_O.out hown3 hgrow3 hat3 (Nat.le_refl _)); have HBx := Lib.hid hBx; clear hnil3 hown3 hgrow3 hat3 hBx)
            go_roundw
            case rel => exact ⟨n1 + 1, a3, c3, by omega, .inr (by omega), HSt⟩
            case measure =>
              rw [HT0.out, HSt.out.bx.at 1 (v := .slice a3 (n1 + 1) c3) rfl]
              simp [sLen]; omega
          · have hnk2 : ¬ (n1 : Int) ≤ (k : Int) := by omega
            have hP : (q ++ List.replicate (n1 - q.length) sl0).set k ⟨true, s⟩ = setQ q k ⟨true, s⟩ := by unfold setQ; rw [show n1 - q.length = k + 1 - q.length by omega]
            have hPl : (q ++ List.replicate (n1 - q.length) sl0).length = n1 := by rw [List.length_append, List.length_replicate]; omega
            have hSl : (setQ q k ⟨true, s⟩).length = n1 := by rw [← hP, List.length_set]; exact hPl
            have HPs := Lib.hid hP
            have HSl := Lib.hid hSl
            have HPl := Lib.hid hPl
            clear hP hSl hPl
            obtain ⟨g1, cap1, e1⟩ := ownz_form HOw.out (by omega)
            injection e1 with e1 _ e3
            subst e1 e3
            obtain ⟨t, ht⟩ : ∃ t, (q ++ List.replicate (n1 - q.length) sl0)[k]? = some t := ⟨_, List.getElem?_eq_getElem (by rw [HPl.out]; omega)⟩
            obtain ⟨d0, d1, f0, f1, _⟩ := ownSl_facts HOw.out ht
            clear ht
            generalize t.h = th at d0
            generalize t.s = ts at d1
            have i1 : (k : Int) < (n1 : Int) := by omega
            have i3 : (0 : Int) ≤ (k : Int) := by omega
            have hgO := HI.out.apart g1 rfl
            have HgO := Lib.hid hgO
            clear hgO
            clear c27_T_0 c27_T_1
            clear c28_A_0 c28_A_1
            clear c29_O_0 c29_O_1
            have c31_T_0 := T_r.out.at 0 (v := .int .i64 x) rfl
            have c31_T_1 := T_r.out.at 1 (v := .slice a q.length cap) rfl
            have c32_A_0 := A_r.out.at 0 (v := .int .i64 0) rfl
            have c32_A_1 := A_r.out.at 1 (v := .slice none 0 0) rfl
            have c33_O_0 := HXo.out.at 0 (v := .int .i64 x) rfl
            have c33_O_1 := HXo.out.at 1 (v := .slice (some ⟨g1, 0, none⟩) n1 cS) rfl
            go_upto_region 8 with fail
            obtain ⟨pS, qS⟩ := ownSl_set HOw.out ⟨true, s⟩ (k := k) (by rw [HPl.out]; omega)
            rw [HPs.out] at pS
            dsimp only at pS qS
            have HOs := Lib.hid pS
            have HqS := Lib.hid qS
            clear pS qS d0 d1 f0 f1
            obtain ⟨WS, hWS⟩ : ∃ W9, W9 = (wr.setCell ⟨g1, k * 2, none⟩ (.bool true)).setCell ⟨g1, k * 2 + 1, none⟩ (.string s) := ⟨_, rfl⟩
            rw [← hWS] at HOs HqS ⊢
            clear hWS
            clear c31_T_0 c31_T_1
            clear c32_A_0 c32_A_1
            clear c33_O_0 c33_O_1
            have hg1 := (HOs.out.lt g1 rfl).1
            have HB_s := Lib.hid (HBr.out.grown HqS.out HBr.out.size (fun k hk => by have e2 : g1 = k := Option.some.inj hk; have h2 := HB0.out.size; omega))
            have O_s := Lib.hid (HXo.out.grown HqS.out (fun e => HgO.out (Option.some.inj e).symm))
            have A_s := Lib.hid (A_r.out.grown HqS.out (fun e => by have e2 : R_A = g1 := Option.some.inj e; have h3 := HX_A.out.lt; omega))
            clear HqS HXo A_r hg1 T_r
            have c34_A_0 := A_s.out.at 0 (v := .int .i64 0) rfl
            have c34_A_1 := A_s.out.at 1 (v := .slice none 0 0) rfl
            have c35_O_0 := O_s.out.at 0 (v := .int .i64 x) rfl
            have c35_O_1 := O_s.out.at 1 (v := .slice (some ⟨g1, 0, none⟩) n1 cS) rfl
            obtain ⟨e1, e2, e3, e4⟩ := HNo.out (by rw [HH.out]; first | rfl | (rw [hhq]; rfl))
            have HE1 := Lib.hid e1
            have HE2 := Lib.hid e2
            clear e1 e2
            have HRl := Lib.hid (fun (v' : Value) (W1 : World) (hr : Row W1 v' (setQ q k ⟨true, s⟩).length (slF (setQ q k ⟨true, s⟩))) (hf : Fit v' (setQ q k ⟨true, s⟩).length) => l10Release_any v' ⟨x, setQ q k ⟨true, s⟩⟩ W1 hr hf hxb e3 e4)
            dsimp only at HRl
            rw [HSl.out] at HRl
            generalize setQ q k ⟨true, s⟩ = pq at HRl HOs HE1 HE2
            clear e3 e4 HPl
            generalize relE pq = wl at HRl HE2
            generalize relW ⟨x, pq⟩ = wv at HRl HE1
            obtain ⟨xx, qq⟩ := wv
            dsimp only at HRl
            go_wp2_with fail
            refine (HRl.out _ _ (rowz_own HOs.out) (fit_own HOs.out)).mono ?_
            rintro e W36 ⟨v_m, u_m, rfl, r_m, o_u, nb, l36⟩
            obtain ⟨a_m, c_m, rfl, _, _, _⟩ := sl_open r_m
            obtain ⟨a_u, c_u, rfl, _, _⟩ := ownz_slice o_u
            have R_m := Lib.hid r_m
            have O_u := Lib.hid (ownz_base o_u HB_s.out.size)
            have NB : Hid (∀ k, (.slice a_m qq.length c_m : Value).ownBlock = some k → w.heap.size ≤ k) := Lib.hid (fun k h => Nat.le_trans HB_s.out.size (nb k h))
            have BX_A_m : Hid (∀ k, (.slice a_m qq.length c_m : Value).ownBlock = some k → k ≠ R_A) := Lib.hid (fun k h1 h2 => absurd A_s.out.lt (Nat.not_lt.2 (by rw [← h2]; exact nb k h1)))
            have BX_A_u : Hid (∀ k, (.slice a_u wl.length c_u : Value).ownBlock = some k → k ≠ R_A) := Lib.hid (fun k h1 h2 => absurd A_s.out.lt (Nat.not_lt.2 (by rw [← h2]; exact (o_u.lt k h1).1)))
            have BX_O_m : Hid (∀ k, (.slice a_m qq.length c_m : Value).ownBlock = some k → k ≠ R_O) := Lib.hid (fun k h1 h2 => absurd O_s.out.lt (Nat.not_lt.2 (by rw [← h2]; exact nb k h1)))
            have BX_O_u : Hid (∀ k, (.slice a_u wl.length c_u : Value).ownBlock = some k → k ≠ R_O) := Lib.hid (fun k h1 h2 => absurd O_s.out.lt (Nat.not_lt.2 (by rw [← h2]; exact (o_u.lt k h1).1)))
            clear r_m o_u nb
            clear c34_A_0 c34_A_1
            clear c35_O_0 c35_O_1
            have HB_37 := Lib.hid (HB_s.out.trans (l36.mono HB_s.out.size))
            have P_37 := Lib.hid (ownz_below HOs.out l36 (Nat.le_refl _))
            clear HOs
            have A_37 := Lib.hid (A_s.out.below l36 A_s.out.lt)
            clear A_s
            have O_37 := Lib.hid (O_s.out.below l36 O_s.out.lt)
            clear O_s
            clear l36
            have c38_A_0 := A_37.out.at 0 (v := .int .i64 0) rfl
            have c38_A_1 := A_37.out.at 1 (v := .slice none 0 0) rfl
            have c39_O_0 := O_37.out.at 0 (v := .int .i64 x) rfl
            have c39_O_1 := O_37.out.at 1 (v := .slice (some ⟨g1, 0, none⟩) n1 cS) rfl
            clear c39_O_0 c39_O_1
            clear O_37
            have fr40_A_0 := A_37.out.free 0
            have fr40_A_1 := A_37.out.free 1
            go_wp2_with fail
            obtain ⟨p1, q1⟩ := A_37.out.store2 (.int .i64 xx) (.slice a_m qq.length c_m)
            refine bodyPost_ret (results_bx1 rfl isRw _ _ R_A rfl rfl rfl p1) rfl ?_
            rw [HE1.out, HE2.out]
            exact ⟨_, _, rfl, row_kept R_m.out q1 (fun k hk e => BX_A_m.out k hk (Option.some.inj e).symm), (O_u.out.kept q1 (by
              cases hv : (.slice a_u wl.length c_u : Value).ownBlock with
              | none => exact .inl rfl
              | some k => exact .inr (fun e => BX_A_u.out k hv (Option.some.inj e)))), NB.out, (HB_37.out.grown q1 HB_37.out.size (fun k hk => by have e2 : R_A = k := Option.some.inj hk; have := HR_A.out; omega))⟩
end Go.Proofs.Ytpmjdppipalfcaa
