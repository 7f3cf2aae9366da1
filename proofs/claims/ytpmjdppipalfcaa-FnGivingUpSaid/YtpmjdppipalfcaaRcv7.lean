/-
  Receive windows: what is given up (the specification's l10GiveUp).
-/
import Derived.Test.YtpmjdppipalfcaaRcv6
import Derived.Deep.QuietTactic
import Derived.BigQuiet
import Derived.IntWalk
import Derived.Deep.CutRange
import Derived.WalkLawsBesides
import Derived.Lib.SmallJoins
import Derived.Deep.RegionHeld3
namespace Go.Proofs.Ytpmjdppipalfcaa
open Go.RowKit Go.Lib Go.Joins
set_option linter.unusedVariables false

/-- The loop of what is given up: i serials are told. -/
structure GivI (W0 wr : World) (R B : Nat) (x : Int) (q : List Sl) (i : Nat) (aS : Option Addr) (cS : Nat) (u : Value) : Prop where
  bx : Bx wr R #[.int .i64 (aftI x i), .slice aS (q.drop i).length cS] 26
  row : Row wr (.slice aS (q.drop i).length cS) (q.drop i).length (slF (q.drop i))
  fit : Fit (.slice aS (q.drop i).length cS) (q.drop i).length
  apart : ∀ k, (Value.slice aS (q.drop i).length cS).ownBlock = some k → W0.heap.size ≤ k ∧ k ≠ R
  ev : wr.ownsRow B 9 1 u i (((List.range i).map (evtQ q)).map Value.string)
  evA : ∀ k, u.ownBlock = some k → k ≠ R ∧ (Value.slice aS (q.drop i).length cS).ownBlock ≠ some k
  bel : Below W0.heap.size W0 wr
  sz : B ≤ wr.heap.size
theorem giv_alloc {W0 wr : World} {R B i cS : Nat} {x : Int} {q : List Sl} {aS : Option Addr} {u : Value} (HI : GivI W0 wr R B x q i aS cS u) (o : Obj) : GivI W0 (wr.alloc o) R B x q i aS cS u :=
  ⟨HI.bx.alloc o, HI.row.below (b_a (Below.refl _ _) o) (Nat.le_refl _), HI.fit, HI.apart, ownz_none HI.ev (World.grownBy_alloc _ _ none), HI.evA, HI.bel.alloc HI.bel.size o, by have := HI.sz; simp; omega⟩
theorem giv_step {W0 wr w3 : World} {R B i cS cT n9 : Nat} {x xi xj : Int} {q : List Sl} {aS aT : Option Addr} {u v3 : Value} {o : Obj} {y : ByteArray} (HI : GivI W0 wr R B x q i aS cS u) (hxi : xi = aftI x i) (hxj : xj = aftI xi 1) (hx : i ≤ 1000)
    (hy : evtQ q i = y) (hR : W0.heap.size ≤ R) (hB : W0.heap.size ≤ B)
    (hown : w3.ownsRow B 9 1 v3 (i + 1) (((List.range i).map (evtQ q)).map Value.string ++ [.string y])) (hgr : (wr.alloc o).grownBy w3 u.ownBlock)
    (hat : v3.ownBlock = u.ownBlock ∨ v3.ownBlock = some (wr.alloc o).heap.size)
    (hrow : Row w3 (.slice aT (q.drop (i + 1)).length cT) (q.drop (i + 1)).length (slF (q.drop (i + 1)))) (hfit : Fit (.slice aT (q.drop (i + 1)).length cT) (q.drop (i + 1)).length)
    (hap : ∀ k, (Value.slice aT (q.drop (i + 1)).length cT).ownBlock = some k → W0.heap.size ≤ k ∧ k ≠ R ∧ u.ownBlock ≠ some k ∧ k < wr.heap.size) (hn : n9 = (q.drop (i + 1)).length) :
    GivI W0 ((w3.setCell ⟨R, 0, none⟩ (.int .i64 xj)).setCell ⟨R, 1, none⟩ (.slice aT n9 cT)) R B x q (i + 1) aT cT v3 := by
  subst hn
  have hbx := (HI.bx.alloc o).grown hgr (fun e => (HI.evA R e.symm).1 rfl)
  obtain ⟨p1, q1⟩ := hbx.store2 (.int .i64 xj) (.slice aT (q.drop (i + 1)).length cT)
  have hne : ∀ k, v3.ownBlock = some k → k ≠ R ∧ (Value.slice aT (q.drop (i + 1)).length cT).ownBlock ≠ some k := by
    intro k hk
    rcases hat with e | e
    · rw [e] at hk
      exact ⟨(HI.evA k hk).1, fun e2 => (hap k e2).2.2.1 hk⟩
    · rw [e, World.size_alloc] at hk
      have e2 := Option.some.inj hk
      have := HI.bx.lt
      exact ⟨by omega, fun e3 => by have := (hap k e3).2.2.2; omega⟩
  have hbel : Below W0.heap.size W0 w3 := (HI.bel.alloc HI.bel.size o).grown hgr (by have := HI.bel.size; simp; omega) (fun k hk => Nat.le_trans hB (HI.ev.lt k hk).1)
  refine ⟨?_, ?_, hfit, fun k hk => ⟨(hap k hk).1, (hap k hk).2.1⟩, ?_, hne, ?_, ?_⟩
  · rw [show ((i + 1 : Nat) : Int) = (i : Int) + 1 by omega, ← aft_aft x (a := i) (b := 1) (by omega) (by omega), ← hxi, ← hxj]
    exact p1
  · exact row_kept hrow q1 (fun k hk e => (hap k hk).2.1 (Option.some.inj e).symm)
  · rw [List.range_succ, List.map_append, List.map_append]
    refine World.ownsRow.kept ?_ q1 ?_
    · show w3.ownsRow B _ 1 v3 (i + 1) (_ ++ [Value.string (evtQ q i)])
      rw [hy]; exact hown
    · cases hv : v3.ownBlock with
      | none => exact .inl rfl
      | some k => exact .inr (fun e => (hne k hv).1 (Option.some.inj e))
  · exact hbel.grown q1 hbel.size (fun k hk => by
      have e2 : R = k := Option.some.inj hk
      omega)
  · have h1 := hgr.size
    have h2 := q1.size
    have h3 := HI.sz
    simp at h1
    omega
set_option maxRecDepth 100000 in
set_option maxHeartbeats 16000000 in
theorem l10GiveUp_any (v : Value) (l : Rw) (w : World) (hrow : Row w v l.q.length (slF l.q)) (n : Int) (hok : giveOk l n = true) (hfit : Fit v l.q.length) :
    Calls Try.prog 51 #[.agg #[.int .i64 l.x, v], .int .i64 n] w fun e w' => ∃ v' u', e = .returned (.tuple #[.agg #[.int .i64 (giveW l n).x, v'], u']) ∧ Row w' v' (giveW l n).q.length (slF (giveW l n).q) ∧ w'.ownsRow w.heap.size 9 1 u' (giveE l n).length ((giveE l n).map Value.string) ∧ (∀ k, v'.ownBlock = some k → w.heap.size ≤ k) ∧ Below w.heap.size w w' := by
  obtain ⟨i0, hi, hz0, hz1, hz2⟩ := info_parts infoSl
  obtain ⟨i1, hi1, hy0, hy1, hy2⟩ := info_parts infoStr
  obtain ⟨x, q⟩ := l
  dsimp only at hrow hfit ⊢
  obtain ⟨a, cap, rfl, hc1, hm1, _⟩ := sl_open hrow
  unfold maxLen at hm1
  have HP := Lib.hid hrow
  have HFit := Lib.hid hfit
  clear hrow hfit
  obtain ⟨hrok, hn, hN8⟩ := giveOk_parts hok
  obtain ⟨hxb, hl8, hso, hfb, hlb⟩ := rwOk_iff.1 hrok
  dsimp only at hxb hl8 hso hfb hlb
  have hs8 := rw_items hrok
  dsimp only at hs8
  obtain ⟨m, hm⟩ : ∃ m, m = giveN ⟨x, q⟩ n := ⟨_, rfl⟩
  have HMore := Lib.hid (fun (i : Nat) (h : i ≤ m) => (by rw [hm] at h ⊢; exact giv_more hok h : befB (aftI x i) n = decide (i < m)))
  have HE1 : Hid (giveW ⟨x, q⟩ n = relW ⟨aftI x m, q.drop m⟩) := Lib.hid (by rw [hm]; rfl)
  have HE2 : Hid (giveE ⟨x, q⟩ n = (List.range m).map (evtQ q) ++ relE (q.drop m)) := Lib.hid (by rw [hm]; rfl)
  rw [← hm] at hN8
  have HS8 := Lib.hid hs8
  clear hm hok hrok hso hfb hlb hs8
  have HBf := Lib.hid (fun (i : Nat) (W1 : World) => l2Before_any (aftI x i) n W1 (aftI_bd x i).1 (aftI_bd x i).2 hn.1 hn.2)
  have HAf := Lib.hid (fun (i : Nat) (W1 : World) => l2After_any (aftI x i) 1 W1 (aftI_bd x i).1 (aftI_bd x i).2 (by omega) (by omega))
  obtain ⟨W0, R_T, R_A, hW0, hR_T, hR_A, hX_T, hX_A, hB0⟩ := entry2 w #[.int .i64 x, .slice a q.length cap] #[.int .i64 0, .slice none 0 0] 26 26
  have HW0 := Lib.hid hW0
  have HB0 := Lib.hid hB0
  have HR_T := Lib.hid hR_T
  have HX_T := Lib.hid hX_T
  have HR_A := Lib.hid hR_A
  have HX_A := Lib.hid hX_A
  clear hW0 hB0 hR_T hX_T hR_A hX_A
  have c1_T_0 := HX_T.out.at 0 (v := .int .i64 x) rfl
  have c1_T_1 := HX_T.out.at 1 (v := .slice a q.length cap) rfl
  have c2_A_0 := HX_A.out.at 0 (v := .int .i64 0) rfl
  have c2_A_1 := HX_A.out.at 1 (v := .slice none 0 0) rfl
  go_enter Try.func51, Try.ntmps51
  go_upto_region 1 with fail
  rw [← HW0.out, ← HR_A.out, ← HR_T.out]
  go_upto_region 1 with fail
  go_cut [6] from 12 to 18 (fun p wx => ∃ X v', p = .pointer (some ⟨X, 0, none⟩) ∧ Hid (Bx wx X #[.int .i64 x, v'] 26) ∧ Hid (wx.ownsRow W0.heap.size 66 2 v' q.length (slF q)) ∧ Hid (∀ k, v'.ownBlock = some k → k ≠ X) ∧ Hid (Below W0.heap.size W0 wx) ∧ Hid (W0.heap.size ≤ X))
  case first => as_aux_lemma =>
    have HK1 := Lib.hid (fun (w' : World) (hb : Below W0.heap.size W0 w') => (show w'.cell? ⟨R_T, 0, none⟩ = some (.int .i64 x) ∧ w'.cell? ⟨R_T, 1, none⟩ = some (.slice a q.length cap) ∧ Below w.heap.size w w' from ⟨(hb.cell (p := ⟨R_T, 0, none⟩) HX_T.out.lt).trans (HX_T.out.at 0 (v := .int .i64 x) rfl), (hb.cell (p := ⟨R_T, 1, none⟩) HX_T.out.lt).trans (HX_T.out.at 1 (v := .slice a q.length cap) rfl), HB0.out.trans (hb.mono HB0.out.size)⟩))
    have HKx := Lib.hid (fun (w' w9 : World) (X : Nat) (hb : Below W0.heap.size W0 w') (hX : W0.heap.size ≤ X) (hg : w'.grownBy w9 (some X)) => (show (w9).cell? ⟨R_T, 0, none⟩ = some (.int .i64 x) ∧ (w9).cell? ⟨R_T, 1, none⟩ = some (.slice a q.length cap) ∧ Below w.heap.size w (w9) from HK1.out w9 (hb.grown hg hb.size (fun k hk => by have e2 : X = k := Option.some.inj hk; omega))))
    have tokA : True := trivial
    go_region_held3 (fun w' => w'.cell? ⟨R_T, 0, none⟩ = some (.int .i64 x) ∧ w'.cell? ⟨R_T, 1, none⟩ = some (.slice a q.length cap) ∧ Below w.heap.size w w')
      ((first | (with_reducible refine HK1.out _ ?_; (repeat (first | with_reducible assumption | with_reducible exact Below.refl _ _ | with_reducible refine Below.drew ?_ | with_reducible refine below_alloc' ?_)); done) | (refine HKx.out _ _ _ hb6 ?_ (hXa.store2 _ _).2; first | exact Nat.le_refl _ | exact hb6.size | omega)))
      (first | (have _t := tokA; refine step_append_fitZ (by rfl) _ _ _ (by rfl) W0.heap.size 66 i0 (.agg #[.bool false, .string ⟨#[]⟩]) 2 24 Try.underlying24 hi hz0 hz1 hz2 rfl (by decide) _ 0 [] (by rfl) (ownz_lit (by first | exact heap_alloc_new _ _ | exact heap_new_drew _ _ | exact heap_first _ _ _ | exact heap_second _ _ _) (by simp)) _ q.length (slF q) (by rfl) HFit.out ((HP.out.below HB0.out (Nat.le_refl _)).below (by repeat (first | with_reducible assumption | with_reducible exact Below.refl _ _ | with_reducible refine Below.drew ?_ | with_reducible refine below_alloc' ?_) : Below W0.heap.size W0 _) (Nat.le_refl _)) (slF_len q) (slF_one q) (by unfold maxLen; omega) (by omega) (below_size' (by repeat (first | with_reducible assumption | with_reducible exact Below.refl _ _ | with_reducible refine Below.drew ?_ | with_reducible refine below_alloc' ?_) : Below W0.heap.size W0 _)) ?_; intro v2 w6 hown2 hgrow2 hat2; obtain ⟨a2, c2, rfl, hcc2, hcm2⟩ := ownz_slice hown2; rw [Nat.zero_add, List.nil_append] at hown2; rw [Nat.zero_add] at hat2; have hb6 : Below W0.heap.size W0 w6 := below_grown (by repeat (first | assumption | exact Below.refl _ _ | refine Below.drew ?_ | refine below_alloc' ?_)) hgrow2 (fun q hq => lit_block (by simp) hq); (first | have hXa : Bx w6 (W0.heap.size + 1) #[.int .i64 0, .slice none 0 0] 26 := Bx.grown (show Bx ((W0.alloc (.cells #[] 66)).alloc (.cells #[.int .i64 0, .slice none 0 0] 26)).drew (W0.heap.size + 1) #[.int .i64 0, .slice none 0 0] 26 from heap_second W0 _ _) hgrow2 (fun e => by have e2 : W0.heap.size + 1 = W0.heap.size := Option.some.inj e; omega) | have hXa : Bx w6 W0.heap.size #[.int .i64 0, .slice none 0 0] 26 := Bx.grown (show Bx ((W0.alloc (.cells #[.int .i64 0, .slice none 0 0] 26)).alloc (.cells #[] 66)).drew W0.heap.size #[.int .i64 0, .slice none 0 0] 26 from heap_first W0 _ _) hgrow2 (fun e => by have e2 : W0.heap.size = W0.heap.size + 1 := Option.some.inj e; omega) | skip); (first | have hNe : ∀ k, (Value.slice a2 q.length c2).ownBlock = some k → k ≠ W0.heap.size + 1 := (fun k h1 h2 => by rcases hat2 with e | e; (have e2 : W0.heap.size = k := Option.some.inj (e.symm.trans h1); omega); (have e2 := Option.some.inj (e.symm.trans h1); simp at e2; omega)) | have hNe : ∀ k, (Value.slice a2 q.length c2).ownBlock = some k → k ≠ W0.heap.size := (fun k h1 h2 => by rcases hat2 with e | e; (have e2 : W0.heap.size + 1 = k := Option.some.inj (e.symm.trans h1); omega); (have e2 := Option.some.inj (e.symm.trans h1); simp at e2; omega)) | skip); clear hat2; (try have y0 := hXa.at 0 (v := .int .i64 0) rfl); (try have y1 := hXa.at 1 (v := .slice none 0 0) rfl); (try have f0 := hXa.free 0); (try have f1 := hXa.free 1); clear tokA _t))
    all_goals go_wp2_with fail
    all_goals go_meet
    all_goals
      case rel => first
        | with_reducible exact ⟨_, _, rfl, Lib.hid (Bx.new _ _ _), Lib.hid (ownz_none hown2 (World.grownBy_alloc _ _ none)), Lib.hid (fun k h1 h2 => by have := (hown2.lt k h1).2; omega), Lib.hid (below_alloc' hb6), Lib.hid hb6.size⟩
        | exact ⟨_, _, rfl, Lib.hid (hXa.store2 _ _).1, Lib.hid (hown2.kept (hXa.store2 _ _).2 (by
            cases hv : (Value.slice a2 q.length c2).ownBlock with
            | none => exact .inl rfl
            | some k => exact .inr (fun e => hNe k hv (Option.some.inj e)))), Lib.hid hNe, Lib.hid (hb6.grown (hXa.store2 _ _).2 hb6.size (fun k hk => by have e2 := Option.some.inj hk; omega)), Lib.hid (by omega)⟩
  case rest =>
    obtain ⟨R_O, v_O, rfl, HX_O, HO_O, HNE_O, HCut, HG0_O⟩ := hcut
    rename World => W3
    have l3 := HCut.out
    have HCutB := HCut
    clear HCut
    obtain ⟨a_O, c_O, rfl, _, _⟩ := ownz_slice HO_O.out
    have HN_O_T : Hid (R_T < R_O) := Lib.hid (Nat.lt_of_lt_of_le HX_T.out.lt HG0_O.out)
    have HN_O_A : Hid (R_A < R_O) := Lib.hid (Nat.lt_of_lt_of_le HX_A.out.lt HG0_O.out)
    have HG_O : Hid (w.heap.size ≤ R_O) := Lib.hid (Nat.le_trans HB0.out.size HG0_O.out)
    clear c1_T_0 c1_T_1
    clear c2_A_0 c2_A_1
    have HB_4 := Lib.hid (HB0.out.trans (l3.mono HB0.out.size))
    have T_4 := Lib.hid (HX_T.out.below l3 HX_T.out.lt)
    have A_4 := Lib.hid (HX_A.out.below l3 HX_A.out.lt)
    clear l3
    have c5_T_0 := T_4.out.at 0 (v := .int .i64 x) rfl
    have c5_T_1 := T_4.out.at 1 (v := .slice a q.length cap) rfl
    have c6_A_0 := A_4.out.at 0 (v := .int .i64 0) rfl
    have c6_A_1 := A_4.out.at 1 (v := .slice none 0 0) rfl
    have c7_O_0 := HX_O.out.at 0 (v := .int .i64 x) rfl
    have c7_O_1 := HX_O.out.at 1 (v := .slice a_O q.length c_O) rfl
    go_upto_region 3 with fail
    have lL : Below W3.heap.size W3 (W3.alloc (.cells #[] 9)) := (Below.refl _ _).alloc (Nat.le_refl _) _
    have hol := own_lit (heap_alloc_new W3 (.cells #[] 9)) (Nat.le_refl W3.heap.size)
    obtain ⟨WL, hWL⟩ : ∃ W9, W9 = W3.alloc (.cells #[] 9) := ⟨_, rfl⟩
    rw [← hWL] at lL hol ⊢
    clear hWL
    have hr0 := (rowz_own HO_O.out).below lL (Nat.le_refl _)
    have hx0 := HX_O.out.below lL HX_O.out.lt
    have HI0 : Hid (GivI W0 WL R_O W3.heap.size x q 0 a_O c_O (.slice (some ⟨W3.heap.size, 0, none⟩) 0 0)) := Lib.hid (by
      refine ⟨?_, ?_, fit_own HO_O.out, ?_, hol, ?_, ?_, ?_⟩
      · rw [show ((0 : Nat) : Int) = 0 from rfl, aft_zero9 hxb]; exact hx0
      · exact hr0
      · exact fun k hk => ⟨(HO_O.out.lt k hk).1, HNE_O.out k hk⟩
      · intro k hk
        have e : W3.heap.size = k := Option.some.inj hk
        refine ⟨by have := HX_O.out.lt; omega, fun h => ?_⟩
        have := (HO_O.out.lt k h).2
        omega
      · exact HCutB.out.trans (lL.mono HCutB.out.size)
      · exact lL.size)
    clear hol hr0 hx0
    obtain ⟨B5, hB5⟩ : ∃ B5, B5 = W3.heap.size := ⟨_, rfl⟩
    have HB5 := Lib.hid hB5
    rw [← hB5] at HI0 ⊢
    clear hB5
    clear c5_T_0 c5_T_1
    clear c6_A_0 c6_A_1
    clear c7_O_0 c7_O_1
    have HB_8 := Lib.hid (HB_4.out.trans (lL.mono HB_4.out.size))
    have T_8 := Lib.hid (T_4.out.below lL T_4.out.lt)
    clear T_4
    have A_8 := Lib.hid (A_4.out.below lL A_4.out.lt)
    clear A_4
    have O_8 := Lib.hid (HX_O.out.below lL HX_O.out.lt)
    clear HX_O
    clear lL
    have c9_T_0 := T_8.out.at 0 (v := .int .i64 x) rfl
    have c9_T_1 := T_8.out.at 1 (v := .slice a q.length cap) rfl
    have c10_A_0 := A_8.out.at 0 (v := .int .i64 0) rfl
    have c10_A_1 := A_8.out.at 1 (v := .slice none 0 0) rfl
    have c11_O_0 := O_8.out.at 0 (v := .int .i64 x) rfl
    have c11_O_1 := O_8.out.at 1 (v := .slice a_O q.length c_O) rfl
    go_wp2_with fail
    go_loopw [7] (fun u wr => ∃ (i : Nat) (aS : Option Addr) (cS : Nat), sLen u = i ∧ i ≤ m ∧ Hid (GivI W0 wr R_O B5 x q i aS cS u)) (fun u _ => m + 1 - sLen u)
    case atStart => exact ⟨0, a_O, c_O, rfl, Nat.zero_le _, HI0⟩
    case round =>
      clear c9_T_0 c9_T_1
      clear c10_A_0 c10_A_1
      clear c11_O_0 c11_O_1
      obtain ⟨i, aS, cS, hsl, him0, HI⟩ := hrel
      have HSl := Lib.hid hsl
      clear hsl
      have t0 := HI.out.bx.at 0 (v := .int .i64 (aftI x i)) rfl
      have t1 := HI.out.bx.at 1 (v := .slice aS (q.drop i).length cS) rfl
      have HBk := Lib.hid (HBf.out i)
      have hmo := HMore.out i him0
      rw [hmo] at HBk
      clear hmo
      have HAk := Lib.hid (HAf.out i)
      obtain ⟨xi, hxi⟩ : ∃ xi, xi = aftI x i := ⟨_, rfl⟩
      rw [← hxi] at t0 HBk HAk
      have HXi := Lib.hid hxi
      clear hxi
      obtain ⟨xj, hxj⟩ : ∃ xj, xj = aftI xi 1 := ⟨_, rfl⟩
      rw [← hxj] at HAk
      have HXj := Lib.hid hxj
      clear hxj
      have hib : i ≤ 1000 := by omega
      by_cases him : i < m
      · rw [decide_eq_true him] at HBk
        go_wp2_with fail
        refine (HBk.out _).mono ?_
        rintro e _ ⟨rfl, rfl⟩
        obtain ⟨n1, hn1⟩ : ∃ n1, n1 = (q.drop i).length := ⟨_, rfl⟩
        rw [← hn1] at t1
        go_upto_region 6 with fail
        have HI2 := Lib.hid (giv_alloc HI.out (.cells #[] 66))
        have hgl : (wr.alloc (.cells #[] 66)).heap[wr.heap.size]? = some (.cells #[] 66 (0, 0)) := heap_alloc_new wr _
        have hGlt := (Array.getElem?_eq_some_iff.1 hgl).1
        have hu0 : ∀ k, u7.ownBlock = some k → k ≠ wr.heap.size := fun k hk e => by have := (HI.out.ev.lt k hk).2; omega
        have hRg : R_O ≠ wr.heap.size := by have := HI.out.bx.lt; omega
        have hW0g : W0.heap.size ≤ wr.heap.size := HI.out.bel.size
        obtain ⟨G, hG⟩ : ∃ G, G = wr.heap.size := ⟨_, rfl⟩
        obtain ⟨WR, hWR⟩ : ∃ W9, W9 = wr.alloc (.cells #[] 66) := ⟨_, rfl⟩
        rw [← hG] at hgl hGlt hu0 hRg hW0g ⊢
        rw [← hWR] at HI2 hgl hGlt ⊢
        clear hG hWR t0 t1 HI
        have Hgl := Lib.hid hgl
        clear hgl
        have HGlt := Lib.hid hGlt
        clear hGlt
        have Hu0 := Lib.hid hu0
        clear hu0
        have HRg := Lib.hid hRg
        clear hRg
        have HW0g := Lib.hid hW0g
        clear hW0g
        have t0 := HI2.out.bx.at 0 (v := .int .i64 (aftI x i)) rfl
        have t1 := HI2.out.bx.at 1 (v := .slice aS (q.drop i).length cS) rfl
        have ft0 := HI2.out.bx.free 0
        have ft1 := HI2.out.bx.free 1
        rw [← HXi.out] at t0
        have hh := has_drop q i 0
        rw [Nat.add_zero] at hh
        have hit := itm_drop q i 0
        rw [Nat.add_zero] at hit
        have HRow := Lib.hid HI2.out.row
        have hd2 : q.drop (i + 1) = (q.drop i).drop 1 := by rw [List.drop_drop]
        obtain ⟨aU, cU, rfl, _, _⟩ := ownz_slice HI2.out.ev
        rw [← hn1] at t1
        generalize hd : q.drop i = s at hh hit HRow hd2 hn1
        have HD := Lib.hid hd
        clear hd
        cases s with
        | nil =>
          dsimp only [List.length_nil] at hn1
          subst hn1
          have HEv : Hid (evtQ q i = ⟨#[45]⟩) := Lib.hid (by unfold evtQ; rw [if_neg (by rw [← hh]; decide)])
          have HD2 : Hid (q.drop (i + 1) = []) := Lib.hid (by rw [hd2]; rfl)
          clear hh hit hd2 HRow
          have i0' : ¬ (0 : Int) < ((0 : Nat) : Int) := by omega
          go_wp2_with (first | (at_builtin; refine wpList_append_own_at _ rfl _ _ 29 rfl B5 9 i1 (.string ⟨#[]⟩) 1 16 Try.underlying29 hi1 hy0 hy1 hy2 rfl (by decide) _ i (((List.range i).map (evtQ q)).map Value.string) rfl (ownz_none HI2.out.ev (World.grownBy_alloc _ _ none)) ⟨WR.heap.size, 0, none⟩ 1 1 [.string (⟨#[45]⟩)] rfl rfl (cell_one_new _ _ _) (by intro u hu; simp at hu; subst hu; rfl) (by unfold maxLen; omega) (by omega) (by have := HI2.out.sz; simp; omega) ?_; intro v3 w3 hown3 hgrow3 hnil3 hat3; have hBx := (HI2.out.bx.alloc (.cells #[.string (⟨#[45]⟩)] 9)).grown hgrow3 (fun e => (HI2.out.evA R_O e.symm).1 rfl); have o0 := hBx.at 0 (v := .int .i64 (aftI x i)) rfl; have o1 := hBx.at 1 (v := .slice aS (q.drop i).length cS) rfl; have fo0 := hBx.free 0; have fo1 := hBx.free 1; rw [← HXi.out] at o0; obtain ⟨a3, c3, rfl, _, _⟩ := ownz_slice hown3; have HBx := Lib.hid hBx; have HOw := Lib.hid hown3; have HGr := Lib.hid hgrow3; have HAt := Lib.hid hat3; clear hBx hnil3 hown3 hgrow3 hat3) | (go_at_call 59; refine (HAk.out _).mono ?_; rintro e _ ⟨rfl, rfl⟩))
          go_roundw
          case rel => exact ⟨i + 1, some ⟨G, 0, none⟩, 0, rfl, by omega, Lib.hid (giv_step HI2.out HXi.out HXj.out hib HEv.out HG0_O.out (by rw [HB5.out]; exact HCutB.out.size) HOw.out HGr.out HAt.out (by rw [HD2.out]; exact (row_none _ _ _ (by unfold maxLen; omega))) (.inr ⟨_, _, by rw [HD2.out] <;> rfl⟩) (fun k hk => by have e2 : G = k := Option.some.inj hk; rw [← e2]; exact ⟨HW0g.out, fun e => HRg.out e.symm, fun e => Hu0.out G e rfl, HGlt.out⟩) (by rw [HD2.out] <;> rfl))⟩
          case measure => (simp [sLen]; omega)
        | cons t r =>
          obtain ⟨b, off, rfl, hb, e0, e1⟩ := row_sl (k := 0) HRow.out (by simp)
          rw [Nat.zero_mul, Nat.add_zero] at e0 e1
          have hts : (t :: r)[0] = t := rfl
          rw [hts] at e0 e1
          have hH : hasQ (t :: r) 0 = t.h := rfl
          have hI : itmQ (t :: r) 0 = t.s := rfl
          rw [hH] at hh
          rw [hI] at hit
          have hts8 : t.s.size ≤ 8 := HS8.out t (List.mem_of_mem_drop (by rw [HD.out]; exact List.mem_cons_self))
          clear hts hH hI
          obtain ⟨th, ts⟩ := t
          dsimp only at e0 e1 hh hit hts8
          rw [List.length_cons] at hn1
          obtain ⟨hcS, hmS⟩ : n1 ≤ cS ∧ cS ≤ maxLen := by
            obtain ⟨_, c9, e9, k1, k2, _⟩ := sl_open HRow.out
            injection e9 with _ _ e9
            rw [e9, hn1]
            exact ⟨k1, k2⟩
          unfold maxLen at hmS
          have HN1 := Lib.hid hn1
          have hm1' : 1 ≤ n1 := by omega
          clear hn1
          have i1' : (1 : Int) ≤ (n1 : Int) := by omega
          have i2' : (n1 : Int) ≤ (cS : Int) := by omega
          have i3' : (0 : Int) < (n1 : Int) := by omega
          have i8' : (1 : Int) ≤ (cS : Int) := by omega
          have i9' : 1 ≤ cS := by omega
          have HD2 : Hid (q.drop (i + 1) = r) := Lib.hid (by rw [hd2]; rfl)
          clear hd2
          have hbR := (HI2.out.apart b rfl)
          have HbR := Lib.hid hbR
          have HbU : Hid ((Value.slice aU i cU).ownBlock ≠ some b) := Lib.hid (fun e => (HI2.out.evA b e).2 rfl)
          have Hb := Lib.hid hb
          clear hbR hb
          cases th with
          | false =>
            have HEv : Hid (evtQ q i = ⟨#[45]⟩) := Lib.hid (by unfold evtQ; rw [if_neg (by rw [← hh]; decide)])
            clear hh hit
            by_cases hc1 : cS = 1
            · have tk : True := trivial
              go_wp2_with (first | (at_builtin; refine wpList_append_own_at _ rfl _ _ 29 rfl B5 9 i1 (.string ⟨#[]⟩) 1 16 Try.underlying29 hi1 hy0 hy1 hy2 rfl (by decide) _ i (((List.range i).map (evtQ q)).map Value.string) rfl (ownz_none HI2.out.ev (World.grownBy_alloc _ _ none)) ⟨WR.heap.size, 0, none⟩ 1 1 [.string (⟨#[45]⟩)] rfl rfl (cell_one_new _ _ _) (by intro u hu; simp at hu; subst hu; rfl) (by unfold maxLen; omega) (by omega) (by have := HI2.out.sz; simp; omega) ?_; intro v3 w3 hown3 hgrow3 hnil3 hat3; have hBx := (HI2.out.bx.alloc (.cells #[.string (⟨#[45]⟩)] 9)).grown hgrow3 (fun e => (HI2.out.evA R_O e.symm).1 rfl); have o0 := hBx.at 0 (v := .int .i64 (aftI x i)) rfl; have o1 := hBx.at 1 (v := .slice (some ⟨b, off, none⟩) (q.drop i).length cS) rfl; have fo0 := hBx.free 0; have fo1 := hBx.free 1; rw [← HXi.out] at o0; obtain ⟨a3, c3, rfl, _, _⟩ := ownz_slice hown3; have HBx := Lib.hid hBx; have HOw := Lib.hid hown3; have HGr := Lib.hid hgrow3; have HAt := Lib.hid hat3; clear hBx hnil3 hown3 hgrow3 hat3) | (go_at_call 59; refine (HAk.out _).mono ?_; rintro e _ ⟨rfl, rfl⟩))
              go_roundw
              case rel => exact ⟨i + 1, some ⟨b, off, none⟩, 0, rfl, by omega, Lib.hid (giv_step HI2.out HXi.out HXj.out hib HEv.out HG0_O.out (by rw [HB5.out]; exact HCutB.out.size) HOw.out HGr.out HAt.out (by have h := tail_zero (w := w3) (b := b) (off := off) hc1 HN1.out hcS; rw [HD2.out]; rw [show cS - 1 = 0 by omega] at h; rw [show n1 - 1 = r.length by have := HN1.out; omega] at h; exact h) (.inr ⟨_, _, rfl⟩) (fun k hk => by have e2 : b = k := Option.some.inj hk; rw [← e2]; exact ⟨HbR.out.1, HbR.out.2, HbU.out, Hb.out⟩) (by rw [HD2.out]; have := HN1.out; omega))⟩
              case measure => (simp [sLen]; omega)
            · have tk : True := trivial
              go_wp2_with (first | (at_builtin; refine wpList_append_own_at _ rfl _ _ 29 rfl B5 9 i1 (.string ⟨#[]⟩) 1 16 Try.underlying29 hi1 hy0 hy1 hy2 rfl (by decide) _ i (((List.range i).map (evtQ q)).map Value.string) rfl (ownz_none HI2.out.ev (World.grownBy_alloc _ _ none)) ⟨WR.heap.size, 0, none⟩ 1 1 [.string (⟨#[45]⟩)] rfl rfl (cell_one_new _ _ _) (by intro u hu; simp at hu; subst hu; rfl) (by unfold maxLen; omega) (by omega) (by have := HI2.out.sz; simp; omega) ?_; intro v3 w3 hown3 hgrow3 hnil3 hat3; have hBx := (HI2.out.bx.alloc (.cells #[.string (⟨#[45]⟩)] 9)).grown hgrow3 (fun e => (HI2.out.evA R_O e.symm).1 rfl); have o0 := hBx.at 0 (v := .int .i64 (aftI x i)) rfl; have o1 := hBx.at 1 (v := .slice (some ⟨b, off, none⟩) (q.drop i).length cS) rfl; have fo0 := hBx.free 0; have fo1 := hBx.free 1; rw [← HXi.out] at o0; obtain ⟨a3, c3, rfl, _, _⟩ := ownz_slice hown3; have HBx := Lib.hid hBx; have HOw := Lib.hid hown3; have HGr := Lib.hid hgrow3; have HAt := Lib.hid hat3; clear hBx hnil3 hown3 hgrow3 hat3) | (go_at_call 59; refine (HAk.out _).mono ?_; rintro e _ ⟨rfl, rfl⟩))
              go_roundw
              case rel => exact ⟨i + 1, some ⟨b, off + 2, none⟩, cS - 1, rfl, by omega, Lib.hid (giv_step HI2.out HXi.out HXj.out hib HEv.out HG0_O.out (by rw [HB5.out]; exact HCutB.out.size) HOw.out HGr.out HAt.out (by have h := tail_two (row_kept (HRow.out.below (b_a (Below.refl WR.heap.size WR) _) (Nat.le_refl _)) HGr.out (fun k hk e => by have e2 : b = k := Option.some.inj hk; exact HbU.out (by rw [e2]; exact e))) HN1.out; rw [HD2.out]; rw [show n1 - 1 = r.length by have := HN1.out; omega] at h; exact h) (.inr ⟨_, _, rfl⟩) (fun k hk => by have e2 : b = k := Option.some.inj hk; rw [← e2]; exact ⟨HbR.out.1, HbR.out.2, HbU.out, Hb.out⟩) (by rw [HD2.out]; have := HN1.out; omega))⟩
              case measure => (simp [sLen]; omega)
          | true =>
            have HEv : Hid (evtQ q i = ⟨#[43]⟩ ++ ts) := Lib.hid (by unfold evtQ; rw [if_pos hh.symm, hit])
            clear hh hit
            by_cases hc1 : cS = 1
            · have tk : True := trivial
              go_wp2_with (first | (at_builtin; refine wpList_append_own_at _ rfl _ _ 29 rfl B5 9 i1 (.string ⟨#[]⟩) 1 16 Try.underlying29 hi1 hy0 hy1 hy2 rfl (by decide) _ i (((List.range i).map (evtQ q)).map Value.string) rfl (ownz_none HI2.out.ev (World.grownBy_alloc _ _ none)) ⟨WR.heap.size, 0, none⟩ 1 1 [.string (⟨#[43]⟩ ++ ts)] rfl rfl (cell_one_new _ _ _) (by intro u hu; simp at hu; subst hu; rfl) (by unfold maxLen; omega) (by omega) (by have := HI2.out.sz; simp; omega) ?_; intro v3 w3 hown3 hgrow3 hnil3 hat3; have hBx := (HI2.out.bx.alloc (.cells #[.string (⟨#[43]⟩ ++ ts)] 9)).grown hgrow3 (fun e => (HI2.out.evA R_O e.symm).1 rfl); have o0 := hBx.at 0 (v := .int .i64 (aftI x i)) rfl; have o1 := hBx.at 1 (v := .slice (some ⟨b, off, none⟩) (q.drop i).length cS) rfl; have fo0 := hBx.free 0; have fo1 := hBx.free 1; rw [← HXi.out] at o0; obtain ⟨a3, c3, rfl, _, _⟩ := ownz_slice hown3; have HBx := Lib.hid hBx; have HOw := Lib.hid hown3; have HGr := Lib.hid hgrow3; have HAt := Lib.hid hat3; clear hBx hnil3 hown3 hgrow3 hat3) | (go_at_call 59; refine (HAk.out _).mono ?_; rintro e _ ⟨rfl, rfl⟩))
              go_roundw
              case rel => exact ⟨i + 1, some ⟨b, off, none⟩, 0, rfl, by omega, Lib.hid (giv_step HI2.out HXi.out HXj.out hib HEv.out HG0_O.out (by rw [HB5.out]; exact HCutB.out.size) HOw.out HGr.out HAt.out (by have h := tail_zero (w := w3) (b := b) (off := off) hc1 HN1.out hcS; rw [HD2.out]; rw [show cS - 1 = 0 by omega] at h; rw [show n1 - 1 = r.length by have := HN1.out; omega] at h; exact h) (.inr ⟨_, _, rfl⟩) (fun k hk => by have e2 : b = k := Option.some.inj hk; rw [← e2]; exact ⟨HbR.out.1, HbR.out.2, HbU.out, Hb.out⟩) (by rw [HD2.out]; have := HN1.out; omega))⟩
              case measure => (simp [sLen]; omega)
            · have tk : True := trivial
              go_wp2_with (first | (at_builtin; refine wpList_append_own_at _ rfl _ _ 29 rfl B5 9 i1 (.string ⟨#[]⟩) 1 16 Try.underlying29 hi1 hy0 hy1 hy2 rfl (by decide) _ i (((List.range i).map (evtQ q)).map Value.string) rfl (ownz_none HI2.out.ev (World.grownBy_alloc _ _ none)) ⟨WR.heap.size, 0, none⟩ 1 1 [.string (⟨#[43]⟩ ++ ts)] rfl rfl (cell_one_new _ _ _) (by intro u hu; simp at hu; subst hu; rfl) (by unfold maxLen; omega) (by omega) (by have := HI2.out.sz; simp; omega) ?_; intro v3 w3 hown3 hgrow3 hnil3 hat3; have hBx := (HI2.out.bx.alloc (.cells #[.string (⟨#[43]⟩ ++ ts)] 9)).grown hgrow3 (fun e => (HI2.out.evA R_O e.symm).1 rfl); have o0 := hBx.at 0 (v := .int .i64 (aftI x i)) rfl; have o1 := hBx.at 1 (v := .slice (some ⟨b, off, none⟩) (q.drop i).length cS) rfl; have fo0 := hBx.free 0; have fo1 := hBx.free 1; rw [← HXi.out] at o0; obtain ⟨a3, c3, rfl, _, _⟩ := ownz_slice hown3; have HBx := Lib.hid hBx; have HOw := Lib.hid hown3; have HGr := Lib.hid hgrow3; have HAt := Lib.hid hat3; clear hBx hnil3 hown3 hgrow3 hat3) | (go_at_call 59; refine (HAk.out _).mono ?_; rintro e _ ⟨rfl, rfl⟩))
              go_roundw
              case rel => exact ⟨i + 1, some ⟨b, off + 2, none⟩, cS - 1, rfl, by omega, Lib.hid (giv_step HI2.out HXi.out HXj.out hib HEv.out HG0_O.out (by rw [HB5.out]; exact HCutB.out.size) HOw.out HGr.out HAt.out (by have h := tail_two (row_kept (HRow.out.below (b_a (Below.refl WR.heap.size WR) _) (Nat.le_refl _)) HGr.out (fun k hk e => by have e2 : b = k := Option.some.inj hk; exact HbU.out (by rw [e2]; exact e))) HN1.out; rw [HD2.out]; rw [show n1 - 1 = r.length by have := HN1.out; omega] at h; exact h) (.inr ⟨_, _, rfl⟩) (fun k hk => by have e2 : b = k := Option.some.inj hk; rw [← e2]; exact ⟨HbR.out.1, HbR.out.2, HbU.out, Hb.out⟩) (by rw [HD2.out]; have := HN1.out; omega))⟩
              case measure => (simp [sLen]; omega)
      · rw [decide_eq_false him] at HBk
        obtain rfl : i = m := by omega
        have HBr := Lib.hid (HB0.out.trans (HI.out.bel.mono HB0.out.size))
        have A_r := Lib.hid (HX_A.out.below HI.out.bel HX_A.out.lt)
        have HXo := Lib.hid HI.out.bx
        rw [← HXi.out] at HXo
        obtain ⟨s, hs9⟩ : ∃ s, s = q.drop i := ⟨_, rfl⟩
        have HRw := Lib.hid HI.out.row
        have HFt := Lib.hid HI.out.fit
        have hsz9 : ∀ t ∈ q.drop i, t.s.size ≤ 8 := fun t ht => HS8.out t (List.mem_of_mem_drop ht)
        have hln9 : (q.drop i).length ≤ 1000 := by rw [List.length_drop]; omega
        have HEvr := Lib.hid HI.out.ev
        obtain ⟨aU, cU, rfl, _, _⟩ := ownz_slice HI.out.ev
        have hEA := HI.out.evA
        have HEA := Lib.hid hEA
        clear hEA t0 t1
        rw [← hs9] at HXo HRw HFt hsz9 hln9 HE1 HE2
        clear hs9 HAk HXj
        have HRl := Lib.hid (fun (v' : Value) (W1 : World) (hr : Row W1 v' s.length (slF s)) (hf : Fit v' s.length) => l10Release_any v' ⟨xi, s⟩ W1 hr hf (by rw [HXi.out]; exact aftI_bd x i) hln9 hsz9)
        dsimp only at HRl
        rw [← HXi.out] at HE1
        have hwl9 : (relE s).length ≤ 1000 := by rw [relE_len]; have := relN_le s; omega
        generalize relE s = wl at HRl HE2 hwl9
        generalize relW ⟨xi, s⟩ = wv at HRl HE1
        obtain ⟨xx, qq⟩ := wv
        dsimp only at HRl
        clear hsz9 hln9
        obtain ⟨n9, hn9⟩ : ∃ n9, n9 = s.length := ⟨_, rfl⟩
        rw [← hn9] at HXo HRw HFt HRl
        clear hn9
        have BX_O_e : Hid (∀ k, (.slice aU i cU : Value).ownBlock = some k → k ≠ R_O) := Lib.hid (fun k hk => (HEA.out k hk).1)
        have BX_A_e : Hid (∀ k, (.slice aU i cU : Value).ownBlock = some k → k ≠ R_A) := Lib.hid (fun k hk e => by have h1 := (HEvr.out.lt k hk).1; rw [HB5.out] at h1; have h2 := HX_A.out.lt; have h3 := HCutB.out.size; omega)
        have HBW : Hid (w.heap.size ≤ B5) := Lib.hid (by rw [HB5.out]; exact Nat.le_trans HB0.out.size HCutB.out.size)
        have c12_A_0 := A_r.out.at 0 (v := .int .i64 0) rfl
        have c12_A_1 := A_r.out.at 1 (v := .slice none 0 0) rfl
        have c13_O_0 := HXo.out.at 0 (v := .int .i64 xi) rfl
        have c13_O_1 := HXo.out.at 1 (v := .slice aS n9 cS) rfl
        go_wp2_with fail
        refine (HBk.out _).mono ?_
        rintro e _ ⟨rfl, rfl⟩
        go_wp2_with fail
        refine (HRl.out _ _ HRw.out HFt.out).mono ?_
        rintro e W14 ⟨v_m, u_m, rfl, r_m, o_u, nb, l14⟩
        have AP_e : Hid (∀ k, v_m.ownBlock = some k → (.slice aU i cU : Value).ownBlock ≠ some k) := Lib.hid (fun k h1 h2 => absurd (HEvr.out.lt k h2).2 (Nat.not_lt.2 (nb k h1)))
        obtain ⟨a_m, c_m, rfl, _, _, _⟩ := sl_open r_m
        obtain ⟨a_u, c_u, rfl, _, _⟩ := ownz_slice o_u
        have R_m := Lib.hid r_m
        have O_u := Lib.hid (ownz_base o_u HBr.out.size)
        have NB : Hid (∀ k, (.slice a_m qq.length c_m : Value).ownBlock = some k → w.heap.size ≤ k) := Lib.hid (fun k h => Nat.le_trans HBr.out.size (nb k h))
        have BX_A_m : Hid (∀ k, (.slice a_m qq.length c_m : Value).ownBlock = some k → k ≠ R_A) := Lib.hid (fun k h1 h2 => absurd A_r.out.lt (Nat.not_lt.2 (by rw [← h2]; exact nb k h1)))
        have BX_A_u : Hid (∀ k, (.slice a_u wl.length c_u : Value).ownBlock = some k → k ≠ R_A) := Lib.hid (fun k h1 h2 => absurd A_r.out.lt (Nat.not_lt.2 (by rw [← h2]; exact (o_u.lt k h1).1)))
        clear r_m o_u nb
        clear c12_A_0 c12_A_1
        clear c13_O_0 c13_O_1
        have HB_15 := Lib.hid (HBr.out.trans (l14.mono HBr.out.size))
        have e_15 := Lib.hid (ownz_below HEvr.out l14 (Nat.le_refl _))
        clear HEvr
        have A_15 := Lib.hid (A_r.out.below l14 A_r.out.lt)
        have O_15 := Lib.hid (HXo.out.below l14 HXo.out.lt)
        clear HXo
        clear l14
        have c16_A_0 := A_15.out.at 0 (v := .int .i64 0) rfl
        have c16_A_1 := A_15.out.at 1 (v := .slice none 0 0) rfl
        have c17_O_0 := O_15.out.at 0 (v := .int .i64 xi) rfl
        have c17_O_1 := O_15.out.at 1 (v := .slice aS n9 cS) rfl
        clear c17_O_0 c17_O_1
        clear O_15
        go_upto_region 13 with fail
        obtain ⟨W18, hW18⟩ : ∃ W18, W18 = W14.alloc (.cells #[.int .i64 xx, .slice a_m qq.length c_m] 26) := ⟨_, rfl⟩
        have l18 : Below W14.heap.size W14 W18 := by rw [hW18]; exact (Below.refl _ _).alloc (Nat.le_refl _) _
        have X18_R : Hid (Bx W18 W14.heap.size #[.int .i64 xx, .slice a_m qq.length c_m] 26) := Lib.hid (by rw [hW18]; exact Bx.new _ _ _)
        rw [← hW18]
        clear hW18
        have BX_R_e : Hid (∀ k, (.slice aU i cU : Value).ownBlock = some k → k ≠ W14.heap.size) := Lib.hid (fun k h1 h2 => absurd (e_15.out.lt k h1).2 (by omega))
        have BX_R_u : Hid (∀ k, (.slice a_u wl.length c_u : Value).ownBlock = some k → k ≠ W14.heap.size) := Lib.hid (fun k h1 h2 => absurd (O_u.out.lt k h1).2 (by omega))
        have HG_R : Hid (w.heap.size ≤ W14.heap.size) := Lib.hid HB_15.out.size
        have HN_R_A : Hid (R_A < W14.heap.size) := Lib.hid A_15.out.lt
        obtain ⟨R_R, hR_R⟩ : ∃ X, X = W14.heap.size := ⟨_, rfl⟩
        rw [← hR_R] at X18_R HG_R BX_R_e BX_R_u HN_R_A ⊢
        clear hR_R
        clear c16_A_0 c16_A_1
        have HB_19 := Lib.hid (HB_15.out.trans (l18.mono HB_15.out.size))
        have e_19 := Lib.hid (ownz_below e_15.out l18 (Nat.le_refl _))
        clear e_15
        have u_19 := Lib.hid (ownz_below O_u.out l18 (Nat.le_refl _))
        clear O_u
        have m_19 := Lib.hid (R_m.out.below l18 (Nat.le_refl _))
        clear R_m
        have A_19 := Lib.hid (A_15.out.below l18 A_15.out.lt)
        clear A_15
        clear l18
        have c20_A_0 := A_19.out.at 0 (v := .int .i64 0) rfl
        have c20_A_1 := A_19.out.at 1 (v := .slice none 0 0) rfl
        have c21_R_0 := X18_R.out.at 0 (v := .int .i64 xx) rfl
        have c21_R_1 := X18_R.out.at 1 (v := .slice a_m qq.length c_m) rfl
        have HWl : Hid ((wl.map Value.string).length = wl.length) := Lib.hid (by rw [List.length_map])
        have HKd := Lib.hid (fun (w' : World) (hb : Below W18.heap.size W18 w') => (show (w').cell? ⟨R_R, 0, none⟩ = some (.int .i64 xx) ∧ (w').cell? ⟨R_R, 1, none⟩ = some (.slice a_m qq.length c_m) from ⟨(X18_R.out.below hb X18_R.out.lt).at 0 rfl, (X18_R.out.below hb X18_R.out.lt).at 1 rfl⟩))
        have hneRA : R_A ≠ R_R := by have h1 := HN_R_A.out; omega
        go_region_held3 (fun w' => (w').cell? ⟨R_R, 0, none⟩ = some (.int .i64 xx) ∧ (w').cell? ⟨R_R, 1, none⟩ = some (.slice a_m qq.length c_m))
          ((first | (with_reducible refine HKd.out _ ?_; (repeat (first | with_reducible assumption | with_reducible exact Below.refl _ _ | with_reducible refine Below.drew ?_ | with_reducible refine below_alloc' ?_)); done) | exact hS6 | exact hKs _ _))
          (first | (refine step_append_fitT (by rfl) _ _ 29 (by rfl) w.heap.size 9 i1 (.string ⟨#[]⟩) 16 Try.underlying29 hi1 hy0 hy1 hy2 rfl _ i (((List.range i).map (evtQ q)).map Value.string) (by rfl) (ownz_base (ownz_below e_19.out (by repeat (first | with_reducible assumption | with_reducible exact Below.refl _ _ | with_reducible refine Below.drew ?_ | with_reducible refine below_alloc' ?_) : Below W18.heap.size W18 _) (Nat.le_refl _)) HBW.out) _ wl.length (wl.map Value.string) (by rfl) (fitA_own u_19.out).fitS ((rowz_own u_19.out).below (by repeat (first | with_reducible assumption | with_reducible exact Below.refl _ _ | with_reducible refine Below.drew ?_ | with_reducible refine below_alloc' ?_) : Below W18.heap.size W18 _) (Nat.le_refl _)) HWl.out (one_strs wl) (by unfold maxLen; omega) (by omega) (Nat.le_trans HB_19.out.size (below_size' (by repeat (first | with_reducible assumption | with_reducible exact Below.refl _ _ | with_reducible refine Below.drew ?_ | with_reducible refine below_alloc' ?_) : Below W18.heap.size W18 _))) ?_; intro v6 w6 hown6 hgr6 hat6; have hR6 := (X18_R.out.below (by repeat (first | with_reducible assumption | with_reducible exact Below.refl _ _ | with_reducible refine Below.drew ?_ | with_reducible refine below_alloc' ?_) : Below W18.heap.size W18 _) X18_R.out.lt).grown hgr6 (fun e => BX_R_e.out _ e.symm rfl); have hA6 := (A_19.out.below (by repeat (first | with_reducible assumption | with_reducible exact Below.refl _ _ | with_reducible refine Below.drew ?_ | with_reducible refine below_alloc' ?_) : Below W18.heap.size W18 _) A_19.out.lt).grown hgr6 (fun e => BX_A_e.out _ e.symm rfl); have hM6 := row_kept (m_19.out.below (by repeat (first | with_reducible assumption | with_reducible exact Below.refl _ _ | with_reducible refine Below.drew ?_ | with_reducible refine below_alloc' ?_) : Below W18.heap.size W18 _) (Nat.le_refl _)) hgr6 (fun k hk e => AP_e.out k hk e); have hB6 := (HB_19.out.trans ((by repeat (first | with_reducible assumption | with_reducible exact Below.refl _ _ | with_reducible refine Below.drew ?_ | with_reducible refine below_alloc' ?_) : Below W18.heap.size W18 _).mono HB_19.out.size)).grown hgr6 (HB_19.out.trans ((by repeat (first | with_reducible assumption | with_reducible exact Below.refl _ _ | with_reducible refine Below.drew ?_ | with_reducible refine below_alloc' ?_) : Below W18.heap.size W18 _).mono HB_19.out.size)).size (fun k hk => Nat.le_trans HBW.out (e_19.out.lt k hk).1); have hS6 : (w6).cell? ⟨R_R, 0, none⟩ = some (.int .i64 xx) ∧ (w6).cell? ⟨R_R, 1, none⟩ = some (.slice a_m qq.length c_m) := ⟨hR6.at 0 rfl, hR6.at 1 rfl⟩; have hKs : ∀ y0 y1 : Value, ((w6.setCell ⟨R_A, 0, none⟩ y0).setCell ⟨R_A, 1, none⟩ y1).cell? ⟨R_R, 0, none⟩ = some (.int .i64 xx) ∧ ((w6.setCell ⟨R_A, 0, none⟩ y0).setCell ⟨R_A, 1, none⟩ y1).cell? ⟨R_R, 1, none⟩ = some (.slice a_m qq.length c_m) := (fun y0 y1 => ⟨(hR6.grown (hA6.store2 y0 y1).2 (fun e => hneRA (Option.some.inj e).symm)).at 0 rfl, (hR6.grown (hA6.store2 y0 y1).2 (fun e => hneRA (Option.some.inj e).symm)).at 1 rfl⟩); have z0 := hA6.at 0 (v := .int .i64 0) rfl; have z1 := hA6.at 1 (v := .slice none 0 0) rfl; have y0 := hA6.free 0; have y1 := hA6.free 1))
        all_goals go_wp2_with fail
        all_goals
          obtain ⟨p1, q1⟩ := hA6.store2 (.int .i64 xx) (.slice a_m qq.length c_m)
          refine bodyPost_ret (results_bx1 rfl isRw _ _ R_A rfl rfl rfl p1) rfl ?_
          rw [HE1.out, HE2.out, List.length_append, List.map_append, List.length_map, List.length_range]
          exact ⟨_, _, rfl, row_kept hM6 q1 (fun k hk e => BX_A_m.out k hk (Option.some.inj e).symm), hown6.kept q1 (by
            cases hv : v6.ownBlock with
            | none => exact .inl rfl
            | some k => exact .inr (fun e => by
                have e2 : k = R_A := Option.some.inj e
                rcases hat6 with h | h
                · exact BX_A_e.out k (h.symm.trans hv) e2
                · have h9 := Option.some.inj (h.symm.trans hv)
                  have h8 : W18.heap.size ≤ W18.drew.heap.size := Nat.le_refl _
                  have h7 := A_19.out.lt
                  omega)), NB.out, hB6.grown q1 hB6.size (fun k hk => by have e2 : R_A = k := Option.some.inj hk; have := HR_A.out; omega)⟩
end Go.Proofs.Ytpmjdppipalfcaa
