/-
  Receive windows: the program's movedOn.
-/
import Derived.Test.YtpmjdppipalfcaaRcvI2
import Derived.Deep.QuietTactic
import Derived.BigQuiet
import Derived.IntWalk
import Derived.Deep.CutRange
import Derived.WalkLawsBesides
import Derived.Lib.SmallJoins
import Derived.Deep.RegionHeld3
namespace Go.Proofs.Ytpmjdppipalfcaa
open Go.RowKit Go.Lib Go.Joins
set_option linter.unusedVariables false

theorem fitA_parts {a : Option Addr} {q : List Sl} {cap : Nat} (h : FitA (.slice a q.length cap) q.length) : (a = none ∧ q = [] ∧ cap = 0) ∨ ∃ b off, a = some ⟨b, off, none⟩ := by
  rcases h with ⟨h, h0⟩ | ⟨b, off, c, h⟩
  · injection h with h1 _ h3
    exact .inl ⟨h1, List.eq_nil_of_length_eq_zero h0, h3⟩
  · injection h with h1 _ _
    exact .inr ⟨b, off, h1⟩
theorem itm_size {q : List Sl} (h : ∀ s ∈ q, s.s.size ≤ 8) (k : Nat) : (itmQ q k).size ≤ 8 := by
  unfold itmQ
  cases e : q[k]? with
  | none => exact Nat.zero_le _
  | some s => exact h s (List.mem_of_getElem? e)
theorem drop_min {α : Type} (q : List α) (k : Nat) : q.drop (min k q.length) = q.drop k := by
  by_cases h : k ≤ q.length
  · rw [Nat.min_eq_left h]
  · rw [Nat.min_eq_right (by omega), List.drop_of_length_le (Nat.le_refl _), List.drop_of_length_le (by omega)]
theorem mov_own {w : World} {B k : Nat} {v : Value} {q : List Sl} (ho : w.ownsRow B 9 1 v (k + 1) (((List.range k).map (evtQ q)).map Value.string ++ [.string (evtQ q k)])) :
    w.ownsRow B 9 1 v (k + 1) (((List.range (k + 1)).map (evtQ q)).map Value.string) := by
  rw [List.range_succ, List.map_append, List.map_append]
  exact ho
theorem row_sliceZ {w : World} {ab ao cap k : Nat} {q : List Sl} (h : Row w (.slice (some ⟨ab, ao, none⟩) q.length cap) q.length (slF q)) (hk : k ≤ q.length) :
    ∃ o2, (if cap = k then (some ⟨ab, ao, none⟩ : Option Addr) else some ⟨ab, ao + k * 2, none⟩) = some ⟨ab, o2, none⟩ ∧ Row w (.slice (some ⟨ab, o2, none⟩) (q.length - k) (cap - k)) (q.drop k).length (slF (q.drop k)) := by
  obtain ⟨a1, c1, e, h1, h2, h3⟩ := h
  injection e with e1 _ e2
  subst e1 e2
  rw [List.length_drop]
  by_cases hc : cap = k
  · refine ⟨ao, if_pos hc, ?_⟩
    have hz : slF (q.drop k) = [] := List.eq_nil_of_length_eq_zero (by rw [slF_len, List.length_drop]; omega)
    rw [hz]
    exact ⟨_, _, rfl, by omega, by omega, fun hh => absurd rfl hh⟩
  · refine ⟨ao + k * 2, if_neg hc, _, _, rfl, by omega, by omega, fun hh => ?_⟩
    have hlen : (slF (q.drop k)).length = (q.length - k) * 2 := by rw [slF_len, List.length_drop]
    have hpos : 0 < (q.length - k) * 2 := by rw [← hlen]; exact List.length_pos_iff.2 hh
    obtain ⟨b, off, e, hb, hcell⟩ := h3 (by intro e; have := slF_len q; rw [e] at this; simp at this; omega)
    injection e with e
    injection e with e1 e2
    subst e1 e2
    refine ⟨ab, ao + k * 2, rfl, hb, fun i hi => ?_⟩
    rw [Nat.add_assoc, hcell (k * 2 + i) (by rw [slF_len]; omega)]
    congr 1
    have e3 : slF (q.drop k) = (slF q).drop (k * 2) := (slF_drop q k).symm
    simp only [e3]
    rw [List.getElem_drop]
set_option maxRecDepth 100000 in
set_option maxHeartbeats 8000000 in
theorem movedOn_any (v : Value) (l : Rw) (w : World) (hrow : Row w v l.q.length (slF l.q)) (c : Nat) (hfit : FitA v l.q.length) (hx : 0 ≤ l.x ∧ l.x ≤ 65535) (hl : l.q.length ≤ 8) (hs : ∀ s ∈ l.q, s.s.size ≤ 8) (hc : c ≤ 8) :
    Calls Try.prog 46 #[.agg #[.int .i64 l.x, v], .int .i64 c] w fun e w' => ∃ v' u', e = .returned (.tuple #[.agg #[.int .i64 (movW l c).x, v'], u']) ∧ w'.ownsRow w.heap.size 66 2 v' (movW l c).q.length (slF (movW l c).q) ∧ w'.ownsRow w.heap.size 9 1 u' (movL l.q c).length ((movL l.q c).map Value.string) ∧ (∀ k, v'.ownBlock = some k → u'.ownBlock ≠ some k) ∧ Below w.heap.size w w' := by
  obtain ⟨i1, hi1, hy0, hy1, hy2⟩ := info_parts infoStr
  obtain ⟨x, q⟩ := l
  dsimp only at hrow hfit hx hl hs ⊢
  obtain ⟨a, cap, rfl, hc1, hm1, _⟩ := sl_open hrow
  unfold maxLen at hm1
  have HP := Lib.hid hrow
  clear hrow
  have HFx := Lib.hid (fitA_parts hfit)
  have HS := Lib.hid hs
  clear hfit hs
  obtain ⟨m, hm⟩ : ∃ m, m = movN q c := ⟨_, rfl⟩
  have hm8 : m ≤ 8 := by rw [hm]; exact mov_le q c 8 hl hc
  have HMore := Lib.hid (fun (i : Nat) (h : i ≤ m) => (by rw [hm] at h ⊢; exact mov_more h : (decide (i < c) || hasQ q i) = decide (i < m)))
  have hw : movW ⟨x, q⟩ c = ⟨aftI x m, q.drop m⟩ := by rw [hm]; rfl
  have hll : movL q c = (List.range m).map (evtQ q) := by rw [hm]; rfl
  rw [hw, hll]
  dsimp only
  have hln : ((List.range m).map (evtQ q)).length = m := by simp
  rw [hln]
  clear hw hll hln hm
  have HSl := Lib.hid (fun (k : Nat) (W1 : World) (hr : Row W1 (.slice a q.length cap) q.length (slF q)) => slotAt_any (.slice a q.length cap) ⟨x, q⟩ W1 hr k)
  dsimp only at HSl
  have HEv := Lib.hid (fun (k : Nat) (W1 : World) => eventOf_any (hasQ q k) (itmQ q k) W1 (itm_size HS.out k))
  have HST := Lib.hid (fun (W1 : World) => implStep_any x (m : Int) W1 hx.1 hx.2 (by omega) (by omega))
  generalize aftI x m = xm at HST ⊢
  obtain ⟨W0, R_T, R_A, hW0, hR_T, hR_A, hX_T, hX_A, hB0⟩ := entry2 w #[.int .i64 x, .slice a q.length cap] #[.int .i64 0, .slice none 0 0] 26 26
  have HW0 := Lib.hid hW0
  have HB0 := Lib.hid hB0
  have HR_T := Lib.hid hR_T
  have HX_T := Lib.hid hX_T
  have HR_A := Lib.hid hR_A
  have HX_A := Lib.hid hX_A
  clear hW0 hB0 hR_T hX_T hR_A hX_A
  have c1_T_0 := HX_T.out.at 0 (v := .int .i64 x) rfl
  have c1_T_1 := HX_T.out.at 1 (v := .slice a q.length cap) rfl
  have c2_A_0 := HX_A.out.at 0 (v := .int .i64 0) rfl
  have c2_A_1 := HX_A.out.at 1 (v := .slice none 0 0) rfl
  have HL0 := Lib.hid (Below.refl W0.heap.size W0)
  go_enter Try.func46, Try.ntmps46
  go_upto_region 1 with fail
  rw [← HW0.out, ← HR_A.out, ← HR_T.out]
  go_upto_region 2 with fail
  have lL : Below W0.heap.size W0 (W0.alloc (.cells #[] 9)) := (Below.refl _ _).alloc (Nat.le_refl _) _
  have HOl := Lib.hid (own_lit (heap_alloc_new W0 (.cells #[] 9)) (Nat.le_refl W0.heap.size))
  obtain ⟨WL, hWL⟩ : ∃ W9, W9 = W0.alloc (.cells #[] 9) := ⟨_, rfl⟩
  rw [← hWL] at lL HOl ⊢
  clear hWL
  clear c1_T_0 c1_T_1
  clear c2_A_0 c2_A_1
  have HB_3 := Lib.hid (HB0.out.trans (lL.mono HB0.out.size))
  have HL0_3 := Lib.hid (HL0.out.trans (lL.mono HL0.out.size))
  clear HL0
  have T_3 := Lib.hid (HX_T.out.below lL HX_T.out.lt)
  have A_3 := Lib.hid (HX_A.out.below lL HX_A.out.lt)
  clear lL
  have c4_T_0 := T_3.out.at 0 (v := .int .i64 x) rfl
  have c4_T_1 := T_3.out.at 1 (v := .slice a q.length cap) rfl
  have c5_A_0 := A_3.out.at 0 (v := .int .i64 0) rfl
  have c5_A_1 := A_3.out.at 1 (v := .slice none 0 0) rfl
  go_wp2_with fail
  go_loopw [6, 7] (fun u i wr => ∃ j : Nat, j ≤ m ∧ i = .int .i64 j ∧ Hid (wr.ownsRow W0.heap.size 9 1 u j (((List.range j).map (evtQ q)).map Value.string)) ∧ Hid (Below W0.heap.size W0 wr)) (fun _ i _ => m - (RowKit.intOf i).toNat)
  case atStart => exact ⟨0, Nat.zero_le _, rfl, HOl, HL0_3⟩
  case round =>
    obtain ⟨k, hk, rfl, HO, HL⟩ := hrel
    clear c4_T_0 c4_T_1
    clear c5_A_0 c5_A_1
    have HBr := Lib.hid (HB0.out.trans (HL.out.mono HB0.out.size))
    have T_r := Lib.hid (HX_T.out.below HL.out HX_T.out.lt)
    have A_r := Lib.hid (HX_A.out.below HL.out HX_A.out.lt)
    have c6_T_0 := T_r.out.at 0 (v := .int .i64 x) rfl
    have c6_T_1 := T_r.out.at 1 (v := .slice a q.length cap) rfl
    have c7_A_0 := A_r.out.at 0 (v := .int .i64 0) rfl
    have c7_A_1 := A_r.out.at 1 (v := .slice none 0 0) rfl
    have hmo := HMore.out k hk
    have HSk := Lib.hid (HSl.out k)
    have HEk := Lib.hid (HEv.out k)
    have hy : (if hasQ q k = true then ⟨#[43]⟩ ++ itmQ q k else ⟨#[45]⟩) = evtQ q k := rfl
    rw [hy] at HEk
    clear hy
    obtain ⟨y, hy⟩ : ∃ y, y = evtQ q k := ⟨_, rfl⟩
    rw [← hy] at HEk
    have HY := Lib.hid hy
    clear hy
    obtain ⟨hq, hhq⟩ : ∃ hq, hasQ q k = hq := ⟨_, rfl⟩
    rw [hhq] at HSk HEk hmo
    clear hhq
    generalize itmQ q k = iq at HSk HEk
    have hfd : ∀ W : World, (Instr.field 66 (.agg #[.bool hq, .string iq]) 0).run Try.prog W = .ok (.bool hq) W := fun _ => by kernel_rfl
    have hszr := HL.out.size
    by_cases hkm : k < m
    · rw [decide_eq_true hkm] at hmo
      by_cases hkc : k < c
      · have hkc2 : (k : Int) < (c : Int) := by omega
        clear hmo
        go_wp2_with fail
        refine (HSk.out _ (HP.out.below HBr.out (Nat.le_refl _))).mono ?_
        rintro e W8 ⟨rfl, l8⟩
        clear c6_T_0 c6_T_1
        clear c7_A_0 c7_A_1
        have HB_9 := Lib.hid (HBr.out.trans (l8.mono HBr.out.size))
        have u_9 := Lib.hid (ownz_below HO.out l8 (Nat.le_refl _))
        clear HO
        have HF_9 := Lib.hid (HL.out.trans (l8.mono HL.out.size))
        clear HL
        have T_9 := Lib.hid (T_r.out.below l8 T_r.out.lt)
        have A_9 := Lib.hid (A_r.out.below l8 A_r.out.lt)
        clear l8
        have c10_T_0 := T_9.out.at 0 (v := .int .i64 x) rfl
        have c10_T_1 := T_9.out.at 1 (v := .slice a q.length cap) rfl
        have c11_A_0 := A_9.out.at 0 (v := .int .i64 0) rfl
        have c11_A_1 := A_9.out.at 1 (v := .slice none 0 0) rfl
        go_wp2_with fail
        refine (HEk.out _).mono ?_
        rintro e W12 ⟨rfl, l12⟩
        clear c10_T_0 c10_T_1
        clear c11_A_0 c11_A_1
        have HB_13 := Lib.hid (HB_9.out.trans (l12.mono HB_9.out.size))
        have u_13 := Lib.hid (ownz_below u_9.out l12 (Nat.le_refl _))
        clear u_9
        have HF_13 := Lib.hid (HF_9.out.trans (l12.mono HF_9.out.size))
        clear HF_9
        have T_13 := Lib.hid (T_9.out.below l12 T_9.out.lt)
        clear T_9
        have A_13 := Lib.hid (A_9.out.below l12 A_9.out.lt)
        clear A_9
        clear l12
        have c14_T_0 := T_13.out.at 0 (v := .int .i64 x) rfl
        have c14_T_1 := T_13.out.at 1 (v := .slice a q.length cap) rfl
        have c15_A_0 := A_13.out.at 0 (v := .int .i64 0) rfl
        have c15_A_1 := A_13.out.at 1 (v := .slice none 0 0) rfl
        have hszr := HF_13.out.size
        go_wp2_with (at_builtin; refine wpList_append_own _ rfl _ _ 29 rfl W0.heap.size 9 i1 (.string ⟨#[]⟩) 1 16 Try.underlying29 hi1 hy0 hy1 hy2 rfl (by decide) _ _ _ rfl (u_13.out.alloc _) ⟨W12.heap.size, 0, none⟩ 1 1 [.string y] rfl rfl (cell_one_new _ _ _) (by intro u hu; simp at hu; subst hu; rfl) (by unfold maxLen; omega) (by omega) (by simp; omega) ?_; intro v' w1 hown' hgrow _)
        go_roundw
        case rel => exact ⟨k + 1, by omega, by go_num, Lib.hid (mov_own (by rw [← HY.out]; exact hown')), Lib.hid (below_own_i HF_13.out hszr u_13.out hgrow)⟩
        case measure => (simp [RowKit.intOf]; omega)
      · have hkc2 : ¬ (k : Int) < (c : Int) := by omega
        rw [decide_eq_false hkc, Bool.false_or] at hmo
        subst hmo
        go_wp2_with fail
        refine (HSk.out _ (HP.out.below HBr.out (Nat.le_refl _))).mono ?_
        rintro e W16 ⟨rfl, l16⟩
        clear c6_T_0 c6_T_1
        clear c7_A_0 c7_A_1
        have HB_17 := Lib.hid (HBr.out.trans (l16.mono HBr.out.size))
        have u_17 := Lib.hid (ownz_below HO.out l16 (Nat.le_refl _))
        clear HO
        have HF_17 := Lib.hid (HL.out.trans (l16.mono HL.out.size))
        clear HL
        have T_17 := Lib.hid (T_r.out.below l16 T_r.out.lt)
        have A_17 := Lib.hid (A_r.out.below l16 A_r.out.lt)
        clear l16
        have c18_T_0 := T_17.out.at 0 (v := .int .i64 x) rfl
        have c18_T_1 := T_17.out.at 1 (v := .slice a q.length cap) rfl
        have c19_A_0 := A_17.out.at 0 (v := .int .i64 0) rfl
        have c19_A_1 := A_17.out.at 1 (v := .slice none 0 0) rfl
        go_wp2_with fail
        refine (HSk.out _ (HP.out.below HB_17.out (Nat.le_refl _))).mono ?_
        rintro e W20 ⟨rfl, l20⟩
        clear c18_T_0 c18_T_1
        clear c19_A_0 c19_A_1
        have HB_21 := Lib.hid (HB_17.out.trans (l20.mono HB_17.out.size))
        have u_21 := Lib.hid (ownz_below u_17.out l20 (Nat.le_refl _))
        clear u_17
        have HF_21 := Lib.hid (HF_17.out.trans (l20.mono HF_17.out.size))
        clear HF_17
        have T_21 := Lib.hid (T_17.out.below l20 T_17.out.lt)
        clear T_17
        have A_21 := Lib.hid (A_17.out.below l20 A_17.out.lt)
        clear A_17
        clear l20
        have c22_T_0 := T_21.out.at 0 (v := .int .i64 x) rfl
        have c22_T_1 := T_21.out.at 1 (v := .slice a q.length cap) rfl
        have c23_A_0 := A_21.out.at 0 (v := .int .i64 0) rfl
        have c23_A_1 := A_21.out.at 1 (v := .slice none 0 0) rfl
        go_wp2_with fail
        refine (HEk.out _).mono ?_
        rintro e W24 ⟨rfl, l24⟩
        clear c22_T_0 c22_T_1
        clear c23_A_0 c23_A_1
        have HB_25 := Lib.hid (HB_21.out.trans (l24.mono HB_21.out.size))
        have u_25 := Lib.hid (ownz_below u_21.out l24 (Nat.le_refl _))
        clear u_21
        have HF_25 := Lib.hid (HF_21.out.trans (l24.mono HF_21.out.size))
        clear HF_21
        have T_25 := Lib.hid (T_21.out.below l24 T_21.out.lt)
        clear T_21
        have A_25 := Lib.hid (A_21.out.below l24 A_21.out.lt)
        clear A_21
        clear l24
        have c26_T_0 := T_25.out.at 0 (v := .int .i64 x) rfl
        have c26_T_1 := T_25.out.at 1 (v := .slice a q.length cap) rfl
        have c27_A_0 := A_25.out.at 0 (v := .int .i64 0) rfl
        have c27_A_1 := A_25.out.at 1 (v := .slice none 0 0) rfl
        have hszr := HF_25.out.size
        go_wp2_with (at_builtin; refine wpList_append_own _ rfl _ _ 29 rfl W0.heap.size 9 i1 (.string ⟨#[]⟩) 1 16 Try.underlying29 hi1 hy0 hy1 hy2 rfl (by decide) _ _ _ rfl (u_25.out.alloc _) ⟨W24.heap.size, 0, none⟩ 1 1 [.string y] rfl rfl (cell_one_new _ _ _) (by intro u hu; simp at hu; subst hu; rfl) (by unfold maxLen; omega) (by omega) (by simp; omega) ?_; intro v' w1 hown' hgrow _)
        go_roundw
        case rel => exact ⟨k + 1, by omega, by go_num, Lib.hid (mov_own (by rw [← HY.out]; exact hown')), Lib.hid (below_own_i HF_25.out hszr u_25.out hgrow)⟩
        case measure => (simp [RowKit.intOf]; omega)
    · rw [decide_eq_false hkm, Bool.or_eq_false_iff, decide_eq_false_iff_not] at hmo
      obtain ⟨hkc, rfl⟩ := hmo
      have hkc2 : ¬ (k : Int) < (c : Int) := by omega
      obtain rfl : k = m := by omega
      obtain ⟨a_u, c_u, rfl, _, _⟩ := own_someS0 HO.out
      go_wp2_with fail
      refine (HSk.out _ (HP.out.below HBr.out (Nat.le_refl _))).mono ?_
      rintro e W28 ⟨rfl, l28⟩
      clear c6_T_0 c6_T_1
      clear c7_A_0 c7_A_1
      have HB_29 := Lib.hid (HBr.out.trans (l28.mono HBr.out.size))
      have u_29 := Lib.hid (ownz_below HO.out l28 (Nat.le_refl _))
      clear HO
      have T_29 := Lib.hid (T_r.out.below l28 T_r.out.lt)
      have A_29 := Lib.hid (A_r.out.below l28 A_r.out.lt)
      clear l28
      have c30_T_0 := T_29.out.at 0 (v := .int .i64 x) rfl
      have c30_T_1 := T_29.out.at 1 (v := .slice a q.length cap) rfl
      have c31_A_0 := A_29.out.at 0 (v := .int .i64 0) rfl
      have c31_A_1 := A_29.out.at 1 (v := .slice none 0 0) rfl
      rcases HFx.out with ⟨rfl, rfl, rfl⟩ | ⟨b, off, rfl⟩
      · have hmn : min (k : Int) 0 = 0 := by omega
        have T9 := Lib.hid (show Bx W28 R_T #[.int .i64 x, .slice none 0 0] 26 from T_29.out)
        clear c30_T_0 c30_T_1
        clear c31_A_0 c31_A_1
        have HRt : Hid (Row W28 (.slice none 0 0) 0 (slF [])) := Lib.hid (row_none W28 none 0 (by unfold maxLen; omega))
        have HCl := Lib.hid (fun (v : Value) (W1 : World) (hr : Row W1 v (([] : List Sl)).length (slF ([] : List Sl))) (hf : Fit v (([] : List Sl)).length) => cloneSl_any v ([] : List Sl) W1 hr hf (by simp))
        rcases Nat.eq_zero_or_pos k with rfl | hpos
        · have hn0 : True := trivial
          have c32_T_0 := T9.out.at 0 (v := .int .i64 x) rfl
          have c32_T_1 := T9.out.at 1 (v := .slice none 0 0) rfl
          have c33_A_0 := A_29.out.at 0 (v := .int .i64 0) rfl
          have c33_A_1 := A_29.out.at 1 (v := .slice none 0 0) rfl
          go_wp2_with fail
          refine (HST.out _).mono ?_
          rintro e _ ⟨rfl, rfl⟩
          go_wp2_with fail
          refine (HCl.out _ _ HRt.out (.inl ⟨rfl, rfl⟩)).mono ?_
          rintro e W34 ⟨v_n, rfl, o_n, l34⟩
          obtain ⟨a_n, c_n, rfl, _, _⟩ := ownz_slice o_n
          have O_n := Lib.hid (ownz_base o_n HB_29.out.size)
          have AP : Hid (∀ k0, (.slice a_n ([] : List Sl).length c_n : Value).ownBlock = some k0 → (.slice a_u 0 c_u : Value).ownBlock ≠ some k0) := Lib.hid (fun k0 h1 h2 => absurd (u_29.out.lt k0 h2).2 (Nat.not_lt.2 (o_n.lt k0 h1).1))
          have BXn : Hid (∀ k0, (.slice a_n ([] : List Sl).length c_n : Value).ownBlock = some k0 → k0 ≠ R_A) := Lib.hid (fun k0 h1 h2 => absurd A_29.out.lt (Nat.not_lt.2 (by rw [← h2]; exact (o_n.lt k0 h1).1)))
          clear o_n
          clear c32_T_0 c32_T_1
          clear c33_A_0 c33_A_1
          have HB_35 := Lib.hid (HB_29.out.trans (l34.mono HB_29.out.size))
          have u_35 := Lib.hid (ownz_below u_29.out l34 (Nat.le_refl _))
          clear u_29
          have T_35 := Lib.hid (T9.out.below l34 T9.out.lt)
          have A_35 := Lib.hid (A_29.out.below l34 A_29.out.lt)
          clear A_29
          clear l34
          have c36_T_0 := T_35.out.at 0 (v := .int .i64 x) rfl
          have c36_T_1 := T_35.out.at 1 (v := .slice none 0 0) rfl
          have c37_A_0 := A_35.out.at 0 (v := .int .i64 0) rfl
          have c37_A_1 := A_35.out.at 1 (v := .slice none 0 0) rfl
          have fr38_A_0 := A_35.out.free 0
          have fr38_A_1 := A_35.out.free 1
          go_wp2_with fail
          obtain ⟨p1, q1⟩ := A_35.out.store2 (.int .i64 xm) (.slice a_n ([] : List Sl).length c_n)
          refine bodyPost_ret (results_bx1 rfl isRw _ _ R_A rfl rfl rfl p1) rfl ?_
          refine ⟨_, _, rfl, ?_, ?_, AP.out, (HB_35.out.grown q1 HB_35.out.size (fun k hk => by have e2 : R_A = k := Option.some.inj hk; have := HR_A.out; omega))⟩
          · rw [List.drop_nil]
            exact O_n.out.kept q1 (by
              cases hv : (.slice a_n ([] : List Sl).length c_n : Value).ownBlock with
              | none => exact .inl rfl
              | some k0 => exact .inr (fun e => BXn.out k0 hv (Option.some.inj e)))
          · exact own_base (u_35.out.kept q1 (by
              cases hv : (.slice a_u 0 c_u : Value).ownBlock with
              | none => exact .inl rfl
              | some k0 => exact .inr (fun e => by have e2 : k0 = R_A := Option.some.inj e; have h1 := HX_A.out.lt; have h2 := (u_35.out.lt k0 hv).1; omega))) HB0.out.size
        · have hpos2 : (0 : Int) < (k : Int) := by omega
          have c39_T_0 := T9.out.at 0 (v := .int .i64 x) rfl
          have c39_T_1 := T9.out.at 1 (v := .slice none 0 0) rfl
          have c40_A_0 := A_29.out.at 0 (v := .int .i64 0) rfl
          have c40_A_1 := A_29.out.at 1 (v := .slice none 0 0) rfl
          go_wp2_with fail
          refine (HST.out _).mono ?_
          rintro e _ ⟨rfl, rfl⟩
          go_wp2_with fail
          refine (HCl.out _ _ HRt.out (.inl ⟨rfl, rfl⟩)).mono ?_
          rintro e W41 ⟨v_n, rfl, o_n, l41⟩
          obtain ⟨a_n, c_n, rfl, _, _⟩ := ownz_slice o_n
          have O_n := Lib.hid (ownz_base o_n HB_29.out.size)
          have AP : Hid (∀ k0, (.slice a_n ([] : List Sl).length c_n : Value).ownBlock = some k0 → (.slice a_u k c_u : Value).ownBlock ≠ some k0) := Lib.hid (fun k0 h1 h2 => absurd (u_29.out.lt k0 h2).2 (Nat.not_lt.2 (o_n.lt k0 h1).1))
          have BXn : Hid (∀ k0, (.slice a_n ([] : List Sl).length c_n : Value).ownBlock = some k0 → k0 ≠ R_A) := Lib.hid (fun k0 h1 h2 => absurd A_29.out.lt (Nat.not_lt.2 (by rw [← h2]; exact (o_n.lt k0 h1).1)))
          clear o_n
          clear c39_T_0 c39_T_1
          clear c40_A_0 c40_A_1
          have HB_42 := Lib.hid (HB_29.out.trans (l41.mono HB_29.out.size))
          have u_42 := Lib.hid (ownz_below u_29.out l41 (Nat.le_refl _))
          clear u_29
          have T_42 := Lib.hid (T9.out.below l41 T9.out.lt)
          have A_42 := Lib.hid (A_29.out.below l41 A_29.out.lt)
          clear A_29
          clear l41
          have c43_T_0 := T_42.out.at 0 (v := .int .i64 x) rfl
          have c43_T_1 := T_42.out.at 1 (v := .slice none 0 0) rfl
          have c44_A_0 := A_42.out.at 0 (v := .int .i64 0) rfl
          have c44_A_1 := A_42.out.at 1 (v := .slice none 0 0) rfl
          have fr45_A_0 := A_42.out.free 0
          have fr45_A_1 := A_42.out.free 1
          go_wp2_with fail
          obtain ⟨p1, q1⟩ := A_42.out.store2 (.int .i64 xm) (.slice a_n ([] : List Sl).length c_n)
          refine bodyPost_ret (results_bx1 rfl isRw _ _ R_A rfl rfl rfl p1) rfl ?_
          refine ⟨_, _, rfl, ?_, ?_, AP.out, (HB_42.out.grown q1 HB_42.out.size (fun k hk => by have e2 : R_A = k := Option.some.inj hk; have := HR_A.out; omega))⟩
          · rw [List.drop_nil]
            exact O_n.out.kept q1 (by
              cases hv : (.slice a_n ([] : List Sl).length c_n : Value).ownBlock with
              | none => exact .inl rfl
              | some k0 => exact .inr (fun e => BXn.out k0 hv (Option.some.inj e)))
          · exact own_base (u_42.out.kept q1 (by
              cases hv : (.slice a_u k c_u : Value).ownBlock with
              | none => exact .inl rfl
              | some k0 => exact .inr (fun e => by have e2 : k0 = R_A := Option.some.inj e; have h1 := HX_A.out.lt; have h2 := (u_42.out.lt k0 hv).1; omega))) HB0.out.size
      · obtain ⟨d, hd⟩ : ∃ d, d = min k q.length := ⟨_, rfl⟩
        have hdq : q.drop k = q.drop d := by rw [hd, drop_min]
        have hdl : d ≤ q.length := by omega
        have HD : Hid (min (k : Int) (q.length : Int) = (d : Int)) := Lib.hid (by omega)
        obtain ⟨o2, ho2, hrt⟩ := row_sliceZ (k := d) (HP.out.below HB_29.out (Nat.le_refl _)) hdl
        have HRt := Lib.hid hrt
        clear hrt
        obtain ⟨q3, hq3⟩ : ∃ q3, q3 = q.drop d := ⟨_, rfl⟩
        rw [← hq3] at HRt
        have HQ3 : Hid (q.drop k = q3) := Lib.hid (by rw [hq3]; exact hdq)
        clear hdq
        have HL3 : Hid (q3.length = q.length - d) := Lib.hid (by rw [hq3, List.length_drop])
        have hl3 : q3.length ≤ 1000 := by rw [hq3, List.length_drop]; omega
        clear hq3
        rw [HL3.out] at HRt
        clear c30_T_0 c30_T_1
        clear c31_A_0 c31_A_1
        have HCl := Lib.hid (fun (v : Value) (W1 : World) (hr : Row W1 v (q3).length (slF q3)) (hf : Fit v (q3).length) => cloneSl_any v q3 W1 hr hf (by omega))
        by_cases hlt : q.length < k
        · have hlt2 : (q.length : Int) < (k : Int) := by omega
          obtain rfl : d = q.length := by omega
          clear hd hlt
          have c46_T_0 := T_29.out.at 0 (v := .int .i64 x) rfl
          have c46_T_1 := T_29.out.at 1 (v := .slice (some ⟨b, off, none⟩) q.length cap) rfl
          have c47_A_0 := A_29.out.at 0 (v := .int .i64 0) rfl
          have c47_A_1 := A_29.out.at 1 (v := .slice none 0 0) rfl
          have i1 : (q.length : Int) ≤ (q.length : Int) := by omega
          have i2 : (q.length : Int) ≤ (cap : Int) := by omega
          have i3 : (0 : Int) ≤ (q.length : Int) := by omega
          have i8 : (q.length : Int) ≤ (cap : Int) := by omega
          have i9 : q.length ≤ cap := by omega
          go_wp2_with fail
          refine (HST.out _).mono ?_
          rintro e _ ⟨rfl, rfl⟩
          go_wp2_with fail
          refine (HCl.out _ _ (by first | exact HRt.out | (rw [HL3.out]; exact HRt.out) | (have h := HRt.out; rw [Nat.sub_self] at h; rw [HL3.out, Nat.sub_self]; exact h)) (.inr ⟨_, _, by first | (rw [HL3.out]; done) | (rw [HL3.out, Nat.sub_self]; done)⟩)).mono ?_
          rintro e W48 ⟨v_n, rfl, o_n, l48⟩
          obtain ⟨a_n, c_n, rfl, _, _⟩ := ownz_slice o_n
          have O_n := Lib.hid (ownz_base o_n HB_29.out.size)
          have AP : Hid (∀ k0, (.slice a_n q3.length c_n : Value).ownBlock = some k0 → (.slice a_u k c_u : Value).ownBlock ≠ some k0) := Lib.hid (fun k0 h1 h2 => absurd (u_29.out.lt k0 h2).2 (Nat.not_lt.2 (o_n.lt k0 h1).1))
          have BXn : Hid (∀ k0, (.slice a_n q3.length c_n : Value).ownBlock = some k0 → k0 ≠ R_A) := Lib.hid (fun k0 h1 h2 => absurd A_29.out.lt (Nat.not_lt.2 (by rw [← h2]; exact (o_n.lt k0 h1).1)))
          clear o_n
          clear c46_T_0 c46_T_1
          clear c47_A_0 c47_A_1
          have HB_49 := Lib.hid (HB_29.out.trans (l48.mono HB_29.out.size))
          have u_49 := Lib.hid (ownz_below u_29.out l48 (Nat.le_refl _))
          clear u_29
          have T_49 := Lib.hid (T_29.out.below l48 T_29.out.lt)
          clear T_29
          have A_49 := Lib.hid (A_29.out.below l48 A_29.out.lt)
          clear A_29
          clear l48
          have c50_T_0 := T_49.out.at 0 (v := .int .i64 x) rfl
          have c50_T_1 := T_49.out.at 1 (v := .slice (some ⟨b, off, none⟩) q.length cap) rfl
          have c51_A_0 := A_49.out.at 0 (v := .int .i64 0) rfl
          have c51_A_1 := A_49.out.at 1 (v := .slice none 0 0) rfl
          have fr52_A_0 := A_49.out.free 0
          have fr52_A_1 := A_49.out.free 1
          go_wp2_with fail
          obtain ⟨p1, q1⟩ := A_49.out.store2 (.int .i64 xm) (.slice a_n q3.length c_n)
          refine bodyPost_ret (results_bx1 rfl isRw _ _ R_A rfl rfl rfl p1) rfl ?_
          refine ⟨_, _, rfl, ?_, ?_, AP.out, (HB_49.out.grown q1 HB_49.out.size (fun k hk => by have e2 : R_A = k := Option.some.inj hk; have := HR_A.out; omega))⟩
          · rw [HQ3.out]
            exact O_n.out.kept q1 (by
              cases hv : (.slice a_n q3.length c_n : Value).ownBlock with
              | none => exact .inl rfl
              | some k0 => exact .inr (fun e => BXn.out k0 hv (Option.some.inj e)))
          · exact own_base (u_49.out.kept q1 (by
              cases hv : (.slice a_u k c_u : Value).ownBlock with
              | none => exact .inl rfl
              | some k0 => exact .inr (fun e => by have e2 : k0 = R_A := Option.some.inj e; have h1 := HX_A.out.lt; have h2 := (u_49.out.lt k0 hv).1; omega))) HB0.out.size
        · have hlt2 : ¬ (q.length : Int) < (k : Int) := by omega
          obtain rfl : k = d := by omega
          clear hd hlt
          have c53_T_0 := T_29.out.at 0 (v := .int .i64 x) rfl
          have c53_T_1 := T_29.out.at 1 (v := .slice (some ⟨b, off, none⟩) q.length cap) rfl
          have c54_A_0 := A_29.out.at 0 (v := .int .i64 0) rfl
          have c54_A_1 := A_29.out.at 1 (v := .slice none 0 0) rfl
          have i1 : (k : Int) ≤ (q.length : Int) := by omega
          have i2 : (q.length : Int) ≤ (cap : Int) := by omega
          have i3 : (0 : Int) ≤ (k : Int) := by omega
          have i8 : (k : Int) ≤ (cap : Int) := by omega
          have i9 : k ≤ cap := by omega
          go_wp2_with fail
          refine (HST.out _).mono ?_
          rintro e _ ⟨rfl, rfl⟩
          go_wp2_with fail
          refine (HCl.out _ _ (by first | exact HRt.out | (rw [HL3.out]; exact HRt.out) | (have h := HRt.out; rw [Nat.sub_self] at h; rw [HL3.out, Nat.sub_self]; exact h)) (.inr ⟨_, _, by first | (rw [HL3.out]; done) | (rw [HL3.out, Nat.sub_self]; done)⟩)).mono ?_
          rintro e W55 ⟨v_n, rfl, o_n, l55⟩
          obtain ⟨a_n, c_n, rfl, _, _⟩ := ownz_slice o_n
          have O_n := Lib.hid (ownz_base o_n HB_29.out.size)
          have AP : Hid (∀ k0, (.slice a_n q3.length c_n : Value).ownBlock = some k0 → (.slice a_u k c_u : Value).ownBlock ≠ some k0) := Lib.hid (fun k0 h1 h2 => absurd (u_29.out.lt k0 h2).2 (Nat.not_lt.2 (o_n.lt k0 h1).1))
          have BXn : Hid (∀ k0, (.slice a_n q3.length c_n : Value).ownBlock = some k0 → k0 ≠ R_A) := Lib.hid (fun k0 h1 h2 => absurd A_29.out.lt (Nat.not_lt.2 (by rw [← h2]; exact (o_n.lt k0 h1).1)))
          clear o_n
          clear c53_T_0 c53_T_1
          clear c54_A_0 c54_A_1
          have HB_56 := Lib.hid (HB_29.out.trans (l55.mono HB_29.out.size))
          have u_56 := Lib.hid (ownz_below u_29.out l55 (Nat.le_refl _))
          clear u_29
          have T_56 := Lib.hid (T_29.out.below l55 T_29.out.lt)
          clear T_29
          have A_56 := Lib.hid (A_29.out.below l55 A_29.out.lt)
          clear A_29
          clear l55
          have c57_T_0 := T_56.out.at 0 (v := .int .i64 x) rfl
          have c57_T_1 := T_56.out.at 1 (v := .slice (some ⟨b, off, none⟩) q.length cap) rfl
          have c58_A_0 := A_56.out.at 0 (v := .int .i64 0) rfl
          have c58_A_1 := A_56.out.at 1 (v := .slice none 0 0) rfl
          have fr59_A_0 := A_56.out.free 0
          have fr59_A_1 := A_56.out.free 1
          go_wp2_with fail
          obtain ⟨p1, q1⟩ := A_56.out.store2 (.int .i64 xm) (.slice a_n q3.length c_n)
          refine bodyPost_ret (results_bx1 rfl isRw _ _ R_A rfl rfl rfl p1) rfl ?_
          refine ⟨_, _, rfl, ?_, ?_, AP.out, (HB_56.out.grown q1 HB_56.out.size (fun k hk => by have e2 : R_A = k := Option.some.inj hk; have := HR_A.out; omega))⟩
          · rw [HQ3.out]
            exact O_n.out.kept q1 (by
              cases hv : (.slice a_n q3.length c_n : Value).ownBlock with
              | none => exact .inl rfl
              | some k0 => exact .inr (fun e => BXn.out k0 hv (Option.some.inj e)))
          · exact own_base (u_56.out.kept q1 (by
              cases hv : (.slice a_u k c_u : Value).ownBlock with
              | none => exact .inl rfl
              | some k0 => exact .inr (fun e => by have e2 : k0 = R_A := Option.some.inj e; have h1 := HX_A.out.lt; have h2 := (u_56.out.lt k0 hv).1; omega))) HB0.out.size
end Go.Proofs.Ytpmjdppipalfcaa
