/-
  The law of answers: an answer has the item that was asked for, and dropping items keeps the lead.
-/
import Derived.Test.YtkijfneaglogmaaSndL
import Derived.Test.YtkijfneaglogmaaDrawSnd2
import Derived.Test.YtkijfneaglogmaaSndI3
import Derived.Test.YtkijfneaglogmaaSnd4
import Derived.Test.YtkijfneaglogmaaSnd5
import Derived.Test.YtkijfneaglogmaaSnd6
import Derived.Test.YtkijfneaglogmaaPktI
import Derived.Test.YtkijfneaglogmaaBig
import Derived.Deep.CutRange
import Derived.BigQuiet
import Derived.WalkLawsBesides
import Derived.Deep.RegionHeld3
namespace Go.Proofs.Ytkijfneaglogmaa
open Go.RowKit Go.Lib Go.Joins
set_option linter.unusedVariables false

/-- What the law asks of an answer. -/
theorem ans_law9 {l : Sw} {p : Pk} (hl9 : ∀ u ∈ l.q, u.size ≤ 9) (h : ansOk l p.k p.n p.t p.l p.d = true) : heldOk l p.n = true ∧ (ansP l p).k = 2 ∧ (ansP l p).n = p.n ∧ (ansP l p).d = heldV l p.n ∧ pktOk (ansP l p).k (ansP l p).n (ansP l p).t (ansP l p).l (ansP l p).d = true ∧ (ansP l p).d.size ≤ maxLen := by
  obtain ⟨a1, a2, a3⟩ := ans_law h
  have e : ansP l p = ⟨2, p.n, l.t, leadI l, itemI l p.n⟩ := if_pos h
  rw [e, a2]
  refine ⟨a1, rfl, rfl, rfl, a3, ?_⟩
  have := (pktOk_bd a3).2.2.2.2.2.2.1
  show (itemI l p.n).size ≤ maxLen
  unfold maxLen
  omega
/-- What the law asks of a drop. -/
theorem drop_law9 {l : Sw} {x : Int} (hl9 : ∀ u ∈ l.q, u.size ≤ 9) (h : dropOk l x = true) : swOk l = true ∧ swOk (dropV l x) = true ∧ leadV l = leadV (dropV l x) ∧ (dropV l x).t = x ∧ ((dropV l x).q.length : Int) + dropC l x = (l.q.length : Int) ∧ l.q.length ≤ 6 ∧ ∀ u ∈ (dropV l x).q, u.size ≤ maxLen := by
  obtain ⟨a1, a2, a3, a4, a5, a6⟩ := drop_law h
  refine ⟨a1, a2, a3, a4, a5, a6, fun u hu => ?_⟩
  rw [show dropV l x = dropN l (gapI l.t x).toNat from if_pos h] at hu
  exact le_maxLen9 (hl9 u (List.mem_of_mem_drop hu))
/-- What the law asks of a new size. -/
theorem size_law9 {l : Sw} {x : Int} (hl9 : ∀ u ∈ l.q, u.size ≤ 9) (h : sizeOk l x = true) : swOk l = true ∧ swOk (sizeV l x) = true ∧ leadV l = leadV (sizeV l x) ∧ ((sizeV l x).q.length : Int) ≤ x ∧ ∀ u ∈ (sizeV l x).q, u.size ≤ maxLen := by
  obtain ⟨a1, a2, a3, a4⟩ := size_law h
  refine ⟨a1, a2, a3, a4, fun u hu => ?_⟩
  rw [show sizeV l x = sizeW l x from if_pos h] at hu
  exact le_maxLen9 (hl9 u (List.mem_of_mem_drop hu))
set_option maxRecDepth 100000 in
set_option maxHeartbeats 16000000 in
theorem fnAnswers_walk (w : World) (v0 : Value) (z0 : List Int) (w0 : Row w v0 z0.length (z0.map (Value.int .u8))) (b0 : ∀ z ∈ z0, (Lit.int .u8 z).wf = true) (_hsh : w.ShapedOpen Try.prog) :
    Calls Try.prog 4 #[v0] w fun e w' => e = .returned (.bool true) ∧ Below w.heap.size w w' := by
  clear _hsh
  have hz : ∀ x ∈ z0, 0 ≤ x ∧ x < 256 := fun x hx => by have := bounds_u8 (b0 x hx); omega
  by_cases hbig : (65536 : Int) < z0.length
  · have HV := Lib.hid (vBig_row v0 _ _ true w0 (decide_eq_true hbig))
    clear w0 b0 hz
    go_enter Try.func4, Try.ntmps4
    go_wp2_with fail
    refine (HV.out _).mono ?_
    rintro e _ ⟨rfl, rfl⟩
    go_wp2_with fail
    go_ret
    exact ⟨rfl, Below.refl _ _⟩
  have HV := Lib.hid (vBig_row v0 _ _ false w0 (decide_eq_false hbig))
  have HR := Lib.hid w0
  have HD1 := Lib.hid (fun w hr => drawAns_any v0 z0 w hr hz)
  have HD2 := Lib.hid (fun w hr => drawDrop9_any v0 z0 w hr hz)
  have HD3 := Lib.hid (fun w hr => drawSize_any v0 z0 w hr hz)
  have HD4 := Lib.hid (fun w hr => drawStat_any v0 z0 w hr hz)
  clear w0 b0 hz hbig
  go_enter Try.func4, Try.ntmps4
  go_wp2_with fail
  refine (HV.out _).mono ?_
  rintro e _ ⟨rfl, rfl⟩
  clear HV
  go_wp2_with fail
  refine (HD1.out _ (HR.out.below (Below.refl _ _) (Nat.le_refl _))).mono ?_
  rintro e W101 ⟨v_l, l, p, rfl, o_l, hq1, hp1, l101⟩
  obtain ⟨a_l, c_l, rfl, _, _⟩ := own_someS0 o_l
  have O_l := Lib.hid o_l
  clear o_l
  have HB_102 := Lib.hid l101
  clear l101
  clear HD1
  go_upto_region 4 with fail
  obtain ⟨W103, hW103⟩ : ∃ W103, W103 = (W101.alloc (.cells #[.int .i64 l.t, .int .i64 l.z, .slice a_l l.q.length c_l] 26)).alloc (.cells #[.int .i64 p.k, .int .i64 p.n, .int .i64 p.t, .int .i64 p.l, .string p.d] 30) := ⟨_, rfl⟩
  have l103 : Below W101.heap.size W101 W103 := by rw [hW103]; exact ((Below.refl _ _).alloc (Nat.le_refl _) _).alloc (by simp) _
  have X103_T3 : Hid (Bx W103 W101.heap.size #[.int .i64 l.t, .int .i64 l.z, .slice a_l l.q.length c_l] 26) := Lib.hid (by rw [hW103]; exact (Bx.new2 _ _ _ _ _).1)
  have X103_T4 : Hid (Bx W103 (W101.heap.size + 1) #[.int .i64 p.k, .int .i64 p.n, .int .i64 p.t, .int .i64 p.l, .string p.d] 30) := Lib.hid (by rw [hW103]; exact (Bx.new2 _ _ _ _ _).2)
  rw [← hW103]
  clear hW103
  have BX_T3_l : Hid (∀ k, (.slice a_l l.q.length c_l : Value).ownBlock = some k → k ≠ W101.heap.size) := Lib.hid (fun k h1 h2 => absurd (O_l.out.lt k h1).2 (by omega))
  have HG_T3 : Hid (w.heap.size ≤ W101.heap.size) := Lib.hid (HB_102.out.size)
  have BX_T4_l : Hid (∀ k, (.slice a_l l.q.length c_l : Value).ownBlock = some k → k ≠ (W101.heap.size + 1)) := Lib.hid (fun k h1 h2 => absurd (O_l.out.lt k h1).2 (by omega))
  have HG_T4 : Hid (w.heap.size ≤ (W101.heap.size + 1)) := Lib.hid (Nat.le_succ_of_le HB_102.out.size)
  have HN_T4_T3 : Hid (W101.heap.size < W101.heap.size + 1) := Lib.hid (Nat.lt_succ_self _)
  obtain ⟨R_T4, hR_T4⟩ : ∃ X, X = W101.heap.size + 1 := ⟨_, rfl⟩
  rw [← hR_T4] at X103_T4 HG_T4 HN_T4_T3 BX_T4_l ⊢
  clear hR_T4
  obtain ⟨R_T3, hR_T3⟩ : ∃ X, X = W101.heap.size := ⟨_, rfl⟩
  rw [← hR_T3] at X103_T3 HG_T3 HN_T4_T3 BX_T3_l ⊢
  clear hR_T3
  have HB_104 := Lib.hid (HB_102.out.trans (l103.mono HB_102.out.size))
  have l_104 := Lib.hid (own_below O_l.out l103 (Nat.le_refl _))
  clear O_l
  clear l103
  have c105_T3_0 := X103_T3.out.at 0 (v := .int .i64 l.t) rfl
  have c105_T3_1 := X103_T3.out.at 1 (v := .int .i64 l.z) rfl
  have c105_T3_2 := X103_T3.out.at 2 (v := .slice a_l l.q.length c_l) rfl
  have c106_T4_0 := X103_T4.out.at 0 (v := .int .i64 p.k) rfl
  have c106_T4_1 := X103_T4.out.at 1 (v := .int .i64 p.n) rfl
  have c106_T4_2 := X103_T4.out.at 2 (v := .int .i64 p.t) rfl
  have c106_T4_3 := X103_T4.out.at 3 (v := .int .i64 p.l) rfl
  have c106_T4_4 := X103_T4.out.at 4 (v := .string p.d) rfl
  have HM1 : Hid (∀ u ∈ l.q, u.size ≤ maxLen) := Lib.hid (fun u hu => le_maxLen9 (hq1.2 u hu))
  have HAi := Lib.hid (fun W h => implAns_any (.slice a_l l.q.length c_l) l p W h HM1.out (le_maxLen9 hp1))
  have HAs := Lib.hid (fun W h => specAns_any (.slice a_l l.q.length c_l) l p W h HM1.out (le_maxLen9 hp1))
  have HHi := Lib.hid (fun W h => implHeld_any (.slice a_l l.q.length c_l) l p.n W h HM1.out)
  have HF := Lib.hid (@ans_law9 l p hq1.2)
  generalize ansP l p = a at HAi HAs HF
  generalize ansOk l p.k p.n p.t p.l p.d = ok at HAi HAs HF
  generalize heldV l p.n = hv at HHi HF
  generalize heldOk l p.n = hk at HHi HF
  go_wp2_with fail
  refine (HAi.out _ (row_own l_104.out)).mono ?_
  rintro e W107 ⟨rfl, l107⟩
  clear c105_T3_0 c105_T3_1 c105_T3_2
  clear c106_T4_0 c106_T4_1 c106_T4_2 c106_T4_3 c106_T4_4
  have HB_108 := Lib.hid (HB_104.out.trans (l107.mono HB_104.out.size))
  have l_108 := Lib.hid (own_below l_104.out l107 (Nat.le_refl _))
  clear l_104
  have T3_108 := Lib.hid (X103_T3.out.below l107 X103_T3.out.lt)
  clear X103_T3
  have T4_108 := Lib.hid (X103_T4.out.below l107 X103_T4.out.lt)
  clear X103_T4
  clear l107
  have c109_T3_0 := T3_108.out.at 0 (v := .int .i64 l.t) rfl
  have c109_T3_1 := T3_108.out.at 1 (v := .int .i64 l.z) rfl
  have c109_T3_2 := T3_108.out.at 2 (v := .slice a_l l.q.length c_l) rfl
  have c110_T4_0 := T4_108.out.at 0 (v := .int .i64 p.k) rfl
  have c110_T4_1 := T4_108.out.at 1 (v := .int .i64 p.n) rfl
  have c110_T4_2 := T4_108.out.at 2 (v := .int .i64 p.t) rfl
  have c110_T4_3 := T4_108.out.at 3 (v := .int .i64 p.l) rfl
  have c110_T4_4 := T4_108.out.at 4 (v := .string p.d) rfl
  clear HAi
  go_upto_region 5 with fail
  obtain ⟨W111, hW111⟩ : ∃ W111, W111 = W107.alloc (.cells #[.int .i64 a.k, .int .i64 a.n, .int .i64 a.t, .int .i64 a.l, .string a.d] 30) := ⟨_, rfl⟩
  have l111 : Below W107.heap.size W107 W111 := by rw [hW111]; exact (Below.refl _ _).alloc (Nat.le_refl _) _
  have X111_T5 : Hid (Bx W111 W107.heap.size #[.int .i64 a.k, .int .i64 a.n, .int .i64 a.t, .int .i64 a.l, .string a.d] 30) := Lib.hid (by rw [hW111]; exact Bx.new _ _ _)
  rw [← hW111]
  clear hW111
  have BX_T5_l : Hid (∀ k, (.slice a_l l.q.length c_l : Value).ownBlock = some k → k ≠ W107.heap.size) := Lib.hid (fun k h1 h2 => absurd (l_108.out.lt k h1).2 (by omega))
  have HG_T5 : Hid (w.heap.size ≤ W107.heap.size) := Lib.hid HB_108.out.size
  have HN_T5_T3 : Hid (R_T3 < W107.heap.size) := Lib.hid T3_108.out.lt
  have HN_T5_T4 : Hid (R_T4 < W107.heap.size) := Lib.hid T4_108.out.lt
  obtain ⟨R_T5, hR_T5⟩ : ∃ X, X = W107.heap.size := ⟨_, rfl⟩
  rw [← hR_T5] at X111_T5 HG_T5 BX_T5_l HN_T5_T3 HN_T5_T4 ⊢
  clear hR_T5
  clear c109_T3_0 c109_T3_1 c109_T3_2
  clear c110_T4_0 c110_T4_1 c110_T4_2 c110_T4_3 c110_T4_4
  have HB_112 := Lib.hid (HB_108.out.trans (l111.mono HB_108.out.size))
  have l_112 := Lib.hid (own_below l_108.out l111 (Nat.le_refl _))
  clear l_108
  have T3_112 := Lib.hid (T3_108.out.below l111 T3_108.out.lt)
  clear T3_108
  have T4_112 := Lib.hid (T4_108.out.below l111 T4_108.out.lt)
  clear T4_108
  clear l111
  have c113_T3_0 := T3_112.out.at 0 (v := .int .i64 l.t) rfl
  have c113_T3_1 := T3_112.out.at 1 (v := .int .i64 l.z) rfl
  have c113_T3_2 := T3_112.out.at 2 (v := .slice a_l l.q.length c_l) rfl
  have c114_T4_0 := T4_112.out.at 0 (v := .int .i64 p.k) rfl
  have c114_T4_1 := T4_112.out.at 1 (v := .int .i64 p.n) rfl
  have c114_T4_2 := T4_112.out.at 2 (v := .int .i64 p.t) rfl
  have c114_T4_3 := T4_112.out.at 3 (v := .int .i64 p.l) rfl
  have c114_T4_4 := T4_112.out.at 4 (v := .string p.d) rfl
  have c115_T5_0 := X111_T5.out.at 0 (v := .int .i64 a.k) rfl
  have c115_T5_1 := X111_T5.out.at 1 (v := .int .i64 a.n) rfl
  have c115_T5_2 := X111_T5.out.at 2 (v := .int .i64 a.t) rfl
  have c115_T5_3 := X111_T5.out.at 3 (v := .int .i64 a.l) rfl
  have c115_T5_4 := X111_T5.out.at 4 (v := .string a.d) rfl
  go_wp2_with fail
  refine (HAs.out _ (row_own l_112.out)).mono ?_
  rintro e W116 ⟨rfl, l116⟩
  clear c113_T3_0 c113_T3_1 c113_T3_2
  clear c114_T4_0 c114_T4_1 c114_T4_2 c114_T4_3 c114_T4_4
  clear c115_T5_0 c115_T5_1 c115_T5_2 c115_T5_3 c115_T5_4
  have HB_117 := Lib.hid (HB_112.out.trans (l116.mono HB_112.out.size))
  have l_117 := Lib.hid (own_below l_112.out l116 (Nat.le_refl _))
  clear l_112
  have T3_117 := Lib.hid (T3_112.out.below l116 T3_112.out.lt)
  clear T3_112
  have T4_117 := Lib.hid (T4_112.out.below l116 T4_112.out.lt)
  clear T4_112
  have T5_117 := Lib.hid (X111_T5.out.below l116 X111_T5.out.lt)
  clear X111_T5
  clear l116
  have c118_T3_0 := T3_117.out.at 0 (v := .int .i64 l.t) rfl
  have c118_T3_1 := T3_117.out.at 1 (v := .int .i64 l.z) rfl
  have c118_T3_2 := T3_117.out.at 2 (v := .slice a_l l.q.length c_l) rfl
  have c119_T4_0 := T4_117.out.at 0 (v := .int .i64 p.k) rfl
  have c119_T4_1 := T4_117.out.at 1 (v := .int .i64 p.n) rfl
  have c119_T4_2 := T4_117.out.at 2 (v := .int .i64 p.t) rfl
  have c119_T4_3 := T4_117.out.at 3 (v := .int .i64 p.l) rfl
  have c119_T4_4 := T4_117.out.at 4 (v := .string p.d) rfl
  have c120_T5_0 := T5_117.out.at 0 (v := .int .i64 a.k) rfl
  have c120_T5_1 := T5_117.out.at 1 (v := .int .i64 a.n) rfl
  have c120_T5_2 := T5_117.out.at 2 (v := .int .i64 a.t) rfl
  have c120_T5_3 := T5_117.out.at 3 (v := .int .i64 a.l) rfl
  have c120_T5_4 := T5_117.out.at 4 (v := .string a.d) rfl
  clear HAs
  go_upto_region 6 with fail
  obtain ⟨W121, hW121⟩ : ∃ W121, W121 = W116.alloc (.cells #[.int .i64 a.k, .int .i64 a.n, .int .i64 a.t, .int .i64 a.l, .string a.d] 30) := ⟨_, rfl⟩
  have l121 : Below W116.heap.size W116 W121 := by rw [hW121]; exact (Below.refl _ _).alloc (Nat.le_refl _) _
  have X121_T7 : Hid (Bx W121 W116.heap.size #[.int .i64 a.k, .int .i64 a.n, .int .i64 a.t, .int .i64 a.l, .string a.d] 30) := Lib.hid (by rw [hW121]; exact Bx.new _ _ _)
  rw [← hW121]
  clear hW121
  have BX_T7_l : Hid (∀ k, (.slice a_l l.q.length c_l : Value).ownBlock = some k → k ≠ W116.heap.size) := Lib.hid (fun k h1 h2 => absurd (l_117.out.lt k h1).2 (by omega))
  have HG_T7 : Hid (w.heap.size ≤ W116.heap.size) := Lib.hid HB_117.out.size
  have HN_T7_T3 : Hid (R_T3 < W116.heap.size) := Lib.hid T3_117.out.lt
  have HN_T7_T4 : Hid (R_T4 < W116.heap.size) := Lib.hid T4_117.out.lt
  have HN_T7_T5 : Hid (R_T5 < W116.heap.size) := Lib.hid T5_117.out.lt
  obtain ⟨R_T7, hR_T7⟩ : ∃ X, X = W116.heap.size := ⟨_, rfl⟩
  rw [← hR_T7] at X121_T7 HG_T7 BX_T7_l HN_T7_T3 HN_T7_T4 HN_T7_T5 ⊢
  clear hR_T7
  clear c118_T3_0 c118_T3_1 c118_T3_2
  clear c119_T4_0 c119_T4_1 c119_T4_2 c119_T4_3 c119_T4_4
  clear c120_T5_0 c120_T5_1 c120_T5_2 c120_T5_3 c120_T5_4
  have HB_122 := Lib.hid (HB_117.out.trans (l121.mono HB_117.out.size))
  have l_122 := Lib.hid (own_below l_117.out l121 (Nat.le_refl _))
  clear l_117
  have T3_122 := Lib.hid (T3_117.out.below l121 T3_117.out.lt)
  clear T3_117
  have T4_122 := Lib.hid (T4_117.out.below l121 T4_117.out.lt)
  clear T4_117
  have T5_122 := Lib.hid (T5_117.out.below l121 T5_117.out.lt)
  clear T5_117
  clear l121
  have c123_T3_0 := T3_122.out.at 0 (v := .int .i64 l.t) rfl
  have c123_T3_1 := T3_122.out.at 1 (v := .int .i64 l.z) rfl
  have c123_T3_2 := T3_122.out.at 2 (v := .slice a_l l.q.length c_l) rfl
  have c124_T4_0 := T4_122.out.at 0 (v := .int .i64 p.k) rfl
  have c124_T4_1 := T4_122.out.at 1 (v := .int .i64 p.n) rfl
  have c124_T4_2 := T4_122.out.at 2 (v := .int .i64 p.t) rfl
  have c124_T4_3 := T4_122.out.at 3 (v := .int .i64 p.l) rfl
  have c124_T4_4 := T4_122.out.at 4 (v := .string p.d) rfl
  have c125_T5_0 := T5_122.out.at 0 (v := .int .i64 a.k) rfl
  have c125_T5_1 := T5_122.out.at 1 (v := .int .i64 a.n) rfl
  have c125_T5_2 := T5_122.out.at 2 (v := .int .i64 a.t) rfl
  have c125_T5_3 := T5_122.out.at 3 (v := .int .i64 a.l) rfl
  have c125_T5_4 := T5_122.out.at 4 (v := .string a.d) rfl
  have c126_T7_0 := X121_T7.out.at 0 (v := .int .i64 a.k) rfl
  have c126_T7_1 := X121_T7.out.at 1 (v := .int .i64 a.n) rfl
  have c126_T7_2 := X121_T7.out.at 2 (v := .int .i64 a.t) rfl
  have c126_T7_3 := X121_T7.out.at 3 (v := .int .i64 a.l) rfl
  have c126_T7_4 := X121_T7.out.at 4 (v := .string a.d) rfl
  go_upto_if 65 with fail
  go_cut [] from 9 to 97 (fun wx => Hid (Below W121.heap.size W121 wx))
  case first => as_aux_lemma =>
    cases ok with
    | false =>
      have HZ := Lib.hid (Below.refl W121.heap.size W121)
      clear HF HHi
      go_wp2_with fail
      go_meet
      case rel => exact HZ
    | true =>
      obtain ⟨e1, e2, e3, e4, e5, e6⟩ := HF.out rfl
      clear HF
      have HVp := Lib.hid (fun (W : World) => implValid_any a.k a.n a.t a.l a.d W e6)
      unfold pv at HVp
      rw [e5] at HVp
      rw [e2, e3, e4] at HVp
      rw [e1] at HHi
      clear c125_T5_0 c125_T5_1 c125_T5_2 c125_T5_3 c125_T5_4
      have T5n := T5_122.out
      rw [e2, e3, e4] at T5n
      have T5h := Lib.hid T5n
      clear T5n
      clear e1 e2 e3 e4 e5 e6
      clear c123_T3_0 c123_T3_1 c123_T3_2
      have c127_T3_0 := T3_122.out.at 0 (v := .int .i64 l.t) rfl
      have c127_T3_1 := T3_122.out.at 1 (v := .int .i64 l.z) rfl
      have c127_T3_2 := T3_122.out.at 2 (v := .slice a_l l.q.length c_l) rfl
      clear c124_T4_0 c124_T4_1 c124_T4_2 c124_T4_3 c124_T4_4
      have c128_T4_0 := T4_122.out.at 0 (v := .int .i64 p.k) rfl
      have c128_T4_1 := T4_122.out.at 1 (v := .int .i64 p.n) rfl
      have c128_T4_2 := T4_122.out.at 2 (v := .int .i64 p.t) rfl
      have c128_T4_3 := T4_122.out.at 3 (v := .int .i64 p.l) rfl
      have c128_T4_4 := T4_122.out.at 4 (v := .string p.d) rfl
      have c129_T5_0 := T5h.out.at 0 (v := .int .i64 2) rfl
      have c129_T5_1 := T5h.out.at 1 (v := .int .i64 p.n) rfl
      have c129_T5_2 := T5h.out.at 2 (v := .int .i64 a.t) rfl
      have c129_T5_3 := T5h.out.at 3 (v := .int .i64 a.l) rfl
      have c129_T5_4 := T5h.out.at 4 (v := .string hv) rfl
      clear c126_T7_0 c126_T7_1 c126_T7_2 c126_T7_3 c126_T7_4
      have c130_T7_0 := X121_T7.out.at 0 (v := .int .i64 a.k) rfl
      have c130_T7_1 := X121_T7.out.at 1 (v := .int .i64 a.n) rfl
      have c130_T7_2 := X121_T7.out.at 2 (v := .int .i64 a.t) rfl
      have c130_T7_3 := X121_T7.out.at 3 (v := .int .i64 a.l) rfl
      have c130_T7_4 := X121_T7.out.at 4 (v := .string a.d) rfl
      have HZ := Lib.hid (Below.refl W121.heap.size W121)
      go_wp2_with fail
      refine (HHi.out _ (row_own l_122.out)).mono ?_
      rintro e W131 ⟨rfl, l131⟩
      clear c127_T3_0 c127_T3_1 c127_T3_2
      clear c128_T4_0 c128_T4_1 c128_T4_2 c128_T4_3 c128_T4_4
      clear c129_T5_0 c129_T5_1 c129_T5_2 c129_T5_3 c129_T5_4
      clear c130_T7_0 c130_T7_1 c130_T7_2 c130_T7_3 c130_T7_4
      have HB_132 := Lib.hid (HZ.out.trans (l131.mono HZ.out.size))
      have l_132 := Lib.hid (own_below l_122.out l131 (Nat.le_refl _))
      clear l_122
      have T3_132 := Lib.hid (T3_122.out.below l131 T3_122.out.lt)
      clear T3_122
      have T4_132 := Lib.hid (T4_122.out.below l131 T4_122.out.lt)
      clear T4_122
      have T5_132 := Lib.hid (T5h.out.below l131 T5h.out.lt)
      have T7_132 := Lib.hid (X121_T7.out.below l131 X121_T7.out.lt)
      clear X121_T7
      clear l131
      have c133_T3_0 := T3_132.out.at 0 (v := .int .i64 l.t) rfl
      have c133_T3_1 := T3_132.out.at 1 (v := .int .i64 l.z) rfl
      have c133_T3_2 := T3_132.out.at 2 (v := .slice a_l l.q.length c_l) rfl
      have c134_T4_0 := T4_132.out.at 0 (v := .int .i64 p.k) rfl
      have c134_T4_1 := T4_132.out.at 1 (v := .int .i64 p.n) rfl
      have c134_T4_2 := T4_132.out.at 2 (v := .int .i64 p.t) rfl
      have c134_T4_3 := T4_132.out.at 3 (v := .int .i64 p.l) rfl
      have c134_T4_4 := T4_132.out.at 4 (v := .string p.d) rfl
      have c135_T5_0 := T5_132.out.at 0 (v := .int .i64 2) rfl
      have c135_T5_1 := T5_132.out.at 1 (v := .int .i64 p.n) rfl
      have c135_T5_2 := T5_132.out.at 2 (v := .int .i64 a.t) rfl
      have c135_T5_3 := T5_132.out.at 3 (v := .int .i64 a.l) rfl
      have c135_T5_4 := T5_132.out.at 4 (v := .string hv) rfl
      have c136_T7_0 := T7_132.out.at 0 (v := .int .i64 a.k) rfl
      have c136_T7_1 := T7_132.out.at 1 (v := .int .i64 a.n) rfl
      have c136_T7_2 := T7_132.out.at 2 (v := .int .i64 a.t) rfl
      have c136_T7_3 := T7_132.out.at 3 (v := .int .i64 a.l) rfl
      have c136_T7_4 := T7_132.out.at 4 (v := .string a.d) rfl
      go_wp2_with fail
      refine (HVp.out _).mono ?_
      rintro e W137 ⟨rfl, l137⟩
      clear c133_T3_0 c133_T3_1 c133_T3_2
      clear c134_T4_0 c134_T4_1 c134_T4_2 c134_T4_3 c134_T4_4
      clear c135_T5_0 c135_T5_1 c135_T5_2 c135_T5_3 c135_T5_4
      clear c136_T7_0 c136_T7_1 c136_T7_2 c136_T7_3 c136_T7_4
      have HB_138 := Lib.hid (HB_132.out.trans (l137.mono HB_132.out.size))
      have l_138 := Lib.hid (own_below l_132.out l137 (Nat.le_refl _))
      clear l_132
      have T3_138 := Lib.hid (T3_132.out.below l137 T3_132.out.lt)
      clear T3_132
      have T4_138 := Lib.hid (T4_132.out.below l137 T4_132.out.lt)
      clear T4_132
      have T5_138 := Lib.hid (T5_132.out.below l137 T5_132.out.lt)
      clear T5_132
      have T7_138 := Lib.hid (T7_132.out.below l137 T7_132.out.lt)
      clear T7_132
      clear l137
      have c139_T3_0 := T3_138.out.at 0 (v := .int .i64 l.t) rfl
      have c139_T3_1 := T3_138.out.at 1 (v := .int .i64 l.z) rfl
      have c139_T3_2 := T3_138.out.at 2 (v := .slice a_l l.q.length c_l) rfl
      have c140_T4_0 := T4_138.out.at 0 (v := .int .i64 p.k) rfl
      have c140_T4_1 := T4_138.out.at 1 (v := .int .i64 p.n) rfl
      have c140_T4_2 := T4_138.out.at 2 (v := .int .i64 p.t) rfl
      have c140_T4_3 := T4_138.out.at 3 (v := .int .i64 p.l) rfl
      have c140_T4_4 := T4_138.out.at 4 (v := .string p.d) rfl
      have c141_T5_0 := T5_138.out.at 0 (v := .int .i64 2) rfl
      have c141_T5_1 := T5_138.out.at 1 (v := .int .i64 p.n) rfl
      have c141_T5_2 := T5_138.out.at 2 (v := .int .i64 a.t) rfl
      have c141_T5_3 := T5_138.out.at 3 (v := .int .i64 a.l) rfl
      have c141_T5_4 := T5_138.out.at 4 (v := .string hv) rfl
      have c142_T7_0 := T7_138.out.at 0 (v := .int .i64 a.k) rfl
      have c142_T7_1 := T7_138.out.at 1 (v := .int .i64 a.n) rfl
      have c142_T7_2 := T7_138.out.at 2 (v := .int .i64 a.t) rfl
      have c142_T7_3 := T7_138.out.at 3 (v := .int .i64 a.l) rfl
      have c142_T7_4 := T7_138.out.at 4 (v := .string a.d) rfl
      go_wp2_with fail
      go_meet
      case rel => exact HB_138
  case rest => as_aux_lemma =>
    rename World => W143
    have l143 := hcut.out
    clear hcut HF HHi HM1 hq1 hp1
    clear l_122
    clear c123_T3_0 c123_T3_1 c123_T3_2
    clear T3_122
    clear c124_T4_0 c124_T4_1 c124_T4_2 c124_T4_3 c124_T4_4
    clear T4_122
    clear c125_T5_0 c125_T5_1 c125_T5_2 c125_T5_3 c125_T5_4
    clear T5_122
    clear c126_T7_0 c126_T7_1 c126_T7_2 c126_T7_3 c126_T7_4
    clear X121_T7
    have HB_144 := Lib.hid (HB_122.out.trans (l143.mono HB_122.out.size))
    clear l143
    go_wp2_with fail
    refine (HD2.out _ (HR.out.below HB_144.out (Nat.le_refl _))).mono ?_
    rintro e W145 ⟨v_x, x, tr, rfl, o_x, hq2, hx2, l145⟩
    obtain ⟨a_x, c_x, rfl, _, _⟩ := own_someS0 o_x
    have O_x := Lib.hid (own_base o_x HB_144.out.size)
    clear o_x
    have HB_146 := Lib.hid (HB_144.out.trans (l145.mono HB_144.out.size))
    clear l145
    clear HD2
    go_upto_region 13 with fail
    obtain ⟨W147, hW147⟩ : ∃ W147, W147 = W145.alloc (.cells #[.int .i64 x.t, .int .i64 x.z, .slice a_x x.q.length c_x] 26) := ⟨_, rfl⟩
    have l147 : Below W145.heap.size W145 W147 := by rw [hW147]; exact (Below.refl _ _).alloc (Nat.le_refl _) _
    have X147_T11 : Hid (Bx W147 W145.heap.size #[.int .i64 x.t, .int .i64 x.z, .slice a_x x.q.length c_x] 26) := Lib.hid (by rw [hW147]; exact Bx.new _ _ _)
    rw [← hW147]
    clear hW147
    have BX_T11_x : Hid (∀ k, (.slice a_x x.q.length c_x : Value).ownBlock = some k → k ≠ W145.heap.size) := Lib.hid (fun k h1 h2 => absurd (O_x.out.lt k h1).2 (by omega))
    have HG_T11 : Hid (w.heap.size ≤ W145.heap.size) := Lib.hid HB_146.out.size
    obtain ⟨R_T11, hR_T11⟩ : ∃ X, X = W145.heap.size := ⟨_, rfl⟩
    rw [← hR_T11] at X147_T11 HG_T11 BX_T11_x ⊢
    clear hR_T11
    have HB_148 := Lib.hid (HB_146.out.trans (l147.mono HB_146.out.size))
    have x_148 := Lib.hid (own_below O_x.out l147 (Nat.le_refl _))
    clear O_x
    clear l147
    have c149_T11_0 := X147_T11.out.at 0 (v := .int .i64 x.t) rfl
    have c149_T11_1 := X147_T11.out.at 1 (v := .int .i64 x.z) rfl
    have c149_T11_2 := X147_T11.out.at 2 (v := .slice a_x x.q.length c_x) rfl
    have HM2 : Hid (∀ u ∈ x.q, u.size ≤ maxLen) := Lib.hid (fun u hu => le_maxLen9 (hq2.2 u hu))
    have HDi := Lib.hid (fun W h hfa => implDrop9_any (.slice a_x x.q.length c_x) x tr W h HM2.out hfa)
    have HDs := Lib.hid (fun W h hfa => specDrop9_any (.slice a_x x.q.length c_x) x tr W h HM2.out hfa)
    have HLx := Lib.hid (fun W h => implLead_any (.slice a_x x.q.length c_x) x W h HM2.out)
    have HF := Lib.hid (@drop_law9 x tr hq2.2)
    generalize dropV x tr = y at HDi HDs HF
    generalize dropC x tr = n at HDi HDs HF
    generalize dropOk x tr = told at HDi HDs HF
    generalize swOk x = fx at HLx HF
    generalize leadV x = ld at HLx HF
    go_wp2_with fail
    refine (HDi.out _ (row_own x_148.out) (fitA_own x_148.out)).mono ?_
    rintro e W150 ⟨v_y, rfl, o_y, l150⟩
    obtain ⟨a_y, c_y, rfl, _, _⟩ := own_someS0 o_y
    have O_y := Lib.hid (own_base o_y HB_148.out.size)
    have BX_T11_y : Hid (∀ k, (.slice a_y y.q.length c_y : Value).ownBlock = some k → k ≠ R_T11) := Lib.hid (fun k h1 h2 => absurd X147_T11.out.lt (Nat.not_lt.2 (by rw [← h2]; exact (o_y.lt k h1).1)))
    clear o_y
    clear c149_T11_0 c149_T11_1 c149_T11_2
    have HB_151 := Lib.hid (HB_148.out.trans (l150.mono HB_148.out.size))
    have x_151 := Lib.hid (own_below x_148.out l150 (Nat.le_refl _))
    clear x_148
    have T11_151 := Lib.hid (X147_T11.out.below l150 X147_T11.out.lt)
    clear X147_T11
    clear l150
    have c152_T11_0 := T11_151.out.at 0 (v := .int .i64 x.t) rfl
    have c152_T11_1 := T11_151.out.at 1 (v := .int .i64 x.z) rfl
    have c152_T11_2 := T11_151.out.at 2 (v := .slice a_x x.q.length c_x) rfl
    clear HDi
    go_upto_region 14 with fail
    obtain ⟨W153, hW153⟩ : ∃ W153, W153 = W150.alloc (.cells #[.int .i64 y.t, .int .i64 y.z, .slice a_y y.q.length c_y] 26) := ⟨_, rfl⟩
    have l153 : Below W150.heap.size W150 W153 := by rw [hW153]; exact (Below.refl _ _).alloc (Nat.le_refl _) _
    have X153_T13 : Hid (Bx W153 W150.heap.size #[.int .i64 y.t, .int .i64 y.z, .slice a_y y.q.length c_y] 26) := Lib.hid (by rw [hW153]; exact Bx.new _ _ _)
    rw [← hW153]
    clear hW153
    have BX_T13_x : Hid (∀ k, (.slice a_x x.q.length c_x : Value).ownBlock = some k → k ≠ W150.heap.size) := Lib.hid (fun k h1 h2 => absurd (x_151.out.lt k h1).2 (by omega))
    have BX_T13_y : Hid (∀ k, (.slice a_y y.q.length c_y : Value).ownBlock = some k → k ≠ W150.heap.size) := Lib.hid (fun k h1 h2 => absurd (O_y.out.lt k h1).2 (by omega))
    have HG_T13 : Hid (w.heap.size ≤ W150.heap.size) := Lib.hid HB_151.out.size
    have HN_T13_T11 : Hid (R_T11 < W150.heap.size) := Lib.hid T11_151.out.lt
    obtain ⟨R_T13, hR_T13⟩ : ∃ X, X = W150.heap.size := ⟨_, rfl⟩
    rw [← hR_T13] at X153_T13 HG_T13 BX_T13_x BX_T13_y HN_T13_T11 ⊢
    clear hR_T13
    clear c152_T11_0 c152_T11_1 c152_T11_2
    have HB_154 := Lib.hid (HB_151.out.trans (l153.mono HB_151.out.size))
    have x_154 := Lib.hid (own_below x_151.out l153 (Nat.le_refl _))
    clear x_151
    have y_154 := Lib.hid (own_below O_y.out l153 (Nat.le_refl _))
    clear O_y
    have T11_154 := Lib.hid (T11_151.out.below l153 T11_151.out.lt)
    clear T11_151
    clear l153
    have c155_T11_0 := T11_154.out.at 0 (v := .int .i64 x.t) rfl
    have c155_T11_1 := T11_154.out.at 1 (v := .int .i64 x.z) rfl
    have c155_T11_2 := T11_154.out.at 2 (v := .slice a_x x.q.length c_x) rfl
    have c156_T13_0 := X153_T13.out.at 0 (v := .int .i64 y.t) rfl
    have c156_T13_1 := X153_T13.out.at 1 (v := .int .i64 y.z) rfl
    have c156_T13_2 := X153_T13.out.at 2 (v := .slice a_y y.q.length c_y) rfl
    go_wp2_with fail
    refine (HDs.out _ (row_own x_154.out) (fitA_own x_154.out)).mono ?_
    rintro e W157 ⟨v_w, rfl, o_w, l157⟩
    obtain ⟨a_w, c_w, rfl, _, _⟩ := own_someS0 o_w
    have O_w := Lib.hid (own_base o_w HB_154.out.size)
    have BX_T11_w : Hid (∀ k, (.slice a_w y.q.length c_w : Value).ownBlock = some k → k ≠ R_T11) := Lib.hid (fun k h1 h2 => absurd T11_154.out.lt (Nat.not_lt.2 (by rw [← h2]; exact (o_w.lt k h1).1)))
    have BX_T13_w : Hid (∀ k, (.slice a_w y.q.length c_w : Value).ownBlock = some k → k ≠ R_T13) := Lib.hid (fun k h1 h2 => absurd X153_T13.out.lt (Nat.not_lt.2 (by rw [← h2]; exact (o_w.lt k h1).1)))
    clear o_w
    clear c155_T11_0 c155_T11_1 c155_T11_2
    clear c156_T13_0 c156_T13_1 c156_T13_2
    have HB_158 := Lib.hid (HB_154.out.trans (l157.mono HB_154.out.size))
    have x_158 := Lib.hid (own_below x_154.out l157 (Nat.le_refl _))
    clear x_154
    have y_158 := Lib.hid (own_below y_154.out l157 (Nat.le_refl _))
    clear y_154
    have T11_158 := Lib.hid (T11_154.out.below l157 T11_154.out.lt)
    clear T11_154
    have T13_158 := Lib.hid (X153_T13.out.below l157 X153_T13.out.lt)
    clear X153_T13
    clear l157
    have c159_T11_0 := T11_158.out.at 0 (v := .int .i64 x.t) rfl
    have c159_T11_1 := T11_158.out.at 1 (v := .int .i64 x.z) rfl
    have c159_T11_2 := T11_158.out.at 2 (v := .slice a_x x.q.length c_x) rfl
    have c160_T13_0 := T13_158.out.at 0 (v := .int .i64 y.t) rfl
    have c160_T13_1 := T13_158.out.at 1 (v := .int .i64 y.z) rfl
    have c160_T13_2 := T13_158.out.at 2 (v := .slice a_y y.q.length c_y) rfl
    clear HDs
    go_upto_region 15 with fail
    obtain ⟨W161, hW161⟩ : ∃ W161, W161 = W157.alloc (.cells #[.int .i64 y.t, .int .i64 y.z, .slice a_w y.q.length c_w] 26) := ⟨_, rfl⟩
    have l161 : Below W157.heap.size W157 W161 := by rw [hW161]; exact (Below.refl _ _).alloc (Nat.le_refl _) _
    have X161_T16 : Hid (Bx W161 W157.heap.size #[.int .i64 y.t, .int .i64 y.z, .slice a_w y.q.length c_w] 26) := Lib.hid (by rw [hW161]; exact Bx.new _ _ _)
    rw [← hW161]
    clear hW161
    have BX_T16_x : Hid (∀ k, (.slice a_x x.q.length c_x : Value).ownBlock = some k → k ≠ W157.heap.size) := Lib.hid (fun k h1 h2 => absurd (x_158.out.lt k h1).2 (by omega))
    have BX_T16_y : Hid (∀ k, (.slice a_y y.q.length c_y : Value).ownBlock = some k → k ≠ W157.heap.size) := Lib.hid (fun k h1 h2 => absurd (y_158.out.lt k h1).2 (by omega))
    have BX_T16_w : Hid (∀ k, (.slice a_w y.q.length c_w : Value).ownBlock = some k → k ≠ W157.heap.size) := Lib.hid (fun k h1 h2 => absurd (O_w.out.lt k h1).2 (by omega))
    have HG_T16 : Hid (w.heap.size ≤ W157.heap.size) := Lib.hid HB_158.out.size
    have HN_T16_T11 : Hid (R_T11 < W157.heap.size) := Lib.hid T11_158.out.lt
    have HN_T16_T13 : Hid (R_T13 < W157.heap.size) := Lib.hid T13_158.out.lt
    obtain ⟨R_T16, hR_T16⟩ : ∃ X, X = W157.heap.size := ⟨_, rfl⟩
    rw [← hR_T16] at X161_T16 HG_T16 BX_T16_x BX_T16_y BX_T16_w HN_T16_T11 HN_T16_T13 ⊢
    clear hR_T16
    clear c159_T11_0 c159_T11_1 c159_T11_2
    clear c160_T13_0 c160_T13_1 c160_T13_2
    have HB_162 := Lib.hid (HB_158.out.trans (l161.mono HB_158.out.size))
    have x_162 := Lib.hid (own_below x_158.out l161 (Nat.le_refl _))
    clear x_158
    have y_162 := Lib.hid (own_below y_158.out l161 (Nat.le_refl _))
    clear y_158
    have w_162 := Lib.hid (own_below O_w.out l161 (Nat.le_refl _))
    clear O_w
    have T11_162 := Lib.hid (T11_158.out.below l161 T11_158.out.lt)
    clear T11_158
    have T13_162 := Lib.hid (T13_158.out.below l161 T13_158.out.lt)
    clear T13_158
    clear l161
    have c163_T11_0 := T11_162.out.at 0 (v := .int .i64 x.t) rfl
    have c163_T11_1 := T11_162.out.at 1 (v := .int .i64 x.z) rfl
    have c163_T11_2 := T11_162.out.at 2 (v := .slice a_x x.q.length c_x) rfl
    have c164_T13_0 := T13_162.out.at 0 (v := .int .i64 y.t) rfl
    have c164_T13_1 := T13_162.out.at 1 (v := .int .i64 y.z) rfl
    have c164_T13_2 := T13_162.out.at 2 (v := .slice a_y y.q.length c_y) rfl
    have c165_T16_0 := X161_T16.out.at 0 (v := .int .i64 y.t) rfl
    have c165_T16_1 := X161_T16.out.at 1 (v := .int .i64 y.z) rfl
    have c165_T16_2 := X161_T16.out.at 2 (v := .slice a_w y.q.length c_w) rfl
    go_wp2_with fail
    refine (vWin_same _ _ y _ (row_own y_162.out) (row_own w_162.out)).mono ?_
    rintro e W166 ⟨rfl, l166⟩
    clear c163_T11_0 c163_T11_1 c163_T11_2
    clear c164_T13_0 c164_T13_1 c164_T13_2
    clear c165_T16_0 c165_T16_1 c165_T16_2
    have HB_167 := Lib.hid (HB_162.out.trans (l166.mono HB_162.out.size))
    have x_167 := Lib.hid (own_below x_162.out l166 (Nat.le_refl _))
    clear x_162
    have y_167 := Lib.hid (own_below y_162.out l166 (Nat.le_refl _))
    clear y_162
    have w_167 := Lib.hid (own_below w_162.out l166 (Nat.le_refl _))
    clear w_162
    have T11_167 := Lib.hid (T11_162.out.below l166 T11_162.out.lt)
    clear T11_162
    have T13_167 := Lib.hid (T13_162.out.below l166 T13_162.out.lt)
    clear T13_162
    have T16_167 := Lib.hid (X161_T16.out.below l166 X161_T16.out.lt)
    clear X161_T16
    clear l166
    have c168_T11_0 := T11_167.out.at 0 (v := .int .i64 x.t) rfl
    have c168_T11_1 := T11_167.out.at 1 (v := .int .i64 x.z) rfl
    have c168_T11_2 := T11_167.out.at 2 (v := .slice a_x x.q.length c_x) rfl
    have c169_T13_0 := T13_167.out.at 0 (v := .int .i64 y.t) rfl
    have c169_T13_1 := T13_167.out.at 1 (v := .int .i64 y.z) rfl
    have c169_T13_2 := T13_167.out.at 2 (v := .slice a_y y.q.length c_y) rfl
    have c170_T16_0 := T16_167.out.at 0 (v := .int .i64 y.t) rfl
    have c170_T16_1 := T16_167.out.at 1 (v := .int .i64 y.z) rfl
    have c170_T16_2 := T16_167.out.at 2 (v := .slice a_w y.q.length c_w) rfl
    clear w_167
    clear c170_T16_0 c170_T16_1 c170_T16_2
    clear T16_167
    go_upto_if 131 with fail
    go_cut [] from 19 to 169 (fun wx => Hid (Below W166.heap.size W166 wx))
    case first => as_aux_lemma =>
      cases told with
      | false =>
        have HZ := Lib.hid (Below.refl W166.heap.size W166)
        clear HF HLx
        go_wp2_with fail
        go_meet
        case rel => exact HZ
      | true =>
        obtain ⟨e1, e2, e3, e4, e5, e6, hm9⟩ := HF.out rfl
        clear HF
        have HLy := Lib.hid (fun W h => implLead_any (.slice a_y y.q.length c_y) y W h hm9)
        rw [e2, ← e3, e4] at HLy
        rw [e1] at HLx
        have hw : IntKind.i64.wrap ((y.q.length : Int) + n) = (x.q.length : Int) := by rw [e5]; exact IntWalk.i64_in _ (by omega)
        clear c169_T13_0 c169_T13_1 c169_T13_2
        have T13n := T13_167.out
        rw [e4] at T13n
        have T13h := Lib.hid T13n
        clear T13n
        clear e1 e2 e3 e4 e5 e6 hm9
        clear c168_T11_0 c168_T11_1 c168_T11_2
        have c171_T11_0 := T11_167.out.at 0 (v := .int .i64 x.t) rfl
        have c171_T11_1 := T11_167.out.at 1 (v := .int .i64 x.z) rfl
        have c171_T11_2 := T11_167.out.at 2 (v := .slice a_x x.q.length c_x) rfl
        have c172_T13_0 := T13h.out.at 0 (v := .int .i64 tr) rfl
        have c172_T13_1 := T13h.out.at 1 (v := .int .i64 y.z) rfl
        have c172_T13_2 := T13h.out.at 2 (v := .slice a_y y.q.length c_y) rfl
        have HZ := Lib.hid (Below.refl W166.heap.size W166)
        go_wp2_with fail
        refine (HLx.out _ (row_own x_167.out)).mono ?_
        rintro e W173 ⟨rfl, l173⟩
        clear c171_T11_0 c171_T11_1 c171_T11_2
        clear c172_T13_0 c172_T13_1 c172_T13_2
        have HB_174 := Lib.hid (HZ.out.trans (l173.mono HZ.out.size))
        have x_174 := Lib.hid (own_below x_167.out l173 (Nat.le_refl _))
        clear x_167
        have y_174 := Lib.hid (own_below y_167.out l173 (Nat.le_refl _))
        clear y_167
        have T11_174 := Lib.hid (T11_167.out.below l173 T11_167.out.lt)
        clear T11_167
        have T13_174 := Lib.hid (T13h.out.below l173 T13h.out.lt)
        clear l173
        have c175_T11_0 := T11_174.out.at 0 (v := .int .i64 x.t) rfl
        have c175_T11_1 := T11_174.out.at 1 (v := .int .i64 x.z) rfl
        have c175_T11_2 := T11_174.out.at 2 (v := .slice a_x x.q.length c_x) rfl
        have c176_T13_0 := T13_174.out.at 0 (v := .int .i64 tr) rfl
        have c176_T13_1 := T13_174.out.at 1 (v := .int .i64 y.z) rfl
        have c176_T13_2 := T13_174.out.at 2 (v := .slice a_y y.q.length c_y) rfl
        go_wp2_with fail
        refine (HLy.out _ (row_own y_174.out)).mono ?_
        rintro e W177 ⟨rfl, l177⟩
        clear c175_T11_0 c175_T11_1 c175_T11_2
        clear c176_T13_0 c176_T13_1 c176_T13_2
        have HB_178 := Lib.hid (HB_174.out.trans (l177.mono HB_174.out.size))
        have x_178 := Lib.hid (own_below x_174.out l177 (Nat.le_refl _))
        clear x_174
        have y_178 := Lib.hid (own_below y_174.out l177 (Nat.le_refl _))
        clear y_174
        have T11_178 := Lib.hid (T11_174.out.below l177 T11_174.out.lt)
        clear T11_174
        have T13_178 := Lib.hid (T13_174.out.below l177 T13_174.out.lt)
        clear T13_174
        clear l177
        have c179_T11_0 := T11_178.out.at 0 (v := .int .i64 x.t) rfl
        have c179_T11_1 := T11_178.out.at 1 (v := .int .i64 x.z) rfl
        have c179_T11_2 := T11_178.out.at 2 (v := .slice a_x x.q.length c_x) rfl
        have c180_T13_0 := T13_178.out.at 0 (v := .int .i64 tr) rfl
        have c180_T13_1 := T13_178.out.at 1 (v := .int .i64 y.z) rfl
        have c180_T13_2 := T13_178.out.at 2 (v := .slice a_y y.q.length c_y) rfl
        go_wp2_with fail
        go_meet
        case rel => exact HB_178
    case rest => as_aux_lemma =>
      rename World => W181
      have l181 := hcut.out
      clear hcut HF HLx HM2 hq2 hx2
      clear x_167
      clear y_167
      clear c168_T11_0 c168_T11_1 c168_T11_2
      clear T11_167
      clear c169_T13_0 c169_T13_1 c169_T13_2
      clear T13_167
      have HB_182 := Lib.hid (HB_167.out.trans (l181.mono HB_167.out.size))
      clear l181
      go_wp2_with fail
      refine (HD3.out _ (HR.out.below HB_182.out (Nat.le_refl _))).mono ?_
      rintro e W183 ⟨v_u, u, sz, rfl, o_u, hq3, l183⟩
      obtain ⟨a_u, c_u, rfl, _, _⟩ := own_someS0 o_u
      have O_u := Lib.hid (own_base o_u HB_182.out.size)
      clear o_u
      have HB_184 := Lib.hid (HB_182.out.trans (l183.mono HB_182.out.size))
      clear l183
      clear HD3
      go_upto_region 23 with fail
      obtain ⟨W185, hW185⟩ : ∃ W185, W185 = W183.alloc (.cells #[.int .i64 u.t, .int .i64 u.z, .slice a_u u.q.length c_u] 26) := ⟨_, rfl⟩
      have l185 : Below W183.heap.size W183 W185 := by rw [hW185]; exact (Below.refl _ _).alloc (Nat.le_refl _) _
      have X185_T23 : Hid (Bx W185 W183.heap.size #[.int .i64 u.t, .int .i64 u.z, .slice a_u u.q.length c_u] 26) := Lib.hid (by rw [hW185]; exact Bx.new _ _ _)
      rw [← hW185]
      clear hW185
      have BX_T23_u : Hid (∀ k, (.slice a_u u.q.length c_u : Value).ownBlock = some k → k ≠ W183.heap.size) := Lib.hid (fun k h1 h2 => absurd (O_u.out.lt k h1).2 (by omega))
      have HG_T23 : Hid (w.heap.size ≤ W183.heap.size) := Lib.hid HB_184.out.size
      obtain ⟨R_T23, hR_T23⟩ : ∃ X, X = W183.heap.size := ⟨_, rfl⟩
      rw [← hR_T23] at X185_T23 HG_T23 BX_T23_u ⊢
      clear hR_T23
      have HB_186 := Lib.hid (HB_184.out.trans (l185.mono HB_184.out.size))
      have u_186 := Lib.hid (own_below O_u.out l185 (Nat.le_refl _))
      clear O_u
      clear l185
      have c187_T23_0 := X185_T23.out.at 0 (v := .int .i64 u.t) rfl
      have c187_T23_1 := X185_T23.out.at 1 (v := .int .i64 u.z) rfl
      have c187_T23_2 := X185_T23.out.at 2 (v := .slice a_u u.q.length c_u) rfl
      have HM3 : Hid (∀ s ∈ u.q, s.size ≤ maxLen) := Lib.hid (fun s hs => le_maxLen9 (hq3.2 s hs))
      have HSi := Lib.hid (fun W h hfa => implSize_any (.slice a_u u.q.length c_u) u sz W h HM3.out hfa)
      have HSs := Lib.hid (fun W h hfa => specSize_any (.slice a_u u.q.length c_u) u sz W h HM3.out hfa)
      have HLu := Lib.hid (fun W h => implLead_any (.slice a_u u.q.length c_u) u W h HM3.out)
      have HF := Lib.hid (@size_law9 u sz hq3.2)
      generalize sizeV u sz = y at HSi HSs HF
      generalize sizeOk u sz = told at HSi HSs HF
      generalize swOk u = fx at HLu HF
      generalize leadV u = ld at HLu HF
      go_wp2_with fail
      refine (HSi.out _ (row_own u_186.out) (fitA_own u_186.out)).mono ?_
      rintro e W188 ⟨v_y, rfl, o_y, l188⟩
      obtain ⟨a_y, c_y, rfl, _, _⟩ := own_someS0 o_y
      have O_y := Lib.hid (own_base o_y HB_186.out.size)
      have BX_T23_y : Hid (∀ k, (.slice a_y y.q.length c_y : Value).ownBlock = some k → k ≠ R_T23) := Lib.hid (fun k h1 h2 => absurd X185_T23.out.lt (Nat.not_lt.2 (by rw [← h2]; exact (o_y.lt k h1).1)))
      clear o_y
      clear c187_T23_0 c187_T23_1 c187_T23_2
      have HB_189 := Lib.hid (HB_186.out.trans (l188.mono HB_186.out.size))
      have u_189 := Lib.hid (own_below u_186.out l188 (Nat.le_refl _))
      clear u_186
      have T23_189 := Lib.hid (X185_T23.out.below l188 X185_T23.out.lt)
      clear X185_T23
      clear l188
      have c190_T23_0 := T23_189.out.at 0 (v := .int .i64 u.t) rfl
      have c190_T23_1 := T23_189.out.at 1 (v := .int .i64 u.z) rfl
      have c190_T23_2 := T23_189.out.at 2 (v := .slice a_u u.q.length c_u) rfl
      clear HSi
      go_upto_region 24 with fail
      obtain ⟨W191, hW191⟩ : ∃ W191, W191 = W188.alloc (.cells #[.int .i64 y.t, .int .i64 y.z, .slice a_y y.q.length c_y] 26) := ⟨_, rfl⟩
      have l191 : Below W188.heap.size W188 W191 := by rw [hW191]; exact (Below.refl _ _).alloc (Nat.le_refl _) _
      have X191_T25 : Hid (Bx W191 W188.heap.size #[.int .i64 y.t, .int .i64 y.z, .slice a_y y.q.length c_y] 26) := Lib.hid (by rw [hW191]; exact Bx.new _ _ _)
      rw [← hW191]
      clear hW191
      have BX_T25_u : Hid (∀ k, (.slice a_u u.q.length c_u : Value).ownBlock = some k → k ≠ W188.heap.size) := Lib.hid (fun k h1 h2 => absurd (u_189.out.lt k h1).2 (by omega))
      have BX_T25_y : Hid (∀ k, (.slice a_y y.q.length c_y : Value).ownBlock = some k → k ≠ W188.heap.size) := Lib.hid (fun k h1 h2 => absurd (O_y.out.lt k h1).2 (by omega))
      have HG_T25 : Hid (w.heap.size ≤ W188.heap.size) := Lib.hid HB_189.out.size
      have HN_T25_T23 : Hid (R_T23 < W188.heap.size) := Lib.hid T23_189.out.lt
      obtain ⟨R_T25, hR_T25⟩ : ∃ X, X = W188.heap.size := ⟨_, rfl⟩
      rw [← hR_T25] at X191_T25 HG_T25 BX_T25_u BX_T25_y HN_T25_T23 ⊢
      clear hR_T25
      clear c190_T23_0 c190_T23_1 c190_T23_2
      have HB_192 := Lib.hid (HB_189.out.trans (l191.mono HB_189.out.size))
      have u_192 := Lib.hid (own_below u_189.out l191 (Nat.le_refl _))
      clear u_189
      have y_192 := Lib.hid (own_below O_y.out l191 (Nat.le_refl _))
      clear O_y
      have T23_192 := Lib.hid (T23_189.out.below l191 T23_189.out.lt)
      clear T23_189
      clear l191
      have c193_T23_0 := T23_192.out.at 0 (v := .int .i64 u.t) rfl
      have c193_T23_1 := T23_192.out.at 1 (v := .int .i64 u.z) rfl
      have c193_T23_2 := T23_192.out.at 2 (v := .slice a_u u.q.length c_u) rfl
      have c194_T25_0 := X191_T25.out.at 0 (v := .int .i64 y.t) rfl
      have c194_T25_1 := X191_T25.out.at 1 (v := .int .i64 y.z) rfl
      have c194_T25_2 := X191_T25.out.at 2 (v := .slice a_y y.q.length c_y) rfl
      go_wp2_with fail
      refine (HSs.out _ (row_own u_192.out) (fitA_own u_192.out)).mono ?_
      rintro e W195 ⟨v_w, rfl, o_w, l195⟩
      obtain ⟨a_w, c_w, rfl, _, _⟩ := own_someS0 o_w
      have O_w := Lib.hid (own_base o_w HB_192.out.size)
      have BX_T23_w : Hid (∀ k, (.slice a_w y.q.length c_w : Value).ownBlock = some k → k ≠ R_T23) := Lib.hid (fun k h1 h2 => absurd T23_192.out.lt (Nat.not_lt.2 (by rw [← h2]; exact (o_w.lt k h1).1)))
      have BX_T25_w : Hid (∀ k, (.slice a_w y.q.length c_w : Value).ownBlock = some k → k ≠ R_T25) := Lib.hid (fun k h1 h2 => absurd X191_T25.out.lt (Nat.not_lt.2 (by rw [← h2]; exact (o_w.lt k h1).1)))
      clear o_w
      clear c193_T23_0 c193_T23_1 c193_T23_2
      clear c194_T25_0 c194_T25_1 c194_T25_2
      have HB_196 := Lib.hid (HB_192.out.trans (l195.mono HB_192.out.size))
      have u_196 := Lib.hid (own_below u_192.out l195 (Nat.le_refl _))
      clear u_192
      have y_196 := Lib.hid (own_below y_192.out l195 (Nat.le_refl _))
      clear y_192
      have T23_196 := Lib.hid (T23_192.out.below l195 T23_192.out.lt)
      clear T23_192
      have T25_196 := Lib.hid (X191_T25.out.below l195 X191_T25.out.lt)
      clear X191_T25
      clear l195
      have c197_T23_0 := T23_196.out.at 0 (v := .int .i64 u.t) rfl
      have c197_T23_1 := T23_196.out.at 1 (v := .int .i64 u.z) rfl
      have c197_T23_2 := T23_196.out.at 2 (v := .slice a_u u.q.length c_u) rfl
      have c198_T25_0 := T25_196.out.at 0 (v := .int .i64 y.t) rfl
      have c198_T25_1 := T25_196.out.at 1 (v := .int .i64 y.z) rfl
      have c198_T25_2 := T25_196.out.at 2 (v := .slice a_y y.q.length c_y) rfl
      clear HSs
      go_upto_region 25 with fail
      obtain ⟨W199, hW199⟩ : ∃ W199, W199 = W195.alloc (.cells #[.int .i64 y.t, .int .i64 y.z, .slice a_w y.q.length c_w] 26) := ⟨_, rfl⟩
      have l199 : Below W195.heap.size W195 W199 := by rw [hW199]; exact (Below.refl _ _).alloc (Nat.le_refl _) _
      have X199_T27 : Hid (Bx W199 W195.heap.size #[.int .i64 y.t, .int .i64 y.z, .slice a_w y.q.length c_w] 26) := Lib.hid (by rw [hW199]; exact Bx.new _ _ _)
      rw [← hW199]
      clear hW199
      have BX_T27_u : Hid (∀ k, (.slice a_u u.q.length c_u : Value).ownBlock = some k → k ≠ W195.heap.size) := Lib.hid (fun k h1 h2 => absurd (u_196.out.lt k h1).2 (by omega))
      have BX_T27_y : Hid (∀ k, (.slice a_y y.q.length c_y : Value).ownBlock = some k → k ≠ W195.heap.size) := Lib.hid (fun k h1 h2 => absurd (y_196.out.lt k h1).2 (by omega))
      have BX_T27_w : Hid (∀ k, (.slice a_w y.q.length c_w : Value).ownBlock = some k → k ≠ W195.heap.size) := Lib.hid (fun k h1 h2 => absurd (O_w.out.lt k h1).2 (by omega))
      have HG_T27 : Hid (w.heap.size ≤ W195.heap.size) := Lib.hid HB_196.out.size
      have HN_T27_T23 : Hid (R_T23 < W195.heap.size) := Lib.hid T23_196.out.lt
      have HN_T27_T25 : Hid (R_T25 < W195.heap.size) := Lib.hid T25_196.out.lt
      obtain ⟨R_T27, hR_T27⟩ : ∃ X, X = W195.heap.size := ⟨_, rfl⟩
      rw [← hR_T27] at X199_T27 HG_T27 BX_T27_u BX_T27_y BX_T27_w HN_T27_T23 HN_T27_T25 ⊢
      clear hR_T27
      clear c197_T23_0 c197_T23_1 c197_T23_2
      clear c198_T25_0 c198_T25_1 c198_T25_2
      have HB_200 := Lib.hid (HB_196.out.trans (l199.mono HB_196.out.size))
      have u_200 := Lib.hid (own_below u_196.out l199 (Nat.le_refl _))
      clear u_196
      have y_200 := Lib.hid (own_below y_196.out l199 (Nat.le_refl _))
      clear y_196
      have w_200 := Lib.hid (own_below O_w.out l199 (Nat.le_refl _))
      clear O_w
      have T23_200 := Lib.hid (T23_196.out.below l199 T23_196.out.lt)
      clear T23_196
      have T25_200 := Lib.hid (T25_196.out.below l199 T25_196.out.lt)
      clear T25_196
      clear l199
      have c201_T23_0 := T23_200.out.at 0 (v := .int .i64 u.t) rfl
      have c201_T23_1 := T23_200.out.at 1 (v := .int .i64 u.z) rfl
      have c201_T23_2 := T23_200.out.at 2 (v := .slice a_u u.q.length c_u) rfl
      have c202_T25_0 := T25_200.out.at 0 (v := .int .i64 y.t) rfl
      have c202_T25_1 := T25_200.out.at 1 (v := .int .i64 y.z) rfl
      have c202_T25_2 := T25_200.out.at 2 (v := .slice a_y y.q.length c_y) rfl
      have c203_T27_0 := X199_T27.out.at 0 (v := .int .i64 y.t) rfl
      have c203_T27_1 := X199_T27.out.at 1 (v := .int .i64 y.z) rfl
      have c203_T27_2 := X199_T27.out.at 2 (v := .slice a_w y.q.length c_w) rfl
      go_wp2_with fail
      refine (vWin_same _ _ y _ (row_own y_200.out) (row_own w_200.out)).mono ?_
      rintro e W204 ⟨rfl, l204⟩
      clear c201_T23_0 c201_T23_1 c201_T23_2
      clear c202_T25_0 c202_T25_1 c202_T25_2
      clear c203_T27_0 c203_T27_1 c203_T27_2
      have HB_205 := Lib.hid (HB_200.out.trans (l204.mono HB_200.out.size))
      have u_205 := Lib.hid (own_below u_200.out l204 (Nat.le_refl _))
      clear u_200
      have y_205 := Lib.hid (own_below y_200.out l204 (Nat.le_refl _))
      clear y_200
      have w_205 := Lib.hid (own_below w_200.out l204 (Nat.le_refl _))
      clear w_200
      have T23_205 := Lib.hid (T23_200.out.below l204 T23_200.out.lt)
      clear T23_200
      have T25_205 := Lib.hid (T25_200.out.below l204 T25_200.out.lt)
      clear T25_200
      have T27_205 := Lib.hid (X199_T27.out.below l204 X199_T27.out.lt)
      clear X199_T27
      clear l204
      have c206_T23_0 := T23_205.out.at 0 (v := .int .i64 u.t) rfl
      have c206_T23_1 := T23_205.out.at 1 (v := .int .i64 u.z) rfl
      have c206_T23_2 := T23_205.out.at 2 (v := .slice a_u u.q.length c_u) rfl
      have c207_T25_0 := T25_205.out.at 0 (v := .int .i64 y.t) rfl
      have c207_T25_1 := T25_205.out.at 1 (v := .int .i64 y.z) rfl
      have c207_T25_2 := T25_205.out.at 2 (v := .slice a_y y.q.length c_y) rfl
      have c208_T27_0 := T27_205.out.at 0 (v := .int .i64 y.t) rfl
      have c208_T27_1 := T27_205.out.at 1 (v := .int .i64 y.z) rfl
      have c208_T27_2 := T27_205.out.at 2 (v := .slice a_w y.q.length c_w) rfl
      clear w_205
      clear c208_T27_0 c208_T27_1 c208_T27_2
      clear T27_205
      go_upto_if 196 with fail
      go_cut [] from 29 to 224 (fun wx => Hid (Below W204.heap.size W204 wx))
      case first => as_aux_lemma =>
        cases told with
        | false =>
          have HZ := Lib.hid (Below.refl W204.heap.size W204)
          clear HF HLu
          go_wp2_with fail
          go_meet
          case rel => exact HZ
        | true =>
          obtain ⟨e1, e2, e3, e4, hm9⟩ := HF.out rfl
          clear HF
          have HLy := Lib.hid (fun W h => implLead_any (.slice a_y y.q.length c_y) y W h hm9)
          rw [e2, ← e3] at HLy
          rw [e1] at HLu
          have hsz : ¬ sz < (y.q.length : Int) := by omega
          clear e1 e2 e3 e4 hm9
          have HZ := Lib.hid (Below.refl W204.heap.size W204)
          go_wp2_with fail
          refine (HLu.out _ (row_own u_205.out)).mono ?_
          rintro e W209 ⟨rfl, l209⟩
          clear c206_T23_0 c206_T23_1 c206_T23_2
          clear c207_T25_0 c207_T25_1 c207_T25_2
          have HB_210 := Lib.hid (HZ.out.trans (l209.mono HZ.out.size))
          have u_210 := Lib.hid (own_below u_205.out l209 (Nat.le_refl _))
          clear u_205
          have y_210 := Lib.hid (own_below y_205.out l209 (Nat.le_refl _))
          clear y_205
          have T23_210 := Lib.hid (T23_205.out.below l209 T23_205.out.lt)
          clear T23_205
          have T25_210 := Lib.hid (T25_205.out.below l209 T25_205.out.lt)
          clear T25_205
          clear l209
          have c211_T23_0 := T23_210.out.at 0 (v := .int .i64 u.t) rfl
          have c211_T23_1 := T23_210.out.at 1 (v := .int .i64 u.z) rfl
          have c211_T23_2 := T23_210.out.at 2 (v := .slice a_u u.q.length c_u) rfl
          have c212_T25_0 := T25_210.out.at 0 (v := .int .i64 y.t) rfl
          have c212_T25_1 := T25_210.out.at 1 (v := .int .i64 y.z) rfl
          have c212_T25_2 := T25_210.out.at 2 (v := .slice a_y y.q.length c_y) rfl
          go_wp2_with fail
          refine (HLy.out _ (row_own y_210.out)).mono ?_
          rintro e W213 ⟨rfl, l213⟩
          clear c211_T23_0 c211_T23_1 c211_T23_2
          clear c212_T25_0 c212_T25_1 c212_T25_2
          have HB_214 := Lib.hid (HB_210.out.trans (l213.mono HB_210.out.size))
          have u_214 := Lib.hid (own_below u_210.out l213 (Nat.le_refl _))
          clear u_210
          have y_214 := Lib.hid (own_below y_210.out l213 (Nat.le_refl _))
          clear y_210
          have T23_214 := Lib.hid (T23_210.out.below l213 T23_210.out.lt)
          clear T23_210
          have T25_214 := Lib.hid (T25_210.out.below l213 T25_210.out.lt)
          clear T25_210
          clear l213
          have c215_T23_0 := T23_214.out.at 0 (v := .int .i64 u.t) rfl
          have c215_T23_1 := T23_214.out.at 1 (v := .int .i64 u.z) rfl
          have c215_T23_2 := T23_214.out.at 2 (v := .slice a_u u.q.length c_u) rfl
          have c216_T25_0 := T25_214.out.at 0 (v := .int .i64 y.t) rfl
          have c216_T25_1 := T25_214.out.at 1 (v := .int .i64 y.z) rfl
          have c216_T25_2 := T25_214.out.at 2 (v := .slice a_y y.q.length c_y) rfl
          go_wp2_with fail
          go_meet
          case rel => exact HB_214
      case rest => as_aux_lemma =>
        rename World => W217
        have l217 := hcut.out
        clear hcut HF HLu HM3 hq3
        clear u_205
        clear y_205
        clear c206_T23_0 c206_T23_1 c206_T23_2
        clear T23_205
        clear c207_T25_0 c207_T25_1 c207_T25_2
        clear T25_205
        have HB_218 := Lib.hid (HB_205.out.trans (l217.mono HB_205.out.size))
        clear l217
        go_wp2_with fail
        refine (HD4.out _ (HR.out.below HB_218.out (Nat.le_refl _))).mono ?_
        rintro e W219 ⟨v_c, c, rfl, o_c, hq4, l219⟩
        obtain ⟨a_c, c_c, rfl, _, _⟩ := own_someS0 o_c
        have O_c := Lib.hid (own_base o_c HB_218.out.size)
        clear o_c
        have HB_220 := Lib.hid (HB_218.out.trans (l219.mono HB_218.out.size))
        clear l219
        clear HD4
        go_upto_region 33 with fail
        obtain ⟨W221, hW221⟩ : ∃ W221, W221 = W219.alloc (.cells #[.int .i64 c.t, .int .i64 c.z, .slice a_c c.q.length c_c] 26) := ⟨_, rfl⟩
        have l221 : Below W219.heap.size W219 W221 := by rw [hW221]; exact (Below.refl _ _).alloc (Nat.le_refl _) _
        have X221_T33 : Hid (Bx W221 W219.heap.size #[.int .i64 c.t, .int .i64 c.z, .slice a_c c.q.length c_c] 26) := Lib.hid (by rw [hW221]; exact Bx.new _ _ _)
        rw [← hW221]
        clear hW221
        have BX_T33_c : Hid (∀ k, (.slice a_c c.q.length c_c : Value).ownBlock = some k → k ≠ W219.heap.size) := Lib.hid (fun k h1 h2 => absurd (O_c.out.lt k h1).2 (by omega))
        have HG_T33 : Hid (w.heap.size ≤ W219.heap.size) := Lib.hid HB_220.out.size
        obtain ⟨R_T33, hR_T33⟩ : ∃ X, X = W219.heap.size := ⟨_, rfl⟩
        rw [← hR_T33] at X221_T33 HG_T33 BX_T33_c ⊢
        clear hR_T33
        have HB_222 := Lib.hid (HB_220.out.trans (l221.mono HB_220.out.size))
        have c_222 := Lib.hid (own_below O_c.out l221 (Nat.le_refl _))
        clear O_c
        clear l221
        have c223_T33_0 := X221_T33.out.at 0 (v := .int .i64 c.t) rfl
        have c223_T33_1 := X221_T33.out.at 1 (v := .int .i64 c.z) rfl
        have c223_T33_2 := X221_T33.out.at 2 (v := .slice a_c c.q.length c_c) rfl
        have HM4 : Hid (∀ s ∈ c.q, s.size ≤ maxLen) := Lib.hid (fun s hs => le_maxLen9 (hq4.2 s hs))
        have HTi := Lib.hid (fun W h => implStatus_any (.slice a_c c.q.length c_c) c W h HM4.out)
        have HTs := Lib.hid (fun W h => specStatus_any (.slice a_c c.q.length c_c) c W h HM4.out)
        generalize statP c = st at HTi HTs
        generalize swOk c = known at HTi HTs
        clear hq4
        go_wp2_with fail
        refine (HTi.out _ (row_own c_222.out)).mono ?_
        rintro e W224 ⟨rfl, l224⟩
        clear c223_T33_0 c223_T33_1 c223_T33_2
        have HB_225 := Lib.hid (HB_222.out.trans (l224.mono HB_222.out.size))
        have c_225 := Lib.hid (own_below c_222.out l224 (Nat.le_refl _))
        clear c_222
        have T33_225 := Lib.hid (X221_T33.out.below l224 X221_T33.out.lt)
        clear X221_T33
        clear l224
        have c226_T33_0 := T33_225.out.at 0 (v := .int .i64 c.t) rfl
        have c226_T33_1 := T33_225.out.at 1 (v := .int .i64 c.z) rfl
        have c226_T33_2 := T33_225.out.at 2 (v := .slice a_c c.q.length c_c) rfl
        go_upto_region 34 with fail
        obtain ⟨W227, hW227⟩ : ∃ W227, W227 = W224.alloc (.cells #[.int .i64 st.k, .int .i64 st.n, .int .i64 st.t, .int .i64 st.l, .string st.d] 30) := ⟨_, rfl⟩
        have l227 : Below W224.heap.size W224 W227 := by rw [hW227]; exact (Below.refl _ _).alloc (Nat.le_refl _) _
        have X227_T34 : Hid (Bx W227 W224.heap.size #[.int .i64 st.k, .int .i64 st.n, .int .i64 st.t, .int .i64 st.l, .string st.d] 30) := Lib.hid (by rw [hW227]; exact Bx.new _ _ _)
        rw [← hW227]
        clear hW227
        have BX_T34_c : Hid (∀ k, (.slice a_c c.q.length c_c : Value).ownBlock = some k → k ≠ W224.heap.size) := Lib.hid (fun k h1 h2 => absurd (c_225.out.lt k h1).2 (by omega))
        have HG_T34 : Hid (w.heap.size ≤ W224.heap.size) := Lib.hid HB_225.out.size
        have HN_T34_T33 : Hid (R_T33 < W224.heap.size) := Lib.hid T33_225.out.lt
        obtain ⟨R_T34, hR_T34⟩ : ∃ X, X = W224.heap.size := ⟨_, rfl⟩
        rw [← hR_T34] at X227_T34 HG_T34 BX_T34_c HN_T34_T33 ⊢
        clear hR_T34
        clear c226_T33_0 c226_T33_1 c226_T33_2
        have HB_228 := Lib.hid (HB_225.out.trans (l227.mono HB_225.out.size))
        have c_228 := Lib.hid (own_below c_225.out l227 (Nat.le_refl _))
        clear c_225
        have T33_228 := Lib.hid (T33_225.out.below l227 T33_225.out.lt)
        clear T33_225
        clear l227
        have c229_T33_0 := T33_228.out.at 0 (v := .int .i64 c.t) rfl
        have c229_T33_1 := T33_228.out.at 1 (v := .int .i64 c.z) rfl
        have c229_T33_2 := T33_228.out.at 2 (v := .slice a_c c.q.length c_c) rfl
        have c230_T34_0 := X227_T34.out.at 0 (v := .int .i64 st.k) rfl
        have c230_T34_1 := X227_T34.out.at 1 (v := .int .i64 st.n) rfl
        have c230_T34_2 := X227_T34.out.at 2 (v := .int .i64 st.t) rfl
        have c230_T34_3 := X227_T34.out.at 3 (v := .int .i64 st.l) rfl
        have c230_T34_4 := X227_T34.out.at 4 (v := .string st.d) rfl
        go_wp2_with fail
        refine (HTs.out _ (row_own c_228.out)).mono ?_
        rintro e W231 ⟨rfl, l231⟩
        clear c229_T33_0 c229_T33_1 c229_T33_2
        clear c230_T34_0 c230_T34_1 c230_T34_2 c230_T34_3 c230_T34_4
        have HB_232 := Lib.hid (HB_228.out.trans (l231.mono HB_228.out.size))
        have c_232 := Lib.hid (own_below c_228.out l231 (Nat.le_refl _))
        clear c_228
        have T33_232 := Lib.hid (T33_228.out.below l231 T33_228.out.lt)
        clear T33_228
        have T34_232 := Lib.hid (X227_T34.out.below l231 X227_T34.out.lt)
        clear X227_T34
        clear l231
        have c233_T33_0 := T33_232.out.at 0 (v := .int .i64 c.t) rfl
        have c233_T33_1 := T33_232.out.at 1 (v := .int .i64 c.z) rfl
        have c233_T33_2 := T33_232.out.at 2 (v := .slice a_c c.q.length c_c) rfl
        have c234_T34_0 := T34_232.out.at 0 (v := .int .i64 st.k) rfl
        have c234_T34_1 := T34_232.out.at 1 (v := .int .i64 st.n) rfl
        have c234_T34_2 := T34_232.out.at 2 (v := .int .i64 st.t) rfl
        have c234_T34_3 := T34_232.out.at 3 (v := .int .i64 st.l) rfl
        have c234_T34_4 := T34_232.out.at 4 (v := .string st.d) rfl
        go_upto_region 35 with fail
        obtain ⟨W235, hW235⟩ : ∃ W235, W235 = W231.alloc (.cells #[.int .i64 st.k, .int .i64 st.n, .int .i64 st.t, .int .i64 st.l, .string st.d] 30) := ⟨_, rfl⟩
        have l235 : Below W231.heap.size W231 W235 := by rw [hW235]; exact (Below.refl _ _).alloc (Nat.le_refl _) _
        have X235_T36 : Hid (Bx W235 W231.heap.size #[.int .i64 st.k, .int .i64 st.n, .int .i64 st.t, .int .i64 st.l, .string st.d] 30) := Lib.hid (by rw [hW235]; exact Bx.new _ _ _)
        rw [← hW235]
        clear hW235
        have BX_T36_c : Hid (∀ k, (.slice a_c c.q.length c_c : Value).ownBlock = some k → k ≠ W231.heap.size) := Lib.hid (fun k h1 h2 => absurd (c_232.out.lt k h1).2 (by omega))
        have HG_T36 : Hid (w.heap.size ≤ W231.heap.size) := Lib.hid HB_232.out.size
        have HN_T36_T33 : Hid (R_T33 < W231.heap.size) := Lib.hid T33_232.out.lt
        have HN_T36_T34 : Hid (R_T34 < W231.heap.size) := Lib.hid T34_232.out.lt
        obtain ⟨R_T36, hR_T36⟩ : ∃ X, X = W231.heap.size := ⟨_, rfl⟩
        rw [← hR_T36] at X235_T36 HG_T36 BX_T36_c HN_T36_T33 HN_T36_T34 ⊢
        clear hR_T36
        clear c233_T33_0 c233_T33_1 c233_T33_2
        clear c234_T34_0 c234_T34_1 c234_T34_2 c234_T34_3 c234_T34_4
        have HB_236 := Lib.hid (HB_232.out.trans (l235.mono HB_232.out.size))
        have c_236 := Lib.hid (own_below c_232.out l235 (Nat.le_refl _))
        clear c_232
        have T33_236 := Lib.hid (T33_232.out.below l235 T33_232.out.lt)
        clear T33_232
        have T34_236 := Lib.hid (T34_232.out.below l235 T34_232.out.lt)
        clear T34_232
        clear l235
        have c237_T33_0 := T33_236.out.at 0 (v := .int .i64 c.t) rfl
        have c237_T33_1 := T33_236.out.at 1 (v := .int .i64 c.z) rfl
        have c237_T33_2 := T33_236.out.at 2 (v := .slice a_c c.q.length c_c) rfl
        have c238_T34_0 := T34_236.out.at 0 (v := .int .i64 st.k) rfl
        have c238_T34_1 := T34_236.out.at 1 (v := .int .i64 st.n) rfl
        have c238_T34_2 := T34_236.out.at 2 (v := .int .i64 st.t) rfl
        have c238_T34_3 := T34_236.out.at 3 (v := .int .i64 st.l) rfl
        have c238_T34_4 := T34_236.out.at 4 (v := .string st.d) rfl
        have c239_T36_0 := X235_T36.out.at 0 (v := .int .i64 st.k) rfl
        have c239_T36_1 := X235_T36.out.at 1 (v := .int .i64 st.n) rfl
        have c239_T36_2 := X235_T36.out.at 2 (v := .int .i64 st.t) rfl
        have c239_T36_3 := X235_T36.out.at 3 (v := .int .i64 st.l) rfl
        have c239_T36_4 := X235_T36.out.at 4 (v := .string st.d) rfl
        go_wp2_with fail
        go_ret
        exact ⟨by simp, HB_236.out⟩
end Go.Proofs.Ytkijfneaglogmaa
