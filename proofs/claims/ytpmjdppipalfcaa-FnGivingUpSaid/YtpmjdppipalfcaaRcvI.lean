/-
  Receive windows: the program's functions that read.
-/
import Derived.Test.YtpmjdppipalfcaaRcv3
import Derived.Test.YtpmjdppipalfcaaSer3
import Derived.Test.YtpmjdppipalfcaaPktI
import Derived.Deep.QuietTactic
import Derived.BigQuiet
import Derived.IntWalk
import Derived.Deep.CutRange
import Derived.WalkLawsBesides
import Derived.Lib.SmallJoins
import Derived.Deep.RegionHeld3
namespace Go.Proofs.Ytpmjdppipalfcaa
open Go.RowKit Go.Lib Go.Joins
set_option linter.unusedVariables false

theorem have_no {x n : Int} {q : List Sl} (h : gapOk n x = false) : haveOk ⟨x, q⟩ n = false := by
  cases ho : haveOk ⟨x, q⟩ n with
  | false => rfl
  | true =>
    unfold haveOk at ho
    simp only [Bool.and_eq_true] at ho
    have hx := (rwOk_iff.1 ho.1).1
    have : gapOk n x = true := by unfold gapOk; rw [ho.2, serB_yes hx.1 hx.2]; rfl
    rw [h] at this; cases this
set_option maxRecDepth 100000 in
set_option maxHeartbeats 1000000 in
theorem slotAt_any (v : Value) (l : Rw) (w : World) (hrow : Row w v l.q.length (slF l.q)) (i : Nat) :
    Calls Try.prog 55 #[.agg #[.int .i64 l.x, v], .int .i64 i] w fun e w' => e = .returned (.agg #[.bool (hasQ l.q i), .string (itmQ l.q i)]) ∧ Below w.heap.size w w' := by
  obtain ⟨x, q⟩ := l
  dsimp only at hrow ⊢
  obtain ⟨a, cap, rfl, hc1, hm1, _⟩ := sl_open hrow
  unfold maxLen at hm1
  have HP := Lib.hid hrow
  clear hrow
  obtain ⟨W0, R_T, R_A, hW0, hR_T, hR_A, hX_T, hX_A, hB0⟩ := entry2 w #[.int .i64 x, .slice a q.length cap] #[.bool false, .string ⟨#[]⟩] 26 66
  have HW0 := Lib.hid hW0
  have HB0 := Lib.hid hB0
  have HR_T := Lib.hid hR_T
  have HX_T := Lib.hid hX_T
  have HR_A := Lib.hid hR_A
  have HX_A := Lib.hid hX_A
  clear hW0 hB0 hR_T hX_T hR_A hX_A
  by_cases hi : i < q.length
  · obtain ⟨b, off, rfl, hb, d0, d1⟩ := row_sl HP.out hi
    have e0 := (HB0.out.cell (p := ⟨b, off + i * 2, none⟩) hb).trans d0
    have e1 := (HB0.out.cell (p := ⟨b, off + i * 2 + 1, none⟩) hb).trans d1
    have h1 : hasQ q i = q[i].h := by unfold hasQ; rw [List.getElem?_eq_getElem hi]
    have h2 : itmQ q i = q[i].s := by unfold itmQ; rw [List.getElem?_eq_getElem hi]
    rw [h1, h2]
    clear d0 d1 h1 h2
    generalize q[i].h = hv at e0 ⊢
    generalize q[i].s = sv at e1 ⊢
    have c1_T_0 := HX_T.out.at 0 (v := .int .i64 x) rfl
    have c1_T_1 := HX_T.out.at 1 (v := .slice (some ⟨b, off, none⟩) q.length cap) rfl
    have c2_A_0 := HX_A.out.at 0 (v := .bool false) rfl
    have c2_A_1 := HX_A.out.at 1 (v := .string ⟨#[]⟩) rfl
    go_enter Try.func55, Try.ntmps55
    go_upto_region 1 with fail
    rw [← HW0.out, ← HR_A.out, ← HR_T.out]
    have fr3_A_0 := HX_A.out.free 0
    have fr3_A_1 := HX_A.out.free 1
    go_wp2_with fail
    obtain ⟨p1, q1⟩ := HX_A.out.store2 (.bool hv) (.string sv)
    refine bodyPost_ret (results_bx rfl isSl _ _ R_A rfl rfl p1) rfl ⟨rfl, (HB0.out.grown q1 HB0.out.size (fun k hk => by have e2 : R_A = k := Option.some.inj hk; have := HR_A.out; omega))⟩
  · have h1 : hasQ q i = false := by unfold hasQ; rw [List.getElem?_eq_none (by omega)]
    have h2 : itmQ q i = ⟨#[]⟩ := by unfold itmQ; rw [List.getElem?_eq_none (by omega)]
    rw [h1, h2]
    clear h1 h2
    have c4_T_0 := HX_T.out.at 0 (v := .int .i64 x) rfl
    have c4_T_1 := HX_T.out.at 1 (v := .slice a q.length cap) rfl
    have c5_A_0 := HX_A.out.at 0 (v := .bool false) rfl
    have c5_A_1 := HX_A.out.at 1 (v := .string ⟨#[]⟩) rfl
    go_enter Try.func55, Try.ntmps55
    go_upto_region 1 with fail
    rw [← HW0.out, ← HR_A.out, ← HR_T.out]
    have fr6_A_0 := HX_A.out.free 0
    have fr6_A_1 := HX_A.out.free 1
    go_wp2_with fail
    obtain ⟨p1, q1⟩ := HX_A.out.store2 (.bool false) (.string ⟨#[]⟩)
    refine bodyPost_ret (results_bx rfl isSl _ _ R_A rfl rfl p1) rfl ⟨rfl, (HB0.out.grown q1 HB0.out.size (fun k hk => by have e2 : R_A = k := Option.some.inj hk; have := HR_A.out; omega))⟩
set_option maxRecDepth 100000 in
set_option maxHeartbeats 400000 in
theorem eventOf_any (h : Bool) (s : ByteArray) (w : World) (hs : s.size ≤ 8) :
    Calls Try.prog 73 #[.agg #[.bool h, .string s]] w fun e w' => e = .returned (.string (if h = true then ⟨#[43]⟩ ++ s else ⟨#[45]⟩)) ∧ Below w.heap.size w w' := by
  obtain ⟨W0, R_T, hW0, hR_T, hX_T, hB0⟩ := entry1 w #[.bool h, .string s] 66
  have HW0 := Lib.hid hW0
  have HB0 := Lib.hid hB0
  have HR_T := Lib.hid hR_T
  have HX_T := Lib.hid hX_T
  clear hW0 hB0 hR_T hX_T
  cases h with
  | false =>
    have c7_T_0 := HX_T.out.at 0 (v := .bool false) rfl
    have c7_T_1 := HX_T.out.at 1 (v := .string s) rfl
    go_enter Try.func73, Try.ntmps73
    go_upto_region 1 with fail
    rw [← HW0.out, ← HR_T.out]
    go_wp2_with fail
    go_ret
    exact ⟨rfl, HB0.out⟩
  | true =>
    have c8_T_0 := HX_T.out.at 0 (v := .bool true) rfl
    have c8_T_1 := HX_T.out.at 1 (v := .string s) rfl
    go_enter Try.func73, Try.ntmps73
    go_upto_region 1 with fail
    rw [← HW0.out, ← HR_T.out]
    go_wp2_with fail
    go_ret
    exact ⟨rfl, HB0.out⟩
set_option maxRecDepth 100000 in
set_option maxHeartbeats 8000000 in
theorem implIsRw_any (v : Value) (l : Rw) (w : World) (hrow : Row w v l.q.length (slF l.q)) (hs : ∀ s ∈ l.q, s.s.size ≤ maxLen) :
    Calls Try.prog 19 #[.agg #[.int .i64 l.x, v]] w fun e w' => e = .returned (.bool (rwOk l)) ∧ Below w.heap.size w w' := by
  obtain ⟨x, q⟩ := l
  dsimp only at hrow hs ⊢
  obtain ⟨a, cap, rfl, hc1, hm1, _⟩ := sl_open hrow
  unfold maxLen at hm1
  have HP := Lib.hid hrow
  clear hrow
  have HS := Lib.hid hs
  clear hs
  obtain ⟨W0, R_T, hW0, hR_T, hX_T, hB0⟩ := entry1 w #[.int .i64 x, .slice a q.length cap] 26
  have HW0 := Lib.hid hW0
  have HB0 := Lib.hid hB0
  have HR_T := Lib.hid hR_T
  have HX_T := Lib.hid hX_T
  clear hW0 hB0 hR_T hX_T
  have c9_T_0 := HX_T.out.at 0 (v := .int .i64 x) rfl
  have c9_T_1 := HX_T.out.at 1 (v := .slice a q.length cap) rfl
  have HNo := Lib.hid (@rwOk_no ⟨x, q⟩)
  have HSer := Lib.hid (fun (W1 : World) => implIsSerial_any x W1)
  cases h1 : serB x with
  | false =>
    rw [h1] at HSer
    have HE : Hid (rwOk ⟨x, q⟩ = false) := Lib.hid (HNo.out (fun h => by have := h.1; rw [serB_yes this.1 this.2] at h1; cases h1))
    clear HNo
    go_enter Try.func19, Try.ntmps19
    go_upto_region 1 with fail
    rw [← HW0.out, ← HR_T.out]
    go_wp2_with fail
    refine (HSer.out _).mono ?_
    rintro e _ ⟨rfl, rfl⟩
    go_wp2_with fail
    go_ret
    exact ⟨ret_bool HE.out.symm, HB0.out⟩
  | true =>
    rw [h1] at HSer
    by_cases h3 : q.length ≤ 8
    rotate_left
    · have h3' : (8 : Int) < (q.length : Int) := by omega
      have HE : Hid (rwOk ⟨x, q⟩ = false) := Lib.hid (HNo.out (fun h => by exact h3 h.2.1))
      clear HNo
      go_enter Try.func19, Try.ntmps19
      go_upto_region 1 with fail
      rw [← HW0.out, ← HR_T.out]
      go_wp2_with fail
      refine (HSer.out _).mono ?_
      rintro e _ ⟨rfl, rfl⟩
      go_wp2_with fail
      go_ret
      exact ⟨ret_bool HE.out.symm, HB0.out⟩
    have h3' : ¬ (8 : Int) < (q.length : Int) := by omega
    have HYes : Hid ((∀ s ∈ q, slOk s = true) → firstB q = true → lastB q = true → rwOk ⟨x, q⟩ = true) := Lib.hid (fun h i j => rwOk_iff.2 ⟨serB_bd h1, h3, h, i, j⟩)
    clear h1
    have HL0 := Lib.hid (Below.refl W0.heap.size W0)
    go_enter Try.func19, Try.ntmps19
    go_upto_region 1 with fail
    rw [← HW0.out, ← HR_T.out]
    go_wp2_with fail
    refine (HSer.out _).mono ?_
    rintro e _ ⟨rfl, rfl⟩
    go_wp2_with fail
    go_loopw [18] (fun i wr => ∃ k : Nat, k ≤ q.length ∧ i = .int .i64 k ∧ Hid (∀ s ∈ q.take k, slOk s = true) ∧ Hid (Below W0.heap.size W0 wr)) (fun i _ => q.length - (RowKit.intOf i).toNat)
    case atStart => exact ⟨0, Nat.zero_le _, rfl, Lib.hid (by simp), HL0⟩
    case round =>
      obtain ⟨k, hk, rfl, HA, HL⟩ := hrel
      clear c9_T_0 c9_T_1
      have HBr := Lib.hid (HB0.out.trans (HL.out.mono HB0.out.size))
      have T_r := Lib.hid (HX_T.out.below HL.out HX_T.out.lt)
      have c10_T_0 := T_r.out.at 0 (v := .int .i64 x) rfl
      have c10_T_1 := T_r.out.at 1 (v := .slice a q.length cap) rfl
      by_cases hkn : k < q.length
      · obtain ⟨b, off, rfl, hb, d0, d1⟩ := row_sl HP.out hkn
        have e0 := (HBr.out.cell (p := ⟨b, off + k * 2, none⟩) hb).trans d0
        have e1 := (HBr.out.cell (p := ⟨b, off + k * 2 + 1, none⟩) hb).trans d1
        clear d0 d1
        have HLt := Lib.hid (fun (W1 : World) => isItem_any q[k].s W1 (HS.out _ (List.getElem_mem hkn)))
        have HPk : Hid (slOk q[k] = true → ∀ s ∈ q.take (k + 1), slOk s = true) := Lib.hid (fun h s hs => by
          rw [List.take_succ_eq_append_getElem hkn] at hs
          rcases List.mem_append.1 hs with hs | hs
          · exact HA.out s hs
          · rw [List.mem_singleton.1 hs]; exact h)
        have HQ : Hid (slOk q[k] = false → rwOk ⟨x, q⟩ = false) := Lib.hid (fun h => HNo.out (fun hh => by have := hh.2.2.1 _ (List.getElem_mem hkn); rw [h] at this; cases this))
        have hsl : slOk q[k] = ((decide (q[k].s.size ≤ 8) && ltrB q[k].s) && (q[k].h || decide (q[k].s.size = 0))) := by rw [Bool.and_comm (decide (q[k].s.size ≤ 8))]; rfl
        rw [hsl] at HPk HQ
        clear hsl
        generalize (decide (q[k].s.size ≤ 8) && ltrB q[k].s) = it at HLt HPk HQ
        generalize q[k].s = s at e1 HLt HPk HQ
        generalize q[k].h = hv at e0 HPk HQ
        clear c10_T_0 c10_T_1
        have c11_T_0 := T_r.out.at 0 (v := .int .i64 x) rfl
        have c11_T_1 := T_r.out.at 1 (v := .slice (some ⟨b, off, none⟩) q.length cap) rfl
        cases it with
        | false =>
          have HE := Lib.hid (HQ.out rfl)
          clear HPk HQ HA HYes HNo
          go_upto_region 6 with fail
          obtain ⟨W12, hW12⟩ : ∃ W12, W12 = wr.alloc (.cells #[.bool hv, .string s] 66) := ⟨_, rfl⟩
          have l12 : Below wr.heap.size wr W12 := by rw [hW12]; exact (Below.refl _ _).alloc (Nat.le_refl _) _
          have X12_X : Hid (Bx W12 wr.heap.size #[.bool hv, .string s] 66) := Lib.hid (by rw [hW12]; exact Bx.new _ _ _)
          rw [← hW12]
          clear hW12
          have HG_X : Hid (w.heap.size ≤ wr.heap.size) := Lib.hid HBr.out.size
          have HN_X_T : Hid (R_T < wr.heap.size) := Lib.hid T_r.out.lt
          obtain ⟨R_X, hR_X⟩ : ∃ X, X = wr.heap.size := ⟨_, rfl⟩
          rw [← hR_X] at X12_X HG_X HN_X_T ⊢
          clear hR_X
          clear c11_T_0 c11_T_1
          have HB_13 := Lib.hid (HBr.out.trans (l12.mono HBr.out.size))
          have HF_13 := Lib.hid (HL.out.trans (l12.mono HL.out.size))
          clear HL
          have T_13 := Lib.hid (T_r.out.below l12 T_r.out.lt)
          clear l12
          have c14_T_0 := T_13.out.at 0 (v := .int .i64 x) rfl
          have c14_T_1 := T_13.out.at 1 (v := .slice (some ⟨b, off, none⟩) q.length cap) rfl
          have c15_X_0 := X12_X.out.at 0 (v := .bool hv) rfl
          have c15_X_1 := X12_X.out.at 1 (v := .string s) rfl
          go_wp2_with fail
          refine (HLt.out _).mono ?_
          rintro e _ ⟨rfl, rfl⟩
          go_wp2_with fail
          go_ret
          exact ⟨ret_bool HE.out.symm, HB_13.out⟩
        | true =>
          cases hv with
          | true =>
            have HA2 := Lib.hid (HPk.out rfl)
            clear HPk HQ HA HYes HNo
            go_upto_region 6 with fail
            obtain ⟨W16, hW16⟩ : ∃ W16, W16 = wr.alloc (.cells #[.bool true, .string s] 66) := ⟨_, rfl⟩
            have l16 : Below wr.heap.size wr W16 := by rw [hW16]; exact (Below.refl _ _).alloc (Nat.le_refl _) _
            have X16_X : Hid (Bx W16 wr.heap.size #[.bool true, .string s] 66) := Lib.hid (by rw [hW16]; exact Bx.new _ _ _)
            rw [← hW16]
            clear hW16
            have HG_X : Hid (w.heap.size ≤ wr.heap.size) := Lib.hid HBr.out.size
            have HN_X_T : Hid (R_T < wr.heap.size) := Lib.hid T_r.out.lt
            obtain ⟨R_X, hR_X⟩ : ∃ X, X = wr.heap.size := ⟨_, rfl⟩
            rw [← hR_X] at X16_X HG_X HN_X_T ⊢
            clear hR_X
            clear c11_T_0 c11_T_1
            have HB_17 := Lib.hid (HBr.out.trans (l16.mono HBr.out.size))
            have HF_17 := Lib.hid (HL.out.trans (l16.mono HL.out.size))
            clear HL
            have T_17 := Lib.hid (T_r.out.below l16 T_r.out.lt)
            clear l16
            have c18_T_0 := T_17.out.at 0 (v := .int .i64 x) rfl
            have c18_T_1 := T_17.out.at 1 (v := .slice (some ⟨b, off, none⟩) q.length cap) rfl
            have c19_X_0 := X16_X.out.at 0 (v := .bool true) rfl
            have c19_X_1 := X16_X.out.at 1 (v := .string s) rfl
            go_wp2_with fail
            refine (HLt.out _).mono ?_
            rintro e _ ⟨rfl, rfl⟩
            go_wp2_with fail
            go_roundw
            case rel => exact ⟨k + 1, by omega, by go_num, HA2, HF_17⟩
            case measure => (simp [RowKit.intOf]; omega)
          | false =>
            by_cases hz : s.size = 0
            · obtain rfl := size_zero hz
              have HA2 := Lib.hid (HPk.out rfl)
              clear HPk HQ HA HYes HNo
              go_upto_region 6 with fail
              obtain ⟨W20, hW20⟩ : ∃ W20, W20 = wr.alloc (.cells #[.bool false, .string ⟨#[]⟩] 66) := ⟨_, rfl⟩
              have l20 : Below wr.heap.size wr W20 := by rw [hW20]; exact (Below.refl _ _).alloc (Nat.le_refl _) _
              have X20_X : Hid (Bx W20 wr.heap.size #[.bool false, .string ⟨#[]⟩] 66) := Lib.hid (by rw [hW20]; exact Bx.new _ _ _)
              rw [← hW20]
              clear hW20
              have HG_X : Hid (w.heap.size ≤ wr.heap.size) := Lib.hid HBr.out.size
              have HN_X_T : Hid (R_T < wr.heap.size) := Lib.hid T_r.out.lt
              obtain ⟨R_X, hR_X⟩ : ∃ X, X = wr.heap.size := ⟨_, rfl⟩
              rw [← hR_X] at X20_X HG_X HN_X_T ⊢
              clear hR_X
              clear c11_T_0 c11_T_1
              have HB_21 := Lib.hid (HBr.out.trans (l20.mono HBr.out.size))
              have HF_21 := Lib.hid (HL.out.trans (l20.mono HL.out.size))
              clear HL
              have T_21 := Lib.hid (T_r.out.below l20 T_r.out.lt)
              clear l20
              have c22_T_0 := T_21.out.at 0 (v := .int .i64 x) rfl
              have c22_T_1 := T_21.out.at 1 (v := .slice (some ⟨b, off, none⟩) q.length cap) rfl
              have c23_X_0 := X20_X.out.at 0 (v := .bool false) rfl
              have c23_X_1 := X20_X.out.at 1 (v := .string ⟨#[]⟩) rfl
              go_wp2_with fail
              refine (HLt.out _).mono ?_
              rintro e _ ⟨rfl, rfl⟩
              go_wp2_with fail
              go_roundw
              case rel => exact ⟨k + 1, by omega, by go_num, HA2, HF_21⟩
              case measure => (simp [RowKit.intOf]; omega)
            · rw [decide_eq_false hz] at HPk HQ
              have hne : (s.toList == ([] : List UInt8)) = false := toList_ne hz
              have HE := Lib.hid (HQ.out rfl)
              clear HPk HQ HA HYes HNo
              go_upto_region 6 with fail
              obtain ⟨W24, hW24⟩ : ∃ W24, W24 = wr.alloc (.cells #[.bool false, .string s] 66) := ⟨_, rfl⟩
              have l24 : Below wr.heap.size wr W24 := by rw [hW24]; exact (Below.refl _ _).alloc (Nat.le_refl _) _
              have X24_X : Hid (Bx W24 wr.heap.size #[.bool false, .string s] 66) := Lib.hid (by rw [hW24]; exact Bx.new _ _ _)
              rw [← hW24]
              clear hW24
              have HG_X : Hid (w.heap.size ≤ wr.heap.size) := Lib.hid HBr.out.size
              have HN_X_T : Hid (R_T < wr.heap.size) := Lib.hid T_r.out.lt
              obtain ⟨R_X, hR_X⟩ : ∃ X, X = wr.heap.size := ⟨_, rfl⟩
              rw [← hR_X] at X24_X HG_X HN_X_T ⊢
              clear hR_X
              clear c11_T_0 c11_T_1
              have HB_25 := Lib.hid (HBr.out.trans (l24.mono HBr.out.size))
              have HF_25 := Lib.hid (HL.out.trans (l24.mono HL.out.size))
              clear HL
              have T_25 := Lib.hid (T_r.out.below l24 T_r.out.lt)
              clear l24
              have c26_T_0 := T_25.out.at 0 (v := .int .i64 x) rfl
              have c26_T_1 := T_25.out.at 1 (v := .slice (some ⟨b, off, none⟩) q.length cap) rfl
              have c27_X_0 := X24_X.out.at 0 (v := .bool false) rfl
              have c27_X_1 := X24_X.out.at 1 (v := .string s) rfl
              go_wp2_with fail
              refine (HLt.out _).mono ?_
              rintro e _ ⟨rfl, rfl⟩
              go_wp2_with fail
              go_ret
              exact ⟨ret_bool HE.out.symm, HB_25.out⟩
      · obtain rfl : k = q.length := by omega
        have HY2 : Hid (firstB q = true → lastB q = true → rwOk ⟨x, q⟩ = true) := Lib.hid (HYes.out (fun s hs => HA.out s (by rw [List.take_of_length_le (Nat.le_refl _)]; exact hs)))
        clear HA HYes
        by_cases hz : q.length = 0
        · have HE := Lib.hid (HY2.out (by rw [first_has]; rw [List.length_eq_zero_iff] at hz; rw [hz]; rfl) (by rw [List.length_eq_zero_iff] at hz; rw [hz]; rfl))
          clear HY2 HNo
          go_wp2_with fail
          go_ret
          exact ⟨ret_bool HE.out.symm, HBr.out⟩
        · obtain ⟨b, off, rfl, hb, d0, d1⟩ := row_sl (k := 0) HP.out (by omega)
          obtain ⟨b2, off2, e2, hb2, d2, d3⟩ := row_sl (k := q.length - 1) HP.out (by omega)
          injection e2 with e2
          injection e2 with e3 e4
          subst e3 e4
          have e0 := (HBr.out.cell (p := ⟨b, off + 0 * 2, none⟩) hb).trans d0
          have e2 := (HBr.out.cell (p := ⟨b, off + (q.length - 1) * 2, none⟩) hb).trans d2
          rw [Nat.zero_mul, Nat.add_zero] at e0
          clear d0 d1 d2 d3
          have hf : firstB q = !(q[0]'(by omega)).h := by rw [first_has]; unfold hasQ; rw [List.getElem?_eq_getElem (by omega)]
          have hl : lastB q = (q[q.length - 1]'(by omega)).h := by rw [last_has, decide_eq_false hz, Bool.false_or]; unfold hasQ; rw [List.getElem?_eq_getElem (by omega)]
          generalize (q[0]'(by omega)).h = f1 at e0 hf
          generalize (q[q.length - 1]'(by omega)).h = f2 at e2 hl
          have HE : Hid (rwOk ⟨x, q⟩ = (!f1 && f2)) := Lib.hid (by
            cases f1 with
            | true => exact HNo.out (fun h => by rw [hf] at h; cases h.2.2.2.1)
            | false =>
              cases f2 with
              | false => exact HNo.out (fun h => by rw [hl] at h; cases h.2.2.2.2)
              | true => exact HY2.out hf hl)
          clear HY2 HNo hf hl
          have hz0 : ((q.length : Int) == 0) = false := by rw [beq_eq_false_iff_ne]; omega
          cases f1 <;> cases f2 <;> (go_wp2_with fail; go_ret; exact ⟨ret_bool HE.out.symm, HBr.out⟩)
set_option maxRecDepth 100000 in
set_option maxHeartbeats 1000000 in
theorem implHigh_any (v : Value) (l : Rw) (w : World) (hrow : Row w v l.q.length (slF l.q)) (hs : ∀ s ∈ l.q, s.s.size ≤ maxLen) :
    Calls Try.prog 25 #[.agg #[.int .i64 l.x, v]] w fun e w' => e = .returned (.tuple #[.int .i64 (highV l), .bool (rwOk l)]) ∧ Below w.heap.size w w' := by
  obtain ⟨x, q⟩ := l
  dsimp only at hrow hs ⊢
  obtain ⟨a, cap, rfl, hc1, hm1, _⟩ := sl_open hrow
  unfold maxLen at hm1
  have HP := Lib.hid hrow
  clear hrow
  have HS := Lib.hid hs
  clear hs
  obtain ⟨W0, R_T, hW0, hR_T, hX_T, hB0⟩ := entry1 w #[.int .i64 x, .slice a q.length cap] 26
  have HW0 := Lib.hid hW0
  have HB0 := Lib.hid hB0
  have HR_T := Lib.hid hR_T
  have HX_T := Lib.hid hX_T
  clear hW0 hB0 hR_T hX_T
  have c28_T_0 := HX_T.out.at 0 (v := .int .i64 x) rfl
  have c28_T_1 := HX_T.out.at 1 (v := .slice a q.length cap) rfl
  have HG := Lib.hid (implIsRw_any (.slice a q.length cap) ⟨x, q⟩ W0 (HP.out.below HB0.out (Nat.le_refl _)) HS.out)
  cases ok : rwOk ⟨x, q⟩ with
  | false =>
    have hv : highV ⟨x, q⟩ = 0 := by unfold highV; rw [ok]; rfl
    rw [ok] at HG
    rw [hv]
    clear hv ok
    go_enter Try.func25, Try.ntmps25
    go_upto_region 1 with fail
    rw [← HW0.out, ← HR_T.out]
    go_wp2_with fail
    refine (HG.out).mono ?_
    rintro e W29 ⟨rfl, l29⟩
    clear c28_T_0 c28_T_1
    have HB_30 := Lib.hid (HB0.out.trans (l29.mono HB0.out.size))
    have T_30 := Lib.hid (HX_T.out.below l29 HX_T.out.lt)
    clear l29
    have c31_T_0 := T_30.out.at 0 (v := .int .i64 x) rfl
    have c31_T_1 := T_30.out.at 1 (v := .slice a q.length cap) rfl
    go_wp2_with fail
    go_ret2
    exact ⟨rfl, HB_30.out⟩
  | true =>
    have hv : highV ⟨x, q⟩ = aftI x q.length := if_pos ok
    have hb := rwOk_iff.1 ok
    dsimp only at hb
    have HC := Lib.hid (fun (W1 : World) => implStep_any x q.length W1 hb.1.1 hb.1.2 (by omega) (by have := hb.2.1; omega))
    rw [ok] at HG
    rw [hv]
    clear hv ok hb
    generalize aftI x q.length = y at HC
    go_enter Try.func25, Try.ntmps25
    go_upto_region 1 with fail
    rw [← HW0.out, ← HR_T.out]
    go_wp2_with fail
    refine (HG.out).mono ?_
    rintro e W32 ⟨rfl, l32⟩
    clear c28_T_0 c28_T_1
    have HB_33 := Lib.hid (HB0.out.trans (l32.mono HB0.out.size))
    have T_33 := Lib.hid (HX_T.out.below l32 HX_T.out.lt)
    clear l32
    have c34_T_0 := T_33.out.at 0 (v := .int .i64 x) rfl
    have c34_T_1 := T_33.out.at 1 (v := .slice a q.length cap) rfl
    go_wp2_with fail
    refine (HC.out _).mono ?_
    rintro e _ ⟨rfl, rfl⟩
    go_wp2_with fail
    go_ret2
    exact ⟨rfl, HB_33.out⟩
set_option maxRecDepth 100000 in
set_option maxHeartbeats 4000000 in
theorem implHave_any (v : Value) (l : Rw) (w : World) (hrow : Row w v l.q.length (slF l.q)) (hs : ∀ s ∈ l.q, s.s.size ≤ maxLen) (n : Int) :
    Calls Try.prog 22 #[.agg #[.int .i64 l.x, v], .int .i64 n] w fun e w' => e = .returned (.tuple #[.bool (haveV l n), .bool (haveOk l n)]) ∧ Below w.heap.size w w' := by
  obtain ⟨x, q⟩ := l
  dsimp only at hrow hs ⊢
  obtain ⟨a, cap, rfl, hc1, hm1, _⟩ := sl_open hrow
  unfold maxLen at hm1
  have HP := Lib.hid hrow
  clear hrow
  have HS := Lib.hid hs
  clear hs
  obtain ⟨W0, R_T, hW0, hR_T, hX_T, hB0⟩ := entry1 w #[.int .i64 x, .slice a q.length cap] 26
  have HW0 := Lib.hid hW0
  have HB0 := Lib.hid hB0
  have HR_T := Lib.hid hR_T
  have HX_T := Lib.hid hX_T
  clear hW0 hB0 hR_T hX_T
  have c35_T_0 := HX_T.out.at 0 (v := .int .i64 x) rfl
  have c35_T_1 := HX_T.out.at 1 (v := .slice a q.length cap) rfl
  have HG := Lib.hid (fun (W1 : World) (hr : Row W1 (.slice a q.length cap) q.length (slF q)) => implIsRw_any (.slice a q.length cap) ⟨x, q⟩ W1 hr HS.out)
  have HBf := Lib.hid (fun (W1 : World) => implBefore_any n x W1)
  cases og : gapOk n x with
  | false =>
    have ho : haveOk ⟨x, q⟩ n = false := have_no og
    have hv : haveV ⟨x, q⟩ n = false := by unfold haveV; rw [ho]; rfl
    rw [og] at HBf
    generalize befV n x = bf at HBf
    rw [hv, ho]
    clear hv ho
    go_enter Try.func22, Try.ntmps22
    go_upto_region 1 with fail
    rw [← HW0.out, ← HR_T.out]
    go_wp2_with fail
    refine (HBf.out _).mono ?_
    rintro e W36 ⟨rfl, l36⟩
    clear c35_T_0 c35_T_1
    have HB_37 := Lib.hid (HB0.out.trans (l36.mono HB0.out.size))
    have T_37 := Lib.hid (HX_T.out.below l36 HX_T.out.lt)
    clear l36
    have c38_T_0 := T_37.out.at 0 (v := .int .i64 x) rfl
    have c38_T_1 := T_37.out.at 1 (v := .slice a q.length cap) rfl
    go_wp2_with fail
    go_ret2
    exact ⟨rfl, HB_37.out⟩
  | true =>
    cases ok : rwOk ⟨x, q⟩ with
    | false =>
      have ho : haveOk ⟨x, q⟩ n = false := by unfold haveOk; rw [ok]; rfl
      have hv : haveV ⟨x, q⟩ n = false := by unfold haveV; rw [ho]; rfl
      rw [og] at HBf
      rw [ok] at HG
      generalize befV n x = bf at HBf
      rw [hv, ho]
      clear hv ho
      go_enter Try.func22, Try.ntmps22
      go_upto_region 1 with fail
      rw [← HW0.out, ← HR_T.out]
      go_wp2_with fail
      refine (HBf.out _).mono ?_
      rintro e W39 ⟨rfl, l39⟩
      clear c35_T_0 c35_T_1
      have HB_40 := Lib.hid (HB0.out.trans (l39.mono HB0.out.size))
      have T_40 := Lib.hid (HX_T.out.below l39 HX_T.out.lt)
      clear l39
      have c41_T_0 := T_40.out.at 0 (v := .int .i64 x) rfl
      have c41_T_1 := T_40.out.at 1 (v := .slice a q.length cap) rfl
      go_wp2_with fail
      refine (HG.out _ (HP.out.below HB_40.out (Nat.le_refl _))).mono ?_
      rintro e W42 ⟨rfl, l42⟩
      clear c41_T_0 c41_T_1
      have HB_43 := Lib.hid (HB_40.out.trans (l42.mono HB_40.out.size))
      have T_43 := Lib.hid (T_40.out.below l42 T_40.out.lt)
      clear T_40
      clear l42
      have c44_T_0 := T_43.out.at 0 (v := .int .i64 x) rfl
      have c44_T_1 := T_43.out.at 1 (v := .slice a q.length cap) rfl
      go_wp2_with fail
      go_ret2
      exact ⟨rfl, HB_43.out⟩
    | true =>
      obtain ⟨hn0, hn1, hx0, hx1⟩ := gapOk_bd og
      have ho : haveOk ⟨x, q⟩ n = true := by unfold haveOk; rw [ok, serB_yes hn0 hn1]; rfl
      have hv : haveV ⟨x, q⟩ n = (befB n x || hasQ q (gapI x n).toNat) := by unfold haveV; rw [ho, Bool.true_and]; rfl
      have hbv : befV n x = befB n x := by unfold befV; rw [og, Bool.true_and]
      rw [og, hbv] at HBf
      rw [ok] at HG
      rw [hv, ho]
      have hgk := gapI_bd x n
      have HGp := Lib.hid (fun (W1 : World) => implGapB_any x n W1 hx0 hx1 hn0 hn1)
      obtain ⟨k, hk⟩ : ∃ k : Nat, gapI x n = (k : Int) := ⟨(gapI x n).toNat, by omega⟩
      rw [hk] at HGp ⊢
      rw [Int.toNat_natCast]
      have HSl := Lib.hid (fun (W1 : World) (hr : Row W1 (.slice a q.length cap) q.length (slF q)) => slotAt_any (.slice a q.length cap) ⟨x, q⟩ W1 hr k)
      dsimp only at HSl
      generalize hasQ q k = hq at HSl ⊢
      generalize itmQ q k = iq at HSl
      clear hv ho hbv og ok hk hgk hn0 hn1 hx0 hx1
      generalize befB n x = bf at HBf ⊢
      cases bf with
      | true =>
        go_enter Try.func22, Try.ntmps22
        go_upto_region 1 with fail
        rw [← HW0.out, ← HR_T.out]
        go_wp2_with fail
        refine (HBf.out _).mono ?_
        rintro e W45 ⟨rfl, l45⟩
        clear c35_T_0 c35_T_1
        have HB_46 := Lib.hid (HB0.out.trans (l45.mono HB0.out.size))
        have T_46 := Lib.hid (HX_T.out.below l45 HX_T.out.lt)
        clear l45
        have c47_T_0 := T_46.out.at 0 (v := .int .i64 x) rfl
        have c47_T_1 := T_46.out.at 1 (v := .slice a q.length cap) rfl
        go_wp2_with fail
        refine (HG.out _ (HP.out.below HB_46.out (Nat.le_refl _))).mono ?_
        rintro e W48 ⟨rfl, l48⟩
        clear c47_T_0 c47_T_1
        have HB_49 := Lib.hid (HB_46.out.trans (l48.mono HB_46.out.size))
        have T_49 := Lib.hid (T_46.out.below l48 T_46.out.lt)
        clear T_46
        clear l48
        have c50_T_0 := T_49.out.at 0 (v := .int .i64 x) rfl
        have c50_T_1 := T_49.out.at 1 (v := .slice a q.length cap) rfl
        go_wp2_with fail
        go_quiet (fail)
        all_goals go_wp2_with fail
        all_goals go_ret2
        all_goals exact ⟨rfl, HB_49.out.trans ((bdrew _ _).mono HB_49.out.size)⟩
      | false =>
        go_enter Try.func22, Try.ntmps22
        go_upto_region 1 with fail
        rw [← HW0.out, ← HR_T.out]
        go_wp2_with fail
        refine (HBf.out _).mono ?_
        rintro e W51 ⟨rfl, l51⟩
        clear c35_T_0 c35_T_1
        have HB_52 := Lib.hid (HB0.out.trans (l51.mono HB0.out.size))
        have T_52 := Lib.hid (HX_T.out.below l51 HX_T.out.lt)
        clear l51
        have c53_T_0 := T_52.out.at 0 (v := .int .i64 x) rfl
        have c53_T_1 := T_52.out.at 1 (v := .slice a q.length cap) rfl
        go_wp2_with fail
        refine (HG.out _ (HP.out.below HB_52.out (Nat.le_refl _))).mono ?_
        rintro e W54 ⟨rfl, l54⟩
        clear c53_T_0 c53_T_1
        have HB_55 := Lib.hid (HB_52.out.trans (l54.mono HB_52.out.size))
        have T_55 := Lib.hid (T_52.out.below l54 T_52.out.lt)
        clear T_52
        clear l54
        have c56_T_0 := T_55.out.at 0 (v := .int .i64 x) rfl
        have c56_T_1 := T_55.out.at 1 (v := .slice a q.length cap) rfl
        have hfd : ∀ W : World, (Instr.field 66 (.agg #[.bool hq, .string iq]) 0).run Try.prog W = .ok (.bool hq) W := fun _ => by kernel_rfl
        have HK1 := Lib.hid (fun (w' : World) (hb : Below W54.heap.size W54 w') => (show w'.cell? ⟨R_T, 0, none⟩ = some (.int .i64 x) ∧ w'.cell? ⟨R_T, 1, none⟩ = some (.slice a q.length cap) ∧ Below w.heap.size w w' from ⟨(hb.cell (p := ⟨R_T, 0, none⟩) T_55.out.lt).trans (T_55.out.at 0 (v := .int .i64 x) rfl), (hb.cell (p := ⟨R_T, 1, none⟩) T_55.out.lt).trans (T_55.out.at 1 (v := .slice a q.length cap) rfl), HB_55.out.trans (hb.mono HB_55.out.size)⟩))
        go_upto_region 4 with fail
        go_region_held3 (fun w' => w'.cell? ⟨R_T, 0, none⟩ = some (.int .i64 x) ∧ w'.cell? ⟨R_T, 1, none⟩ = some (.slice a q.length cap) ∧ Below w.heap.size w w')
          ((first | (with_reducible refine HK1.out _ ?_; (repeat (first | with_reducible assumption | with_reducible exact Below.refl _ _ | with_reducible refine Below.drew ?_ | with_reducible refine below_alloc' ?_)); done)))
          (first
            | (go_at_call 45; refine (HGp.out _).mono ?_; rintro e _ ⟨rfl, rfl⟩)
            | (go_at_call 55; refine (HSl.out _ (HP.out.below (HB_55.out.trans ((by repeat (first | with_reducible assumption | with_reducible exact Below.refl _ _ | with_reducible refine Below.drew ?_ | with_reducible refine below_alloc' ?_) : Below W54.heap.size W54 _).mono HB_55.out.size)) (Nat.le_refl _))).mono ?_; rintro e w7 ⟨rfl, l7⟩; have hb7 := below_call7 (by repeat (first | with_reducible assumption | with_reducible exact Below.refl _ _ | with_reducible refine Below.drew ?_ | with_reducible refine below_alloc' ?_) : Below W54.heap.size W54 _) l7; clear l7))
        all_goals go_wp2_with fail
        all_goals go_ret2
        all_goals exact ⟨rfl, HB_55.out.trans (hb7.mono HB_55.out.size)⟩
set_option maxRecDepth 100000 in
set_option maxHeartbeats 2000000 in
theorem implCnt_any (v : Value) (l : Rw) (w : World) (hrow : Row w v l.q.length (slF l.q)) (hs : ∀ s ∈ l.q, s.s.size ≤ maxLen) :
    Calls Try.prog 20 #[.agg #[.int .i64 l.x, v]] w fun e w' => e = .returned (.tuple #[.int .i64 (cntV l), .int .i64 (cntF l), .bool (rwOk l)]) ∧ Below w.heap.size w w' := by
  obtain ⟨x, q⟩ := l
  dsimp only at hrow hs ⊢
  obtain ⟨a, cap, rfl, hc1, hm1, _⟩ := sl_open hrow
  unfold maxLen at hm1
  have HP := Lib.hid hrow
  clear hrow
  have HS := Lib.hid hs
  clear hs
  obtain ⟨W0, R_T, hW0, hR_T, hX_T, hB0⟩ := entry1 w #[.int .i64 x, .slice a q.length cap] 26
  have HW0 := Lib.hid hW0
  have HB0 := Lib.hid hB0
  have HR_T := Lib.hid hR_T
  have HX_T := Lib.hid hX_T
  clear hW0 hB0 hR_T hX_T
  have c57_T_0 := HX_T.out.at 0 (v := .int .i64 x) rfl
  have c57_T_1 := HX_T.out.at 1 (v := .slice a q.length cap) rfl
  have HG := Lib.hid (implIsRw_any (.slice a q.length cap) ⟨x, q⟩ W0 (HP.out.below HB0.out (Nat.le_refl _)) HS.out)
  cases ok : rwOk ⟨x, q⟩ with
  | false =>
    have hv : cntV ⟨x, q⟩ = 0 := by unfold cntV; rw [ok]; rfl
    have hf : cntF ⟨x, q⟩ = 0 := by unfold cntF; rw [ok]; rfl
    rw [ok] at HG
    rw [hv, hf]
    clear hv hf ok
    go_enter Try.func20, Try.ntmps20
    go_upto_region 1 with fail
    rw [← HW0.out, ← HR_T.out]
    go_wp2_with fail
    refine (HG.out).mono ?_
    rintro e W58 ⟨rfl, l58⟩
    clear c57_T_0 c57_T_1
    have HB_59 := Lib.hid (HB0.out.trans (l58.mono HB0.out.size))
    have T_59 := Lib.hid (HX_T.out.below l58 HX_T.out.lt)
    clear l58
    have c60_T_0 := T_59.out.at 0 (v := .int .i64 x) rfl
    have c60_T_1 := T_59.out.at 1 (v := .slice a q.length cap) rfl
    go_wp2_with fail
    go_ret3
    exact ⟨rfl, HB_59.out⟩
  | true =>
    have hv : cntV ⟨x, q⟩ = (cntH q : Int) := if_pos ok
    have hf : cntF ⟨x, q⟩ = ((q.length - cntH q : Nat) : Int) := if_pos ok
    have h8 : q.length ≤ 8 := (rwOk_iff.1 ok).2.1
    rw [ok] at HG
    rw [hv, hf]
    clear hv hf ok
    have HCl := Lib.hid (cntH_le q)
    have HL0 := Lib.hid (Below.refl W0.heap.size W0)
    go_enter Try.func20, Try.ntmps20
    go_upto_region 1 with fail
    rw [← HW0.out, ← HR_T.out]
    go_wp2_with fail
    refine (HG.out).mono ?_
    rintro e W61 ⟨rfl, l61⟩
    clear c57_T_0 c57_T_1
    have HB_62 := Lib.hid (HB0.out.trans (l61.mono HB0.out.size))
    have HL0_62 := Lib.hid (HL0.out.trans (l61.mono HL0.out.size))
    clear HL0
    have T_62 := Lib.hid (HX_T.out.below l61 HX_T.out.lt)
    clear l61
    have c63_T_0 := T_62.out.at 0 (v := .int .i64 x) rfl
    have c63_T_1 := T_62.out.at 1 (v := .slice a q.length cap) rfl
    go_wp2_with fail
    go_loopw [5, 14] (fun c i wr => ∃ k : Nat, k ≤ q.length ∧ i = .int .i64 k ∧ c = .int .i64 (cntH (q.take k) : Nat) ∧ Hid (Below W0.heap.size W0 wr)) (fun _ i _ => q.length - (RowKit.intOf i).toNat)
    case atStart => exact ⟨0, Nat.zero_le _, rfl, rfl, HL0_62⟩
    case round =>
      obtain ⟨k, hk, rfl, rfl, HL⟩ := hrel
      clear c63_T_0 c63_T_1
      have HBr := Lib.hid (HB0.out.trans (HL.out.mono HB0.out.size))
      have T_r := Lib.hid (HX_T.out.below HL.out HX_T.out.lt)
      have c64_T_0 := T_r.out.at 0 (v := .int .i64 x) rfl
      have c64_T_1 := T_r.out.at 1 (v := .slice a q.length cap) rfl
      by_cases hkn : k < q.length
      · obtain ⟨b, off, rfl, hb, d0, d1⟩ := row_sl HP.out hkn
        have e0 := (HBr.out.cell (p := ⟨b, off + k * 2, none⟩) hb).trans d0
        have e1 := (HBr.out.cell (p := ⟨b, off + k * 2 + 1, none⟩) hb).trans d1
        have hn : cntH (q.take (k + 1)) = cntH (q.take k) + (if q[k].h = true then 1 else 0) := by
          unfold cntH
          rw [List.take_succ_eq_append_getElem hkn, List.countP_append, List.countP_singleton]
        have HN := Lib.hid hn
        have hc := cntH_le (q.take k)
        rw [List.length_take] at hc
        clear d0 d1 hn
        generalize cntH (q.take k) = c1 at HN hc ⊢
        generalize q[k].s = s at e1
        generalize q[k].h = hv at e0 HN
        clear c64_T_0 c64_T_1
        have c65_T_0 := T_r.out.at 0 (v := .int .i64 x) rfl
        have c65_T_1 := T_r.out.at 1 (v := .slice (some ⟨b, off, none⟩) q.length cap) rfl
        cases hv with
        | true =>
          go_upto_region 7 with fail
          obtain ⟨W66, hW66⟩ : ∃ W66, W66 = wr.alloc (.cells #[.bool true, .string s] 66) := ⟨_, rfl⟩
          have l66 : Below wr.heap.size wr W66 := by rw [hW66]; exact (Below.refl _ _).alloc (Nat.le_refl _) _
          have X66_X : Hid (Bx W66 wr.heap.size #[.bool true, .string s] 66) := Lib.hid (by rw [hW66]; exact Bx.new _ _ _)
          rw [← hW66]
          clear hW66
          have HG_X : Hid (w.heap.size ≤ wr.heap.size) := Lib.hid HBr.out.size
          have HN_X_T : Hid (R_T < wr.heap.size) := Lib.hid T_r.out.lt
          obtain ⟨R_X, hR_X⟩ : ∃ X, X = wr.heap.size := ⟨_, rfl⟩
          rw [← hR_X] at X66_X HG_X HN_X_T ⊢
          clear hR_X
          clear c65_T_0 c65_T_1
          have HB_67 := Lib.hid (HBr.out.trans (l66.mono HBr.out.size))
          have HF_67 := Lib.hid (HL.out.trans (l66.mono HL.out.size))
          clear HL
          have T_67 := Lib.hid (T_r.out.below l66 T_r.out.lt)
          clear l66
          have c68_T_0 := T_67.out.at 0 (v := .int .i64 x) rfl
          have c68_T_1 := T_67.out.at 1 (v := .slice (some ⟨b, off, none⟩) q.length cap) rfl
          have c69_X_0 := X66_X.out.at 0 (v := .bool true) rfl
          have c69_X_1 := X66_X.out.at 1 (v := .string s) rfl
          go_wp2_with fail
          go_roundw
          case rel => exact ⟨k + 1, by omega, by go_num, vint (by have h := HN.out; simp at h; omega), HF_67⟩
          case measure => (simp [RowKit.intOf]; omega)
        | false =>
          go_upto_region 7 with fail
          obtain ⟨W70, hW70⟩ : ∃ W70, W70 = wr.alloc (.cells #[.bool false, .string s] 66) := ⟨_, rfl⟩
          have l70 : Below wr.heap.size wr W70 := by rw [hW70]; exact (Below.refl _ _).alloc (Nat.le_refl _) _
          have X70_X : Hid (Bx W70 wr.heap.size #[.bool false, .string s] 66) := Lib.hid (by rw [hW70]; exact Bx.new _ _ _)
          rw [← hW70]
          clear hW70
          have HG_X : Hid (w.heap.size ≤ wr.heap.size) := Lib.hid HBr.out.size
          have HN_X_T : Hid (R_T < wr.heap.size) := Lib.hid T_r.out.lt
          obtain ⟨R_X, hR_X⟩ : ∃ X, X = wr.heap.size := ⟨_, rfl⟩
          rw [← hR_X] at X70_X HG_X HN_X_T ⊢
          clear hR_X
          clear c65_T_0 c65_T_1
          have HB_71 := Lib.hid (HBr.out.trans (l70.mono HBr.out.size))
          have HF_71 := Lib.hid (HL.out.trans (l70.mono HL.out.size))
          clear HL
          have T_71 := Lib.hid (T_r.out.below l70 T_r.out.lt)
          clear l70
          have c72_T_0 := T_71.out.at 0 (v := .int .i64 x) rfl
          have c72_T_1 := T_71.out.at 1 (v := .slice (some ⟨b, off, none⟩) q.length cap) rfl
          have c73_X_0 := X70_X.out.at 0 (v := .bool false) rfl
          have c73_X_1 := X70_X.out.at 1 (v := .string s) rfl
          go_wp2_with fail
          go_roundw
          case rel => exact ⟨k + 1, by omega, by go_num, vint (by have h := HN.out; simp at h; omega), HF_71⟩
          case measure => (simp [RowKit.intOf]; omega)
      · obtain rfl : k = q.length := by omega
        rw [List.take_of_length_le (Nat.le_refl _)]
        have hcl := HCl.out
        have hsub : ((q.length - cntH q : Nat) : Int) = (q.length : Int) - (cntH q : Int) := by omega
        go_wp2_with fail
        go_quiet (fail)
        all_goals go_wp2_with fail
        all_goals go_ret3
        all_goals exact ⟨by rw [hsub]; rfl, HBr.out.trans ((bdrew _ _).mono HBr.out.size)⟩
set_option maxRecDepth 100000 in
set_option maxHeartbeats 8000000 in
theorem implMiss_any (v : Value) (l : Rw) (w : World) (hrow : Row w v l.q.length (slF l.q)) (hs : ∀ s ∈ l.q, s.s.size ≤ maxLen) (n : Int) :
    Calls Try.prog 40 #[.agg #[.int .i64 l.x, v], .int .i64 n] w fun e w' => ∃ v', e = .returned (.tuple #[v', .bool (missOk l n)]) ∧ w'.ownsRow w.heap.size 3 1 v' (missV l n).length ((missV l n).map (Value.int .i64)) ∧ Below w.heap.size w w' := by
  obtain ⟨i0, hi, hz0, hz1, hz2⟩ := info_parts infoInt2
  obtain ⟨x, q⟩ := l
  dsimp only at hrow hs ⊢
  obtain ⟨a, cap, rfl, hc1, hm1, _⟩ := sl_open hrow
  unfold maxLen at hm1
  have HP := Lib.hid hrow
  clear hrow
  have HS := Lib.hid hs
  clear hs
  obtain ⟨W0, R_T, hW0, hR_T, hX_T, hB0⟩ := entry1 w #[.int .i64 x, .slice a q.length cap] 26
  have HW0 := Lib.hid hW0
  have HB0 := Lib.hid hB0
  have HR_T := Lib.hid hR_T
  have HX_T := Lib.hid hX_T
  clear hW0 hB0 hR_T hX_T
  have c74_T_0 := HX_T.out.at 0 (v := .int .i64 x) rfl
  have c74_T_1 := HX_T.out.at 1 (v := .slice a q.length cap) rfl
  have HG := Lib.hid (fun (W1 : World) (hr : Row W1 (.slice a q.length cap) q.length (slF q)) => implIsRw_any (.slice a q.length cap) ⟨x, q⟩ W1 hr HS.out)
  have HSer := Lib.hid (fun (W1 : World) => implIsSerial_any n W1)
  have HO : Hid (missOk ⟨x, q⟩ n = (rwOk ⟨x, q⟩ && (serB n && decide (gapI x n ≤ 8)))) := Lib.hid rfl
  cases ok : rwOk ⟨x, q⟩ with
  | false =>
    rw [ok] at HG
    have ho : missOk ⟨x, q⟩ n = false := by rw [HO.out, ok]; simp
    have hv : missV ⟨x, q⟩ n = [] := by unfold missV; rw [ho]; rfl
    rw [ho, hv]
    clear ho hv HO
    go_enter Try.func40, Try.ntmps40
    go_upto_region 1 with fail
    rw [← HW0.out, ← HR_T.out]
    go_wp2_with fail
    refine (HG.out _ (HP.out.below HB0.out (Nat.le_refl _))).mono ?_
    rintro e W75 ⟨rfl, l75⟩
    clear c74_T_0 c74_T_1
    have HB_76 := Lib.hid (HB0.out.trans (l75.mono HB0.out.size))
    have T_76 := Lib.hid (HX_T.out.below l75 HX_T.out.lt)
    clear l75
    have c77_T_0 := T_76.out.at 0 (v := .int .i64 x) rfl
    have c77_T_1 := T_76.out.at 1 (v := .slice a q.length cap) rfl
    go_wp2_with fail
    go_ret2
    exact ⟨_, rfl, own_lit (heap_alloc_new W75 (.cells #[] 3)) HB_76.out.size, HB_76.out.alloc HB_76.out.size _⟩
  | true =>
    rw [ok] at HG
    cases os : serB n with
    | false =>
      rw [os] at HSer
      have ho : missOk ⟨x, q⟩ n = false := by rw [HO.out, ok, os]; simp
      have hv : missV ⟨x, q⟩ n = [] := by unfold missV; rw [ho]; rfl
      rw [ho, hv]
      clear ho hv HO
      go_enter Try.func40, Try.ntmps40
      go_upto_region 1 with fail
      rw [← HW0.out, ← HR_T.out]
      go_wp2_with fail
      refine (HG.out _ (HP.out.below HB0.out (Nat.le_refl _))).mono ?_
      rintro e W78 ⟨rfl, l78⟩
      clear c74_T_0 c74_T_1
      have HB_79 := Lib.hid (HB0.out.trans (l78.mono HB0.out.size))
      have T_79 := Lib.hid (HX_T.out.below l78 HX_T.out.lt)
      clear l78
      have c80_T_0 := T_79.out.at 0 (v := .int .i64 x) rfl
      have c80_T_1 := T_79.out.at 1 (v := .slice a q.length cap) rfl
      go_wp2_with fail
      refine (HSer.out _).mono ?_
      rintro e _ ⟨rfl, rfl⟩
      go_wp2_with fail
      go_ret2
      exact ⟨_, rfl, own_lit (heap_alloc_new W78 (.cells #[] 3)) HB_79.out.size, HB_79.out.alloc HB_79.out.size _⟩
    | true =>
      rw [os] at HSer
      have hx := (rwOk_iff.1 ok).1
      dsimp only at hx
      have hn := serB_bd os
      have HGp := Lib.hid (fun (W1 : World) => implGapB_any x n W1 hx.1 hx.2 hn.1 hn.2)
      by_cases h8 : gapI x n ≤ 8
      rotate_left
      · have h8' : (8 : Int) < gapI x n := by omega
        have hdec : decide (gapI x n ≤ 8) = false := decide_eq_false h8
        clear hx hn
        have ho : missOk ⟨x, q⟩ n = false := by rw [HO.out, ok, os, hdec]; simp
        have hv : missV ⟨x, q⟩ n = [] := by unfold missV; rw [ho]; rfl
        rw [ho, hv]
        clear ho hv HO
        go_enter Try.func40, Try.ntmps40
        go_upto_region 1 with fail
        rw [← HW0.out, ← HR_T.out]
        go_wp2_with fail
        refine (HG.out _ (HP.out.below HB0.out (Nat.le_refl _))).mono ?_
        rintro e W81 ⟨rfl, l81⟩
        clear c74_T_0 c74_T_1
        have HB_82 := Lib.hid (HB0.out.trans (l81.mono HB0.out.size))
        have T_82 := Lib.hid (HX_T.out.below l81 HX_T.out.lt)
        clear l81
        have c83_T_0 := T_82.out.at 0 (v := .int .i64 x) rfl
        have c83_T_1 := T_82.out.at 1 (v := .slice a q.length cap) rfl
        go_wp2_with fail
        refine (HSer.out _).mono ?_
        rintro e _ ⟨rfl, rfl⟩
        go_wp2_with fail
        refine (HGp.out _).mono ?_
        rintro e _ ⟨rfl, rfl⟩
        go_wp2_with fail
        go_ret2
        exact ⟨_, rfl, own_lit (heap_alloc_new W81 (.cells #[] 3)) HB_82.out.size, HB_82.out.alloc HB_82.out.size _⟩
      have ho : missOk ⟨x, q⟩ n = true := by rw [HO.out, ok, os, decide_eq_true h8]; rfl
      have hv : missV ⟨x, q⟩ n = missL ⟨x, q⟩ n := if_pos ho
      rw [ho, hv]
      obtain ⟨m, hm⟩ : ∃ m : Nat, gapI x n = (m : Int) := ⟨(gapI x n).toNat, by have := gapI_bd x n; omega⟩
      have hh : missL ⟨x, q⟩ n = missP x q m := by
        show missP x q (gapI x n).toNat = _
        rw [hm]; rfl
      rw [hh]
      rw [hm] at HGp h8
      have h8' : ¬ (8 : Int) < (m : Int) := by omega
      clear ho hv hh hm HO hn os ok
      have HSl := Lib.hid (fun (k : Nat) (W1 : World) (hr : Row W1 (.slice a q.length cap) q.length (slF q)) => slotAt_any (.slice a q.length cap) ⟨x, q⟩ W1 hr k)
      dsimp only at HSl
      have HL0 := Lib.hid (Below.refl W0.heap.size W0)
      go_enter Try.func40, Try.ntmps40
      go_upto_region 1 with fail
      rw [← HW0.out, ← HR_T.out]
      go_wp2_with fail
      refine (HG.out _ (HP.out.below HB0.out (Nat.le_refl _))).mono ?_
      rintro e W84 ⟨rfl, l84⟩
      clear c74_T_0 c74_T_1
      have HB_85 := Lib.hid (HB0.out.trans (l84.mono HB0.out.size))
      have HL0_85 := Lib.hid (HL0.out.trans (l84.mono HL0.out.size))
      clear HL0
      have T_85 := Lib.hid (HX_T.out.below l84 HX_T.out.lt)
      clear l84
      have c86_T_0 := T_85.out.at 0 (v := .int .i64 x) rfl
      have c86_T_1 := T_85.out.at 1 (v := .slice a q.length cap) rfl
      go_wp2_with fail
      refine (HSer.out _).mono ?_
      rintro e _ ⟨rfl, rfl⟩
      go_wp2_with fail
      refine (HGp.out _).mono ?_
      rintro e _ ⟨rfl, rfl⟩
      go_upto_region 7 with fail
      have lL : Below W84.heap.size W84 (W84.alloc (.cells #[] 3)) := (Below.refl _ _).alloc (Nat.le_refl _) _
      have HOl := Lib.hid (own_lit (heap_alloc_new W84 (.cells #[] 3)) HL0_85.out.size)
      obtain ⟨WL, hWL⟩ : ∃ W9, W9 = W84.alloc (.cells #[] 3) := ⟨_, rfl⟩
      rw [← hWL] at lL HOl ⊢
      clear hWL
      clear c86_T_0 c86_T_1
      have HB_87 := Lib.hid (HB_85.out.trans (lL.mono HB_85.out.size))
      have HL0_87 := Lib.hid (HL0_85.out.trans (lL.mono HL0_85.out.size))
      clear HL0_85
      have T_87 := Lib.hid (T_85.out.below lL T_85.out.lt)
      clear T_85
      clear lL
      have c88_T_0 := T_87.out.at 0 (v := .int .i64 x) rfl
      have c88_T_1 := T_87.out.at 1 (v := .slice a q.length cap) rfl
      go_wp2_with fail
      go_loopw [7, 27] (fun v i wr => ∃ k : Nat, k ≤ m ∧ i = .int .i64 k ∧ Hid (wr.ownsRow W0.heap.size 3 1 v (missP x q k).length ((missP x q k).map (Value.int .i64))) ∧ Hid (Below W0.heap.size W0 wr)) (fun _ i _ => m - (RowKit.intOf i).toNat)
      case atStart => exact ⟨0, Nat.zero_le _, rfl, HOl, HL0_87⟩
      case round =>
        obtain ⟨k, hk, rfl, HO, HL⟩ := hrel
        clear c88_T_0 c88_T_1
        have HBr := Lib.hid (HB0.out.trans (HL.out.mono HB0.out.size))
        have T_r := Lib.hid (HX_T.out.below HL.out HX_T.out.lt)
        have c89_T_0 := T_r.out.at 0 (v := .int .i64 x) rfl
        have c89_T_1 := T_r.out.at 1 (v := .slice a q.length cap) rfl
        have hsl := missP_len x q k
        by_cases hkm : k < m
        · have HST := Lib.hid (fun w => implStep_any x (k : Int) w hx.1 hx.2 (by omega) (by omega))
          obtain ⟨y, hy⟩ : ∃ y, y = aftI x k := ⟨_, rfl⟩
          rw [← hy] at HST
          have HY := Lib.hid hy
          clear hy
          obtain ⟨hq, hhq⟩ : ∃ hq, hasQ q k = hq := ⟨_, rfl⟩
          have HSk := Lib.hid (HSl.out k)
          rw [hhq] at HSk
          have HN := Lib.hid hhq
          clear hhq
          generalize itmQ q k = iq at HSk
          have hfd0 : ∀ W : World, (Instr.field 66 (.agg #[.bool false, .string iq]) 0).run Try.prog W = .ok (.bool false) W := fun _ => by kernel_rfl
          have hfd1 : ∀ W : World, (Instr.field 66 (.agg #[.bool true, .string iq]) 0).run Try.prog W = .ok (.bool true) W := fun _ => by kernel_rfl
          cases hq with
          | false =>
            go_wp2_with fail
            refine (HSk.out _ (HP.out.below HBr.out (Nat.le_refl _))).mono ?_
            rintro e W90 ⟨rfl, l90⟩
            clear c89_T_0 c89_T_1
            have HB_91 := Lib.hid (HBr.out.trans (l90.mono HBr.out.size))
            have v_91 := Lib.hid (own_below HO.out l90 (Nat.le_refl _))
            clear HO
            have HF_91 := Lib.hid (HL.out.trans (l90.mono HL.out.size))
            clear HL
            have T_91 := Lib.hid (T_r.out.below l90 T_r.out.lt)
            clear l90
            have c92_T_0 := T_91.out.at 0 (v := .int .i64 x) rfl
            have c92_T_1 := T_91.out.at 1 (v := .slice a q.length cap) rfl
            have hszr := HF_91.out.size
            go_wp2_with (first | (at_builtin; refine wpList_append_own _ rfl _ _ 54 rfl W0.heap.size 3 i0 (.int .i64 0) 1 8 Try.underlying54 hi hz0 hz1 hz2 rfl (by decide) _ _ _ rfl (v_91.out.alloc _) ⟨W90.heap.size, 0, none⟩ 1 1 [.int .i64 y] rfl rfl (cell_one_new _ _ _) (by intro u hu; simp at hu; subst hu; rfl) (by unfold maxLen; omega) (by omega) (by simp; omega) ?_; intro v' w1 hown' hgrow _) | (go_at_call 58; refine (HST.out _).mono ?_; rintro e w' ⟨rfl, rfl⟩))
            go_roundw
            case rel => exact ⟨k + 1, by omega, by go_num, Lib.hid (miss_own HN.out (by rw [← HY.out]; exact hown')), Lib.hid (below_own_i HF_91.out hszr v_91.out hgrow)⟩
            case measure => (simp [RowKit.intOf]; omega)
          | true =>
            go_wp2_with fail
            refine (HSk.out _ (HP.out.below HBr.out (Nat.le_refl _))).mono ?_
            rintro e W93 ⟨rfl, l93⟩
            clear c89_T_0 c89_T_1
            have HB_94 := Lib.hid (HBr.out.trans (l93.mono HBr.out.size))
            have v_94 := Lib.hid (own_below HO.out l93 (Nat.le_refl _))
            clear HO
            have HF_94 := Lib.hid (HL.out.trans (l93.mono HL.out.size))
            clear HL
            have T_94 := Lib.hid (T_r.out.below l93 T_r.out.lt)
            clear l93
            have c95_T_0 := T_94.out.at 0 (v := .int .i64 x) rfl
            have c95_T_1 := T_94.out.at 1 (v := .slice a q.length cap) rfl
            go_wp2_with fail
            go_roundw
            case rel => exact ⟨k + 1, by omega, by go_num, Lib.hid (by rw [missP_yes HN.out]; exact v_94.out), HF_94⟩
            case measure => (simp [RowKit.intOf]; omega)
        · obtain rfl : k = m := by omega
          have HO2 := Lib.hid HO.out
          clear HO hsl
          go_wp2_with fail
          go_ret2
          exact ⟨_, rfl, own_base HO2.out HB0.out.size, HBr.out⟩
end Go.Proofs.Ytpmjdppipalfcaa
