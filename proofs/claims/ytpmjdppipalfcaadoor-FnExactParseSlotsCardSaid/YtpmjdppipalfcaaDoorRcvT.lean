/-
  Receive windows: texts (the specification's).
-/
import Derived.Test.YtpmjdppipalfcaaDoorRcv
import Derived.Test.YtpmjdppipalfcaaDoorRcvText
import Derived.Test.YtpmjdppipalfcaaDoorRdN
import Derived.Deep.QuietTactic
import Derived.BigQuiet
import Derived.IntWalk
import Derived.Deep.CutRange
import Derived.WalkLawsBesides
import Derived.Lib.SmallJoins
import Derived.Deep.RegionHeld3
namespace Go.Proofs.YtpmjdppipalfcaaDoor
open Go.RowKit Go.Lib Go.Joins
set_option linter.unusedVariables false

theorem rw_sized {w : Rw} (h : rwOk w = true) : ∀ s ∈ w.q, s.s.size ≤ 8 := by
  intro a ha
  have := (rwOk_iff.1 h).2.2.1 a ha
  unfold slOk itB at this
  simp only [Bool.and_eq_true, decide_eq_true_eq] at this
  exact this.1.2
set_option maxRecDepth 100000 in
set_option maxHeartbeats 8000000 in
theorem l10Text_any (v : Value) (l : Rw) (w : World) (hrow : Row w v l.q.length (slF l.q)) (hok : rwOk l = true) :
    Calls Tryd.prog 55 #[.agg #[.int .i64 l.x, v]] w fun e w' => e = .returned (.string (txB l.x l.q)) ∧ Below w.heap.size w w' := by
  obtain ⟨x, q⟩ := l
  dsimp only at hrow ⊢
  obtain ⟨a, cap, rfl, hc1, hm1, _⟩ := sl_open hrow
  unfold maxLen at hm1
  have HP := Lib.hid hrow
  clear hrow
  obtain ⟨hxb, hl8, hso, hfb, hlb⟩ := rwOk_iff.1 hok
  dsimp only at hxb hl8 hso hfb hlb
  have hs8 := rw_sized hok
  have HS8 := Lib.hid hs8
  have HNm := Lib.hid (fun (W1 : World) => numS_any x hxb.1 hxb.2 W1)
  have hn6 := numS_size hxb.1 (show x ≤ 999999 by omega)
  have HT0 : Hid (numS x ++ ⟨#[58]⟩ = txB x []) := Lib.hid (txB_nil x).symm
  have HSz := Lib.hid (fun (k : Nat) => tx_size hxb.1 hxb.2 (q := q.take k) (fun s hs => hs8 s (List.mem_of_mem_take hs)))
  clear hok hso hfb hlb hs8
  obtain ⟨nm, hnm⟩ : ∃ nm, nm = numS x := ⟨_, rfl⟩
  rw [← hnm] at HNm hn6 HT0
  clear hnm
  obtain ⟨W0, R_T, hW0, hR_T, hX_T, hB0⟩ := entry1 w #[.int .i64 x, .slice a q.length cap] 26
  have HW0 := Lib.hid hW0
  have HB0 := Lib.hid hB0
  have HR_T := Lib.hid hR_T
  have HX_T := Lib.hid hX_T
  clear hW0 hB0 hR_T hX_T
  have c1_T_0 := HX_T.out.at 0 (v := .int .i64 x) rfl
  have c1_T_1 := HX_T.out.at 1 (v := .slice a q.length cap) rfl
  have HL0 := Lib.hid (Below.refl W0.heap.size W0)
  go_enter Tryd.func55, Tryd.ntmps55
  go_upto_region 1 with fail
  rw [← HW0.out, ← HR_T.out]
  go_wp2_with fail
  refine (HNm.out _).mono ?_
  rintro e W2 ⟨rfl, k9, hk9⟩
  have l2 : Below W0.heap.size W0 W2 := by rw [hk9]; exact bdrewN _ _ _
  clear hk9
  clear c1_T_0 c1_T_1
  have HB_3 := Lib.hid (HB0.out.trans (l2.mono HB0.out.size))
  have HL0_3 := Lib.hid (HL0.out.trans (l2.mono HL0.out.size))
  clear HL0
  have T_3 := Lib.hid (HX_T.out.below l2 HX_T.out.lt)
  clear l2
  have c4_T_0 := T_3.out.at 0 (v := .int .i64 x) rfl
  have c4_T_1 := T_3.out.at 1 (v := .slice a q.length cap) rfl
  go_wp2_with fail
  go_loopw [3, 4] (fun c i wr => ∃ (k : Nat) (acc : ByteArray), k ≤ q.length ∧ i = .int .i64 k ∧ c = .string acc ∧ Hid (acc = txB x (q.take k)) ∧ Hid (Below W0.heap.size W0 wr)) (fun _ i _ => q.length - (RowKit.intOf i).toNat)
  case atStart => exact ⟨0, _, Nat.zero_le _, rfl, rfl, Lib.hid (by rw [List.take_zero]; exact HT0.out), HL0_3⟩
  case round =>
    obtain ⟨k, acc, hk, rfl, rfl, HA, HL⟩ := hrel
    clear c4_T_0 c4_T_1
    have HBr := Lib.hid (HB0.out.trans (HL.out.mono HB0.out.size))
    have T_r := Lib.hid (HX_T.out.below HL.out HX_T.out.lt)
    have c5_T_0 := T_r.out.at 0 (v := .int .i64 x) rfl
    have c5_T_1 := T_r.out.at 1 (v := .slice a q.length cap) rfl
    have hasz : acc.size ≤ 78 := by rw [HA.out]; have := HSz.out k; rw [List.length_take] at this; omega
    by_cases hkn : k < q.length
    · obtain ⟨b, off, rfl, hb, d0, d1⟩ := row_sl HP.out hkn
      have e0 := (HBr.out.cell (p := ⟨b, off + k * 2, none⟩) hb).trans d0
      have e1 := (HBr.out.cell (p := ⟨b, off + k * 2 + 1, none⟩) hb).trans d1
      clear d0 d1
      have HN : Hid (txB x (q.take (k + 1)) = acc ++ ⟨(32 :: wdL q[k]).toArray⟩) := Lib.hid (by rw [List.take_succ_eq_append_getElem hkn, txB_snoc, HA.out])
      have hs9 := HS8.out _ (List.getElem_mem hkn)
      have hse : q[k] = ⟨q[k].h, q[k].s⟩ := rfl
      rw [hse] at HN
      clear hse
      generalize q[k].s = s at e1 HN hs9
      generalize q[k].h = hv at e0 HN
      clear c5_T_0 c5_T_1
      have c6_T_0 := T_r.out.at 0 (v := .int .i64 x) rfl
      have c6_T_1 := T_r.out.at 1 (v := .slice (some ⟨b, off, none⟩) q.length cap) rfl
      have i31 : (0 : Int) ≤ (k : Int) := by omega
      have i32 : (k : Int) < (q.length : Int) := by omega
      cases hv with
      | false =>
        go_wp2_with fail
        go_roundw
        case rel => exact ⟨k + 1, _, by omega, by go_num, rfl, Lib.hid (by rw [HN.out]; first | done | rfl), HL⟩
        case measure => (simp [RowKit.intOf]; omega)
      | true =>
        by_cases hz : s.size = 0
        · obtain rfl := size_zero hz
          go_wp2_with fail
          go_roundw
          case rel => exact ⟨k + 1, _, by omega, by go_num, rfl, Lib.hid (by rw [HN.out]; first | done | rfl), HL⟩
          case measure => (simp [RowKit.intOf]; omega)
        · have hne : (s.toList == ([] : List UInt8)) = false := toList_ne hz
          have hww : wdL ⟨true, s⟩ = s.data.toList := by unfold wdL; rw [if_pos rfl, if_neg hz]
          have HN2 : Hid (txB x (q.take (k + 1)) = acc ++ ⟨#[32]⟩ ++ s) := Lib.hid (by rw [HN.out, hww, ByteArray.append_assoc]; congr 1; first | done | (apply ByteArray.ext; simp))
          clear hww
          go_wp2_with fail
          go_roundw
          case rel => exact ⟨k + 1, _, by omega, by go_num, rfl, Lib.hid (HN2.out.symm), HL⟩
          case measure => (simp [RowKit.intOf]; omega)
    · obtain rfl : k = q.length := by omega
      have HA2 : Hid (acc = txB x q) := Lib.hid (by rw [HA.out, List.take_of_length_le (Nat.le_refl _)])
      obtain rfl : acc = txB x q := HA2.out
      go_wp2_with fail
      go_ret
      exact ⟨rfl, HBr.out⟩
set_option maxRecDepth 100000 in
set_option maxHeartbeats 2000000 in
theorem specSlots_any (v : Value) (l : Rw) (w : World) (hrow : Row w v l.q.length (slF l.q)) (hs : ∀ s ∈ l.q, s.s.size ≤ maxLen) :
    Calls Tryd.prog 23 #[.agg #[.int .i64 l.x, v]] w fun e w' => e = .returned (.tuple #[.string (stV l), .bool (rwOk l)]) ∧ Below w.heap.size w w' := by
  obtain ⟨x, q⟩ := l
  dsimp only at hrow hs ⊢
  obtain ⟨a, cap, rfl, hc1, hm1, _⟩ := sl_open hrow
  unfold maxLen at hm1
  have HP := Lib.hid hrow
  clear hrow
  have HS := Lib.hid hs
  clear hs
  obtain ⟨W0, R_T, hW0, hR_T, hX_T, hB0⟩ := entry1 w #[.int .i64 x, .slice a q.length cap] 26
  have HW0 := Lib.hid hW0
  have HB0 := Lib.hid hB0
  have HR_T := Lib.hid hR_T
  have HX_T := Lib.hid hX_T
  clear hW0 hB0 hR_T hX_T
  have c7_T_0 := HX_T.out.at 0 (v := .int .i64 x) rfl
  have c7_T_1 := HX_T.out.at 1 (v := .slice a q.length cap) rfl
  have HG := Lib.hid (fun (W1 : World) (hr : Row W1 (.slice a q.length cap) q.length (slF q)) => l10Good_any (.slice a q.length cap) ⟨x, q⟩ W1 hr HS.out)
  have HTx := Lib.hid (fun (h : rwOk ⟨x, q⟩ = true) (W1 : World) (hr : Row W1 (.slice a q.length cap) q.length (slF q)) => l10Text_any (.slice a q.length cap) ⟨x, q⟩ W1 hr h)
  dsimp only at HTx
  cases ok : rwOk ⟨x, q⟩ with
  | false =>
    rw [ok] at HG
    have hv : stV ⟨x, q⟩ = ⟨#[]⟩ := by unfold stV; rw [ok]; rfl
    rw [hv]
    clear hv ok HTx
    go_enter Tryd.func23, Tryd.ntmps23
    go_upto_region 1 with fail
    rw [← HW0.out, ← HR_T.out]
    go_wp2_with fail
    refine (HG.out _ (HP.out.below HB0.out (Nat.le_refl _))).mono ?_
    rintro e W8 ⟨rfl, l8⟩
    clear c7_T_0 c7_T_1
    have HB_9 := Lib.hid (HB0.out.trans (l8.mono HB0.out.size))
    have T_9 := Lib.hid (HX_T.out.below l8 HX_T.out.lt)
    clear l8
    have c10_T_0 := T_9.out.at 0 (v := .int .i64 x) rfl
    have c10_T_1 := T_9.out.at 1 (v := .slice a q.length cap) rfl
    go_wp2_with fail
    go_ret2
    exact ⟨rfl, HB_9.out⟩
  | true =>
    rw [ok] at HG
    have hv : stV ⟨x, q⟩ = txB x q := if_pos ok
    rw [hv]
    have HT2 := Lib.hid (HTx.out ok)
    clear hv ok HTx
    generalize txB x q = y at HT2
    go_enter Tryd.func23, Tryd.ntmps23
    go_upto_region 1 with fail
    rw [← HW0.out, ← HR_T.out]
    go_wp2_with fail
    refine (HG.out _ (HP.out.below HB0.out (Nat.le_refl _))).mono ?_
    rintro e W11 ⟨rfl, l11⟩
    clear c7_T_0 c7_T_1
    have HB_12 := Lib.hid (HB0.out.trans (l11.mono HB0.out.size))
    have T_12 := Lib.hid (HX_T.out.below l11 HX_T.out.lt)
    clear l11
    have c13_T_0 := T_12.out.at 0 (v := .int .i64 x) rfl
    have c13_T_1 := T_12.out.at 1 (v := .slice a q.length cap) rfl
    go_wp2_with fail
    refine (HT2.out _ (HP.out.below HB_12.out (Nat.le_refl _))).mono ?_
    rintro e W14 ⟨rfl, l14⟩
    clear c13_T_0 c13_T_1
    have HB_15 := Lib.hid (HB_12.out.trans (l14.mono HB_12.out.size))
    have T_15 := Lib.hid (T_12.out.below l14 T_12.out.lt)
    clear T_12
    clear l14
    have c16_T_0 := T_15.out.at 0 (v := .int .i64 x) rfl
    have c16_T_1 := T_15.out.at 1 (v := .slice a q.length cap) rfl
    go_wp2_with fail
    go_ret2
    exact ⟨rfl, HB_15.out⟩
end Go.Proofs.YtpmjdppipalfcaaDoor
