/-
  Receive windows: texts (the program's).
-/
import Derived.Test.YtpmjdppipalfcaaDoorRcvT
import Derived.Test.YtpmjdppipalfcaaDoorRcvI
import Derived.Test.YtpmjdppipalfcaaDoorTab
import Derived.Deep.QuietTactic
import Derived.BigQuiet
import Derived.IntWalk
import Derived.Deep.CutRange
import Derived.WalkLawsBesides
import Derived.Lib.SmallJoins
import Derived.Deep.RegionHeld3
namespace Go.Proofs.YtpmjdppipalfcaaDoor
open Go.RowKit Go.Lib Go.Joins
set_option linter.unusedVariables false

theorem itoa_any10 (n : Int) (h0 : 0 ≤ n) (h1 : n ≤ 65535) (w : World) (ht : Tab w) : Calls Tryd.prog 52 #[.int .i64 n] w fun e w' => e = .returned (.string (numS n)) ∧ Below w.heap.size w w' :=
  (Tryd.strconv_Itoa n (by omega) (by omega) w ht).mono fun e w' ⟨h1, k, os, h2⟩ => ⟨h1, by rw [h2]; exact below_grow k os⟩
set_option maxRecDepth 100000 in
set_option maxHeartbeats 400000 in
theorem slotWord_any (h : Bool) (s : ByteArray) (w : World) :
    Calls Tryd.prog 53 #[.agg #[.bool h, .string s]] w fun e w' => e = .returned (.string ⟨(wdL ⟨h, s⟩).toArray⟩) ∧ Below w.heap.size w w' := by
  obtain ⟨W0, R_T, hW0, hR_T, hX_T, hB0⟩ := entry1 w #[.bool h, .string s] 75
  have HW0 := Lib.hid hW0
  have HB0 := Lib.hid hB0
  have HR_T := Lib.hid hR_T
  have HX_T := Lib.hid hX_T
  clear hW0 hB0 hR_T hX_T
  cases h with
  | false =>
    have c17_T_0 := HX_T.out.at 0 (v := .bool false) rfl
    have c17_T_1 := HX_T.out.at 1 (v := .string s) rfl
    go_enter Tryd.func53, Tryd.ntmps53
    go_upto_region 1 with fail
    rw [← HW0.out, ← HR_T.out]
    go_wp2_with fail
    go_ret
    exact ⟨rfl, HB0.out⟩
  | true =>
    by_cases hz : s.size = 0
    · obtain rfl := size_zero hz
      have c18_T_0 := HX_T.out.at 0 (v := .bool true) rfl
      have c18_T_1 := HX_T.out.at 1 (v := .string ⟨#[]⟩) rfl
      go_enter Tryd.func53, Tryd.ntmps53
      go_upto_region 1 with fail
      rw [← HW0.out, ← HR_T.out]
      go_wp2_with fail
      go_ret
      exact ⟨rfl, HB0.out⟩
    · have hne : (s.toList == ([] : List UInt8)) = false := toList_ne hz
      have hww : (⟨(wdL ⟨true, s⟩).toArray⟩ : ByteArray) = s := by unfold wdL; rw [if_pos rfl, if_neg hz]
      rw [hww]
      clear hww
      have c19_T_0 := HX_T.out.at 0 (v := .bool true) rfl
      have c19_T_1 := HX_T.out.at 1 (v := .string s) rfl
      go_enter Tryd.func53, Tryd.ntmps53
      go_upto_region 1 with fail
      rw [← HW0.out, ← HR_T.out]
      go_wp2_with fail
      go_ret
      exact ⟨rfl, HB0.out⟩
set_option maxRecDepth 100000 in
set_option maxHeartbeats 8000000 in
theorem implSlots_any (v : Value) (l : Rw) (w : World) (hrow : Row w v l.q.length (slF l.q)) (hs : ∀ s ∈ l.q, s.s.size ≤ maxLen) (ht : Tab w) :
    Calls Tryd.prog 21 #[.agg #[.int .i64 l.x, v]] w fun e w' => e = .returned (.tuple #[.string (stV l), .bool (rwOk l)]) ∧ Below w.heap.size w w' := by
  obtain ⟨x, q⟩ := l
  dsimp only at hrow hs ⊢
  obtain ⟨a, cap, rfl, hc1, hm1, _⟩ := sl_open hrow
  unfold maxLen at hm1
  have HP := Lib.hid hrow
  clear hrow
  have HS := Lib.hid hs
  clear hs
  obtain ⟨W0, R_T, hW0, hR_T, hX_T, hB0⟩ := entry1 w #[.int .i64 x, .slice a q.length cap] 26
  have HW0 := Lib.hid hW0
  have HB0 := Lib.hid hB0
  have HR_T := Lib.hid hR_T
  have HX_T := Lib.hid hX_T
  clear hW0 hB0 hR_T hX_T
  have c20_T_0 := HX_T.out.at 0 (v := .int .i64 x) rfl
  have c20_T_1 := HX_T.out.at 1 (v := .slice a q.length cap) rfl
  have HTb := Lib.hid (ht.below HB0.out)
  clear ht
  have HG := Lib.hid (fun (W1 : World) (hr : Row W1 (.slice a q.length cap) q.length (slF q)) => implIsRw_any (.slice a q.length cap) ⟨x, q⟩ W1 hr HS.out)
  cases ok : rwOk ⟨x, q⟩ with
  | false =>
    rw [ok] at HG
    have hv : stV ⟨x, q⟩ = ⟨#[]⟩ := by unfold stV; rw [ok]; rfl
    rw [hv]
    clear hv ok
    go_enter Tryd.func21, Tryd.ntmps21
    go_upto_region 1 with fail
    rw [← HW0.out, ← HR_T.out]
    go_wp2_with fail
    refine (HG.out _ (HP.out.below HB0.out (Nat.le_refl _))).mono ?_
    rintro e W21 ⟨rfl, l21⟩
    clear c20_T_0 c20_T_1
    have HB_22 := Lib.hid (HB0.out.trans (l21.mono HB0.out.size))
    have T_22 := Lib.hid (HX_T.out.below l21 HX_T.out.lt)
    clear l21
    have c23_T_0 := T_22.out.at 0 (v := .int .i64 x) rfl
    have c23_T_1 := T_22.out.at 1 (v := .slice a q.length cap) rfl
    go_wp2_with fail
    go_ret2
    exact ⟨rfl, HB_22.out⟩
  | true =>
    rw [ok] at HG
    have hv : stV ⟨x, q⟩ = txB x q := if_pos ok
    rw [hv]
    obtain ⟨hxb, hl8, hso, hfb, hlb⟩ := rwOk_iff.1 ok
    dsimp only at hxb hl8 hso hfb hlb
    have hs8 := rw_sized ok
    have HS8 := Lib.hid hs8
    have hn6 := numS_size hxb.1 (show x ≤ 999999 by omega)
    have HT0 : Hid (numS x ++ ⟨#[58]⟩ = txB x []) := Lib.hid (txB_nil x).symm
    have HSz := Lib.hid (fun (k : Nat) => tx_size hxb.1 hxb.2 (q := q.take k) (fun s hs => hs8 s (List.mem_of_mem_take hs)))
    have HNm := Lib.hid (fun (W1 : World) (h : Tab W1) => itoa_any10 x hxb.1 hxb.2 W1 h)
    clear hv ok hso hfb hlb hs8
    obtain ⟨nm, hnm⟩ : ∃ nm, nm = numS x := ⟨_, rfl⟩
    rw [← hnm] at HNm hn6 HT0
    clear hnm
    have HL0 := Lib.hid (Below.refl W0.heap.size W0)
    go_enter Tryd.func21, Tryd.ntmps21
    go_upto_region 1 with fail
    rw [← HW0.out, ← HR_T.out]
    go_wp2_with fail
    refine (HG.out _ (HP.out.below HB0.out (Nat.le_refl _))).mono ?_
    rintro e W24 ⟨rfl, l24⟩
    clear c20_T_0 c20_T_1
    have HB_25 := Lib.hid (HB0.out.trans (l24.mono HB0.out.size))
    have HL0_25 := Lib.hid (HL0.out.trans (l24.mono HL0.out.size))
    clear HL0
    have T_25 := Lib.hid (HX_T.out.below l24 HX_T.out.lt)
    clear l24
    have c26_T_0 := T_25.out.at 0 (v := .int .i64 x) rfl
    have c26_T_1 := T_25.out.at 1 (v := .slice a q.length cap) rfl
    go_wp2_with fail
    refine (HNm.out _ (HTb.out.below HL0_25.out)).mono ?_
    rintro e W27 ⟨rfl, l27⟩
    clear c26_T_0 c26_T_1
    have HB_28 := Lib.hid (HB_25.out.trans (l27.mono HB_25.out.size))
    have HL0_28 := Lib.hid (HL0_25.out.trans (l27.mono HL0_25.out.size))
    clear HL0_25
    have T_28 := Lib.hid (T_25.out.below l27 T_25.out.lt)
    clear T_25
    clear l27
    have c29_T_0 := T_28.out.at 0 (v := .int .i64 x) rfl
    have c29_T_1 := T_28.out.at 1 (v := .slice a q.length cap) rfl
    go_wp2_with fail
    go_loopw [4, 17] (fun c i wr => ∃ (k : Nat) (acc : ByteArray), k ≤ q.length ∧ i = .int .i64 k ∧ c = .string acc ∧ Hid (acc = txB x (q.take k)) ∧ Hid (Below W0.heap.size W0 wr)) (fun _ i _ => q.length - (RowKit.intOf i).toNat)
    case atStart => exact ⟨0, _, Nat.zero_le _, rfl, rfl, Lib.hid (by rw [List.take_zero]; exact HT0.out), HL0_28⟩
    case round =>
      obtain ⟨k, acc, hk, rfl, rfl, HA, HL⟩ := hrel
      clear c29_T_0 c29_T_1
      have HBr := Lib.hid (HB0.out.trans (HL.out.mono HB0.out.size))
      have T_r := Lib.hid (HX_T.out.below HL.out HX_T.out.lt)
      have c30_T_0 := T_r.out.at 0 (v := .int .i64 x) rfl
      have c30_T_1 := T_r.out.at 1 (v := .slice a q.length cap) rfl
      have hasz : acc.size ≤ 78 := by rw [HA.out]; have := HSz.out k; rw [List.length_take] at this; omega
      by_cases hkn : k < q.length
      · obtain ⟨b, off, rfl, hb, d0, d1⟩ := row_sl HP.out hkn
        have e0 := (HBr.out.cell (p := ⟨b, off + k * 2, none⟩) hb).trans d0
        have e1 := (HBr.out.cell (p := ⟨b, off + k * 2 + 1, none⟩) hb).trans d1
        clear d0 d1
        have HN : Hid (txB x (q.take (k + 1)) = acc ++ ⟨(32 :: wdL q[k]).toArray⟩) := Lib.hid (by rw [List.take_succ_eq_append_getElem hkn, txB_snoc, HA.out])
        have hs9 := HS8.out _ (List.getElem_mem hkn)
        have hse : q[k] = ⟨q[k].h, q[k].s⟩ := rfl
        rw [hse] at HN
        clear hse
        generalize q[k].s = s at e1 HN hs9
        generalize q[k].h = hv at e0 HN
        clear c30_T_0 c30_T_1
        have c31_T_0 := T_r.out.at 0 (v := .int .i64 x) rfl
        have c31_T_1 := T_r.out.at 1 (v := .slice (some ⟨b, off, none⟩) q.length cap) rfl
        have i31 : (0 : Int) ≤ (k : Int) := by omega
        have i32 : (k : Int) < (q.length : Int) := by omega
        have HWd := Lib.hid (fun (W1 : World) => slotWord_any hv s W1)
        obtain ⟨wd, hwd⟩ : ∃ wd, wd = (⟨(wdL ⟨hv, s⟩).toArray⟩ : ByteArray) := ⟨_, rfl⟩
        have hwz : wd.size ≤ 8 := by rw [hwd]; show (wdL ⟨hv, s⟩).toArray.size ≤ 8; rw [List.size_toArray]; exact wd_len hs9
        rw [← hwd] at HWd
        have HN2 : Hid (txB x (q.take (k + 1)) = acc ++ (⟨#[32]⟩ ++ wd)) := Lib.hid (by rw [HN.out, hwd]; congr 1; first | done | (apply ByteArray.ext; simp))
        clear hwd
        go_upto_region 7 with fail
        obtain ⟨W32, hW32⟩ : ∃ W32, W32 = wr.alloc (.cells #[.bool hv, .string s] 75) := ⟨_, rfl⟩
        have l32 : Below wr.heap.size wr W32 := by rw [hW32]; exact (Below.refl _ _).alloc (Nat.le_refl _) _
        have X32_X : Hid (Bx W32 wr.heap.size #[.bool hv, .string s] 75) := Lib.hid (by rw [hW32]; exact Bx.new _ _ _)
        rw [← hW32]
        clear hW32
        have HG_X : Hid (w.heap.size ≤ wr.heap.size) := Lib.hid HBr.out.size
        have HN_X_T : Hid (R_T < wr.heap.size) := Lib.hid T_r.out.lt
        obtain ⟨R_X, hR_X⟩ : ∃ X, X = wr.heap.size := ⟨_, rfl⟩
        rw [← hR_X] at X32_X HG_X HN_X_T ⊢
        clear hR_X
        clear c31_T_0 c31_T_1
        have HB_33 := Lib.hid (HBr.out.trans (l32.mono HBr.out.size))
        have HF_33 := Lib.hid (HL.out.trans (l32.mono HL.out.size))
        clear HL
        have T_33 := Lib.hid (T_r.out.below l32 T_r.out.lt)
        clear l32
        have c34_T_0 := T_33.out.at 0 (v := .int .i64 x) rfl
        have c34_T_1 := T_33.out.at 1 (v := .slice (some ⟨b, off, none⟩) q.length cap) rfl
        have c35_X_0 := X32_X.out.at 0 (v := .bool hv) rfl
        have c35_X_1 := X32_X.out.at 1 (v := .string s) rfl
        go_wp2_with fail
        refine (HWd.out _).mono ?_
        rintro e W36 ⟨rfl, l36⟩
        clear c34_T_0 c34_T_1
        clear c35_X_0 c35_X_1
        have HB_37 := Lib.hid (HB_33.out.trans (l36.mono HB_33.out.size))
        have HF_37 := Lib.hid (HF_33.out.trans (l36.mono HF_33.out.size))
        clear HF_33
        have T_37 := Lib.hid (T_33.out.below l36 T_33.out.lt)
        clear T_33
        have X_37 := Lib.hid (X32_X.out.below l36 X32_X.out.lt)
        clear X32_X
        clear l36
        have c38_T_0 := T_37.out.at 0 (v := .int .i64 x) rfl
        have c38_T_1 := T_37.out.at 1 (v := .slice (some ⟨b, off, none⟩) q.length cap) rfl
        have c39_X_0 := X_37.out.at 0 (v := .bool hv) rfl
        have c39_X_1 := X_37.out.at 1 (v := .string s) rfl
        go_wp2_with fail
        go_roundw
        case rel => exact ⟨k + 1, _, by omega, by go_num, rfl, Lib.hid (HN2.out.symm), HF_37⟩
        case measure => (simp [RowKit.intOf]; omega)
      · obtain rfl : k = q.length := by omega
        have HA2 : Hid (acc = txB x q) := Lib.hid (by rw [HA.out, List.take_of_length_le (Nat.le_refl _)])
        obtain rfl : acc = txB x q := HA2.out
        go_wp2_with fail
        go_ret2
        exact ⟨rfl, HBr.out⟩
end Go.Proofs.YtpmjdppipalfcaaDoor
