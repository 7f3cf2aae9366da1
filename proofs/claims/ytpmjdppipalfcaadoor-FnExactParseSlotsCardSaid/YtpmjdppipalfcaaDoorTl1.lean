/-
  Receive windows: a text is read (the program's).
-/
import Derived.Test.YtpmjdppipalfcaaDoorRcvT
import Derived.Test.YtpmjdppipalfcaaDoorRcvI
import Derived.Test.YtpmjdppipalfcaaDoorTab
import Derived.Deep.QuietTactic
import Derived.BigQuiet
import Derived.IntWalk
import Derived.Deep.CutRange
import Derived.WalkLawsBesides
import Derived.Lib.SmallJoins
import Derived.Deep.RegionHeld3
import Derived.Test.YtpmjdppipalfcaaDoorRcvP
import Derived.Test.YtpmjdppipalfcaaDoorRdI
import Derived.Test.YtpmjdppipalfcaaDoorImplSplit
namespace Go.Proofs.YtpmjdppipalfcaaDoor
open Go.RowKit Go.Lib Go.Joins
set_option linter.unusedVariables false

theorem itoa_any10 (n : Int) (h0 : 0 ≤ n) (h1 : n ≤ 65535) (w : World) (ht : Tab w) : Calls Tryd.prog 52 #[.int .i64 n] w fun e w' => e = .returned (.string (numS n)) ∧ Below w.heap.size w w' :=
  (Tryd.strconv_Itoa n (by omega) (by omega) w ht).mono fun e w' ⟨h1, k, os, h2⟩ => ⟨h1, by rw [h2]; exact below_grow k os⟩
set_option maxRecDepth 100000 in
set_option maxHeartbeats 400000 in
theorem slotWord_any (h : Bool) (s : ByteArray) (w : World) :
    Calls Tryd.prog 53 #[.agg #[.bool h, .string s]] w fun e w' => e = .returned (.string ⟨(wdL ⟨h, s⟩).toArray⟩) ∧ Below w.heap.size w w' := by
  obtain ⟨W0, R_T, hW0, hR_T, hX_T, hB0⟩ := entry1 w #[.bool h, .string s] 75
  have HW0 := Lib.hid hW0
  have HB0 := Lib.hid hB0
  have HR_T := Lib.hid hR_T
  have HX_T := Lib.hid hX_T
  clear hW0 hB0 hR_T hX_T
  cases h with
  | false =>
    have c17_T_0 := HX_T.out.at 0 (v := .bool false) rfl
    have c17_T_1 := HX_T.out.at 1 (v := .string s) rfl
    go_enter Tryd.func53, Tryd.ntmps53
    go_upto_region 1 with fail
    rw [← HW0.out, ← HR_T.out]
    go_wp2_with fail
    go_ret
    exact ⟨rfl, HB0.out⟩
  | true =>
    by_cases hz : s.size = 0
    · obtain rfl := size_zero hz
      have c18_T_0 := HX_T.out.at 0 (v := .bool true) rfl
      have c18_T_1 := HX_T.out.at 1 (v := .string ⟨#[]⟩) rfl
      go_enter Tryd.func53, Tryd.ntmps53
      go_upto_region 1 with fail
      rw [← HW0.out, ← HR_T.out]
      go_wp2_with fail
      go_ret
      exact ⟨rfl, HB0.out⟩
    · have hne : (s.toList == ([] : List UInt8)) = false := toList_ne hz
      have hww : (⟨(wdL ⟨true, s⟩).toArray⟩ : ByteArray) = s := by unfold wdL; rw [if_pos rfl, if_neg hz]
      rw [hww]
      clear hww
      have c19_T_0 := HX_T.out.at 0 (v := .bool true) rfl
      have c19_T_1 := HX_T.out.at 1 (v := .string s) rfl
      go_enter Tryd.func53, Tryd.ntmps53
      go_upto_region 1 with fail
      rw [← HW0.out, ← HR_T.out]
      go_wp2_with fail
      go_ret
      exact ⟨rfl, HB0.out⟩
set_option maxRecDepth 100000 in
set_option maxHeartbeats 8000000 in
theorem implSlots_any (v : Value) (l : Rw) (w : World) (hrow : Row w v l.q.length (slF l.q)) (hs : ∀ s ∈ l.q, s.s.size ≤ maxLen) (ht : Tab w) :
    Calls Tryd.prog 21 #[.agg #[.int .i64 l.x, v]] w fun e w' => e = .returned (.tuple #[.string (stV l), .bool (rwOk l)]) ∧ Below w.heap.size w w' := by
  obtain ⟨x, q⟩ := l
  dsimp only at hrow hs ⊢
  obtain ⟨a, cap, rfl, hc1, hm1, _⟩ := sl_open hrow
  unfold maxLen at hm1
  have HP := Lib.hid hrow
  clear hrow
  have HS := Lib.hid hs
  clear hs
  obtain ⟨W0, R_T, hW0, hR_T, hX_T, hB0⟩ := entry1 w #[.int .i64 x, .slice a q.length cap] 26
  have HW0 := Lib.hid hW0
  have HB0 := Lib.hid hB0
  have HR_T := Lib.hid hR_T
  have HX_T := Lib.hid hX_T
  clear hW0 hB0 hR_T hX_T
  have c20_T_0 := HX_T.out.at 0 (v := .int .i64 x) rfl
  have c20_T_1 := HX_T.out.at 1 (v := .slice a q.length cap) rfl
  have HTb := Lib.hid (ht.below HB0.out)
  clear ht
  have HG := Lib.hid (fun (W1 : World) (hr : Row W1 (.slice a q.length cap) q.length (slF q)) => implIsRw_any (.slice a q.length cap) ⟨x, q⟩ W1 hr HS.out)
  cases ok : rwOk ⟨x, q⟩ with
  | false =>
    rw [ok] at HG
    have hv : stV ⟨x, q⟩ = ⟨#[]⟩ := by unfold stV; rw [ok]; rfl
    rw [hv]
    clear hv ok
    go_enter Tryd.func21, Tryd.ntmps21
    go_upto_region 1 with fail
    rw [← HW0.out, ← HR_T.out]
    go_wp2_with fail
    refine (HG.out _ (HP.out.below HB0.out (Nat.le_refl _))).mono ?_
    rintro e W21 ⟨rfl, l21⟩
    clear c20_T_0 c20_T_1
    have HB_22 := Lib.hid (HB0.out.trans (l21.mono HB0.out.size))
    have T_22 := Lib.hid (HX_T.out.below l21 HX_T.out.lt)
    clear l21
    have c23_T_0 := T_22.out.at 0 (v := .int .i64 x) rfl
    have c23_T_1 := T_22.out.at 1 (v := .slice a q.length cap) rfl
    go_wp2_with fail
    go_ret2
    exact ⟨rfl, HB_22.out⟩
  | true =>
    rw [ok] at HG
    have hv : stV ⟨x, q⟩ = txB x q := if_pos ok
    rw [hv]
    obtain ⟨hxb, hl8, hso, hfb, hlb⟩ := rwOk_iff.1 ok
    dsimp only at hxb hl8 hso hfb hlb
    have hs8 := rw_sized ok
    have HS8 := Lib.hid hs8
    have hn6 := numS_size hxb.1 (show x ≤ 999999 by omega)
    have HT0 : Hid (numS x ++ ⟨#[58]⟩ = txB x []) := Lib.hid (txB_nil x).symm
    have HSz := Lib.hid (fun (k : Nat) => tx_size hxb.1 hxb.2 (q := q.take k) (fun s hs => hs8 s (List.mem_of_mem_take hs)))
    have HNm := Lib.hid (fun (W1 : World) (h : Tab W1) => itoa_any10 x hxb.1 hxb.2 W1 h)
    clear hv ok hso hfb hlb hs8
    obtain ⟨nm, hnm⟩ : ∃ nm, nm = numS x := ⟨_, rfl⟩
    rw [← hnm] at HNm hn6 HT0
    clear hnm
    have HL0 := Lib.hid (Below.refl W0.heap.size W0)
    go_enter Tryd.func21, Tryd.ntmps21
    go_upto_region 1 with fail
    rw [← HW0.out, ← HR_T.out]
    go_wp2_with fail
    refine (HG.out _ (HP.out.below HB0.out (Nat.le_refl _))).mono ?_
    rintro e W24 ⟨rfl, l24⟩
    clear c20_T_0 c20_T_1
    have HB_25 := Lib.hid (HB0.out.trans (l24.mono HB0.out.size))
    have HL0_25 := Lib.hid (HL0.out.trans (l24.mono HL0.out.size))
    clear HL0
    have T_25 := Lib.hid (HX_T.out.below l24 HX_T.out.lt)
    clear l24
    have c26_T_0 := T_25.out.at 0 (v := .int .i64 x) rfl
    have c26_T_1 := T_25.out.at 1 (v := .slice a q.length cap) rfl
    go_wp2_with fail
    refine (HNm.out _ (HTb.out.below HL0_25.out)).mono ?_
    rintro e W27 ⟨rfl, l27⟩
    clear c26_T_0 c26_T_1
    have HB_28 := Lib.hid (HB_25.out.trans (l27.mono HB_25.out.size))
    have HL0_28 := Lib.hid (HL0_25.out.trans (l27.mono HL0_25.out.size))
    clear HL0_25
    have T_28 := Lib.hid (T_25.out.below l27 T_25.out.lt)
    clear T_25
    clear l27
    have c29_T_0 := T_28.out.at 0 (v := .int .i64 x) rfl
    have c29_T_1 := T_28.out.at 1 (v := .slice a q.length cap) rfl
    go_wp2_with fail
    go_loopw [4, 17] (fun c i wr => ∃ (k : Nat) (acc : ByteArray), k ≤ q.length ∧ i = .int .i64 k ∧ c = .string acc ∧ Hid (acc = txB x (q.take k)) ∧ Hid (Below W0.heap.size W0 wr)) (fun _ i _ => q.length - (RowKit.intOf i).toNat)
    case atStart => exact ⟨0, _, Nat.zero_le _, rfl, rfl, Lib.hid (by rw [List.take_zero]; exact HT0.out), HL0_28⟩
    case round =>
      obtain ⟨k, acc, hk, rfl, rfl, HA, HL⟩ := hrel
      clear c29_T_0 c29_T_1
      have HBr := Lib.hid (HB0.out.trans (HL.out.mono HB0.out.size))
      have T_r := Lib.hid (HX_T.out.below HL.out HX_T.out.lt)
      have c30_T_0 := T_r.out.at 0 (v := .int .i64 x) rfl
      have c30_T_1 := T_r.out.at 1 (v := .slice a q.length cap) rfl
      have hasz : acc.size ≤ 78 := by rw [HA.out]; have := HSz.out k; rw [List.length_take] at this; omega
      by_cases hkn : k < q.length
      · obtain ⟨b, off, rfl, hb, d0, d1⟩ := row_sl HP.out hkn
        have e0 := (HBr.out.cell (p := ⟨b, off + k * 2, none⟩) hb).trans d0
        have e1 := (HBr.out.cell (p := ⟨b, off + k * 2 + 1, none⟩) hb).trans d1
        clear d0 d1
        have HN : Hid (txB x (q.take (k + 1)) = acc ++ ⟨(32 :: wdL q[k]).toArray⟩) := Lib.hid (by rw [List.take_succ_eq_append_getElem hkn, txB_snoc, HA.out])
        have hs9 := HS8.out _ (List.getElem_mem hkn)
        have hse : q[k] = ⟨q[k].h, q[k].s⟩ := rfl
        rw [hse] at HN
        clear hse
        generalize q[k].s = s at e1 HN hs9
        generalize q[k].h = hv at e0 HN
        clear c30_T_0 c30_T_1
        have c31_T_0 := T_r.out.at 0 (v := .int .i64 x) rfl
        have c31_T_1 := T_r.out.at 1 (v := .slice (some ⟨b, off, none⟩) q.length cap) rfl
        have i31 : (0 : Int) ≤ (k : Int) := by omega
        have i32 : (k : Int) < (q.length : Int) := by omega
        have HWd := Lib.hid (fun (W1 : World) => slotWord_any hv s W1)
        obtain ⟨wd, hwd⟩ : ∃ wd, wd = (⟨(wdL ⟨hv, s⟩).toArray⟩ : ByteArray) := ⟨_, rfl⟩
        have hwz : wd.size ≤ 8 := by rw [hwd]; show (wdL ⟨hv, s⟩).toArray.size ≤ 8; rw [List.size_toArray]; exact wd_len hs9
        rw [← hwd] at HWd
        have HN2 : Hid (txB x (q.take (k + 1)) = acc ++ (⟨#[32]⟩ ++ wd)) := Lib.hid (by rw [HN.out, hwd]; congr 1; first | done | (apply ByteArray.ext; simp))
        clear hwd
        go_upto_region 7 with fail
        obtain ⟨W32, hW32⟩ : ∃ W32, W32 = wr.alloc (.cells #[.bool hv, .string s] 75) := ⟨_, rfl⟩
        have l32 : Below wr.heap.size wr W32 := by rw [hW32]; exact (Below.refl _ _).alloc (Nat.le_refl _) _
        have X32_X : Hid (Bx W32 wr.heap.size #[.bool hv, .string s] 75) := Lib.hid (by rw [hW32]; exact Bx.new _ _ _)
        rw [← hW32]
        clear hW32
        have HG_X : Hid (w.heap.size ≤ wr.heap.size) := Lib.hid HBr.out.size
        have HN_X_T : Hid (R_T < wr.heap.size) := Lib.hid T_r.out.lt
        obtain ⟨R_X, hR_X⟩ : ∃ X, X = wr.heap.size := ⟨_, rfl⟩
        rw [← hR_X] at X32_X HG_X HN_X_T ⊢
        clear hR_X
        clear c31_T_0 c31_T_1
        have HB_33 := Lib.hid (HBr.out.trans (l32.mono HBr.out.size))
        have HF_33 := Lib.hid (HL.out.trans (l32.mono HL.out.size))
        clear HL
        have T_33 := Lib.hid (T_r.out.below l32 T_r.out.lt)
        clear l32
        have c34_T_0 := T_33.out.at 0 (v := .int .i64 x) rfl
        have c34_T_1 := T_33.out.at 1 (v := .slice (some ⟨b, off, none⟩) q.length cap) rfl
        have c35_X_0 := X32_X.out.at 0 (v := .bool hv) rfl
        have c35_X_1 := X32_X.out.at 1 (v := .string s) rfl
        go_wp2_with fail
        refine (HWd.out _).mono ?_
        rintro e W36 ⟨rfl, l36⟩
        clear c34_T_0 c34_T_1
        clear c35_X_0 c35_X_1
        have HB_37 := Lib.hid (HB_33.out.trans (l36.mono HB_33.out.size))
        have HF_37 := Lib.hid (HF_33.out.trans (l36.mono HF_33.out.size))
        clear HF_33
        have T_37 := Lib.hid (T_33.out.below l36 T_33.out.lt)
        clear T_33
        have X_37 := Lib.hid (X32_X.out.below l36 X32_X.out.lt)
        clear X32_X
        clear l36
        have c38_T_0 := T_37.out.at 0 (v := .int .i64 x) rfl
        have c38_T_1 := T_37.out.at 1 (v := .slice (some ⟨b, off, none⟩) q.length cap) rfl
        have c39_X_0 := X_37.out.at 0 (v := .bool hv) rfl
        have c39_X_1 := X_37.out.at 1 (v := .string s) rfl
        go_wp2_with fail
        go_roundw
        case rel => exact ⟨k + 1, _, by omega, by go_num, rfl, Lib.hid (HN2.out.symm), HF_37⟩
        case measure => (simp [RowKit.intOf]; omega)
      · obtain rfl : k = q.length := by omega
        have HA2 : Hid (acc = txB x q) := Lib.hid (by rw [HA.out, List.take_of_length_le (Nat.le_refl _)])
        obtain rfl : acc = txB x q := HA2.out
        go_wp2_with fail
        go_ret2
        exact ⟨rfl, HBr.out⟩
end Go.Proofs.YtpmjdppipalfcaaDoor

namespace Go.Proofs.YtpmjdppipalfcaaDoor
open Go.RowKit Go.Lib Go.Joins
set_option linter.unusedVariables false

theorem trim_eq (l : List UInt8) : Lib.trimSuffix l [58] = trimL l := by
  unfold Lib.trimSuffix Lib.hasSuffix trimL
  by_cases h : l.getLast? = some 58
  · obtain ⟨a, rfl⟩ : ∃ a, l = a ++ [58] := by
      obtain ⟨hne, he⟩ := List.getLast?_eq_some_iff.1 h
      exact ⟨_, he⟩
    rw [if_pos h, if_pos (by rw [List.isSuffixOf_iff_suffix]; exact ⟨a, rfl⟩)]
    simp
  · rw [if_neg h, if_neg (fun hs => h (by
      obtain ⟨a, ha⟩ := List.isSuffixOf_iff_suffix.1 hs
      rw [← ha]; simp))]
theorem trim_len (l : List UInt8) : (trimL l).length ≤ l.length := by
  unfold trimL
  split
  · rw [List.length_dropLast]; omega
  · exact Nat.le_refl _
theorem pi_sized {s : ByteArray} (hs : s.size ≤ 1048576) : ∀ t ∈ (piW s).q, t.s.size ≤ maxLen := by
  intro t ht
  unfold piW at ht
  unfold maxLen
  by_cases h : s.size ≤ 4000
  · rw [if_pos h] at ht
    have := pw_sized s t ht
    omega
  · rw [if_neg h] at ht; cases ht
set_option maxRecDepth 100000 in
set_option maxHeartbeats 1000000 in
theorem slotIn_any (s : ByteArray) (w : World) :
    Calls Tryd.prog 79 #[.string s] w fun e w' => e = .returned (.agg #[.bool (slotL s.data.toList).h, .string (slotL s.data.toList).s]) ∧ Below w.heap.size w w' := by
  obtain ⟨W0, R_A, hW0, hR_A, hX_A, hB0⟩ := entry1 w #[.bool false, .string ⟨#[]⟩] 75
  have HW0 := Lib.hid hW0
  have HB0 := Lib.hid hB0
  have HR_A := Lib.hid hR_A
  have HX_A := Lib.hid hX_A
  clear hW0 hB0 hR_A hX_A
  by_cases h63 : s = ⟨#[63]⟩
  · subst h63
    have c84_A_0 := HX_A.out.at 0 (v := .bool false) rfl
    have c84_A_1 := HX_A.out.at 1 (v := .string ⟨#[]⟩) rfl
    go_enter Tryd.func79, Tryd.ntmps79
    go_upto_region 1 with fail
    rw [← HW0.out, ← HR_A.out]
    have fr85_A_0 := HX_A.out.free 0
    have fr85_A_1 := HX_A.out.free 1
    go_wp2_with fail
    obtain ⟨p1, q1⟩ := HX_A.out.store2 (.bool false) (.string ⟨#[]⟩)
    refine bodyPost_ret (results_bx rfl isSl _ _ R_A rfl rfl p1) rfl ⟨rfl, (HB0.out.grown q1 HB0.out.size (fun k hk => by have e2 : R_A = k := Option.some.inj hk; have := HR_A.out; omega))⟩
  by_cases h46 : s = ⟨#[46]⟩
  · subst h46
    have c86_A_0 := HX_A.out.at 0 (v := .bool false) rfl
    have c86_A_1 := HX_A.out.at 1 (v := .string ⟨#[]⟩) rfl
    go_enter Tryd.func79, Tryd.ntmps79
    go_upto_region 1 with fail
    rw [← HW0.out, ← HR_A.out]
    have fr87_A_0 := HX_A.out.free 0
    have fr87_A_1 := HX_A.out.free 1
    go_wp2_with fail
    obtain ⟨p1, q1⟩ := HX_A.out.store2 (.bool true) (.string ⟨#[]⟩)
    refine bodyPost_ret (results_bx rfl isSl _ _ R_A rfl rfl p1) rfl ⟨rfl, (HB0.out.grown q1 HB0.out.size (fun k hk => by have e2 : R_A = k := Option.some.inj hk; have := HR_A.out; omega))⟩
  have n63 : (s.toList == ([63] : List UInt8)) = false := tl_ne (fun e => h63 (by apply ByteArray.ext; exact Array.toList_inj.1 e))
  have n46 : (s.toList == ([46] : List UInt8)) = false := tl_ne (fun e => h46 (by apply ByteArray.ext; exact Array.toList_inj.1 e))
  have hsl := slot_else h63 h46
  rw [hsl]
  clear hsl h63 h46
  have c88_A_0 := HX_A.out.at 0 (v := .bool false) rfl
  have c88_A_1 := HX_A.out.at 1 (v := .string ⟨#[]⟩) rfl
  go_enter Tryd.func79, Tryd.ntmps79
  go_upto_region 1 with fail
  rw [← HW0.out, ← HR_A.out]
  have fr89_A_0 := HX_A.out.free 0
  have fr89_A_1 := HX_A.out.free 1
  go_wp2_with fail
  obtain ⟨p1, q1⟩ := HX_A.out.store2 (.bool true) (.string s)
  refine bodyPost_ret (results_bx rfl isSl _ _ R_A rfl rfl p1) rfl ⟨rfl, (HB0.out.grown q1 HB0.out.size (fun k hk => by have e2 : R_A = k := Option.some.inj hk; have := HR_A.out; omega))⟩
set_option maxRecDepth 100000 in
set_option maxHeartbeats 16000000 in
theorem windowIn_any (s : ByteArray) (w : World) (hs : s.size ≤ 1048576) (htab : Tab w) (he : Errs w) :
    Calls Tryd.prog 54 #[.string s] w fun e w' => ∃ v', e = .returned (.agg #[.int .i64 (piW s).x, v']) ∧ w'.ownsRow w.heap.size 75 2 v' (piW s).q.length (slF (piW s).q) ∧ Below w.heap.size w w' := by
  obtain ⟨i0, hi, hz0, hz1, hz2⟩ := info_parts infoSl
  obtain ⟨p0, tl, hP⟩ := pw_form s
  have HSp : Hid (∀ W : World, Calls Tryd.prog 76 #[.string s, .string ⟨#[32]⟩] W fun e w' => ∃ v, e = .returned (.tuple #[v, .bool (splitOk s ⟨#[32]⟩)]) ∧ w'.ownsRow W.heap.size 9 1 v (splitPs s ⟨#[32]⟩).length ((splitPs s ⟨#[32]⟩).map Value.string) ∧ Below W.heap.size W w') := Lib.hid (fun W => implSplit_any s ⟨#[32]⟩ hs (by decide) W)
  obtain ⟨W0, R_A, hW0, hR_A, hX_A, hB0⟩ := entry1 w #[.int .i64 0, .slice none 0 0] 26
  have HW0 := Lib.hid hW0
  have HB0 := Lib.hid hB0
  have HR_A := Lib.hid hR_A
  have HX_A := Lib.hid hX_A
  clear hW0 hB0 hR_A hX_A
  have HTb := Lib.hid (htab.below HB0.out)
  have HEr := Lib.hid (he.below HB0.out)
  clear htab he
  have HL0 := Lib.hid (Below.refl W0.heap.size W0)
  by_cases h4 : s.size ≤ 4000
  rotate_left
  · have hp : piW s = rw0 := if_neg h4
    have ho := splitOk_no (s := s) (sep := ⟨#[32]⟩) (fun h => h4 h.1)
    rw [ho.1, ho.2] at HSp
    rw [hp]
    dsimp only [rw0]
    clear ho hp hP
    have c90_A_0 := HX_A.out.at 0 (v := .int .i64 0) rfl
    have c90_A_1 := HX_A.out.at 1 (v := .slice none 0 0) rfl
    go_enter Tryd.func54, Tryd.ntmps54
    go_upto_region 1 with fail
    rw [← HW0.out, ← HR_A.out]
    go_wp2_with fail
    refine (HSp.out _).mono ?_
    rintro e W91 ⟨v5, rfl, _, l91⟩
    clear c90_A_0 c90_A_1
    have HB_92 := Lib.hid (HB0.out.trans (l91.mono HB0.out.size))
    have HL0_92 := Lib.hid (HL0.out.trans (l91.mono HL0.out.size))
    clear HL0
    have A_92 := Lib.hid (HX_A.out.below l91 HX_A.out.lt)
    clear l91
    have c93_A_0 := A_92.out.at 0 (v := .int .i64 0) rfl
    have c93_A_1 := A_92.out.at 1 (v := .slice none 0 0) rfl
    have fr94_A_0 := A_92.out.free 0
    have fr94_A_1 := A_92.out.free 1
    go_wp2_with fail
    obtain ⟨p1, q1⟩ := A_92.out.store2 (.int .i64 0) (.slice none 0 0)
    refine bodyPost_ret (results_bx rfl isRw _ _ R_A rfl rfl p1) rfl ⟨_, rfl, ⟨rfl, .inl ⟨rfl, rfl⟩⟩, (HB_92.out.grown q1 HB_92.out.size (fun k hk => by have e2 : R_A = k := Option.some.inj hk; have := HR_A.out; omega))⟩
  have hpi : piW s = ⟨rdN (txt (trimL p0)), tl.map slotL⟩ := by unfold piW pw0; rw [if_pos h4, hP]; rfl
  have ho := splitOk_yes (s := s) (c := 32) h4
  have hps : (splitPs s ⟨#[32]⟩) = (p0 :: tl).map txt := by rw [ho.2]; unfold partS; rw [show M.parts 32 s.data.toList = p0 :: tl from hP]; rfl
  have hplen : (p0 :: tl).length ≤ 4001 := by
    have h9 := M.parts_len 32 s.data.toList
    rw [show M.parts 32 s.data.toList = p0 :: tl from hP] at h9
    have h8 : s.data.toList.length = s.size := by simp
    omega
  have hp0 : p0.length ≤ s.size := by
    have h9 := parts_size 32 s.data.toList 0
    have h8 : s.data.toList.length = s.size := by simp
    rw [show M.parts 32 s.data.toList = p0 :: tl from hP, h8] at h9
    exact h9
  obtain ⟨n, hn⟩ : ∃ n, n = tl.length + 1 := ⟨_, rfl⟩
  have HN := Lib.hid hn
  have hn9 : n ≤ 4001 := by rw [List.length_cons] at hplen; omega
  have HSp2 : Hid (∀ W : World, Calls Tryd.prog 76 #[.string s, .string ⟨#[32]⟩] W fun e w' => ∃ v, e = .returned (.tuple #[v, .bool true]) ∧ w'.ownsRow W.heap.size 9 1 v n ((p0 :: tl).map strV) ∧ Below W.heap.size W w') := Lib.hid (fun W => by have h := HSp.out W; rw [ho.1, hps, List.length_map, List.length_cons, ← hn, List.map_map] at h; exact h)
  rw [hpi]
  dsimp only
  clear HSp hn hplen hpi ho hps hP
  obtain ⟨t0, ht0⟩ : ∃ t0, t0 = txt p0 := ⟨_, rfl⟩
  have hts : t0.size ≤ 4000 := by rw [ht0, txt_size]; omega
  have htr : (⟨(Lib.trimSuffix t0.data.toList [58]).toArray⟩ : ByteArray) = txt (trimL p0) := by rw [ht0, txt_data, trim_eq]; rfl
  obtain ⟨t1, ht1⟩ : ∃ t1, t1 = txt (trimL p0) := ⟨_, rfl⟩
  have ht1z : t1.size ≤ 4000 := by rw [ht1, txt_size]; exact Nat.le_trans (trim_len p0) (by omega)
  have HTr : Hid (∀ W : World, Calls Tryd.prog 78 #[.string t0, .string ⟨#[58]⟩] W fun e w' => e = .returned (.string t1) ∧ W = w') := Lib.hid (fun W => (Tryd.strings_TrimSuffix t0 ⟨#[58]⟩ W (by omega)).mono fun e w' ⟨h1, h2⟩ => ⟨by rw [h1, ht1, ← htr], h2.symm⟩)
  have HNb := Lib.hid (fun (W : World) (h1 : Tab W) (h2 : Errs W) => numberIn_any t1 (by omega) W h1 h2)
  rw [← ht1]
  generalize rdN t1 = nx at HNb ⊢
  have HT0 := Lib.hid ht0
  clear ht0 ht1 htr hts hp0 ht1z
  have c95_A_0 := HX_A.out.at 0 (v := .int .i64 0) rfl
  have c95_A_1 := HX_A.out.at 1 (v := .slice none 0 0) rfl
  go_enter Tryd.func54, Tryd.ntmps54
  go_upto_region 1 with fail
  rw [← HW0.out, ← HR_A.out]
  go_wp2_with fail
  refine (HSp2.out _).mono ?_
  rintro e W96 ⟨v_p, rfl, o_p, l96⟩
  obtain ⟨a_p, c_p, rfl, _, _⟩ := ownz_slice o_p
  have O_p := Lib.hid (ownz_base o_p HB0.out.size)
  have BX_A_p : Hid (∀ k, (.slice a_p n c_p : Value).ownBlock = some k → k ≠ R_A) := Lib.hid (fun k h1 h2 => absurd HX_A.out.lt (Nat.not_lt.2 (by rw [← h2]; exact (o_p.lt k h1).1)))
  clear o_p
  clear c95_A_0 c95_A_1
  have HB_97 := Lib.hid (HB0.out.trans (l96.mono HB0.out.size))
  have HL0_97 := Lib.hid (HL0.out.trans (l96.mono HL0.out.size))
  clear HL0
  have A_97 := Lib.hid (HX_A.out.below l96 HX_A.out.lt)
  clear l96
  have c98_A_0 := A_97.out.at 0 (v := .int .i64 0) rfl
  have c98_A_1 := A_97.out.at 1 (v := .slice none 0 0) rfl
  have hn1 : 1 ≤ n := by have := HN.out; omega
  obtain ⟨gp, cp, e9⟩ := ownz_form O_p.out (by omega)
  injection e9 with e9 _ e11
  subst e9 e11
  have hc0 : W96.cell? ⟨gp, 0, none⟩ = some (.string t0) := by rw [HT0.out]; exact strs_cell O_p.out (i := 0) (by omega)
  have i31 : (0 : Int) ≤ (0 : Int) := by omega
  have i32 : (0 : Int) < (n : Int) := by omega
  go_wp2_with fail
  refine (HTr.out _).mono ?_
  rintro e _ ⟨rfl, rfl⟩
  go_wp2_with fail
  refine (HNb.out _ (HTb.out.below HL0_97.out) (HEr.out.below HL0_97.out)).mono ?_
  rintro e W99 ⟨rfl, l99⟩
  clear c98_A_0 c98_A_1
  have HB_100 := Lib.hid (HB_97.out.trans (l99.mono HB_97.out.size))
  have p_100 := Lib.hid (ownz_below O_p.out l99 (Nat.le_refl _))
  clear O_p
  have HL0_100 := Lib.hid (HL0_97.out.trans (l99.mono HL0_97.out.size))
  clear HL0_97
  have A_100 := Lib.hid (A_97.out.below l99 A_97.out.lt)
  clear A_97
  clear l99
  have c101_A_0 := A_100.out.at 0 (v := .int .i64 0) rfl
  have c101_A_1 := A_100.out.at 1 (v := .slice none 0 0) rfl
  go_upto_region 5 with fail
  obtain ⟨WO, hWO⟩ : ∃ WO, WO = W99.alloc (.cells #[.int .i64 nx, .slice none 0 0] 26) := ⟨_, rfl⟩
  have HI0 : Hid (BoxR W99 WO W99.heap.size W99.heap.size nx [] 0 none 0) := Lib.hid (by rw [hWO]; exact ⟨Bx.new _ _ _, ⟨rfl, .inl ⟨rfl, rfl⟩⟩, (fun k hk => by cases hk), (Below.refl _ _).alloc (Nat.le_refl _) _⟩)
  rw [← hWO]
  clear hWO
  obtain ⟨R_O, hRO⟩ : ∃ X, X = W99.heap.size := ⟨_, rfl⟩
  rw [← hRO] at HI0 ⊢
  have HRO := Lib.hid hRO
  have HB5 : Hid (R_O = W99.heap.size) := Lib.hid hRO
  clear hRO hc0
  have j1 : (1 : Int) ≤ (n : Int) := by omega
  have j2 : (n : Int) ≤ (c_p : Int) := by omega
  have j3 : (1 : Int) ≤ (c_p : Int) := by omega
  have j4 : 1 ≤ c_p := by omega
  obtain ⟨m, hm⟩ : ∃ m, m = tl.length := ⟨_, rfl⟩
  have HM := Lib.hid hm
  have hnm : n = m + 1 := by rw [hm]; exact HN.out
  subst hnm
  clear hm
  clear c101_A_0 c101_A_1
  by_cases hcp : c_p = 1
  · have HC1 : Hid (m = 0) := Lib.hid (by omega)
    have tk : True := trivial
    go_wp2_with fail
    go_loopw [25] (fun i wr => ∃ (j : Nat) (aS : Option Addr) (cS : Nat), j ≤ m ∧ i = .int .i64 j ∧ Hid (BoxR W99 wr R_O R_O nx ((tl.take j).map slotL) j aS cS)) (fun i _ => m - (RowKit.intOf i).toNat)
    case atStart => exact ⟨0, none, 0, Nat.zero_le _, rfl, HI0⟩
    case round =>
      obtain ⟨j, aS, cS, hj, rfl, HI⟩ := hrel
      have HBr := Lib.hid (HB_100.out.trans (HI.out.bel.mono HB_100.out.size))
      have A_r := Lib.hid (A_100.out.below HI.out.bel A_100.out.lt)
      have O_r := Lib.hid HI.out.bx
      have HGO : Hid (w.heap.size ≤ R_O) := Lib.hid (by rw [HRO.out]; exact HB_100.out.size)
      have HN_O_A : Hid (R_A < R_O) := Lib.hid (by rw [HRO.out]; exact A_100.out.lt)
      have c102_A_0 := A_r.out.at 0 (v := .int .i64 0) rfl
      have c102_A_1 := A_r.out.at 1 (v := .slice none 0 0) rfl
      have c103_O_0 := O_r.out.at 0 (v := .int .i64 nx) rfl
      have c103_O_1 := O_r.out.at 1 (v := .slice aS j cS) rfl
      by_cases hjm : j < m
      · have hjm2 : (j : Int) < (m : Int) := by omega
        exact absurd hjm (by have := HC1.out; omega)
      · have hjm2 : ¬ (j : Int) < (m : Int) := by omega
        obtain rfl : m = j := by omega
        have HIo := Lib.hid HI.out.own
        have hlst : (tl.take m).map slotL = tl.map slotL := by rw [List.take_of_length_le (by have := HM.out; omega)]
        rw [hlst] at HIo
        have hxl : (tl.map slotL).length = m := by rw [List.length_map]; exact HM.out.symm
        have HXl := Lib.hid hxl
        clear hxl hlst
        clear c102_A_0 c102_A_1
        clear c103_O_0 c103_O_1
        have c104_A_0 := A_r.out.at 0 (v := .int .i64 0) rfl
        have c104_A_1 := A_r.out.at 1 (v := .slice none 0 0) rfl
        have c105_O_0 := O_r.out.at 0 (v := .int .i64 nx) rfl
        have c105_O_1 := O_r.out.at 1 (v := .slice aS m cS) rfl
        have fr106_A_0 := A_r.out.free 0
        have fr106_A_1 := A_r.out.free 1
        go_wp2_with fail
        obtain ⟨p1, q1⟩ := A_r.out.store2 (.int .i64 nx) (.slice aS m cS)
        refine bodyPost_ret (results_bx rfl isRw _ _ R_A rfl rfl p1) rfl ?_
        first | rw [HXl.out] | rw [← HM.out]
        exact ⟨_, rfl, ownz_base (HIo.out.kept q1 (by
          cases hv : (Value.slice aS m cS).ownBlock with
          | none => exact .inl rfl
          | some k0 => exact .inr (fun e => by have e2 : k0 = R_A := Option.some.inj e; have h1 := (HIo.out.lt k0 hv).1; rw [HRO.out] at h1; have h2 := A_100.out.lt; omega))) (by rw [HRO.out]; exact HB_100.out.size), (HBr.out.grown q1 HBr.out.size (fun k hk => by have e2 : R_A = k := Option.some.inj hk; have := HR_A.out; omega))⟩
  · have hcp2 : ¬ c_p = 1 := hcp
    have tk : True := trivial
    go_wp2_with fail
    go_loopw [25] (fun i wr => ∃ (j : Nat) (aS : Option Addr) (cS : Nat), j ≤ m ∧ i = .int .i64 j ∧ Hid (BoxR W99 wr R_O R_O nx ((tl.take j).map slotL) j aS cS)) (fun i _ => m - (RowKit.intOf i).toNat)
    case atStart => exact ⟨0, none, 0, Nat.zero_le _, rfl, HI0⟩
    case round =>
      obtain ⟨j, aS, cS, hj, rfl, HI⟩ := hrel
      have HBr := Lib.hid (HB_100.out.trans (HI.out.bel.mono HB_100.out.size))
      have A_r := Lib.hid (A_100.out.below HI.out.bel A_100.out.lt)
      have O_r := Lib.hid HI.out.bx
      have HGO : Hid (w.heap.size ≤ R_O) := Lib.hid (by rw [HRO.out]; exact HB_100.out.size)
      have HN_O_A : Hid (R_A < R_O) := Lib.hid (by rw [HRO.out]; exact A_100.out.lt)
      have c107_A_0 := A_r.out.at 0 (v := .int .i64 0) rfl
      have c107_A_1 := A_r.out.at 1 (v := .slice none 0 0) rfl
      have c108_O_0 := O_r.out.at 0 (v := .int .i64 nx) rfl
      have c108_O_1 := O_r.out.at 1 (v := .slice aS j cS) rfl
      by_cases hjm : j < m
      · have hjm2 : (j : Int) < (m : Int) := by omega
        have hj0 : (0 : Int) ≤ (j : Int) := by omega
        have htl : j < tl.length := by have := HM.out; omega
        obtain ⟨tp, htp⟩ : ∃ tp, tp = txt tl[j] := ⟨_, rfl⟩
        have hck : wr.cell? ⟨gp, 1 + j, none⟩ = some (.string tp) := by
          rw [HI.out.bel.cell (p := ⟨gp, 1 + j, none⟩) ((p_100.out.lt gp rfl).2), Nat.add_comm, strs_cell p_100.out (i := j + 1) (by omega), htp]
          rw [List.getD_eq_getElem?_getD, List.getElem?_cons_succ, List.getElem?_eq_getElem htl]
          rfl
        have HXs : Hid ((tl.take (j + 1)).map slotL = (tl.take j).map slotL ++ [slotL tp.data.toList]) := Lib.hid (by rw [List.take_succ_eq_append_getElem htl, List.map_append, List.map_singleton, htp, txt_data])
        clear htp htl
        have HSi := Lib.hid (fun (W1 : World) => slotIn_any tp W1)
        generalize slotL tp.data.toList = sl at HSi HXs
        obtain ⟨sh, ss⟩ := sl
        dsimp only at HSi
        have hszr : R_O ≤ wr.heap.size := by rw [HRO.out]; exact HI.out.bel.size
        go_upto_region 8 with fail
        have hOd := HI.out.bx.drew
        have xd0 := hOd.at 0 (v := .int .i64 nx) rfl
        have xd1 := hOd.at 1 (v := .slice aS j cS) rfl
        have fd1 := hOd.free 1
        have HKd := Lib.hid (fun (w' : World) (hb : Below wr.heap.size wr w') => (show (w').cell? ⟨R_O, 0, none⟩ = some (.int .i64 nx) from (HI.out.bx.below hb HI.out.bx.lt).at 0 rfl))
        have tokA : True := trivial
        go_region_law (first
            | (go_simp; go_at_call 79; refine (HSi.out _).mono ?_; rintro e w7 ⟨rfl, l7⟩; have hb7 := below_call7 (by repeat (first | with_reducible assumption | with_reducible exact Below.refl _ _ | with_reducible refine Below.drew ?_ | with_reducible refine below_alloc' ?_) : Below wr.heap.size wr _) l7; clear l7; have hO7 := HI.out.bx.below hb7 HI.out.bx.lt; have z0 := hO7.at 0 (v := .int .i64 nx) rfl; have z1 := hO7.at 1 (v := .slice aS j cS) rfl; have hOl := hO7.alloc (.cells #[.bool sh, .string ss] 75); have zl0 := hOl.at 0 (v := .int .i64 nx) rfl; have zl1 := hOl.at 1 (v := .slice aS j cS) rfl; clear hOl; dsimp only)
            | (have _t := tokA; refine step_append_rowz (by rfl) _ _ 24 (by rfl) R_O 75 i0 (.agg #[.bool false, .string ⟨#[]⟩]) 2 24 Tryd.underlying24 hi hz0 hz1 hz2 rfl (by decide) _ j (slF ((tl.take j).map slotL)) (by rfl) (ownz_below HI.out.own (by repeat (first | with_reducible assumption | with_reducible exact Below.refl _ _ | with_reducible refine Below.drew ?_ | with_reducible refine below_alloc' ?_) : Below wr.heap.size wr _) (Nat.le_refl _)) ⟨w7.heap.size, 0, none⟩ 1 1 (slC ⟨sh, ss⟩) (by rfl) (row_litSl (t := ⟨sh, ss⟩) (Bx.new w7 _ _)) rfl (slC_one _) (by unfold maxLen; omega) (by omega) (Nat.le_trans hszr (below_size' (by repeat (first | with_reducible assumption | with_reducible exact Below.refl _ _ | with_reducible refine Below.drew ?_ | with_reducible refine below_alloc' ?_) : Below wr.heap.size wr _))) ?_; intro v6 w6 hown6 hgr6 hat6; obtain ⟨a6, c6, rfl, _, _⟩ := ownz_slice hown6; have hR6 := (hO7.alloc (.cells #[.bool sh, .string ss] 75)).grown hgr6 (fun e => HI.out.apart R_O e.symm rfl); have y0 := hR6.at 1 (v := .slice aS j cS) rfl; have y1 := hR6.free 1; have HSt := Lib.hid (boxr_step HI.out (by rw [HRO.out]; exact Nat.le_refl _) (by rw [HRO.out]; exact Nat.le_refl _) (below_alloc' hb7) hown6 hgr6 hat6); clear tokA _t))
        all_goals go_wp2_with fail
        all_goals
          go_roundw
          case rel => exact ⟨j + 1, a6, c6, by omega, by go_num, Lib.hid (by rw [HXs.out]; exact HSt.out)⟩
          case measure => (simp [RowKit.intOf]; omega)
      · have hjm2 : ¬ (j : Int) < (m : Int) := by omega
        obtain rfl : m = j := by omega
        have HIo := Lib.hid HI.out.own
        have hlst : (tl.take m).map slotL = tl.map slotL := by rw [List.take_of_length_le (by have := HM.out; omega)]
        rw [hlst] at HIo
        have hxl : (tl.map slotL).length = m := by rw [List.length_map]; exact HM.out.symm
        have HXl := Lib.hid hxl
        clear hxl hlst
        clear c107_A_0 c107_A_1
        clear c108_O_0 c108_O_1
        have c109_A_0 := A_r.out.at 0 (v := .int .i64 0) rfl
        have c109_A_1 := A_r.out.at 1 (v := .slice none 0 0) rfl
        have c110_O_0 := O_r.out.at 0 (v := .int .i64 nx) rfl
        have c110_O_1 := O_r.out.at 1 (v := .slice aS m cS) rfl
        have fr111_A_0 := A_r.out.free 0
        have fr111_A_1 := A_r.out.free 1
        go_wp2_with fail
        obtain ⟨p1, q1⟩ := A_r.out.store2 (.int .i64 nx) (.slice aS m cS)
        refine bodyPost_ret (results_bx rfl isRw _ _ R_A rfl rfl p1) rfl ?_
        first | rw [HXl.out] | rw [← HM.out]
        exact ⟨_, rfl, ownz_base (HIo.out.kept q1 (by
          cases hv : (Value.slice aS m cS).ownBlock with
          | none => exact .inl rfl
          | some k0 => exact .inr (fun e => by have e2 : k0 = R_A := Option.some.inj e; have h1 := (HIo.out.lt k0 hv).1; rw [HRO.out] at h1; have h2 := A_100.out.lt; omega))) (by rw [HRO.out]; exact HB_100.out.size), (HBr.out.grown q1 HBr.out.size (fun k hk => by have e2 : R_A = k := Option.some.inj hk; have := HR_A.out; omega))⟩
set_option maxRecDepth 100000 in
set_option maxHeartbeats 16000000 in
theorem implParse_any (s : ByteArray) (w : World) (hs : s.size ≤ 1048576) (htab : Tab w) (he : Errs w) :
    Calls Tryd.prog 22 #[.string s] w fun e w' => ∃ v', e = .returned (.tuple #[.agg #[.int .i64 (psV s).x, v'], .bool (psB s)]) ∧ w'.ownsRow w.heap.size 75 2 v' (psV s).q.length (slF (psV s).q) ∧ Below w.heap.size w w' := by
  obtain ⟨e1, e2, e3⟩ := pi_end s
  have hpz : ∀ t ∈ (piW s).q, t.s.size ≤ maxLen := pi_sized hs
  have HWi := Lib.hid (fun (W1 : World) (h1 : Tab W1) (h2 : Errs W1) => windowIn_any s W1 hs h1 h2)
  generalize piW s = pw9 at e1 e2 e3 hpz HWi
  obtain ⟨x, q⟩ := pw9
  dsimp only at e1 e2 e3 hpz HWi
  have HYes : Hid (rwOk ⟨x, q⟩ = true → txB x q = s → psB s = true ∧ psV s = ⟨x, q⟩) := Lib.hid e1
  have HN1 := Lib.hid e2
  have HN2 := Lib.hid e3
  have HPz := Lib.hid hpz
  clear e1 e2 e3 hpz
  obtain ⟨W0, R_A, hW0, hR_A, hX_A, hB0⟩ := entry1 w #[.int .i64 0, .slice none 0 0] 26
  have HW0 := Lib.hid hW0
  have HB0 := Lib.hid hB0
  have HR_A := Lib.hid hR_A
  have HX_A := Lib.hid hX_A
  clear hW0 hB0 hR_A hX_A
  have HTb := Lib.hid (htab.below HB0.out)
  have HEr := Lib.hid (he.below HB0.out)
  clear htab he
  have HL0 := Lib.hid (Below.refl W0.heap.size W0)
  have c112_A_0 := HX_A.out.at 0 (v := .int .i64 0) rfl
  have c112_A_1 := HX_A.out.at 1 (v := .slice none 0 0) rfl
  go_enter Tryd.func22, Tryd.ntmps22
  go_upto_region 1 with fail
  rw [← HW0.out, ← HR_A.out]
  go_wp2_with fail
  refine (HWi.out _ HTb.out HEr.out).mono ?_
  rintro e W113 ⟨v_r, rfl, o_r, l113⟩
  obtain ⟨a_r, c_r, rfl, _, _⟩ := ownz_slice o_r
  have O_r := Lib.hid (ownz_base o_r HB0.out.size)
  have BX_A_r : Hid (∀ k, (.slice a_r q.length c_r : Value).ownBlock = some k → k ≠ R_A) := Lib.hid (fun k h1 h2 => absurd HX_A.out.lt (Nat.not_lt.2 (by rw [← h2]; exact (o_r.lt k h1).1)))
  clear o_r
  clear c112_A_0 c112_A_1
  have HB_114 := Lib.hid (HB0.out.trans (l113.mono HB0.out.size))
  have HL0_114 := Lib.hid (HL0.out.trans (l113.mono HL0.out.size))
  clear HL0
  have A_114 := Lib.hid (HX_A.out.below l113 HX_A.out.lt)
  clear l113
  have c115_A_0 := A_114.out.at 0 (v := .int .i64 0) rfl
  have c115_A_1 := A_114.out.at 1 (v := .slice none 0 0) rfl
  go_upto_region 2 with fail
  obtain ⟨W116, hW116⟩ : ∃ W116, W116 = W113.alloc (.cells #[.int .i64 x, .slice a_r q.length c_r] 26) := ⟨_, rfl⟩
  have l116 : Below W113.heap.size W113 W116 := by rw [hW116]; exact (Below.refl _ _).alloc (Nat.le_refl _) _
  have X116_O : Hid (Bx W116 W113.heap.size #[.int .i64 x, .slice a_r q.length c_r] 26) := Lib.hid (by rw [hW116]; exact Bx.new _ _ _)
  rw [← hW116]
  clear hW116
  have BX_O_r : Hid (∀ k, (.slice a_r q.length c_r : Value).ownBlock = some k → k ≠ W113.heap.size) := Lib.hid (fun k h1 h2 => absurd (O_r.out.lt k h1).2 (by omega))
  have HG_O : Hid (w.heap.size ≤ W113.heap.size) := Lib.hid HB_114.out.size
  have HN_O_A : Hid (R_A < W113.heap.size) := Lib.hid A_114.out.lt
  obtain ⟨R_O, hR_O⟩ : ∃ X, X = W113.heap.size := ⟨_, rfl⟩
  rw [← hR_O] at X116_O HG_O BX_O_r HN_O_A ⊢
  clear hR_O
  clear c115_A_0 c115_A_1
  have HB_117 := Lib.hid (HB_114.out.trans (l116.mono HB_114.out.size))
  have r_117 := Lib.hid (ownz_below O_r.out l116 (Nat.le_refl _))
  clear O_r
  have HL0_117 := Lib.hid (HL0_114.out.trans (l116.mono HL0_114.out.size))
  clear HL0_114
  have A_117 := Lib.hid (A_114.out.below l116 A_114.out.lt)
  clear A_114
  clear l116
  have c118_A_0 := A_117.out.at 0 (v := .int .i64 0) rfl
  have c118_A_1 := A_117.out.at 1 (v := .slice none 0 0) rfl
  have c119_O_0 := X116_O.out.at 0 (v := .int .i64 x) rfl
  have c119_O_1 := X116_O.out.at 1 (v := .slice a_r q.length c_r) rfl
  have HSt := Lib.hid (fun (W1 : World) (hr : Row W1 (.slice a_r q.length c_r) q.length (slF q)) (h : Tab W1) => implSlots_any (.slice a_r q.length c_r) ⟨x, q⟩ W1 hr HPz.out h)
  cases ok : rwOk ⟨x, q⟩ with
  | false =>
    rw [ok] at HSt
    generalize stV ⟨x, q⟩ = tx at HSt
    have HB9 := Lib.hid (HN1.out ok)
    go_wp2_with fail
    refine (HSt.out _ (rowz_own r_117.out) (HTb.out.below HL0_117.out)).mono ?_
    rintro e W120 ⟨rfl, l120⟩
    clear c118_A_0 c118_A_1
    clear c119_O_0 c119_O_1
    have HB_121 := Lib.hid (HB_117.out.trans (l120.mono HB_117.out.size))
    have r_121 := Lib.hid (ownz_below r_117.out l120 (Nat.le_refl _))
    clear r_117
    have HL0_121 := Lib.hid (HL0_117.out.trans (l120.mono HL0_117.out.size))
    clear HL0_117
    have A_121 := Lib.hid (A_117.out.below l120 A_117.out.lt)
    clear A_117
    have O_121 := Lib.hid (X116_O.out.below l120 X116_O.out.lt)
    clear X116_O
    clear l120
    have c122_A_0 := A_121.out.at 0 (v := .int .i64 0) rfl
    have c122_A_1 := A_121.out.at 1 (v := .slice none 0 0) rfl
    have c123_O_0 := O_121.out.at 0 (v := .int .i64 x) rfl
    have c123_O_1 := O_121.out.at 1 (v := .slice a_r q.length c_r) rfl
    have fr124_A_0 := A_121.out.free 0
    have fr124_A_1 := A_121.out.free 1
    go_wp2_with fail
    obtain ⟨p1, q1⟩ := A_121.out.store2 (.int .i64 0) (.slice none 0 0)
    refine bodyPost_ret (results_bx1 rfl isRw _ _ R_A rfl rfl rfl p1) rfl ?_
    rw [HB9.out.1, HB9.out.2]
    exact ⟨_, rfl, ⟨rfl, .inl ⟨rfl, rfl⟩⟩, (HB_121.out.grown q1 HB_121.out.size (fun k hk => by have e2 : R_A = k := Option.some.inj hk; have := HR_A.out; omega))⟩
  | true =>
    rw [ok] at HSt
    have hst : stV ⟨x, q⟩ = txB x q := if_pos ok
    rw [hst] at HSt
    have HY2 := Lib.hid (HYes.out ok)
    clear hst ok HYes HN1
    generalize txB x q = tx at HSt HN2 HY2
    by_cases htx : tx = s
    rotate_left
    · have hc := bytes_neq htx
      have HNt := Lib.hid (HN2.out htx)
      clear htx
      have HB9 := Lib.hid (HNt.out)
      go_wp2_with fail
      refine (HSt.out _ (rowz_own r_117.out) (HTb.out.below HL0_117.out)).mono ?_
      rintro e W125 ⟨rfl, l125⟩
      clear c118_A_0 c118_A_1
      clear c119_O_0 c119_O_1
      have HB_126 := Lib.hid (HB_117.out.trans (l125.mono HB_117.out.size))
      have r_126 := Lib.hid (ownz_below r_117.out l125 (Nat.le_refl _))
      clear r_117
      have HL0_126 := Lib.hid (HL0_117.out.trans (l125.mono HL0_117.out.size))
      clear HL0_117
      have A_126 := Lib.hid (A_117.out.below l125 A_117.out.lt)
      clear A_117
      have O_126 := Lib.hid (X116_O.out.below l125 X116_O.out.lt)
      clear X116_O
      clear l125
      have c127_A_0 := A_126.out.at 0 (v := .int .i64 0) rfl
      have c127_A_1 := A_126.out.at 1 (v := .slice none 0 0) rfl
      have c128_O_0 := O_126.out.at 0 (v := .int .i64 x) rfl
      have c128_O_1 := O_126.out.at 1 (v := .slice a_r q.length c_r) rfl
      have fr129_A_0 := A_126.out.free 0
      have fr129_A_1 := A_126.out.free 1
      go_wp2_with fail
      obtain ⟨p1, q1⟩ := A_126.out.store2 (.int .i64 0) (.slice none 0 0)
      refine bodyPost_ret (results_bx1 rfl isRw _ _ R_A rfl rfl rfl p1) rfl ?_
      rw [HB9.out.1, HB9.out.2]
      exact ⟨_, rfl, ⟨rfl, .inl ⟨rfl, rfl⟩⟩, (HB_126.out.grown q1 HB_126.out.size (fun k hk => by have e2 : R_A = k := Option.some.inj hk; have := HR_A.out; omega))⟩
    · subst htx
      have HB9 := Lib.hid (HY2.out rfl)
      go_wp2_with fail
      refine (HSt.out _ (rowz_own r_117.out) (HTb.out.below HL0_117.out)).mono ?_
      rintro e W130 ⟨rfl, l130⟩
      clear c118_A_0 c118_A_1
      clear c119_O_0 c119_O_1
      have HB_131 := Lib.hid (HB_117.out.trans (l130.mono HB_117.out.size))
      have r_131 := Lib.hid (ownz_below r_117.out l130 (Nat.le_refl _))
      clear r_117
      have HL0_131 := Lib.hid (HL0_117.out.trans (l130.mono HL0_117.out.size))
      clear HL0_117
      have A_131 := Lib.hid (A_117.out.below l130 A_117.out.lt)
      clear A_117
      have O_131 := Lib.hid (X116_O.out.below l130 X116_O.out.lt)
      clear X116_O
      clear l130
      have c132_A_0 := A_131.out.at 0 (v := .int .i64 0) rfl
      have c132_A_1 := A_131.out.at 1 (v := .slice none 0 0) rfl
      have c133_O_0 := O_131.out.at 0 (v := .int .i64 x) rfl
      have c133_O_1 := O_131.out.at 1 (v := .slice a_r q.length c_r) rfl
      have fr134_A_0 := A_131.out.free 0
      have fr134_A_1 := A_131.out.free 1
      go_wp2_with fail
      obtain ⟨p1, q1⟩ := A_131.out.store2 (.int .i64 x) (.slice a_r q.length c_r)
      refine bodyPost_ret (results_bx1 rfl isRw _ _ R_A rfl rfl rfl p1) rfl ?_
      rw [HB9.out.1, HB9.out.2]
      dsimp only
      exact ⟨_, rfl, (r_131.out.kept q1 (by
        cases hv : (.slice a_r q.length c_r : Value).ownBlock with
        | none => exact .inl rfl
        | some k => exact .inr (fun e => BX_A_r.out k hv (Option.some.inj e)))), (HB_131.out.grown q1 HB_131.out.size (fun k hk => by have e2 : R_A = k := Option.some.inj hk; have := HR_A.out; omega))⟩
end Go.Proofs.YtpmjdppipalfcaaDoor
