/-
  Sets as ranges: texts of sets, of the specification.
-/
import Derived.Test.YtneimcacpbepfaaGreatDoorRdN
import Derived.Test.YtneimcacpbepfaaGreatDoorRng6
import Derived.Deep.QuietTactic
import Derived.BigQuiet
namespace Go.Proofs.YtneimcacpbepfaaGreatDoor
open Go.RowKit Go.Lib Go.Joins
set_option linter.unusedVariables false

theorem txt_of {st : ByteArray} {l : List UInt8} (h : st.data.toList = l) : st = ⟨l.toArray⟩ := by
  apply ByteArray.ext
  apply Array.toList_inj.1
  simpa using h
theorem jn_zero {s : List Rg} (h : 0 < s.length) : joinG (s.take 1) = rgT s[0] := by
  rw [show s.take 1 = s.take 0 ++ [s[0]] from List.take_succ_eq_append_getElem h, joinG_snoc]
  rfl
theorem jn_pos {s : List Rg} {k : Nat} (hk : k < s.length) (h0 : 0 < k) : joinG (s.take (k + 1)) = joinG (s.take k) ++ [44] ++ rgT s[k] := by
  rw [List.take_succ_eq_append_getElem hk, joinG_snoc, if_neg (by intro e; have := congrArg List.length e; rw [List.length_take, List.length_nil] at this; omega)]
theorem rgT_two {f t : Int} (h : f < t) : rgT (f, t) = Lib.itoa f ++ 45 :: Lib.itoa t := if_pos h
theorem rgT_one {f t : Int} (h : ¬ f < t) : rgT (f, t) = Lib.itoa f := if_neg h
theorem numS_list (n : Int) : (numS n).data.toList = Lib.itoa n := by simp [numS]
theorem textB_ne {s : List Rg} {st : ByteArray} (h0 : s ≠ []) (h : st.data.toList = joinG s) : st = textB s := by
  unfold textB textL
  rw [if_neg h0]
  exact txt_of h
theorem textB_nil : textB [] = ⟨#[110, 111, 110, 101]⟩ := rfl
/-- What has been written when k ranges are. -/
def Wr5 (s : List Rg) (k : Nat) (st : ByteArray) : Prop := st.size ≤ 14 * k ∧ st.data.toList = joinG (s.take k)
set_option maxRecDepth 100000 in
set_option maxHeartbeats 4000000 in
theorem l5Text_any (v : Value) (s : List Rg) (w : World) (hrow : Row w v s.length (rgF s)) (hl : s.length ≤ 10) (hv : ∀ r ∈ s, 0 ≤ r.1 ∧ r.1 ≤ r.2 ∧ r.2 ≤ 65535) :
    Calls Tryz.prog 34 #[v] w fun e w' => e = .returned (.string (textB s)) ∧ ∃ k, w' = w.drewN k := by
  obtain ⟨a, cap, rfl, hc1, hm1, hcell⟩ := rg_open hrow
  have HC := Lib.hid hcell
  have HV := Lib.hid hv
  clear hcell hrow hv
  unfold maxLen at hm1
  obtain ⟨n, hN⟩ : ∃ n, n = s.length := ⟨_, rfl⟩
  rw [← hN] at hc1 hl ⊢
  have HN := Lib.hid hN
  clear hN
  by_cases hn0 : n = 0
  · subst hn0
    have HE : Hid (textB s = ⟨#[110, 111, 110, 101]⟩) := Lib.hid (by rw [List.eq_nil_of_length_eq_zero HN.out.symm]; rfl)
    go_enter Tryz.func34, Tryz.ntmps34
    go_wp2_with fail
    go_ret
    exact ⟨ret_str HE.out.symm, 0, rfl⟩
  have hd : ((n : Int) == 0) = false := by simp; omega
  have HS0 : Hid (s ≠ []) := Lib.hid (fun e => hn0 (by rw [HN.out, e]; rfl))
  clear hn0
  have HW0 : Hid (Wr5 s 0 ⟨#[]⟩) := Lib.hid ⟨Nat.le_refl _, rfl⟩
  go_enter Tryz.func34, Tryz.ntmps34
  go_wp2_with fail
  go_loopw [3, 4] (fun o i wr => ∃ (k : Nat) (st : ByteArray), k ≤ n ∧ i = .int .i64 k ∧ o = .string st ∧ Hid (Wr5 s k st) ∧ Hid (∃ a, wr = w.drewN a)) (fun _ i _ => n - (intOf i).toNat)
  case atStart => exact ⟨0, _, Nat.zero_le _, rfl, rfl, HW0, Lib.hid ⟨0, rfl⟩⟩
  case round =>
    clear HW0
    obtain ⟨k, st, hk, rfl, rfl, HW, HQ⟩ := hrel
    by_cases hkn : k < n
    · have hks : k < s.length := by rw [← HN.out]; exact hkn
      obtain ⟨b, off, rfl, hb, hf, ht⟩ := HC.out k hks
      have hf1 : wr.cell? ⟨b, off + k * 2, none⟩ = some (.int .i64 s[k].1) := by obtain ⟨a, rfl⟩ := HQ.out; exact hf
      have ht1 : wr.cell? ⟨b, off + k * 2 + 1, none⟩ = some (.int .i64 s[k].2) := by obtain ⟨a, rfl⟩ := HQ.out; exact ht
      have hbd := HV.out s[k] (List.getElem_mem hks)
      have HJ0 := Lib.hid (fun (h0 : k = 0) => (show joinG (s.take (k + 1)) = rgT (s[k].1, s[k].2) by subst h0; exact jn_zero hks))
      have HJ1 := Lib.hid (fun (h0 : 0 < k) => (show joinG (s.take (k + 1)) = joinG (s.take k) ++ [44] ++ rgT (s[k].1, s[k].2) from jn_pos hks h0))
      clear hf ht
      generalize s[k].1 = f at hf1 hbd HJ0 HJ1
      generalize s[k].2 = t at ht1 hbd HJ0 HJ1
      obtain ⟨f0, ft, t1⟩ := hbd
      have zf := numS_size f0 (by omega)
      have zt := numS_size (n := t) (by omega) (by omega)
      have hst := HW.out.1
      by_cases hk0 : k = 0
      · have hd0 : decide ((0 : Int) < (k : Int)) = false := decide_eq_false (by omega)
        have hd00 : decide (0 < k) = false := decide_eq_false (by omega)
        have hd01 : ¬ 0 < k := by omega
        obtain ⟨s2, hs2, ha2⟩ := add_two st (numS f) (14 * k + 7) (by omega)
        by_cases hft : f < t
        · have hd1 : decide (f < t) = true := decide_eq_true hft
          obtain ⟨s3, hs3, ha3⟩ := add_two s2 ⟨#[45]⟩ (14 * k + 8) (by have := hs2.1; show _ + 1 ≤ _; omega)
          obtain ⟨s4, hs4, ha4⟩ := add_two s3 (numS t) (14 * k + 14) (by have := hs3.1; omega)
          have HW2 : Hid (Wr5 s (k + 1) s4) := Lib.hid ⟨by have := hs4.1; omega, by
            rw [HJ0.out hk0, rgT_two hft, hs4.2, hs3.2, hs2.2, HW.out.2, numS_list, numS_list, hk0]; simp [joinG]⟩
          clear hk0 hs2 hs3 hs4 HJ0 HJ1 HW zf zt
          go_wp2_with fail
          refine (numS_any f f0 (by omega) _).mono ?_
          rintro e w1 ⟨rfl, q1, hq1⟩
          have HQ1 : Hid (∃ a, w1 = w.drewN a) := Lib.hid (by rw [hq1]; exact world_hid5 HQ.out q1)
          have hf2 : w1.cell? ⟨b, off + k * 2, none⟩ = some (.int .i64 f) := by rw [hq1]; exact hf1
          have ht2 : w1.cell? ⟨b, off + k * 2 + 1, none⟩ = some (.int .i64 t) := by rw [hq1]; exact ht1
          clear hq1 HQ hf1 ht1
          go_upto_region 10 with fail
          go_quiet (fail)
          obtain ⟨w2, hw2⟩ : ∃ w2, w2 = w1.drewN nq := ⟨_, rfl⟩
          have HQ2 : Hid (∃ a, w2 = w.drewN a) := Lib.hid (by rw [hw2]; exact world_hid5 HQ1.out nq)
          have ht3 : w2.cell? ⟨b, off + k * 2 + 1, none⟩ = some (.int .i64 t) := by rw [hw2]; exact ht2
          rw [← hw2]
          clear hw2 HQ1 hf2 ht2
          go_wp2_with fail
          refine (numS_any t (by omega) t1 _).mono ?_
          rintro e w3 ⟨rfl, q3, hq3⟩
          have HQ3 : Hid (∃ a, w3 = w.drewN a) := Lib.hid (by rw [hq3]; exact world_hid5 HQ2.out q3)
          clear hq3 HQ2 ht3
          go_wp2_with fail
          go_roundw
          case rel => exact ⟨k + 1, s4, by omega, by go_num, rfl, HW2, HQ3⟩
          case measure => (simp [intOf]; omega)
        · have hd1 : decide (f < t) = false := decide_eq_false hft
          have HW2 : Hid (Wr5 s (k + 1) s2) := Lib.hid ⟨by have := hs2.1; omega, by
            rw [HJ0.out hk0, rgT_one hft, hs2.2, HW.out.2, numS_list, hk0]; simp [joinG]⟩
          clear hk0 hs2 HJ0 HJ1 HW zf zt
          go_wp2_with fail
          refine (numS_any f f0 (by omega) _).mono ?_
          rintro e w1 ⟨rfl, q1, hq1⟩
          have HQ1 : Hid (∃ a, w1 = w.drewN a) := Lib.hid (by rw [hq1]; exact world_hid5 HQ.out q1)
          have hf2 : w1.cell? ⟨b, off + k * 2, none⟩ = some (.int .i64 f) := by rw [hq1]; exact hf1
          have ht2 : w1.cell? ⟨b, off + k * 2 + 1, none⟩ = some (.int .i64 t) := by rw [hq1]; exact ht1
          clear hq1 HQ hf1 ht1
          go_upto_region 10 with fail
          go_quiet (fail)
          go_wp2_with fail
          go_roundw
          case rel => exact ⟨k + 1, s2, by omega, by go_num, rfl, HW2, Lib.hid (world_hid5 HQ1.out _)⟩
          case measure => (simp [intOf]; omega)
      · have hd0 : decide ((0 : Int) < (k : Int)) = true := decide_eq_true (by omega)
        obtain ⟨s1, hs1, ha1⟩ := add_two st ⟨#[44]⟩ (14 * k + 1) (by show _ + 1 ≤ _; omega)
        obtain ⟨s2, hs2, ha2⟩ := add_two s1 (numS f) (14 * k + 7) (by have := hs1.1; omega)
        by_cases hft : f < t
        · have hd1 : decide (f < t) = true := decide_eq_true hft
          obtain ⟨s3, hs3, ha3⟩ := add_two s2 ⟨#[45]⟩ (14 * k + 8) (by have := hs2.1; show _ + 1 ≤ _; omega)
          obtain ⟨s4, hs4, ha4⟩ := add_two s3 (numS t) (14 * k + 14) (by have := hs3.1; omega)
          have HW2 : Hid (Wr5 s (k + 1) s4) := Lib.hid ⟨by have := hs4.1; omega, by
            rw [HJ1.out (by omega), rgT_two hft, hs4.2, hs3.2, hs2.2, hs1.2, HW.out.2, numS_list, numS_list]; simp⟩
          clear hst hs1 hs2 hs3 hs4 HJ0 HJ1 HW zf zt
          go_wp2_with fail
          refine (numS_any f f0 (by omega) _).mono ?_
          rintro e w1 ⟨rfl, q1, hq1⟩
          have HQ1 : Hid (∃ a, w1 = w.drewN a) := Lib.hid (by rw [hq1]; exact world_hid5 HQ.out q1)
          have hf2 : w1.cell? ⟨b, off + k * 2, none⟩ = some (.int .i64 f) := by rw [hq1]; exact hf1
          have ht2 : w1.cell? ⟨b, off + k * 2 + 1, none⟩ = some (.int .i64 t) := by rw [hq1]; exact ht1
          clear hq1 HQ hf1 ht1
          go_upto_region 10 with fail
          go_quiet (fail)
          obtain ⟨w2, hw2⟩ : ∃ w2, w2 = w1.drewN nq := ⟨_, rfl⟩
          have HQ2 : Hid (∃ a, w2 = w.drewN a) := Lib.hid (by rw [hw2]; exact world_hid5 HQ1.out nq)
          have ht3 : w2.cell? ⟨b, off + k * 2 + 1, none⟩ = some (.int .i64 t) := by rw [hw2]; exact ht2
          rw [← hw2]
          clear hw2 HQ1 hf2 ht2
          go_wp2_with fail
          refine (numS_any t (by omega) t1 _).mono ?_
          rintro e w3 ⟨rfl, q3, hq3⟩
          have HQ3 : Hid (∃ a, w3 = w.drewN a) := Lib.hid (by rw [hq3]; exact world_hid5 HQ2.out q3)
          clear hq3 HQ2 ht3
          go_wp2_with fail
          go_roundw
          case rel => exact ⟨k + 1, s4, by omega, by go_num, rfl, HW2, HQ3⟩
          case measure => (simp [intOf]; omega)
        · have hd1 : decide (f < t) = false := decide_eq_false hft
          have HW2 : Hid (Wr5 s (k + 1) s2) := Lib.hid ⟨by have := hs2.1; omega, by
            rw [HJ1.out (by omega), rgT_one hft, hs2.2, hs1.2, HW.out.2, numS_list]⟩
          clear hst hs1 hs2 HJ0 HJ1 HW zf zt
          go_wp2_with fail
          refine (numS_any f f0 (by omega) _).mono ?_
          rintro e w1 ⟨rfl, q1, hq1⟩
          have HQ1 : Hid (∃ a, w1 = w.drewN a) := Lib.hid (by rw [hq1]; exact world_hid5 HQ.out q1)
          have hf2 : w1.cell? ⟨b, off + k * 2, none⟩ = some (.int .i64 f) := by rw [hq1]; exact hf1
          have ht2 : w1.cell? ⟨b, off + k * 2 + 1, none⟩ = some (.int .i64 t) := by rw [hq1]; exact ht1
          clear hq1 HQ hf1 ht1
          go_upto_region 10 with fail
          go_quiet (fail)
          go_wp2_with fail
          go_roundw
          case rel => exact ⟨k + 1, s2, by omega, by go_num, rfl, HW2, Lib.hid (world_hid5 HQ1.out _)⟩
          case measure => (simp [intOf]; omega)
    · obtain rfl : k = n := by omega
      have HE : Hid (st = textB s) := Lib.hid (textB_ne HS0.out (by rw [HW.out.2, List.take_of_length_le (by rw [← HN.out]; exact Nat.le_refl _)]))
      clear HW
      go_wp2_with fail
      go_ret
      exact ⟨ret_str HE.out, HQ.out⟩
/-- What SetText returns. -/
def stV (s : List Rg) : ByteArray := if rgOk s = true then textB s else ⟨#[]⟩
theorem stV_yes {s : List Rg} (h : rgOk s = true) : stV s = textB s := if_pos h
theorem stV_no {s : List Rg} (h : rgOk s = false) : stV s = ⟨#[]⟩ := by unfold stV; rw [h]; rfl
theorem stV_size (s : List Rg) : (stV s).size ≤ 120 := by
  cases h : rgOk s with
  | true => rw [stV_yes h]; exact textB_size h
  | false => rw [stV_no h]; show 0 ≤ 120; omega
set_option maxHeartbeats 1000000 in
theorem specSetText_any (v : Value) (s : List Rg) (w : World) (hrow : Row w v s.length (rgF s)) :
    Calls Tryz.prog 16 #[v] w fun e w' => e = .returned (.tuple #[.string (stV s), .bool (rgOk s)]) ∧ Below w.heap.size w w' := by
  have HG := Lib.hid (l5Good_any v s w hrow)
  have HR := Lib.hid hrow
  have HT := Lib.hid (fun (h : rgOk s = true) W hr => l5Text_any v s W hr (rgOk_parts h).2 (rgOk_parts h).1.2)
  obtain ⟨a, cap, rfl, _, _, _⟩ := rg_open hrow
  clear hrow
  cases hok : rgOk s with
  | false =>
    rw [hok] at HG
    have HE := Lib.hid (stV_no hok)
    clear hok HT
    go_enter Tryz.func16, Tryz.ntmps16
    go_wp2_with fail
    refine HG.out.mono ?_
    rintro e w1 ⟨rfl, q, hq⟩
    have HB : Hid (Below w.heap.size w w1) := Lib.hid (by rw [hq]; exact bdrew _ _)
    clear hq HG
    go_wp2_with fail
    go_ret2
    exact ⟨by rw [HE.out]; rfl, HB.out⟩
  | true =>
    rw [hok] at HG
    have HE := Lib.hid (stV_yes hok)
    have HT2 := Lib.hid (HT.out hok)
    clear hok HT
    go_enter Tryz.func16, Tryz.ntmps16
    go_wp2_with fail
    refine HG.out.mono ?_
    rintro e w1 ⟨rfl, q, hq⟩
    have hb : Below w.heap.size w w1 := by rw [hq]; exact bdrew _ _
    have HB := Lib.hid hb
    have HR1 := Lib.hid (HR.out.below hb (Nat.le_refl _))
    clear hq HG hb
    go_wp2_with fail
    refine (HT2.out _ HR1.out).mono ?_
    rintro e w2 ⟨rfl, q, hq⟩
    have HB2 : Hid (Below w.heap.size w w2) := Lib.hid (by rw [hq]; exact HB.out.trans ((bdrew _ _).mono HB.out.size))
    clear hq
    go_wp2_with fail
    go_ret2
    exact ⟨by rw [HE.out]; rfl, HB2.out⟩
end Go.Proofs.YtneimcacpbepfaaGreatDoor
