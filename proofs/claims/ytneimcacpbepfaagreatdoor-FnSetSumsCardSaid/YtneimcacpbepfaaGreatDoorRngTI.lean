/-
  Sets as ranges: texts of sets, of the program.
-/
import Derived.Test.YtneimcacpbepfaaGreatDoorRngT
import Derived.Test.YtneimcacpbepfaaGreatDoorTab
import Derived.Test.YtneimcacpbepfaaGreatDoorRngI
import Derived.Lib.Join
import Derived.Laws.DeepStrings4
import Derived.Maps.AppendAt
namespace Go.Proofs.YtneimcacpbepfaaGreatDoor
open Go.RowKit Go.Lib Go.Joins
set_option linter.unusedVariables false

theorem infoStr5 : (Tryz.prog.info? 9).map (fun i => (i.zero, i.size, i.bytes)) = some (some (.string ⟨#[]⟩), 1, 16) := by kernel_rfl
theorem below_own5 {B : Nat} {w wr w1 : World} {o : Obj} {e : TypeId} {z n : Nat} {v : Value} {xs : List Value} (hb : Below B w wr) (hB : B ≤ wr.heap.size) (ho : wr.ownsRow B e z v n xs) (hg : (wr.alloc o).grownBy w1 v.ownBlock) : Below B w w1 :=
  (hb.alloc hB o).grown hg (by simp; omega) (fun k hk => (ho.lt k hk).1)
def rgB (r : Rg) : ByteArray := ⟨(rgT r).toArray⟩
theorem rgB_list (r : Rg) : (rgB r).data.toList = rgT r := by simp [rgB]
theorem itoa5_any (n : Int) (h0 : 0 ≤ n) (h1 : n ≤ 65535) (w : World) (ht : Tab w) : Calls Tryz.prog 50 #[.int .i64 n] w fun e w' => e = .returned (.string (numS n)) ∧ Below w.heap.size w w' :=
  (Tryz.strconv_Itoa n (by omega) (by omega) w ht).mono fun e w' ⟨h1, k, os, h2⟩ => ⟨h1, by rw [h2]; exact below_grow k os⟩
set_option maxHeartbeats 1000000 in
theorem rangeText_any (f t : Int) (w : World) (f0 : 0 ≤ f) (ft : f ≤ t) (t1 : t ≤ 65535) (htab : Tab w) :
    Calls Tryz.prog 32 #[.agg #[.int .i64 f, .int .i64 t]] w fun e w' => e = .returned (.string (rgB (f, t))) ∧ Below w.heap.size w w' := by
  obtain ⟨W0, hW0⟩ : ∃ W0, W0 = w.alloc (.cells #[.int .i64 f, .int .i64 t] 47) := ⟨_, rfl⟩
  have hB0 : Below w.heap.size w W0 := by rw [hW0]; exact (Below.refl _ _).alloc (Nat.le_refl _) _
  have HR0 : Hid (Rb W0 w.heap.size f t) := Lib.hid (by rw [hW0]; exact heap_alloc_new w _)
  have HT0 := Lib.hid (htab.below hB0)
  have HB0 := Lib.hid hB0
  have HW0 := Lib.hid hW0
  clear hW0 hB0 htab
  have zf := numS_size f0 (by omega)
  have zt := numS_size (n := t) (by omega) (by omega)
  by_cases hft : f < t
  · have hne : (t != f) = true := by simp; omega
    obtain ⟨s1, hs1, ha1⟩ := add_two ⟨#[45]⟩ (numS t) 20 (by show 1 + _ ≤ _; omega)
    obtain ⟨s2, hs2, ha2⟩ := add_two (numS f) s1 40 (by have := hs1.1; omega)
    have HE : Hid (s2 = rgB (f, t)) := Lib.hid (by
      refine txt_of ?_
      rw [rgT_two hft, hs2.2, hs1.2, numS_list, numS_list]; simp)
    clear hs1 hs2 zf zt
    go_enter Tryz.func32, Tryz.ntmps32
    go_upto_region 1 with fail
    rw [← HW0.out]
    obtain ⟨x0, x1⟩ := HR0.out.cells
    go_wp2_with fail
    refine (itoa5_any f f0 (by omega) _ HT0.out).mono ?_
    rintro e W1 ⟨rfl, l1⟩
    have HR1 := Lib.hid (HR0.out.below l1 HR0.out.lt)
    have HT1 := Lib.hid (HT0.out.below l1)
    have HB1 := Lib.hid (HB0.out.trans (l1.mono HB0.out.size))
    clear l1 x0 x1 HR0 HT0 HB0 HW0
    obtain ⟨x0, x1⟩ := HR1.out.cells
    go_wp2_with fail
    refine (itoa5_any t (by omega) t1 _ HT1.out).mono ?_
    rintro e W2 ⟨rfl, l2⟩
    have HB2 := Lib.hid (HB1.out.trans (l2.mono HB1.out.size))
    clear l2 x0 x1 HR1 HT1 HB1
    go_wp2_with fail
    go_ret
    exact ⟨ret_str HE.out, HB2.out⟩
  · have hne : (t != f) = false := by simp; omega
    have HE : Hid (numS f = rgB (f, t)) := Lib.hid (by
      refine txt_of ?_
      rw [rgT_one hft, numS_list])
    clear zf zt
    go_enter Tryz.func32, Tryz.ntmps32
    go_upto_region 1 with fail
    rw [← HW0.out]
    obtain ⟨x0, x1⟩ := HR0.out.cells
    go_wp2_with fail
    refine (itoa5_any f f0 (by omega) _ HT0.out).mono ?_
    rintro e W1 ⟨rfl, l1⟩
    have HR1 := Lib.hid (HR0.out.below l1 HR0.out.lt)
    have HB1 := Lib.hid (HB0.out.trans (l1.mono HB0.out.size))
    clear l1 x0 x1 HR0 HT0 HB0 HW0
    obtain ⟨x0, x1⟩ := HR1.out.cells
    go_wp2_with fail
    go_ret
    exact ⟨ret_str HE.out, HB1.out⟩
theorem join_joinG : ∀ (s : List Rg), s ≠ [] → Lib.join (s.map rgT) [44] = joinG s
  | [], h => absurd rfl h
  | [r], _ => by simp [Lib.join, joinG, List.intercalate]
  | r :: q :: s, _ => by
    have ih := join_joinG (q :: s) (by simp)
    unfold Lib.join List.intercalate at ih ⊢
    simp only [List.map_cons] at ih ⊢
    show rgT r ++ ([44] ++ (List.intersperse [44] (rgT q :: s.map rgT)).flatten) = rgT r ++ 44 :: joinG (q :: s)
    rw [ih]
    rfl
def rgS (s : List Rg) : List Value := s.map fun r => .string (rgB r)
theorem rgS_take {s : List Rg} {k : Nat} (hk : k < s.length) : rgS (s.take (k + 1)) = rgS (s.take k) ++ [.string (rgB s[k])] := by
  unfold rgS
  rw [List.take_succ_eq_append_getElem hk, List.map_append, List.map_singleton]
theorem own_strs0 (w1 : World) {B : Nat} (hB : B ≤ w1.heap.size) : (w1.alloc (.cells #[] 9)).ownsRow B 9 1 (.slice (some ⟨w1.heap.size, 0, none⟩) 0 0) 0 [] :=
  own_base (World.ownsRow_made w1 #[] 0 (Nat.le_refl _) (Nat.zero_le _) rfl) hB
set_option maxRecDepth 100000 in
set_option maxHeartbeats 4000000 in
theorem implSetText_any (v : Value) (s : List Rg) (w : World) (hrow : Row w v s.length (rgF s)) (htab : Tab w) :
    Calls Tryz.prog 15 #[v] w fun e w' => e = .returned (.tuple #[.string (stV s), .bool (rgOk s)]) ∧ Below w.heap.size w w' := by
  obtain ⟨i0, hi, hz0, hz1, hz2⟩ := info_parts infoStr5
  have HG := Lib.hid (implIsSet_any v s w hrow)
  have HT := Lib.hid htab
  obtain ⟨a, cap, rfl, hc1, hm1, hcell⟩ := rg_open hrow
  have HC := Lib.hid hcell
  clear hrow htab hcell
  unfold maxLen at hm1
  cases hok : rgOk s with
  | false =>
    rw [hok] at HG
    have HE := Lib.hid (stV_no hok)
    clear hok HT HC
    go_enter Tryz.func15, Tryz.ntmps15
    go_wp2_with fail
    refine HG.out.mono ?_
    rintro e w1 ⟨rfl, l1⟩
    have HB := Lib.hid l1
    clear HG l1
    go_wp2_with fail
    go_ret2
    exact ⟨by rw [HE.out]; rfl, HB.out⟩
  | true =>
    rw [hok] at HG
    have HE := Lib.hid (stV_yes hok)
    have hl10 : s.length ≤ 10 := (rgOk_parts hok).2
    have HV := Lib.hid (rgOk_parts hok).1.2
    have HJ := Lib.hid (@join_joinG s)
    have HL := Lib.hid (joinG_len s (rgOk_parts hok).1.2)
    obtain ⟨n, hN⟩ : ∃ n, n = s.length := ⟨_, rfl⟩
    rw [← hN] at hc1 hl10 HG ⊢
    have HN := Lib.hid hN
    clear hN hok
    by_cases hn0 : n = 0
    · subst hn0
      have hs : s = [] := List.eq_nil_of_length_eq_zero HN.out.symm
      have HE2 : Hid (stV s = ⟨#[110, 111, 110, 101]⟩) := Lib.hid (by rw [HE.out, hs]; rfl)
      clear HT HC HV HJ HL HE hs
      go_enter Tryz.func15, Tryz.ntmps15
      go_wp2_with fail
      refine HG.out.mono ?_
      rintro e w1 ⟨rfl, l1⟩
      have HB := Lib.hid l1
      clear HG l1
      go_wp2_with fail
      go_ret2
      exact ⟨by rw [HE2.out]; rfl, HB.out⟩
    have hd : ((n : Int) == 0) = false := by simp; omega
    have hn1 : 1 ≤ n := by omega
    have HS0 : Hid (s ≠ []) := Lib.hid (fun e => hn0 (by rw [HN.out, e]; rfl))
    clear hn0
    go_enter Tryz.func15, Tryz.ntmps15
    go_wp2_with fail
    refine HG.out.mono ?_
    rintro e w1 ⟨rfl, l1⟩
    have HO0 := Lib.hid (own_strs0 w1 l1.size)
    have HB0 := Lib.hid (l1.alloc l1.size (.cells #[] 9))
    clear HG l1
    go_wp2_with fail
    go_loopw [4, 16] (fun p i wr => ∃ (k : Nat) (g c : Nat), k ≤ n ∧ i = .int .i64 k ∧ p = .slice (some ⟨g, 0, none⟩) k c ∧ Hid (wr.ownsRow w.heap.size 9 1 (.slice (some ⟨g, 0, none⟩) k c) k (rgS (s.take k))) ∧ Hid (Below w.heap.size w wr)) (fun _ i _ => n - (RowKit.intOf i).toNat)
    case atStart => exact ⟨0, _, _, Nat.zero_le _, rfl, rfl, HO0, HB0⟩
    case round =>
      clear HO0 HB0
      obtain ⟨k, g, c, hk, rfl, rfl, HO, HB⟩ := hrel
      by_cases hkn : k < n
      · have hks : k < s.length := by rw [← HN.out]; exact hkn
        obtain ⟨b, off, rfl, hb, hf, ht⟩ := HC.out k hks
        have hf1 := (HB.out.cell hb).trans hf
        have ht1 := (HB.out.cell hb).trans ht
        have hbd := HV.out s[k] (List.getElem_mem hks)
        have HT5 : Hid (rgS (s.take (k + 1)) = rgS (s.take k) ++ [.string (rgB (s[k].1, s[k].2))]) := Lib.hid (rgS_take hks)
        clear hf ht
        generalize s[k].1 = f at hf1 hbd HT5
        generalize s[k].2 = t at ht1 hbd HT5
        obtain ⟨f0, ft, t1⟩ := hbd
        go_upto_region 9 with fail
        obtain ⟨W2, hW2⟩ : ∃ W2, W2 = wr.alloc (.cells #[.int .i64 f, .int .i64 t] 47) := ⟨_, rfl⟩
        have hb2 : Below wr.heap.size wr W2 := by rw [hW2]; exact (Below.refl _ _).alloc (Nat.le_refl _) _
        have HR2 : Hid (Rb W2 wr.heap.size f t) := Lib.hid (by rw [hW2]; exact heap_alloc_new wr _)
        have HO2 := Lib.hid (own_below HO.out hb2 (Nat.le_refl _))
        have HB2 := Lib.hid (HB.out.trans (hb2.mono HB.out.size))
        rw [← hW2]
        clear hW2 hb2 HO HB hf1 ht1
        obtain ⟨x0, x1⟩ := HR2.out.cells
        go_wp2_with fail
        refine (rangeText_any f t _ f0 ft t1 (HT.out.below HB2.out)).mono ?_
        rintro e W3 ⟨rfl, l3⟩
        have HO3 := Lib.hid (own_below HO2.out l3 (Nat.le_refl _))
        have HB3 := Lib.hid (HB2.out.trans (l3.mono HB2.out.size))
        have hw3 := HB3.out.size
        clear l3 HO2 HB2 HR2 x0 x1
        go_wp2_with (at_builtin; refine wpList_append_own _ rfl _ _ 50 rfl w.heap.size 9 i0 (.string ⟨#[]⟩) 1 16 Tryz.underlying50 hi hz0 hz1 hz2 rfl (by decide) _ _ _ rfl (HO3.out.alloc _) ⟨W3.heap.size, 0, none⟩ 1 1 [.string (rgB (f, t))] rfl rfl (cell_one_new _ _ _) (by intro u hu; simp at hu; subst hu; rfl) (by unfold maxLen; omega) (by omega) (by simp; omega) ?_; intro v' w4 hown' hgrow hiff; have hb4 := below_own5 HB3.out hw3 HO3.out hgrow; rw [← HT5.out] at hown'; obtain ⟨g4, c4, rfl⟩ := own_form hown' (by omega); have HO4 := Lib.hid hown'; have HB4 := Lib.hid hb4; clear hown' hgrow hiff hb4)
        go_roundw
        case rel => exact ⟨k + 1, g4, c4, by omega, by go_num, rfl, HO4, HB4⟩
        case measure => (simp [RowKit.intOf]; omega)
      · obtain rfl : k = n := by omega
        have HO2 : Hid (wr.ownsRow w.heap.size 9 1 (.slice (some ⟨g, 0, none⟩) k c) k (rgS s)) := Lib.hid (by
          have h := HO.out
          rw [List.take_of_length_le (by rw [← HN.out]; exact Nat.le_refl _)] at h
          exact h)
        clear HO
        have hgl : g < wr.heap.size := (HO2.out.lt g rfl).2
        have hkc : k ≤ c := by
          obtain ⟨_, _, e, h1, _⟩ := row_own HO2.out
          injection e with _ _ e
          rw [e]; exact h1
        have HJn := Lib.hid (Tryz.strings_Join g 0 c (s.map rgB) ⟨#[44]⟩ wr (fun j x hx => by
          have hj := HO2.out.cells (g := g) rfl j (.string x) (by unfold rgS; rw [List.getElem?_map] at hx ⊢; revert hx; cases s[j]? <;> simp)
          rw [addr_add] at hj
          exact hj) hgl (by rw [List.length_map, ← HN.out]; omega) (by rw [List.length_map, ← HN.out]; exact hkc) (by
          rw [List.map_map, show ((fun x : ByteArray => x.data.toList) ∘ rgB) = rgT from funext rgB_list]
          have hl := HL.out
          have := HN.out
          show (Lib.join (s.map rgT) [44]).length ≤ _
          rw [HJ.out HS0.out]
          omega))
        rw [List.length_map, ← HN.out] at HJn
        have HE2 : Hid ((⟨(Lib.join ((s.map rgB).map (·.data.toList)) (⟨#[44]⟩ : ByteArray).data.toList).toArray⟩ : ByteArray) = stV s) := Lib.hid (by
          rw [HE.out, List.map_map, show ((fun x : ByteArray => x.data.toList) ∘ rgB) = rgT from funext rgB_list]
          show (⟨(Lib.join (s.map rgT) [44]).toArray⟩ : ByteArray) = _
          rw [HJ.out HS0.out]
          unfold textB textL
          rw [if_neg HS0.out])
        rw [HE2.out] at HJn
        clear HE2 HE HJ HL HV HC HT HO2 HS0
        go_wp2_with fail
        refine HJn.out.mono ?_
        rintro e W9 ⟨rfl, l9⟩
        have HB9 := Lib.hid (HB.out.trans (l9.mono HB.out.size))
        clear l9 HB HJn
        go_wp2_with fail
        go_ret2
        exact ⟨rfl, HB9.out⟩
end Go.Proofs.YtneimcacpbepfaaGreatDoor
