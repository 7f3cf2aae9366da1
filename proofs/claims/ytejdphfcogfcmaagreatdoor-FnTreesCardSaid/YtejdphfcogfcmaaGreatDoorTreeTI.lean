/-
  Trees: texts of trees, of the program.
-/
import Derived.Test.YtejdphfcogfcmaaGreatDoorTreeI
import Derived.Test.YtejdphfcogfcmaaGreatDoorTree6
import Derived.Test.YtejdphfcogfcmaaGreatDoorTab
import Derived.Test.YtejdphfcogfcmaaGreatDoorJoin
import Derived.Lib.Join
import Derived.Laws.DeepStrings4
import Derived.Maps.AppendAt
namespace Go.Proofs.YtejdphfcogfcmaaGreatDoor
open Go.RowKit Go.Lib Go.Joins
set_option linter.unusedVariables false

theorem infoStr6 : (Tryz.prog.info? 9).map (fun i => (i.zero, i.size, i.bytes)) = some (some (.string ⟨#[]⟩), 1, 16) := by kernel_rfl
theorem below_own6 {B : Nat} {w wr w1 : World} {o : Obj} {e : TypeId} {z n : Nat} {v : Value} {xs : List Value} (hb : Below B w wr) (hB : B ≤ wr.heap.size) (ho : wr.ownsRow B e z v n xs) (hg : (wr.alloc o).grownBy w1 v.ownBlock) : Below B w w1 :=
  (hb.alloc hB o).grown hg (by simp; omega) (fun k hk => (ho.lt k hk).1)
theorem own_strs6 (w1 : World) {B : Nat} (hB : B ≤ w1.heap.size) : (w1.alloc (.cells #[] 9)).ownsRow B 9 1 (.slice (some ⟨w1.heap.size, 0, none⟩) 0 0) 0 [] :=
  own_base (World.ownsRow_made w1 #[] 0 (Nat.le_refl _) (Nat.zero_le _) rfl) hB
theorem itoa6_any (n : Int) (h0 : 0 ≤ n) (h1 : n ≤ 65535) (w : World) (ht : Tab w) : Calls Tryz.prog 22 #[.int .i64 n] w fun e w' => e = .returned (.string (numS n)) ∧ Below w.heap.size w w' :=
  (Tryz.strconv_Itoa n (by omega) (by omega) w ht).mono fun e w' ⟨h1, k, os, h2⟩ => ⟨h1, by rw [h2]; exact below_grow k os⟩
theorem join_jn6 : ∀ (s : List Int), s ≠ [] → Lib.join (s.map Lib.itoa) [32] = jn6 s
  | [], h => absurd rfl h
  | [r], _ => by simp [Lib.join, jn6, List.intercalate]
  | r :: q :: s, _ => by
    have ih := join_jn6 (q :: s) (by simp)
    unfold Lib.join List.intercalate at ih ⊢
    simp only [List.map_cons] at ih ⊢
    show Lib.itoa r ++ ([32] ++ (List.intersperse [32] (Lib.itoa q :: s.map Lib.itoa)).flatten) = Lib.itoa r ++ 32 :: jn6 (q :: s)
    rw [ih]
    rfl
theorem pl_nums (q : List Int) : M.pl (q.map numS) = q.map Lib.itoa := by
  unfold M.pl
  rw [List.map_map]
  exact congrArg (fun f => q.map f) (funext numS_list6)
theorem join_tree {p : List Int} (h : trOk p = true) : joinOut (p.tail.map numS) ⟨#[32]⟩ = .tuple #[.string (treeB p), .bool true] := by
  obtain ⟨q, rfl, hq, hl, hv⟩ := tree_form h
  have e : M.joined ((-1 :: q).tail.map numS) 32 = jn6 q := by
    unfold M.joined
    rw [pl_nums]
    exact join_jn6 q hq
  rw [joinOut_yes (by simpa using hq) ⟨fun x hx => ?_, ?_⟩, e]
  · rfl
  · rw [e]
    have := jn6_len q (fun x hx => by have := hv x hx; omega)
    omega
  · obtain ⟨y, hy, rfl⟩ := List.mem_map.1 hx
    unfold M.has
    rw [numS_list6]
    exact decide_eq_false (itoa_clean6 (hv y hy).1)
def wS (q : List Int) : List Value := (q.map numS).map Value.string
theorem wS_take {q : List Int} {k : Nat} (hk : k < q.length) : wS (q.take (k + 1)) = wS (q.take k) ++ [.string (numS q[k])] := by
  unfold wS
  rw [List.take_succ_eq_append_getElem hk, List.map_append, List.map_append, List.map_singleton, List.map_singleton]
theorem tail_at {p : List Int} {k : Nat} (hk : k < p.tail.length) : p.tail[k] = par6 p (k + 1) := by
  have h2 : k + 1 < p.length := by rw [List.length_tail] at hk; omega
  rw [par6_at h2, List.getElem_tail]
set_option maxRecDepth 100000 in
set_option maxHeartbeats 4000000 in
theorem implTreeText_any (v : Value) (p : List Int) (w : World) (hrow : Row w v p.length (p.map (Value.int .i64))) (htab : Tab w) :
    Calls Tryz.prog 6 #[.agg #[v]] w fun e w' => e = .returned (.tuple #[.string (ttV p), .bool (trOk p)]) ∧ Below w.heap.size w w' := by
  obtain ⟨i0, hi, hz0, hz1, hz2⟩ := info_parts infoStr6
  obtain ⟨W, hW⟩ : ∃ W, W = w.alloc (.cells #[v] 26) := ⟨_, rfl⟩
  have HT : Hid (Tr W w.heap.size v p) := Lib.hid (by rw [hW]; exact Tr.new hrow)
  have HB : Hid (Below w.heap.size w W) := Lib.hid (by rw [hW]; exact (Below.refl w.heap.size w).alloc (Nat.le_refl _) _)
  have HW := Lib.hid hW
  have HG := Lib.hid (implIsTree_any v p W HT.out.row)
  have HTb := Lib.hid (htab.below HB.out)
  obtain ⟨a, cap, rfl, hc1, hm1, _⟩ := row_open hrow
  unfold maxLen at hm1
  have hx := HT.out.cell
  obtain ⟨R, hR⟩ : ∃ R, R = w.heap.size := ⟨_, rfl⟩
  rw [← hR] at HT hx
  have HR := Lib.hid hR
  clear hW hrow hR htab
  cases hok : trOk p with
  | false =>
    have HE := Lib.hid (ttV_no hok)
    rw [hok] at HG
    clear hok
    go_enter Tryz.func6, Tryz.ntmps6
    go_upto_region 1 with fail
    rw [← HW.out, ← HR.out]
    go_wp2_with fail
    refine HG.out.mono ?_
    rintro e W2 ⟨rfl, l2⟩
    have HB2 := Lib.hid (HB.out.trans (l2.mono HB.out.size))
    clear l2
    go_wp2_with fail
    go_ret2
    exact ⟨by rw [HE.out]; rfl, HB2.out⟩
  | true =>
    have HE := Lib.hid (ttV_yes hok)
    rw [hok] at HG
    obtain ⟨h2, h8, _, hu⟩ := trOk_parts hok
    have HBd := Lib.hid (fun (k : Nat) (hk : k + 1 < p.length) => (show 0 ≤ par6 p (k + 1) ∧ par6 p (k + 1) ≤ 9 by have := hu (k + 1) (by omega) hk; omega))
    have HJ := Lib.hid (join_tree hok)
    obtain ⟨ab, ao, rfl, _⟩ := HT.out.get (k := 0) (by omega)
    obtain ⟨n, hN⟩ : ∃ n, n = p.length := ⟨_, rfl⟩
    have HN := Lib.hid hN
    obtain ⟨q, hq⟩ : ∃ q, q = p.tail := ⟨_, rfl⟩
    obtain ⟨m, hM⟩ : ∃ m, m = n - 1 := ⟨_, rfl⟩
    have hql : q.length = m := by rw [hq, List.length_tail, hM, hN]
    have HQ := Lib.hid hq
    have HQL := Lib.hid hql
    rw [← hq] at HJ
    rw [← hN] at hc1 HT HW HG hx h2 h8 HBd ⊢
    have HM := Lib.hid hM
    clear hM hN hok hu hql hq
    go_enter Tryz.func6, Tryz.ntmps6
    go_upto_region 1 with fail
    rw [← HW.out, ← HR.out]
    go_wp2_with fail
    refine HG.out.mono ?_
    rintro e W2 ⟨rfl, l2⟩
    have HB2 := Lib.hid (HB.out.trans (l2.mono HB.out.size))
    have HT2 := Lib.hid (HT.out.below l2)
    have HTb2 := Lib.hid (HTb.out.below l2)
    clear l2 hx HG
    have HO0 := Lib.hid (own_strs6 W2 (Nat.le_refl W2.heap.size))
    have hx := (HT2.out.below ((Below.refl _ _).alloc (Nat.le_refl _) (.cells #[] 9))).cell
    go_wp2_with fail
    rw [← HM.out]
    obtain ⟨cap2, hcap2⟩ : ∃ c2, c2 = cap - 1 := ⟨_, rfl⟩
    have hm2 : m ≤ cap2 := by have := HM.out; omega
    have hm7 : m ≤ 7 := by have := HM.out; omega
    have hc2 : cap2 ≤ 2 ^ 63 - 1 := by omega
    rw [← hcap2]
    clear hcap2 hc1 h2 h8 hm1
    go_loopw [4, 15] (fun o i wr => ∃ (k g c : Nat), k ≤ m ∧ i = .int .i64 k ∧ o = .slice (some ⟨g, 0, none⟩) k c ∧ Hid (wr.ownsRow W2.heap.size 9 1 (.slice (some ⟨g, 0, none⟩) k c) k (wS (q.take k))) ∧ Hid (Below W2.heap.size W2 wr)) (fun _ i _ => m - (RowKit.intOf i).toNat)
    case atStart => exact ⟨0, _, _, Nat.zero_le _, rfl, rfl, HO0, Lib.hid ((Below.refl _ _).alloc (Nat.le_refl _) _)⟩
    case round =>
      clear HO0 hx
      obtain ⟨k, g, c, hk, rfl, rfl, HO, HBq⟩ := hrel
      by_cases hkm : k < m
      · have hkq : k < q.length := by rw [HQL.out]; exact hkm
        have hkn : k + 1 < n := by have := HM.out; omega
        obtain ⟨b2, off2, e2, hck⟩ := (HT2.out.below HBq.out).get (k := k + 1) (by rw [← HN.out]; exact hkn)
        injection e2 with e2
        injection e2 with e2 e3 _
        subst e2; subst e3
        have hck2 : wr.cell? ⟨ab, ao + 1 + k, none⟩ = some (.int .i64 (par6 p (k + 1))) := by rw [← hck]; congr 2; omega
        obtain ⟨y0, y1⟩ := HBd.out k hkn
        have HT5 : Hid (wS (q.take (k + 1)) = wS (q.take k) ++ [.string (numS (par6 p (k + 1)))]) := Lib.hid (by
          rw [wS_take hkq]
          have : q[k] = par6 p (k + 1) := by
            have hq := HQ.out
            subst hq
            exact tail_at hkq
          rw [this])
        generalize par6 p (k + 1) = y at hck2 y0 y1 HT5
        clear hck
        go_wp2_with fail
        refine (itoa6_any y y0 (by omega) wr (HTb2.out.below HBq.out)).mono ?_
        rintro e W3 ⟨rfl, l3⟩
        have HO3 := Lib.hid (own_below HO.out l3 (Nat.le_refl _))
        have HC3 := Lib.hid (HBq.out.trans (l3.mono HBq.out.size))
        have hw3 := HC3.out.size
        clear l3 HO HBq hck2
        go_wp2_with (at_builtin; refine wpList_append_own _ rfl _ _ 43 rfl W2.heap.size 9 i0 (.string ⟨#[]⟩) 1 16 Tryz.underlying43 hi hz0 hz1 hz2 rfl (by decide) _ _ _ rfl (HO3.out.alloc _) ⟨W3.heap.size, 0, none⟩ 1 1 [.string (numS y)] rfl rfl (cell_one_new _ _ _) (by intro u hu; simp at hu; subst hu; rfl) (by unfold maxLen; omega) (by omega) (by simp; omega) ?_; intro v' w4 hown' hgrow hiff; have hb4 := below_own6 HC3.out hw3 HO3.out hgrow; rw [← HT5.out] at hown'; obtain ⟨g4, c4, rfl⟩ := own_form hown' (by omega); have HO4 := Lib.hid hown'; have HB4 := Lib.hid hb4; clear hown' hgrow hiff hb4)
        go_roundw
        case rel => exact ⟨k + 1, g4, c4, by omega, by go_num, rfl, HO4, HB4⟩
        case measure => (simp [RowKit.intOf]; omega)
      · obtain rfl : k = m := by omega
        have HRw : Hid (Row wr (.slice (some ⟨g, 0, none⟩) (q.map numS).length c) (q.map numS).length ((q.map numS).map Value.string)) := Lib.hid (by
          have h := row_own HO.out
          rw [List.take_of_length_le (by rw [HQL.out]; exact Nat.le_refl _)] at h
          rw [List.length_map, HQL.out]
          exact h)
        have HJn := Lib.hid (implJoin_any _ (q.map numS) ⟨#[32]⟩ wr HRw.out (by rw [List.length_map, HQL.out]; omega) (fun x hx => by
          obtain ⟨y, hy, rfl⟩ := List.mem_map.1 hx
          obtain ⟨i, hi, rfl⟩ := List.getElem_of_mem hy
          have hb := HBd.out i (by have := HQL.out; have := HM.out; omega)
          have e : q[i] = par6 p (i + 1) := by
            have hq := HQ.out
            subst hq
            exact tail_at hi
          rw [← e] at hb
          have := numS_size hb.1 (show q[i] ≤ 999999 by omega)
          omega) (by show 1 ≤ 1048576; omega))
        rw [HJ.out, List.length_map, HQL.out, ← HE.out] at HJn
        clear HRw HO HJ HE HM HBd HQ HQL HT HT2 HN
        go_wp2_with fail
        refine HJn.out.mono ?_
        rintro e W9 ⟨rfl, l9⟩
        have HB9 := Lib.hid (HB2.out.trans ((HBq.out.trans (l9.mono HBq.out.size)).mono HB2.out.size))
        clear l9 HJn HBq
        go_wp2_with fail
        go_ret2
        exact ⟨rfl, HB9.out⟩
end Go.Proofs.YtejdphfcogfcmaaGreatDoor
