/-
  Links: the specification's DropFrom.
-/
import Derived.Test.YtbhhmaialilabaaLink3
namespace Go.Proofs.Ytbhhmaialilabaa
open Go.RowKit Go.Lib Go.Joins
set_option linter.unusedVariables false

set_option maxRecDepth 100000 in
set_option maxHeartbeats 4000000 in
theorem specDrop_any (v : Value) (l : Lk) (i : Int) (w : World) (hrow : Row w v l.q.length (l.q.map Value.string)) (hf : l.f.size ≤ 1048576) :
    Calls Try.prog 27 #[.agg #[v, .string l.f, .int .i64 l.u], .int .i64 i] w fun e w' => ∃ v', e = .returned (.tuple #[.agg #[v', .string (dropL l i).f, .int .i64 (dropL l i).u], .bool (dropOk l i)]) ∧ w'.ownsRow w.heap.size 9 1 v' (dropL l i).q.length ((dropL l i).q.map Value.string) ∧ Below w.heap.size w w' := by
  obtain ⟨i0, hi, hz0, hz1, hz2⟩ := info_parts infoStr
  obtain ⟨W, hW⟩ : ∃ W, W = (w.alloc (.cells #[v, .string l.f, .int .i64 l.u] 26)).alloc (.cells #[.slice none 0 0, .string ⟨#[]⟩, .int .i64 0] 26) := ⟨_, rfl⟩
  have hB : Below w.heap.size w W := by rw [hW]; exact ((Below.refl w.heap.size w).alloc (Nat.le_refl _) _).alloc (by simp) _
  have hT : Lb W w.heap.size v l := by rw [hW]; exact (Lb.new hrow).below ((Below.refl _ _).alloc (Nat.le_refl _) _)
  have hA : Lq W (w.heap.size + 1) (.slice none 0 0) ⟨#[]⟩ 0 := by
    rw [hW]
    have := Lq.new (w.alloc (.cells #[v, .string l.f, .int .i64 l.u] 26)) (.slice none 0 0) ⟨#[]⟩ 0
    rw [World.size_alloc] at this
    exact this
  have HW := Lib.hid hW
  have HB := Lib.hid hB
  have HA := Lib.hid hA
  have HT := Lib.hid hT
  have HG := Lib.hid (l7Good_any v l W hT.row hf)
  obtain ⟨a, cap, rfl, hc1, hm1, hcell0⟩ := row_open hrow
  have HCell := Lib.hid hcell0
  clear hcell0
  unfold maxLen at hm1
  obtain ⟨R, hR⟩ : ∃ R, R = w.heap.size := ⟨_, rfl⟩
  obtain ⟨R4, hR4⟩ : ∃ R4, R4 = w.heap.size + 1 := ⟨_, rfl⟩
  rw [← hR] at HT
  rw [← hR4] at HA
  have HR := Lib.hid hR
  have HR4 := Lib.hid hR4
  obtain ⟨n, hN⟩ : ∃ n, n = l.q.length := ⟨_, rfl⟩
  rw [← hN] at hc1 HT HW HG ⊢
  have HN := Lib.hid hN
  clear hW hB hT hA hR hR4 hrow hf hN
  obtain ⟨x0, x1, x2⟩ := HT.out.cells
  cases ok : lkOk l with
  | false =>
    rw [ok] at HG
    have hk : dropOk l i = false := by unfold dropOk; rw [ok]; rfl
    have e1 : dropL l i = lk0 := by unfold dropL; rw [hk]; rfl
    rw [e1, hk]
    clear ok e1 hk
    go_enter Try.func27, Try.ntmps27
    go_upto_region 1 with fail
    rw [← HW.out, ← HR4.out, ← HR.out]
    go_wp2_with fail
    refine HG.out.mono ?_
    rintro e W2 ⟨rfl, l2⟩
    have HB2 := Lib.hid (HB.out.trans (l2.mono HB.out.size))
    have HA2 := Lib.hid (HA.out.below l2 HA.out.lt)
    clear l2
    obtain ⟨y0, y1, y2⟩ := HA2.out.cells
    have f0 := HA2.out.free 0
    have f1 := HA2.out.free 1
    have f2 := HA2.out.free 2
    go_wp2_with fail
    obtain ⟨p1, q1⟩ := HA2.out.store (v' := .slice none 0 0) (f' := ⟨#[]⟩) (u' := 0)
    refine bodyPost_ret (results_lk rfl _ _ R4 rfl rfl p1) rfl ⟨_, rfl, own_nilS _ _, HB2.out.grown q1 HB2.out.size (fun k hk => by have e2 : R4 = k := Option.some.inj hk; have := HR4.out; omega)⟩
  | true =>
    rw [ok] at HG
    have h8 : n ≤ 8 := by have := (lkOk_parts ok).2.2.1; have := HN.out; omega
    have HI := Lib.hid (fun (W1 : World) => l1In_any i 0 ((n : Int) - 1) W1)
    by_cases hin : 0 ≤ i ∧ i ≤ (n : Int) - 1
    rotate_left
    · have hk : dropOk l i = false := by
        unfold dropOk
        rw [← HN.out]
        rw [show (decide (0 ≤ i) && decide (i ≤ (n : Int) - 1)) = false from by rw [← Bool.decide_and]; exact decide_eq_false hin, Bool.and_false]
      have e1 : dropL l i = lk0 := by unfold dropL; rw [hk]; rfl
      rw [e1, hk]
      rw [inB_no hin] at HI
      clear ok e1 hk hin
      go_enter Try.func27, Try.ntmps27
      go_upto_region 1 with fail
      rw [← HW.out, ← HR4.out, ← HR.out]
      go_wp2_with fail
      refine HG.out.mono ?_
      rintro e W2 ⟨rfl, l2⟩
      have HB2 := Lib.hid (HB.out.trans (l2.mono HB.out.size))
      have HA2 := Lib.hid (HA.out.below l2 HA.out.lt)
      have HT2 := Lib.hid (HT.out.below l2)
      clear l2 x0 x1 x2
      obtain ⟨x0, x1, x2⟩ := HT2.out.cells
      obtain ⟨y0, y1, y2⟩ := HA2.out.cells
      have f0 := HA2.out.free 0
      have f1 := HA2.out.free 1
      have f2 := HA2.out.free 2
      go_wp2_with fail
      refine (HI.out _).mono ?_
      rintro e w3 ⟨rfl, rfl⟩
      go_wp2_with fail
      obtain ⟨p1, q1⟩ := HA2.out.store (v' := .slice none 0 0) (f' := ⟨#[]⟩) (u' := 0)
      refine bodyPost_ret (results_lk rfl _ _ R4 rfl rfl p1) rfl ⟨_, rfl, own_nilS _ _, HB2.out.grown q1 HB2.out.size (fun k hk => by have e2 : R4 = k := Option.some.inj hk; have := HR4.out; omega)⟩
    · have hq : 0 < l.q.length := by have := HN.out; omega
      obtain ⟨k, rfl⟩ : ∃ k : Nat, i = k := ⟨i.toNat, by omega⟩
      have hkn : k < n := by omega
      have hk : dropOk l (k : Int) = true := by
        unfold dropOk
        rw [← HN.out, ok, decide_eq_true hin.1, decide_eq_true hin.2]; rfl
      have e1 : dropL l (k : Int) = ⟨l.q.take k ++ l.q.drop (k + 1), l.f, l.u⟩ := by unfold dropL; rw [if_pos hk]; rfl
      rw [e1, hk]
      rw [inB_yes hin.1 hin.2] at HI
      obtain ⟨ab, ao, rfl, hc0⟩ := HT.out.get (k := 0) hq
      rw [Nat.add_zero] at hc0
      have hab : ab < w.heap.size := by
        obtain ⟨b, off, e10, hb, _⟩ := HCell.out 0 hq
        injection e10 with e10
        injection e10 with e10 _ _
        subst e10
        exact hb
      have HAb := Lib.hid hab
      clear e1 hk ok hc0 hab hin
      go_enter Try.func27, Try.ntmps27
      go_upto_region 1 with fail
      rw [← HW.out, ← HR4.out, ← HR.out]
      go_wp2_with fail
      refine HG.out.mono ?_
      rintro e W2 ⟨rfl, l2⟩
      have HB2 := Lib.hid (HB.out.trans (l2.mono HB.out.size))
      have HA2 := Lib.hid (HA.out.below l2 HA.out.lt)
      have HT2 := Lib.hid (HT.out.below l2)
      have HAbW := Lib.hid (Nat.lt_of_lt_of_le HAb.out HB2.out.size)
      clear l2 x0 x1 x2
      obtain ⟨x0, x1, x2⟩ := HT2.out.cells
      go_wp2_with fail
      refine (HI.out _).mono ?_
      rintro e w3 ⟨rfl, rfl⟩
      obtain ⟨o2, ho2, hrt⟩ : ∃ o2, (if cap = k + 1 then (some ⟨ab, ao, none⟩ : Option Addr) else some ⟨ab, ao + (k + 1), none⟩) = some ⟨ab, o2, none⟩ ∧ Row W2 (.slice (some ⟨ab, o2, none⟩) (n - (k + 1)) (cap - (k + 1))) (n - (k + 1)) ((l.q.drop (k + 1)).map Value.string) := by
        have h := HT2.out.row
        rw [← HN.out] at h
        have h2 := row_tail' h (show k + 1 ≤ n by omega)
        rw [← List.map_drop] at h2
        by_cases hcap : cap = k + 1
        · refine ⟨ao, if_pos hcap, ?_⟩
          obtain ⟨a9, c9, e9, k1, k2, _⟩ := h2
          injection e9 with _ _ e9
          have hz : (l.q.drop (k + 1)).map Value.string = [] := List.eq_nil_of_length_eq_zero (by rw [List.length_map, List.length_drop, ← HN.out]; omega)
          rw [hz]
          exact ⟨_, _, rfl, by omega, by unfold maxLen; omega, fun hh => absurd rfl hh⟩
        · exact ⟨ao + (k + 1), if_neg hcap, h2⟩
      have HRt := Lib.hid hrt
      clear hrt
      have HLen : Hid (((l.q.drop (k + 1)).map Value.string).length = n - (k + 1)) := Lib.hid (by rw [List.length_map, List.length_drop, ← HN.out])
      have HRh : Hid (Row W2 (.slice (some ⟨ab, ao, none⟩) k cap) k ((l.q.take k).map Value.string)) := Lib.hid (by
        have h := HT2.out.row
        rw [← HN.out] at h
        have h2 := row_head' h (show k ≤ n by omega)
        rw [← List.map_take] at h2
        exact h2)
      have HLn2 : Hid (((l.q.take k).map Value.string).length = k) := Lib.hid (by rw [List.length_map, List.length_take, ← HN.out]; omega)
      have HK := Lib.hid (fun (w' : World) (hb : Below W2.heap.size W2 w') => (show w'.cell? ⟨R, 0, none⟩ = some (.slice (some ⟨ab, ao, none⟩) n cap) ∧ w'.cell? ⟨R, 1, none⟩ = some (.string l.f) ∧ w'.cell? ⟨R, 2, none⟩ = some (.int .i64 l.u) ∧ Below w.heap.size w w' from
        ⟨(hb.cell (p := ⟨R, 0, none⟩) HT2.out.lt).trans x0, (hb.cell (p := ⟨R, 1, none⟩) HT2.out.lt).trans x1, (hb.cell (p := ⟨R, 2, none⟩) HT2.out.lt).trans x2, HB2.out.trans (hb.mono HB2.out.size)⟩))
      have HK2 := Lib.hid (fun (w' : World) (y : Value) (f' : ByteArray) (u' : Int) (hb : Below W2.heap.size W2 w') => (show (((w'.setCell ⟨R4, 0, none⟩ y).setCell ⟨R4, 1, none⟩ (.string f')).setCell ⟨R4, 2, none⟩ (.int .i64 u')).cell? ⟨R, 0, none⟩ = some (.slice (some ⟨ab, ao, none⟩) n cap) ∧ (((w'.setCell ⟨R4, 0, none⟩ y).setCell ⟨R4, 1, none⟩ (.string f')).setCell ⟨R4, 2, none⟩ (.int .i64 u')).cell? ⟨R, 1, none⟩ = some (.string l.f) ∧ (((w'.setCell ⟨R4, 0, none⟩ y).setCell ⟨R4, 1, none⟩ (.string f')).setCell ⟨R4, 2, none⟩ (.int .i64 u')).cell? ⟨R, 2, none⟩ = some (.int .i64 l.u) ∧ Below w.heap.size w (((w'.setCell ⟨R4, 0, none⟩ y).setCell ⟨R4, 1, none⟩ (.string f')).setCell ⟨R4, 2, none⟩ (.int .i64 u')) by
        obtain ⟨c0, c1, c2, c4⟩ := HK.out w' hb
        have ha := HA2.out.below hb HA2.out.lt
        obtain ⟨_, q1⟩ := ha.store (v' := y) (f' := f') (u' := u')
        have hR := HR.out
        have hR4 := HR4.out
        exact ⟨q1.cell c0 (by intro e; have e2 : R = R4 := Option.some.inj e; omega), q1.cell c1 (by intro e; have e2 : R = R4 := Option.some.inj e; omega), q1.cell c2 (by intro e; have e2 : R = R4 := Option.some.inj e; omega), c4.grown q1 c4.size (fun k hk => by have e2 : R4 = k := Option.some.inj hk; omega)⟩))
      have HA3 := Lib.hid (fun (w' : World) (hb : Below W2.heap.size W2 w') => HA2.out.below hb HA2.out.lt)
      have i1 : (k : Int) ≤ (n : Int) := by omega
      have i2 : (n : Int) ≤ (cap : Int) := by omega
      have i3 : (0 : Int) ≤ (k : Int) := by omega
      have i4 : IntKind.i64.wrap ((k : Int) + 1) = (k : Int) + 1 := IntWalk.i64_in _ (by omega)
      have i5 : (0 : Int) ≤ (k : Int) + 1 := by omega
      have i6 : (k : Int) + 1 ≤ (n : Int) := by omega
      have i7 : ((k : Int) + 1).toNat = k + 1 := by omega
      have i8 : (k : Int) ≤ (cap : Int) := by omega
      have i9 : k ≤ cap := by omega
      go_upto_region 3 with fail
      have tokA : True := trivial
      have tokB : True := trivial
      have tokC : True := trivial
      go_region_held3 (fun w' => w'.cell? ⟨R, 0, none⟩ = some (.slice (some ⟨ab, ao, none⟩) n cap) ∧ w'.cell? ⟨R, 1, none⟩ = some (.string l.f) ∧ w'.cell? ⟨R, 2, none⟩ = some (.int .i64 l.u) ∧ Below w.heap.size w w')
        ((first | (refine HK.out _ ?_; (repeat (first | assumption | exact Below.refl _ _ | refine Below.drew ?_ | refine below_alloc' ?_)); done) | (refine HK2.out _ _ _ _ ?_; (repeat (first | assumption | exact Below.refl _ _ | refine Below.drew ?_ | refine below_alloc' ?_)); done)))
        (first
          | (have _t := tokB; go_at_call 64; refine (l7With_any _ _ _ _ _ _ _ _).mono ?_; rintro e w7 ⟨rfl, l7⟩; have hb7 := below_call7 (by repeat (first | assumption | exact Below.refl _ _ | refine Below.drew ?_ | refine below_alloc' ?_) : Below W2.heap.size W2 _) l7; have ho7 := own_below hown3 (show Below w6.heap.size w6 w7 from by first | exact l7 | exact (Below.drew (Below.refl _ _)).trans l7) (Nat.le_refl _); have hA7 := HA3.out w7 hb7; obtain ⟨y0, y1, y2⟩ := hA7.cells; have f0 := hA7.free 0; have f1 := hA7.free 1; have f2 := hA7.free 2; clear l7 tokB _t; dsimp only)
          | (have _t := tokA; refine step_append_row (by rfl) _ _ _ (by rfl) W2.heap.size 9 i0 (.string ⟨#[]⟩) 16 Try.underlying24 hi hz0 hz1 hz2 rfl _ 0 [] (by rfl) (own_lit (heap_alloc_new _ _) (Nat.le_refl _)) _ k cap ((l.q.take k).map Value.string) (by rfl) (HRh.out.below (by repeat (first | assumption | exact Below.refl _ _ | refine Below.drew ?_ | refine below_alloc' ?_) : Below W2.heap.size W2 _) (Nat.le_refl _)) HLn2.out (one_strs _) (by unfold maxLen; omega) (by omega) (below_size' (by repeat (first | assumption | exact Below.refl _ _ | refine Below.drew ?_ | refine below_alloc' ?_))) ?_; intro v2 w5 hown2 hgrow2 hat2; obtain ⟨a2, c2, rfl, hcc2, hcm2⟩ := own_someS hown2; have hb5 : Below W2.heap.size W2 w5 := below_grown (by repeat (first | assumption | exact Below.refl _ _ | refine Below.drew ?_ | refine below_alloc' ?_)) hgrow2 (fun q hq => lit_block (Nat.le_refl _) hq); clear hgrow2 hat2 tokA _t)
          | (have _t := tokC; refine step_append_row (by rfl) _ _ _ (by rfl) W2.heap.size 9 i0 (.string ⟨#[]⟩) 16 Try.underlying24 hi hz0 hz1 hz2 rfl _ (0 + k) ([] ++ (l.q.take k).map Value.string) (by rfl) (by first | exact hown2 | exact hown2.drew) _ (n - (k + 1)) (cap - (k + 1)) ((l.q.drop (k + 1)).map Value.string) (by rfl) (HRt.out.below (by repeat (first | assumption | exact Below.refl _ _ | refine Below.drew ?_ | refine below_alloc' ?_) : Below W2.heap.size W2 _) (Nat.le_refl _)) HLen.out (one_strs _) (by unfold maxLen; omega) (by omega) (below_size' (by repeat (first | assumption | exact Below.refl _ _ | refine Below.drew ?_ | refine below_alloc' ?_))) ?_; intro v3 w6 hown3 hgrow3 hat3; obtain ⟨a3, c3, rfl, hcc3, hcm3⟩ := own_someS hown3; have hb6 : Below W2.heap.size W2 w6 := below_grown (by repeat (first | assumption | exact Below.refl _ _ | refine Below.drew ?_ | refine below_alloc' ?_)) hgrow3 (fun q hq => (hown2.lt q hq).1); clear hgrow3 hat3 tokC _t))
      all_goals go_wp2_with fail
      all_goals
        rw [Nat.zero_add, List.nil_append, ← List.map_append] at ho7
        obtain ⟨p1, q1⟩ := hA7.store (v' := .slice a3 (k + (n - (k + 1))) c3) (f' := l.f) (u' := l.u)
        have hlt := HA2.out.lt
        have hR4 := HR4.out
        have hlen : (l.q.take k ++ l.q.drop (k + 1)).length = k + (n - (k + 1)) := by rw [List.length_append, List.length_take, List.length_drop, ← HN.out]; omega
        refine bodyPost_ret (results_lk rfl _ _ R4 rfl rfl p1) rfl ⟨_, rfl, ?_, (HB2.out.trans (hb7.mono HB2.out.size)).grown q1 (HB2.out.trans (hb7.mono HB2.out.size)).size (fun k hk => by have e2 : R4 = k := Option.some.inj hk; omega)⟩
        rw [hlen]
        refine own_base (ho7.kept q1 ?_) HB2.out.size
        cases hv : (Value.slice a3 (k + (n - (k + 1))) c3).ownBlock with
        | none => exact .inl rfl
        | some k => exact .inr (fun e => by have e3 : k = R4 := Option.some.inj e; have := (ho7.lt k hv).1; omega)
end Go.Proofs.Ytbhhmaialilabaa
