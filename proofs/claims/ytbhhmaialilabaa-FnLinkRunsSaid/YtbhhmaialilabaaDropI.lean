/-
  Links: the program's DropFrom, TakeFrom.
-/
import Derived.Test.YtbhhmaialilabaaQw
import Derived.Test.YtbhhmaialilabaaLinkI2
import Derived.Test.YtbhhmaialilabaaLink3
import Derived.Deep.RegionLaw
namespace Go.Proofs.Ytbhhmaialilabaa
open Go.RowKit Go.Lib Go.Joins
set_option linter.unusedVariables false

theorem drop_bad {l : Lk} {i : Int} (h : dropOk l i = false) : dropL l i = lk0 := by unfold dropL; rw [h]; rfl
set_option maxRecDepth 100000 in
set_option maxHeartbeats 8000000 in
theorem implDrop_any (v : Value) (l : Lk) (i : Int) (w : World) (hrow : Row w v l.q.length (l.q.map Value.string)) (hfit : FitA v l.q.length) :
    Calls Try.prog 25 #[.agg #[v, .string l.f, .int .i64 l.u], .int .i64 i] w fun e w' => ∃ v', e = .returned (.tuple #[.agg #[v', .string (dropL l i).f, .int .i64 (dropL l i).u], .bool (dropOk l i)]) ∧ w'.ownsRow w.heap.size 9 1 v' (dropL l i).q.length ((dropL l i).q.map Value.string) ∧ Below w.heap.size w w' := by
  obtain ⟨W, hW⟩ : ∃ W, W = (w.alloc (.cells #[v, .string l.f, .int .i64 l.u] 26)).alloc (.cells #[.slice none 0 0, .string ⟨#[]⟩, .int .i64 0] 26) := ⟨_, rfl⟩
  have hB : Below w.heap.size w W := by rw [hW]; exact ((Below.refl w.heap.size w).alloc (Nat.le_refl _) _).alloc (by simp) _
  have hT : Lb W w.heap.size v l := by rw [hW]; exact (Lb.new hrow).below ((Below.refl _ _).alloc (Nat.le_refl _) _)
  have hA : Lq W (w.heap.size + 1) (.slice none 0 0) ⟨#[]⟩ 0 := by
    rw [hW]
    have := Lq.new (w.alloc (.cells #[v, .string l.f, .int .i64 l.u] 26)) (.slice none 0 0) ⟨#[]⟩ 0
    rw [World.size_alloc] at this
    exact this
  have HW := Lib.hid hW
  have HB := Lib.hid hB
  have HA := Lib.hid hA
  have HT := Lib.hid hT
  have HG := Lib.hid (implIsLink_any v l W hT.row)
  have HFit := Lib.hid hfit
  obtain ⟨a, cap, rfl, hc1, hm1, _⟩ := row_open hrow
  unfold maxLen at hm1
  obtain ⟨R, hR⟩ : ∃ R, R = w.heap.size := ⟨_, rfl⟩
  obtain ⟨R4, hR4⟩ : ∃ R4, R4 = w.heap.size + 1 := ⟨_, rfl⟩
  rw [← hR] at HT
  rw [← hR4] at HA
  have HR := Lib.hid hR
  have HR4 := Lib.hid hR4
  obtain ⟨n, hN⟩ : ∃ n, n = l.q.length := ⟨_, rfl⟩
  rw [← hN] at hc1 HT HW HG HFit ⊢
  have HN := Lib.hid hN
  clear hW hB hT hA hR hR4 hrow hN hfit
  obtain ⟨x0, x1, x2⟩ := HT.out.cells
  cases ok : lkOk l with
  | false =>
    have hk : dropOk l i = false := by unfold dropOk; rw [ok]; rfl
    have HE := Lib.hid (drop_bad hk)
    have HKk := Lib.hid hk
    rw [ok] at HG
    clear ok hk
    go_enter Try.func25, Try.ntmps25
    go_upto_region 1 with fail
    rw [← HW.out, ← HR4.out, ← HR.out]
    go_wp2_with fail
    refine HG.out.mono ?_
    rintro e W2 ⟨rfl, l2⟩
    have HB2 := Lib.hid (HB.out.trans (l2.mono HB.out.size))
    have HA2 := Lib.hid (HA.out.below l2 HA.out.lt)
    have HT2 := Lib.hid (HT.out.below l2)
    clear l2 x0 x1 x2
    obtain ⟨x0, x1, x2⟩ := HT2.out.cells
    obtain ⟨y0, y1, y2⟩ := HA2.out.cells
    have f0 := HA2.out.free 0
    have f1 := HA2.out.free 1
    have f2 := HA2.out.free 2
    go_wp2_with fail
    obtain ⟨p1, q1⟩ := HA2.out.store (v' := .slice none 0 0) (f' := ⟨#[]⟩) (u' := 0)
    refine bodyPost_ret (results_lk rfl _ _ R4 rfl rfl p1) rfl ⟨_, by rw [HE.out, HKk.out]; rfl, by rw [HE.out]; exact own_nilS _ _, HB2.out.grown q1 HB2.out.size (fun k hk => by have e2 : R4 = k := Option.some.inj hk; have := HR4.out; omega)⟩
  | true =>
    rw [ok] at HG
    have h8 : n ≤ 8 := by have := (lkOk_parts ok).2.2.1; have := HN.out; omega
    by_cases hi0 : i < 0
    · have hk : dropOk l i = false := by unfold dropOk; rw [decide_eq_false (show ¬ 0 ≤ i by omega), Bool.false_and, Bool.and_false]
      have HE := Lib.hid (drop_bad hk)
      have HKk := Lib.hid hk
      clear ok hk
      go_enter Try.func25, Try.ntmps25
      go_upto_region 1 with fail
      rw [← HW.out, ← HR4.out, ← HR.out]
      go_wp2_with fail
      refine HG.out.mono ?_
      rintro e W2 ⟨rfl, l2⟩
      have HB2 := Lib.hid (HB.out.trans (l2.mono HB.out.size))
      have HA2 := Lib.hid (HA.out.below l2 HA.out.lt)
      have HT2 := Lib.hid (HT.out.below l2)
      clear l2 x0 x1 x2
      obtain ⟨x0, x1, x2⟩ := HT2.out.cells
      obtain ⟨y0, y1, y2⟩ := HA2.out.cells
      have f0 := HA2.out.free 0
      have f1 := HA2.out.free 1
      have f2 := HA2.out.free 2
      go_wp2_with fail
      obtain ⟨p1, q1⟩ := HA2.out.store (v' := .slice none 0 0) (f' := ⟨#[]⟩) (u' := 0)
      refine bodyPost_ret (results_lk rfl _ _ R4 rfl rfl p1) rfl ⟨_, by rw [HE.out, HKk.out]; rfl, by rw [HE.out]; exact own_nilS _ _, HB2.out.grown q1 HB2.out.size (fun k hk => by have e2 : R4 = k := Option.some.inj hk; have := HR4.out; omega)⟩
    by_cases hin : (n : Int) ≤ i
    · have hk : dropOk l i = false := by unfold dropOk; rw [decide_eq_false (show ¬ i ≤ (l.q.length : Int) - 1 by have := HN.out; omega), Bool.and_false, Bool.and_false]
      have HE := Lib.hid (drop_bad hk)
      have HKk := Lib.hid hk
      clear ok hk
      go_enter Try.func25, Try.ntmps25
      go_upto_region 1 with fail
      rw [← HW.out, ← HR4.out, ← HR.out]
      go_wp2_with fail
      refine HG.out.mono ?_
      rintro e W2 ⟨rfl, l2⟩
      have HB2 := Lib.hid (HB.out.trans (l2.mono HB.out.size))
      have HA2 := Lib.hid (HA.out.below l2 HA.out.lt)
      have HT2 := Lib.hid (HT.out.below l2)
      clear l2 x0 x1 x2
      obtain ⟨x0, x1, x2⟩ := HT2.out.cells
      obtain ⟨y0, y1, y2⟩ := HA2.out.cells
      have f0 := HA2.out.free 0
      have f1 := HA2.out.free 1
      have f2 := HA2.out.free 2
      go_wp2_with fail
      obtain ⟨p1, q1⟩ := HA2.out.store (v' := .slice none 0 0) (f' := ⟨#[]⟩) (u' := 0)
      refine bodyPost_ret (results_lk rfl _ _ R4 rfl rfl p1) rfl ⟨_, by rw [HE.out, HKk.out]; rfl, by rw [HE.out]; exact own_nilS _ _, HB2.out.grown q1 HB2.out.size (fun k hk => by have e2 : R4 = k := Option.some.inj hk; have := HR4.out; omega)⟩
    obtain ⟨k, rfl⟩ : ∃ k : Nat, i = k := ⟨i.toNat, by omega⟩
    have hkn : k < n := by omega
    have hk : dropOk l (k : Int) = true := by
      unfold dropOk
      rw [ok, decide_eq_true (show 0 ≤ (k : Int) by omega), decide_eq_true (show (k : Int) ≤ (l.q.length : Int) - 1 by have := HN.out; omega)]; rfl
    have HE : Hid (dropL l (k : Int) = ⟨l.q.take k ++ l.q.drop (k + 1), l.f, l.u⟩) := Lib.hid (by unfold dropL; rw [if_pos hk]; rfl)
    have HKk := Lib.hid hk
    obtain ⟨ab, ao, rfl⟩ : ∃ ab ao, a = some ⟨ab, ao, none⟩ := by
      rcases HFit.out with ⟨_, h0⟩ | ⟨ab, ao, c, e⟩
      · omega
      · injection e with e _ _
        exact ⟨ab, ao, e⟩
    clear ok hk
    go_enter Try.func25, Try.ntmps25
    go_upto_region 1 with fail
    rw [← HW.out, ← HR4.out, ← HR.out]
    go_wp2_with fail
    refine HG.out.mono ?_
    rintro e W2 ⟨rfl, l2⟩
    have HB2 := Lib.hid (HB.out.trans (l2.mono HB.out.size))
    have HA2 := Lib.hid (HA.out.below l2 HA.out.lt)
    have HT2 := Lib.hid (HT.out.below l2)
    clear l2 x0 x1 x2
    obtain ⟨x0, x1, x2⟩ := HT2.out.cells
    have hrw := HT2.out.row
    rw [← HN.out] at hrw
    obtain ⟨h1, _⟩ := row_slice hrw HN.out (show k ≤ n by omega)
    obtain ⟨_, o2, ho2, h3⟩ := row_slice hrw HN.out (show k + 1 ≤ n by omega)
    have HR1 := Lib.hid (fun (W : World) (hb : Below W2.heap.size W2 W) => h1.below hb (Nat.le_refl _))
    have HR3 := Lib.hid (fun (W : World) (hb : Below W2.heap.size W2 W) => h3.below hb (Nat.le_refl _))
    have HF1 : Hid (FitS (.slice (some ⟨ab, ao, none⟩) k cap) (l.q.take k).length) := Lib.hid (by
      rw [show (l.q.take k).length = k by rw [List.length_take, ← HN.out]; exact Nat.min_eq_left (by omega)]
      exact .inr ⟨_, _, rfl⟩)
    have HF3 : Hid (FitS (.slice (some ⟨ab, o2, none⟩) (n - (k + 1)) (cap - (k + 1))) (l.q.drop (k + 1)).length) := Lib.hid (by
      rw [show (l.q.drop (k + 1)).length = n - (k + 1) by rw [List.length_drop, ← HN.out]]
      exact .inr ⟨_, _, rfl⟩)
    have HL1 : Hid ((l.q.take k).length ≤ 100) := Lib.hid (by rw [List.length_take, ← HN.out]; omega)
    have HL3 : Hid ((l.q.drop (k + 1)).length ≤ 100) := Lib.hid (by rw [List.length_drop, ← HN.out]; omega)
    have i1 : (k : Int) ≤ (n : Int) := by omega
    have i2 : (n : Int) ≤ (cap : Int) := by omega
    have i3 : (0 : Int) ≤ (k : Int) := by omega
    have i4 : IntKind.i64.wrap ((k : Int) + 1) = (k : Int) + 1 := IntWalk.i64_in _ (by omega)
    have i5 : (0 : Int) ≤ (k : Int) + 1 := by omega
    have i6 : (k : Int) + 1 ≤ (n : Int) := by omega
    have i7 : ((k : Int) + 1).toNat = k + 1 := by omega
    have i8 : (k : Int) ≤ (cap : Int) := by omega
    have i9 : k ≤ cap := by omega
    have fx := HT2.out.lq.free 0
    obtain ⟨m, hm⟩ : ∃ m, m = (l.q.take k ++ l.q.drop (k + 1)).length := ⟨_, rfl⟩
    have HLn := Lib.hid hm.symm
    clear h1 h3 hrw hm
    go_upto_region 3 with fail
    go_region_law (first
      | (go_simp; go_at_call 68; refine (concatS2_any _ _ (l.q.take k) (l.q.drop (k + 1)) _ _ (HR1.out _ (by repeat (first | assumption | exact Below.refl _ _ | refine Below.drew ?_ | refine below_alloc' ?_))) HF1.out HL1.out (HR3.out _ (by repeat (first | assumption | exact Below.refl _ _ | refine Below.drew ?_ | refine below_alloc' ?_))) HF3.out HL3.out (by first | exact heap_alloc_new _ _ | exact heap_new_drew _ _)).mono ?_; rintro e W5 ⟨v5, rfl, o5, l5⟩; rw [HLn.out] at o5; obtain ⟨a5, c5, rfl, _, _⟩ := own_someS0 o5; have hb5 : Below W2.heap.size W2 W5 := below_call7 (by repeat (first | assumption | exact Below.refl _ _ | refine Below.drew ?_ | refine below_alloc' ?_) : Below W2.heap.size W2 _) l5; have HT5 := Lib.hid (HT2.out.lq.below hb5 HT2.out.lt); have fx5 := HT5.out.free 0; obtain ⟨z0, z1, z2⟩ := HT5.out.cells; clear l5; dsimp only))
    all_goals
      have HA5 := HA2.out.below hb5 HA2.out.lt
      have HB5 := HB2.out.trans (hb5.mono HB2.out.size)
      obtain ⟨p1, q1⟩ := HT5.out.put0 (.slice a5 m c5)
      have hltR := HT2.out.lt
      have hltA := HA2.out.lt
      have HO5 := Lib.hid (own_base o5 (show W2.heap.size ≤ _ by simp))
      have hap : (Value.slice a5 m c5).ownBlock = none ∨ (Value.slice a5 m c5).ownBlock ≠ some R := by
        cases hv : (Value.slice a5 m c5).ownBlock with
        | none => exact .inl rfl
        | some k => exact .inr (fun e => by have e3 : k = R := Option.some.inj e; have := (HO5.out.lt k hv).1; omega)
      have hap4 : (Value.slice a5 m c5).ownBlock = none ∨ (Value.slice a5 m c5).ownBlock ≠ some R4 := by
        cases hv : (Value.slice a5 m c5).ownBlock with
        | none => exact .inl rfl
        | some k => exact .inr (fun e => by have e3 : k = R4 := Option.some.inj e; have := (HO5.out.lt k hv).1; omega)
      have HAp := Lib.hid hap4
      have HA6 := Lib.hid (HA5.grown q1 (fun e => by have e2 : R4 = R := Option.some.inj e; have h1 := HR.out; have h2 := HR4.out; omega))
      have HO6 := Lib.hid (HO5.out.kept q1 hap)
      have HB6 := Lib.hid (HB5.grown q1 HB5.size (fun k hk => by have e2 : R = k := Option.some.inj hk; have := HR.out; omega))
      have HT6 := Lib.hid p1
      have HBs := Lib.hid HB2.out.size
      obtain ⟨W6, hW6⟩ : ∃ W6, W6 = W5.setCell ⟨R, 0, none⟩ (.slice a5 m c5) := ⟨_, rfl⟩
      rw [← hW6] at HA6 HO6 HB6 HT6 ⊢
      clear hW6 p1 q1 x0 x1 x2 fx fx5 z0 z1 z2 HA5 HB5 HO5 HT5 o5 hap hap4 hltR hltA hb5
      obtain ⟨x0, x1, x2⟩ := HT6.out.cells
      obtain ⟨y0, y1, y2⟩ := HA6.out.cells
      have f0 := HA6.out.free 0
      have f1 := HA6.out.free 1
      have f2 := HA6.out.free 2
      go_wp2_with fail
      obtain ⟨p1, q1⟩ := HA6.out.store (v' := .slice a5 m c5) (f' := l.f) (u' := l.u)
      refine bodyPost_ret (results_lk rfl _ _ R4 rfl rfl p1) rfl ⟨_, by rw [HE.out, HKk.out], ?_, HB6.out.grown q1 HB6.out.size (fun k hk => by have e2 : R4 = k := Option.some.inj hk; have := HR4.out; omega)⟩
      rw [HE.out]
      show World.ownsRow _ _ _ _ _ (l.q.take k ++ l.q.drop (k + 1)).length ((l.q.take k ++ l.q.drop (k + 1)).map Value.string)
      rw [HLn.out]
      exact own_base (HO6.out.kept q1 HAp.out) HBs.out
theorem drop_zero (l : Lk) : dropOk l 0 = takeOk l := by
  unfold dropOk takeOk
  congr 1
  rw [decide_eq_true (show (0 : Int) ≤ 0 by omega), Bool.true_and]
  by_cases h : l.q = []
  · rw [h]; rfl
  · have := List.length_pos_iff.2 h
    rw [decide_eq_true h, decide_eq_true (by omega)]
theorem take_bad {l : Lk} (h : takeOk l = false) : takeL l = lk0 ∧ takeS l = ⟨#[]⟩ := by
  unfold takeL takeS
  rw [h]
  exact ⟨rfl, rfl⟩
set_option maxRecDepth 100000 in
set_option maxHeartbeats 8000000 in
theorem implTake_any (v : Value) (l : Lk) (w : World) (hrow : Row w v l.q.length (l.q.map Value.string)) (hfit : FitA v l.q.length) :
    Calls Try.prog 23 #[.agg #[v, .string l.f, .int .i64 l.u]] w fun e w' => ∃ v', e = .returned (.tuple #[.agg #[v', .string (takeL l).f, .int .i64 (takeL l).u], .string (takeS l), .bool (takeOk l)]) ∧ w'.ownsRow w.heap.size 9 1 v' (takeL l).q.length ((takeL l).q.map Value.string) ∧ Below w.heap.size w w' := by
  obtain ⟨W, hW⟩ : ∃ W, W = (w.alloc (.cells #[v, .string l.f, .int .i64 l.u] 26)).alloc (.cells #[.slice none 0 0, .string ⟨#[]⟩, .int .i64 0] 26) := ⟨_, rfl⟩
  have hB : Below w.heap.size w W := by rw [hW]; exact ((Below.refl w.heap.size w).alloc (Nat.le_refl _) _).alloc (by simp) _
  have hT : Lb W w.heap.size v l := by rw [hW]; exact (Lb.new hrow).below ((Below.refl _ _).alloc (Nat.le_refl _) _)
  have hA : Lq W (w.heap.size + 1) (.slice none 0 0) ⟨#[]⟩ 0 := by
    rw [hW]
    have := Lq.new (w.alloc (.cells #[v, .string l.f, .int .i64 l.u] 26)) (.slice none 0 0) ⟨#[]⟩ 0
    rw [World.size_alloc] at this
    exact this
  have HW := Lib.hid hW
  have HB := Lib.hid hB
  have HA := Lib.hid hA
  have HT := Lib.hid hT
  have HG := Lib.hid (implDrop_any v l 0 W hT.row hfit)
  rw [drop_zero l] at HG
  obtain ⟨a, cap, rfl, hc1, hm1, hcell0⟩ := row_open hrow
  have HCell := Lib.hid hcell0
  have HFit := Lib.hid hfit
  clear hcell0
  unfold maxLen at hm1
  obtain ⟨R, hR⟩ : ∃ R, R = w.heap.size := ⟨_, rfl⟩
  obtain ⟨R4, hR4⟩ : ∃ R4, R4 = w.heap.size + 1 := ⟨_, rfl⟩
  rw [← hR] at HT
  rw [← hR4] at HA
  have HR := Lib.hid hR
  have HR4 := Lib.hid hR4
  obtain ⟨n, hN⟩ : ∃ n, n = l.q.length := ⟨_, rfl⟩
  rw [← hN] at hc1 HT HW HG HFit ⊢
  have HN := Lib.hid hN
  clear hW hB hT hA hR hR4 hrow hN hfit
  obtain ⟨x0, x1, x2⟩ := HT.out.cells
  cases ok : takeOk l with
  | false =>
    obtain ⟨e1, e2⟩ := take_bad ok
    have hd : dropL l 0 = lk0 := by unfold dropL; rw [drop_zero, ok]; rfl
    have HE1 := Lib.hid e1
    have HE2 := Lib.hid e2
    rw [hd, ok] at HG
    clear ok e1 e2 hd
    go_enter Try.func23, Try.ntmps23
    go_upto_region 1 with fail
    rw [← HW.out, ← HR4.out, ← HR.out]
    go_wp2_with fail
    refine HG.out.mono ?_
    rintro e W2 ⟨v2, rfl, o2, l2⟩
    obtain ⟨a2, c2, rfl, _, _⟩ := own_someS0 o2
    have HB2 := Lib.hid (HB.out.trans (l2.mono HB.out.size))
    have HA2 := Lib.hid (HA.out.below l2 HA.out.lt)
    clear l2 o2 x0 x1 x2
    obtain ⟨y0, y1, y2⟩ := HA2.out.cells
    have f0 := HA2.out.free 0
    have f1 := HA2.out.free 1
    have f2 := HA2.out.free 2
    have hltA := HA2.out.lt
    go_wp2_with fail
    obtain ⟨p1, q1⟩ := HA2.out.store (v' := .slice none 0 0) (f' := ⟨#[]⟩) (u' := 0)
    refine bodyPost_ret (results_lk2 rfl _ _ R4 rfl rfl rfl (p1.below ((Below.refl _ _).alloc (Nat.le_refl _) _) p1.lt)) rfl ⟨_, by rw [HE1.out, HE2.out]; rfl, by rw [HE1.out]; exact own_nilS _ _, (HB2.out.grown q1 HB2.out.size (fun k hk => by have e2 : R4 = k := Option.some.inj hk; have := HR4.out; omega)).alloc (by have := HB2.out.size; simp; omega) _⟩
  | true =>
    obtain ⟨_, hd, hq, hs⟩ := take_law ok
    rw [hd, ok] at HG
    obtain ⟨ab, ao, rfl⟩ : ∃ ab ao, a = some ⟨ab, ao, none⟩ := by
      rcases HFit.out with ⟨_, h0⟩ | ⟨ab, ao, c, e⟩
      · have := HN.out; omega
      · injection e with e _ _
        exact ⟨ab, ao, e⟩
    obtain ⟨hc0, hab, hab0⟩ : W.cell? ⟨ab, ao, none⟩ = some (.string (takeS l)) ∧ ab < W.heap.size ∧ ab < w.heap.size := by
      obtain ⟨b, off, e10, hb, hc⟩ := HCell.out 0 hq
      injection e10 with e10
      injection e10 with e10 e11 _
      subst e10; subst e11
      rw [Nat.add_zero] at hc
      rw [hs]
      exact ⟨(HB.out.cell (p := ⟨ab, ao, none⟩) hb).trans hc, Nat.lt_of_lt_of_le hb HB.out.size, hb⟩
    have HC0 := Lib.hid hc0
    have HAb := Lib.hid hab
    have HAb3 := Lib.hid hab0
    have hn0 : 0 < n := by have := HN.out; omega
    have hn0' : (0 : Int) < (n : Int) := by omega
    generalize takeS l = ts at HC0 ⊢
    obtain ⟨L, hL⟩ : ∃ L, L = takeL l := ⟨_, rfl⟩
    rw [← hL] at HG ⊢
    clear ok hd hq hs hc0 hab hab0 hL HCell
    go_enter Try.func23, Try.ntmps23
    go_upto_region 1 with fail
    rw [← HW.out, ← HR4.out, ← HR.out]
    go_wp2_with fail
    refine HG.out.mono ?_
    rintro e W2 ⟨v2, rfl, o2, l2⟩
    obtain ⟨a2, c2, rfl, _, _⟩ := own_someS0 o2
    have HO2 := Lib.hid o2
    have HB2 := Lib.hid (HB.out.trans (l2.mono HB.out.size))
    have HA2 := Lib.hid (HA.out.below l2 HA.out.lt)
    have HT2 := Lib.hid (HT.out.lq.below l2 HT.out.lt)
    have HC2 := Lib.hid ((l2.cell (p := ⟨ab, ao, none⟩) HAb.out).trans HC0.out)
    have HAb2 := Lib.hid (Nat.lt_of_lt_of_le HAb.out l2.size)
    have HBs := Lib.hid HB.out.size
    clear l2 o2 x0 x1 x2
    go_upto_region 4 with fail
    obtain ⟨W3, hW3⟩ : ∃ W3, W3 = W2.alloc (.cells #[.slice a2 L.q.length c2, .string L.f, .int .i64 L.u] 26) := ⟨_, rfl⟩
    have l3 : Below W2.heap.size W2 W3 := by rw [hW3]; exact (Below.refl _ _).alloc (Nat.le_refl _) _
    have HX3 : Hid (Lq W3 W2.heap.size (.slice a2 L.q.length c2) L.f L.u) := Lib.hid (by rw [hW3]; exact Lq.new W2 _ _ _)
    have HB3 := Lib.hid (HB2.out.trans (l3.mono HB2.out.size))
    have HA3 := Lib.hid (HA2.out.below l3 HA2.out.lt)
    have HT3 := Lib.hid (HT2.out.below l3 HT2.out.lt)
    have HO3 := Lib.hid (own_below HO2.out l3 (Nat.le_refl _))
    have HC3 := Lib.hid ((l3.cell (p := ⟨ab, ao, none⟩) HAb2.out).trans HC2.out)
    have hX4 : W2.heap.size ≠ R4 := by have := HA2.out.lt; omega
    have hR4' : R ≠ R4 := by have h1 := HR.out; have h2 := HR4.out; omega
    have hab4 : ab ≠ R4 := by
      have h1 := HR4.out
      have h2 := HAb3.out
      omega
    have hap : (Value.slice a2 L.q.length c2).ownBlock = none ∨ (Value.slice a2 L.q.length c2).ownBlock ≠ some R4 := by
      cases hv : (Value.slice a2 L.q.length c2).ownBlock with
      | none => exact .inl rfl
      | some k => exact .inr (fun e => by have e3 : k = R4 := Option.some.inj e; have := (HO2.out.lt k hv).1; have := HA.out.lt; omega)
    have HAp := Lib.hid hap
    rw [← hW3]
    obtain ⟨X, hX⟩ : ∃ X, X = W2.heap.size := ⟨_, rfl⟩
    rw [← hX] at HX3 hX4 ⊢
    clear hW3 l3 hX hap HA2 HT2 HO2 HC2
    obtain ⟨p1, q1⟩ := HA3.out.store (v' := .slice a2 L.q.length c2) (f' := L.f) (u' := L.u)
    obtain ⟨x0, x1, x2⟩ := HT3.out.cells
    obtain ⟨z0, z1, z2⟩ := HX3.out.cells
    obtain ⟨y0, y1, y2⟩ := HA3.out.cells
    have hc0 := HC3.out
    have f0 := HA3.out.free 0
    have f1 := HA3.out.free 1
    have f2 := HA3.out.free 2
    have s0 := q1.cell x0 (by intro e; exact hR4' (Option.some.inj e))
    have t0 := q1.cell z0 (by intro e; exact hX4 (Option.some.inj e))
    have t1 := q1.cell z1 (by intro e; exact hX4 (Option.some.inj e))
    have t2 := q1.cell z2 (by intro e; exact hX4 (Option.some.inj e))
    have c0 := q1.cell hc0 (by intro e; exact hab4 (Option.some.inj e))
    have HP1 := Lib.hid p1
    have HQ1 := Lib.hid q1
    clear p1 q1 hX4 hR4' hab4
    go_big_region
    go_wp2_with fail
    refine bodyPost_ret (results_lk2 rfl _ _ R4 rfl rfl rfl (HP1.out.below (Below.refl _ _).drew HP1.out.lt)) rfl ⟨_, rfl, ?_, (HB3.out.grown HQ1.out HB3.out.size (fun k hk => by have e2 : R4 = k := Option.some.inj hk; have := HR4.out; omega)).drew⟩
    exact own_base (own_grown (HO3.out.kept HQ1.out HAp.out) (grown_drew1 _)) HBs.out
end Go.Proofs.Ytbhhmaialilabaa
