/-
  Links: the program's validity, next letter, new link.
-/
import Derived.Test.YtbhhmaialilabaaLinkI
import Derived.Test.YtbhhmaialilabaaLinkS
import Derived.Test.YtbhhmaialilabaaAppRow
namespace Go.Proofs.Ytbhhmaialilabaa
open Go.RowKit Go.Lib Go.Joins
set_option linter.unusedVariables false

set_option maxRecDepth 100000 in
set_option maxHeartbeats 2000000 in
theorem implIsLink_any (v : Value) (l : Lk) (w : World) (hrow : Row w v l.q.length (l.q.map Value.string)) :
    Calls Try.prog 21 #[.agg #[v, .string l.f, .int .i64 l.u]] w fun e w' => e = .returned (.bool (lkOk l)) ∧ Below w.heap.size w w' := by
  obtain ⟨W, hW⟩ : ∃ W, W = w.alloc (.cells #[v, .string l.f, .int .i64 l.u] 26) := ⟨_, rfl⟩
  have HT : Hid (Lb W w.heap.size v l) := Lib.hid (by rw [hW]; exact Lb.new hrow)
  have HB : Hid (Below w.heap.size w W) := Lib.hid (by rw [hW]; exact (Below.refl w.heap.size w).alloc (Nat.le_refl _) _)
  have HW := Lib.hid hW
  clear hW
  have HC := Lib.hid (containsFuncS_any (fun s => !shortB s) v l.q 59 #[] W HT.out.row (enters_of Try.func59 (by kernel_rfl) rfl) (fun x => tooLong_any x W))
  have HF := Lib.hid (fun W1 => areFates_any l.f W1)
  have HE := Lib.hid (lkOk_are l)
  obtain ⟨a, cap, rfl, hc1, hm1, _⟩ := row_open hrow
  clear hrow
  unfold maxLen at hm1
  obtain ⟨n, hN⟩ : ∃ n, n = l.q.length := ⟨_, rfl⟩
  rw [← hN] at hc1 HT HW HC HE ⊢
  clear hN
  obtain ⟨R, hR⟩ : ∃ R, R = w.heap.size := ⟨_, rfl⟩
  rw [← hR] at HT
  have HR := Lib.hid hR
  clear hR
  obtain ⟨x0, x1, x2⟩ := HT.out.cells
  generalize (l.q.any fun s => !shortB s) = an at HC HE
  generalize areB l.f = ar at HF HE
  generalize lkOk l = goal at HE ⊢
  by_cases h8 : 8 < n
  · have h8' : (8 : Int) < (n : Int) := by omega
    have HG : Hid (goal = false) := Lib.hid (by rw [HE.out, decide_eq_true h8]; rfl)
    clear HE HC HF h8
    go_enter Try.func21, Try.ntmps21
    go_upto_region 1 with fail
    rw [← HW.out, ← HR.out]
    go_wp2_with fail
    go_ret
    exact ⟨ret_bool HG.out.symm, HB.out⟩
  have h8' : ¬ (8 : Int) < (n : Int) := by omega
  rw [decide_eq_false h8] at HE
  clear h8
  cases an with
  | true =>
    have HG : Hid (goal = false) := Lib.hid HE.out
    clear HE HF
    go_enter Try.func21, Try.ntmps21
    go_upto_region 1 with fail
    rw [← HW.out, ← HR.out]
    go_wp2_with fail
    refine HC.out.mono ?_
    rintro e W2 ⟨rfl, rfl⟩
    go_wp2_with fail
    go_ret
    exact ⟨ret_bool HG.out.symm, HB.out⟩
  | false =>
    cases ar with
    | false =>
      have HG : Hid (goal = false) := Lib.hid HE.out
      clear HE
      go_enter Try.func21, Try.ntmps21
      go_upto_region 1 with fail
      rw [← HW.out, ← HR.out]
      go_wp2_with fail
      refine HC.out.mono ?_
      rintro e W2 ⟨rfl, rfl⟩
      go_wp2_with fail
      refine (HF.out _).mono ?_
      rintro e W2 ⟨rfl, l2⟩
      have HB2 := Lib.hid (HB.out.trans (l2.mono HB.out.size))
      clear l2
      go_wp2_with fail
      go_ret
      exact ⟨ret_bool HG.out.symm, HB2.out⟩
    | true =>
      by_cases h0 : 0 ≤ l.u
      · by_cases h1 : l.u ≤ l.f.size
        · have HG : Hid (goal = true) := Lib.hid (by rw [HE.out, decide_eq_true h0, decide_eq_true h1]; rfl)
          clear HE
          go_enter Try.func21, Try.ntmps21
          go_upto_region 1 with fail
          rw [← HW.out, ← HR.out]
          go_wp2_with fail
          refine HC.out.mono ?_
          rintro e W2 ⟨rfl, rfl⟩
          go_wp2_with fail
          refine (HF.out _).mono ?_
          rintro e W2 ⟨rfl, l2⟩
          have HB2 := Lib.hid (HB.out.trans (l2.mono HB.out.size))
          have HT2 := Lib.hid (HT.out.below l2)
          clear l2 x0 x1 x2
          obtain ⟨x0, x1, x2⟩ := HT2.out.cells
          go_wp2_with fail
          go_ret
          exact ⟨ret_bool HG.out.symm, HB2.out⟩
        · have HG : Hid (goal = false) := Lib.hid (by rw [HE.out, decide_eq_true h0, decide_eq_false h1]; rfl)
          clear HE
          go_enter Try.func21, Try.ntmps21
          go_upto_region 1 with fail
          rw [← HW.out, ← HR.out]
          go_wp2_with fail
          refine HC.out.mono ?_
          rintro e W2 ⟨rfl, rfl⟩
          go_wp2_with fail
          refine (HF.out _).mono ?_
          rintro e W2 ⟨rfl, l2⟩
          have HB2 := Lib.hid (HB.out.trans (l2.mono HB.out.size))
          have HT2 := Lib.hid (HT.out.below l2)
          clear l2 x0 x1 x2
          obtain ⟨x0, x1, x2⟩ := HT2.out.cells
          go_wp2_with fail
          go_ret
          exact ⟨ret_bool (by rw [HG.out]; exact decide_eq_false (by omega)), HB2.out⟩
      · have HG : Hid (goal = false) := Lib.hid (by rw [HE.out, decide_eq_false h0]; rfl)
        clear HE
        go_enter Try.func21, Try.ntmps21
        go_upto_region 1 with fail
        rw [← HW.out, ← HR.out]
        go_wp2_with fail
        refine HC.out.mono ?_
        rintro e W2 ⟨rfl, rfl⟩
        go_wp2_with fail
        refine (HF.out _).mono ?_
        rintro e W2 ⟨rfl, l2⟩
        have HB2 := Lib.hid (HB.out.trans (l2.mono HB.out.size))
        have HT2 := Lib.hid (HT.out.below l2)
        clear l2 x0 x1 x2
        obtain ⟨x0, x1, x2⟩ := HT2.out.cells
        go_wp2_with fail
        go_ret
        exact ⟨ret_bool HG.out.symm, HB2.out⟩
set_option maxRecDepth 100000 in
set_option maxHeartbeats 2000000 in
theorem implNextFate_any (v : Value) (l : Lk) (w : World) (hrow : Row w v l.q.length (l.q.map Value.string)) :
    Calls Try.prog 19 #[.agg #[v, .string l.f, .int .i64 l.u]] w fun e w' => e = .returned (.tuple #[.int .u8 ((nextFate l).toNat : Int), .bool (lkOk l)]) ∧ Below w.heap.size w w' := by
  obtain ⟨W, hW⟩ : ∃ W, W = w.alloc (.cells #[v, .string l.f, .int .i64 l.u] 26) := ⟨_, rfl⟩
  have HT : Hid (Lb W w.heap.size v l) := Lib.hid (by rw [hW]; exact Lb.new hrow)
  have HB : Hid (Below w.heap.size w W) := Lib.hid (by rw [hW]; exact (Below.refl w.heap.size w).alloc (Nat.le_refl _) _)
  have HW := Lib.hid hW
  have HG := Lib.hid (implIsLink_any v l W HT.out.row)
  obtain ⟨x0, x1, x2⟩ := HT.out.cells
  obtain ⟨R, hR⟩ : ∃ R, R = w.heap.size := ⟨_, rfl⟩
  rw [← hR] at x0 x1 x2 HT
  have HR := Lib.hid hR
  clear hW hR hrow
  cases ok : lkOk l with
  | false =>
    rw [ok] at HG
    have HE : Hid (nextFate l = 0) := Lib.hid (by unfold nextFate; rw [ok]; rfl)
    clear ok
    go_enter Try.func19, Try.ntmps19
    go_upto_region 1 with fail
    rw [← HW.out, ← HR.out]
    go_wp2_with fail
    refine HG.out.mono ?_
    rintro e W2 ⟨rfl, l2⟩
    have HB2 := Lib.hid (HB.out.trans (l2.mono HB.out.size))
    clear l2
    go_wp2_with fail
    go_ret2
    exact ⟨by rw [HE.out]; rfl, HB2.out⟩
  | true =>
    rw [ok] at HG
    have hnf : nextFate l = fateB l := if_pos ok
    by_cases he : l.u = l.f.size
    · have HE : Hid (nextFate l = 107) := Lib.hid (by rw [hnf]; exact fateB_end he)
      have hd : (l.u == (l.f.size : Int)) = true := by simp; exact he
      clear ok hnf he
      go_enter Try.func19, Try.ntmps19
      go_upto_region 1 with fail
      rw [← HW.out, ← HR.out]
      go_wp2_with fail
      refine HG.out.mono ?_
      rintro e W2 ⟨rfl, l2⟩
      have HB2 := Lib.hid (HB.out.trans (l2.mono HB.out.size))
      have HT2 := Lib.hid (HT.out.below l2)
      clear l2 x0 x1 x2
      obtain ⟨x0, x1, x2⟩ := HT2.out.cells
      go_wp2_with fail
      go_ret2
      exact ⟨by rw [HE.out]; rfl, HB2.out⟩
    · obtain ⟨k, hk, e1, e2⟩ := fateB_at ok he
      have HE : Hid (nextFate l = l.f[k]) := Lib.hid (by rw [hnf]; exact e2)
      have hd : (l.u == (l.f.size : Int)) = false := by simp; exact he
      clear ok hnf he e2
      have HTk : Hid (Lq W R v l.f (k : Int)) := Lib.hid (by rw [← e1]; exact HT.out.lq)
      rw [e1] at x2 hd HW HG ⊢
      clear e1 HT
      go_enter Try.func19, Try.ntmps19
      go_upto_region 1 with fail
      rw [← HW.out, ← HR.out]
      go_wp2_with fail
      refine HG.out.mono ?_
      rintro e W2 ⟨rfl, l2⟩
      have HB2 := Lib.hid (HB.out.trans (l2.mono HB.out.size))
      have HT2 := Lib.hid (HTk.out.below l2 HTk.out.lt)
      clear l2 x0 x1 x2
      obtain ⟨x0, x1, x2⟩ := HT2.out.cells
      go_wp2_with fail
      go_ret2
      exact ⟨by rw [HE.out]; rfl, HB2.out⟩
set_option maxRecDepth 100000 in
set_option maxHeartbeats 1000000 in
theorem implNewLink_any (f : ByteArray) (w : World) :
    Calls Try.prog 29 #[.string f] w fun e w' => ∃ v', e = .returned (.tuple #[.agg #[v', .string (newL f).f, .int .i64 (newL f).u], .bool (newOk f)]) ∧ w'.ownsRow w.heap.size 9 1 v' (newL f).q.length ((newL f).q.map Value.string) ∧ Below w.heap.size w w' := by
  obtain ⟨W, hW⟩ : ∃ W, W = w.alloc (.cells #[.slice none 0 0, .string ⟨#[]⟩, .int .i64 0] 26) := ⟨_, rfl⟩
  have hB : Below w.heap.size w W := by rw [hW]; exact (Below.refl w.heap.size w).alloc (Nat.le_refl _) _
  have hA : Lq W w.heap.size (.slice none 0 0) ⟨#[]⟩ 0 := by rw [hW]; exact Lq.new w _ _ _
  have HW := Lib.hid hW
  have HB := Lib.hid hB
  have HA := Lib.hid hA
  have HG := Lib.hid (areFates_any f W)
  have HN : Hid (newOk f = false → newL f = lk0) := Lib.hid (fun h => by unfold newL; rw [h]; rfl)
  have HY : Hid (newOk f = true → newL f = ⟨[], f, 0⟩) := Lib.hid (fun h => if_pos h)
  rw [← newOk_are f] at HG
  obtain ⟨R, hR⟩ : ∃ R, R = w.heap.size := ⟨_, rfl⟩
  rw [← hR] at HA
  have HR := Lib.hid hR
  clear hW hB hA hR
  generalize newL f = L at HN HY ⊢
  generalize newOk f = ok at HG HN HY ⊢
  cases ok with
  | false =>
    have HE := Lib.hid (HN.out rfl)
    clear HN HY
    go_enter Try.func29, Try.ntmps29
    go_upto_region 1 with fail
    rw [← HW.out, ← HR.out]
    go_wp2_with fail
    refine HG.out.mono ?_
    rintro e W2 ⟨rfl, l2⟩
    have HB2 := Lib.hid (HB.out.trans (l2.mono HB.out.size))
    have HA2 := Lib.hid (HA.out.below l2 HA.out.lt)
    clear l2
    obtain ⟨y0, y1, y2⟩ := HA2.out.cells
    have f0 := HA2.out.free 0
    have f1 := HA2.out.free 1
    have f2 := HA2.out.free 2
    go_wp2_with fail
    obtain ⟨p1, q1⟩ := HA2.out.store (v' := .slice none 0 0) (f' := ⟨#[]⟩) (u' := 0)
    refine bodyPost_ret (results_lk rfl _ _ R rfl rfl p1) rfl ⟨_, by rw [HE.out]; rfl, by rw [HE.out]; exact own_nilS _ _, HB2.out.grown q1 HB2.out.size (fun k hk => by have e2 : R = k := Option.some.inj hk; have := HR.out; omega)⟩
  | true =>
    have HE := Lib.hid (HY.out rfl)
    clear HN HY
    go_enter Try.func29, Try.ntmps29
    go_upto_region 1 with fail
    rw [← HW.out, ← HR.out]
    go_wp2_with fail
    refine HG.out.mono ?_
    rintro e W2 ⟨rfl, l2⟩
    have HB2 := Lib.hid (HB.out.trans (l2.mono HB.out.size))
    have HA2 := Lib.hid (HA.out.below l2 HA.out.lt)
    clear l2
    obtain ⟨y0, y1, y2⟩ := HA2.out.cells
    have f0 := HA2.out.free 0
    have f1 := HA2.out.free 1
    have f2 := HA2.out.free 2
    have hlt := HA2.out.lt
    have hne : R ≠ W2.heap.size := by omega
    go_wp2_with fail
    obtain ⟨p1, q1⟩ := HA2.out.store (v' := .slice (some ⟨W2.heap.size, 0, none⟩) 0 0) (f' := f) (u' := 0)
    have hsz : ((((W2.setCell ⟨R, 0, none⟩ (.slice (some ⟨W2.heap.size, 0, none⟩) 0 0)).setCell ⟨R, 1, none⟩ (.string f)).setCell ⟨R, 2, none⟩ (.int .i64 0))).heap.size = W2.heap.size := by simp
    refine bodyPost_ret (results_lk rfl _ _ R rfl rfl (p1.below ((Below.refl _ _).alloc (Nat.le_refl _) _) p1.lt)) rfl ⟨_, by rw [HE.out], ?_, (HB2.out.grown q1 HB2.out.size (fun k hk => by have e2 : R = k := Option.some.inj hk; have := HR.out; omega)).alloc (by have := HB2.out.size; omega) _⟩
    rw [HE.out]
    have h := heap_alloc_new (((W2.setCell ⟨R, 0, none⟩ (.slice (some ⟨W2.heap.size, 0, none⟩) 0 0)).setCell ⟨R, 1, none⟩ (.string f)).setCell ⟨R, 2, none⟩ (.int .i64 0)) (.cells #[] 9)
    rw [hsz] at h
    exact own_base (own_lit h (Nat.le_refl _)) HB2.out.size
end Go.Proofs.Ytbhhmaialilabaa
