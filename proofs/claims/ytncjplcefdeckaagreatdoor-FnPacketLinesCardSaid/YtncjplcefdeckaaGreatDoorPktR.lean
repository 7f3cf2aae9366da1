/-
  Packets: 'RepairOf' of both packages.
-/
import Derived.Test.YtncjplcefdeckaaGreatDoorPktI
import Derived.Test.YtncjplcefdeckaaGreatDoorPkt4
namespace Go.Proofs.YtncjplcefdeckaaGreatDoor
open Go.RowKit Go.Lib Go.Joins
set_option linter.unusedVariables false

def repOk (k n t l : Int) (d : ByteArray) (tr le : Int) : Bool := pktOk k n t l d && (decide (k = 1) && pktOk 2 n tr le d)
def repV (k n t l : Int) (d : ByteArray) (tr le : Int) : Value := if repOk k n t l d tr le = true then pv 2 n tr le d else pv 0 0 0 0 ⟨#[]⟩
theorem repV_no {k n t l : Int} {d : ByteArray} {tr le : Int} (h : repOk k n t l d tr le = false) : repV k n t l d tr le = pv 0 0 0 0 ⟨#[]⟩ := by unfold repV; rw [h]; rfl
theorem repV_yes {k n t l : Int} {d : ByteArray} {tr le : Int} (h : repOk k n t l d tr le = true) : repV k n t l d tr le = pv 2 n tr le d := if_pos h
theorem repV_form (k n t l : Int) (d : ByteArray) (tr le : Int) : ∃ k' n' t' l' d', repV k n t l d tr le = pv k' n' t' l' d' := by
  cases h : repOk k n t l d tr le with
  | false => exact ⟨_, _, _, _, _, repV_no h⟩
  | true => exact ⟨_, _, _, _, _, repV_yes h⟩
theorem Pb.store3 {w : World} {g : Nat} {k n t l k' t' l' : Int} {d : ByteArray} (h : Pb w g k n t l d) :
    Pb (((w.setCell ⟨g, 0, none⟩ (.int .i64 k')).setCell ⟨g, 2, none⟩ (.int .i64 t')).setCell ⟨g, 3, none⟩ (.int .i64 l')) g k' n t' l' d ∧
    w.grownBy (((w.setCell ⟨g, 0, none⟩ (.int .i64 k')).setCell ⟨g, 2, none⟩ (.int .i64 t')).setCell ⟨g, 3, none⟩ (.int .i64 l')) (some g) := by
  obtain ⟨a1, b1⟩ := Pb.set (i := 0) h (.int .i64 k')
  obtain ⟨a3, b3⟩ := Pb.set (i := 2) a1 (.int .i64 t')
  obtain ⟨a4, b4⟩ := Pb.set (i := 3) a3 (.int .i64 l')
  refine ⟨?_, grown_trans (grown_trans b1 b3) b4⟩
  unfold Pb
  rw [a4]
  rfl
theorem Pb.grown {w w' : World} {g g2 : Nat} {k n t l : Int} {d : ByteArray} (h : Pb w g k n t l d) (hg : w.grownBy w' (some g2)) (hne : g ≠ g2) : Pb w' g k n t l d := (hg.block g h.lt (by intro e; exact hne (Option.some.inj e))).trans h
theorem heap_third (w : World) (A B C : Obj) : (((w.alloc A).alloc B).alloc C).heap[w.heap.size + 1 + 1]? = some C := by
  have h := heap_alloc_new ((w.alloc A).alloc B) C
  rw [show ((w.alloc A).alloc B).heap.size = w.heap.size + 1 + 1 by simp] at h
  exact h
set_option maxHeartbeats 1000000 in
theorem implRepair_any (k n t l : Int) (d : ByteArray) (tr le : Int) (w : World) (hd : d.size ≤ maxLen) :
    Calls Tryz.prog 12 #[pv k n t l d, .int .i64 tr, .int .i64 le] w fun e w' => e = .returned (.tuple #[repV k n t l d tr le, .bool (repOk k n t l d tr le)]) ∧ Below w.heap.size w w' := by
  obtain ⟨W0, hW0⟩ : ∃ W0, W0 = (w.alloc (.cells #[.int .i64 k, .int .i64 n, .int .i64 t, .int .i64 l, .string d] 25)).alloc (.cells #[.int .i64 0, .int .i64 0, .int .i64 0, .int .i64 0, .string ⟨#[]⟩] 25) := ⟨_, rfl⟩
  have HA0 : Hid (Pb W0 w.heap.size k n t l d) := Lib.hid (by rw [hW0]; exact heap_alloc2_old w _ _)
  have HR0 : Hid (Pb W0 (w.heap.size + 1) 0 0 0 0 ⟨#[]⟩) := Lib.hid (by rw [hW0]; exact heap_alloc2_new w _ _)
  have HB0 : Hid (Below w.heap.size w W0) := Lib.hid (by rw [hW0]; exact ((Below.refl _ _).alloc (Nat.le_refl _) _).alloc (by simp) _)
  have HW0 := Lib.hid hW0
  clear hW0
  by_cases hk : k = 1
  · subst hk
    have HV := Lib.hid (fun w => implValid_any 1 n t l d w hd)
    cases hp : pktOk 1 n t l d with
    | false =>
      rw [hp] at HV
      have HO : Hid (repOk 1 n t l d tr le = false) := Lib.hid (by unfold repOk; rw [hp]; rfl)
      clear hp
      unfold pv at HV ⊢
      go_enter Tryz.func12, Tryz.ntmps12
      go_wp2_with fail
      rw [← HW0.out]
      refine (HV.out _).mono ?_
      rintro e W1 ⟨rfl, lW⟩
      have HB1 := Lib.hid (HB0.out.trans (lW.mono HB0.out.size))
      have HR1 := Lib.hid (HR0.out.below lW HR0.out.lt)
      clear lW HA0 HR0 HB0 HW0 HV
      have f0 := HR1.out.free 0
      have f1 := HR1.out.free 1
      have f2 := HR1.out.free 2
      have f3 := HR1.out.free 3
      have f4 := HR1.out.free 4
      obtain ⟨r0, r1, r2, r3, r4⟩ := HR1.out.cells
      go_wp2_with fail
      obtain ⟨hp1, hg1⟩ := HR1.out.store (k' := 0) (n' := 0) (t' := 0) (l' := 0) (d' := ⟨#[]⟩)
      refine bodyPost_ret (results_pkt rfl _ _ (w.heap.size + 1) rfl rfl hp1) rfl ⟨ret_vb (repV_no HO.out).symm HO.out.symm, ?_⟩
      exact HB1.out.grown hg1 HB1.out.size (fun k hk => by have e : w.heap.size + 1 = k := Option.some.inj hk; omega)
    | true =>
      rw [hp] at HV
      have HO : Hid (repOk 1 n t l d tr le = pktOk 2 n tr le d) := Lib.hid (by unfold repOk; rw [hp]; rfl)
      have HV2 := Lib.hid (fun w => implValid_any 2 n tr le d w hd)
      clear hp
      unfold pv at HV HV2 ⊢
      go_enter Tryz.func12, Tryz.ntmps12
      go_wp2_with fail
      rw [← HW0.out]
      refine (HV.out _).mono ?_
      rintro e W1 ⟨rfl, lW⟩
      have HB1 := Lib.hid (HB0.out.trans (lW.mono HB0.out.size))
      have HR1 := Lib.hid (HR0.out.below lW HR0.out.lt)
      have HA1 := Lib.hid (HA0.out.below lW HA0.out.lt)
      clear lW HA0 HR0 HB0 HW0 HV
      have f0 := HA1.out.free 0
      have f2 := HA1.out.free 2
      have f3 := HA1.out.free 3
      obtain ⟨r0, r1, r2, r3, r4⟩ := HA1.out.cells
      go_upto_region 4 with fail
      obtain ⟨a2, g2⟩ := HA1.out.store3 (k' := 2) (t' := tr) (l' := le)
      obtain ⟨W2, hW2⟩ : ∃ W2, W2 = (((W1.setCell ⟨w.heap.size, 0, none⟩ (.int .i64 2)).setCell ⟨w.heap.size, 2, none⟩ (.int .i64 tr)).setCell ⟨w.heap.size, 3, none⟩ (.int .i64 le)) := ⟨_, rfl⟩
      rw [← hW2] at a2 g2 ⊢
      clear hW2 f0 f2 f3 r0 r1 r2 r3 r4
      have HA2 := Lib.hid a2
      have HR2 := Lib.hid (HR1.out.grown g2 (by omega))
      have HB2 := Lib.hid (HB1.out.grown g2 HB1.out.size (fun k hk => by have e : w.heap.size = k := Option.some.inj hk; omega))
      clear a2 g2 HA1 HR1 HB1
      obtain ⟨r0, r1, r2, r3, r4⟩ := HA2.out.cells
      go_wp2_with fail
      refine (HV2.out _).mono ?_
      rintro e W3 ⟨rfl, l3⟩
      have HB3 := Lib.hid (HB2.out.trans (l3.mono HB2.out.size))
      have HR3 := Lib.hid (HR2.out.below l3 HR2.out.lt)
      have HA3 := Lib.hid (HA2.out.below l3 HA2.out.lt)
      clear l3 HA2 HR2 HB2 HV2 r0 r1 r2 r3 r4
      obtain ⟨r0, r1, r2, r3, r4⟩ := HA3.out.cells
      have f0 := HR3.out.free 0
      have f1 := HR3.out.free 1
      have f2 := HR3.out.free 2
      have f3 := HR3.out.free 3
      have f4 := HR3.out.free 4
      obtain ⟨s0, s1, s2, s3, s4⟩ := HR3.out.cells
      cases hp2 : pktOk 2 n tr le d with
      | false =>
        have HO2 : Hid (repOk 1 n t l d tr le = false) := Lib.hid (by rw [HO.out]; exact hp2)
        clear hp2
        go_wp2_with fail
        obtain ⟨hp1, hg1⟩ := HR3.out.store (k' := 0) (n' := 0) (t' := 0) (l' := 0) (d' := ⟨#[]⟩)
        refine bodyPost_ret (results_pkt rfl _ _ (w.heap.size + 1) rfl rfl hp1) rfl ⟨ret_vb (repV_no HO2.out).symm HO2.out.symm, ?_⟩
        exact HB3.out.grown hg1 HB3.out.size (fun k hk => by have e : w.heap.size + 1 = k := Option.some.inj hk; omega)
      | true =>
        have HO2 : Hid (repOk 1 n t l d tr le = true) := Lib.hid (by rw [HO.out]; exact hp2)
        clear hp2
        go_wp2_with fail
        obtain ⟨hp1, hg1⟩ := HR3.out.store (k' := 2) (n' := n) (t' := tr) (l' := le) (d' := d)
        refine bodyPost_ret (results_pkt rfl _ _ (w.heap.size + 1) rfl rfl hp1) rfl ⟨ret_vb (repV_yes HO2.out).symm HO2.out.symm, ?_⟩
        exact HB3.out.grown hg1 HB3.out.size (fun k hk => by have e : w.heap.size + 1 = k := Option.some.inj hk; omega)
  · have HO : Hid (repOk k n t l d tr le = false) := Lib.hid (by unfold repOk; rw [decide_eq_false hk]; simp)
    have hk' : (k != 1) = true := by simpa using hk
    have hR : Pb ((w.alloc (.cells #[.int .i64 k, .int .i64 n, .int .i64 t, .int .i64 l, .string d] 25)).alloc (.cells #[.int .i64 0, .int .i64 0, .int .i64 0, .int .i64 0, .string ⟨#[]⟩] 25)) (w.heap.size + 1) 0 0 0 0 ⟨#[]⟩ := heap_alloc2_new w _ _
    have HRR := Lib.hid hR
    clear HA0 HR0 HW0 hk hR HB0
    unfold pv
    go_enter Tryz.func12, Tryz.ntmps12
    go_wp2_with fail
    refine bodyPost_ret (results_pkt rfl _ _ (w.heap.size + 1) rfl rfl HRR.out) rfl ⟨ret_vb (repV_no HO.out).symm HO.out.symm, ?_⟩
    exact ((Below.refl _ _).alloc (Nat.le_refl _) _).alloc (by simp) _
set_option maxHeartbeats 1000000 in
theorem specRepair_any (k n t l : Int) (d : ByteArray) (tr le : Int) (w : World) (hd : d.size ≤ maxLen) :
    Calls Tryz.prog 13 #[pv k n t l d, .int .i64 tr, .int .i64 le] w fun e w' => e = .returned (.tuple #[repV k n t l d tr le, .bool (repOk k n t l d tr le)]) ∧ Below w.heap.size w w' := by
  obtain ⟨W0, hW0⟩ : ∃ W0, W0 = ((w.alloc (.cells #[.int .i64 k, .int .i64 n, .int .i64 t, .int .i64 l, .string d] 25)).alloc (.cells #[.int .i64 0, .int .i64 0, .int .i64 0, .int .i64 0, .string ⟨#[]⟩] 25)).alloc (.cells #[.int .i64 2, .int .i64 n, .int .i64 tr, .int .i64 le, .string d] 25) := ⟨_, rfl⟩
  have HA0 : Hid (Pb W0 w.heap.size k n t l d) := Lib.hid (by rw [hW0]; exact (heap_alloc_old _ _ (by simp; omega)).trans (heap_alloc2_old w _ _))
  have HR0 : Hid (Pb W0 (w.heap.size + 1) 0 0 0 0 ⟨#[]⟩) := Lib.hid (by rw [hW0]; exact (heap_alloc_old _ _ (by simp)).trans (heap_alloc2_new w _ _))
  have HO0 : Hid (Pb W0 (w.heap.size + 1 + 1) 2 n tr le d) := Lib.hid (by rw [hW0]; exact heap_third w _ _ _)
  have HB0 : Hid (Below w.heap.size w W0) := Lib.hid (by rw [hW0]; exact (((Below.refl _ _).alloc (Nat.le_refl _) _).alloc (by simp) _).alloc (by simp; omega) _)
  have HW0 := Lib.hid hW0
  have HV := Lib.hid (fun w => l4Good_any k n t l d w hd)
  have HV2 := Lib.hid (fun w => l4Good_any 2 n tr le d w hd)
  have hO : repOk k n t l d tr le = (pktOk k n t l d && (decide (k = 1) && pktOk 2 n tr le d)) := rfl
  have tokA : True := trivial
  clear hW0
  unfold pv at HV HV2 ⊢
  go_enter Tryz.func13, Tryz.ntmps13
  go_upto_region 2 with fail
  rw [← HW0.out]
  clear HW0
  obtain ⟨a0, a1, a2, a3, a4⟩ := HA0.out.cells
  cases hp : pktOk k n t l d with
  | false =>
    rw [hp] at HV hO
    have HO := Lib.hid (hO.trans (Bool.false_and _))
    clear hp hO
    go_wp2_with fail
    refine (HV.out _).mono ?_
    rintro e W1 ⟨rfl, lW⟩
    have HB1 := Lib.hid (HB0.out.trans (lW.mono HB0.out.size))
    have HR1 := Lib.hid (HR0.out.below lW HR0.out.lt)
    clear lW HA0 HR0 HB0 HO0 HV a0 a1 a2 a3 a4
    have f0 := HR1.out.free 0
    have f1 := HR1.out.free 1
    have f2 := HR1.out.free 2
    have f3 := HR1.out.free 3
    have f4 := HR1.out.free 4
    obtain ⟨r0, r1, r2, r3, r4⟩ := HR1.out.cells
    go_wp2_with fail
    obtain ⟨hp1, hg1⟩ := HR1.out.store (k' := 0) (n' := 0) (t' := 0) (l' := 0) (d' := ⟨#[]⟩)
    refine bodyPost_ret (results_pkt rfl _ _ (w.heap.size + 1) rfl rfl hp1) rfl ⟨ret_vb (repV_no HO.out).symm HO.out.symm, ?_⟩
    exact HB1.out.grown hg1 HB1.out.size (fun k hk => by have e : w.heap.size + 1 = k := Option.some.inj hk; omega)
  | true =>
    rw [hp, Bool.true_and] at hO
    rw [hp] at HV
    clear hp
    by_cases hk : k = 1
    · subst hk
      have HO := Lib.hid (hO.trans (by rw [decide_eq_true rfl, Bool.true_and]))
      clear hO
      go_wp2_with fail
      refine (HV.out _).mono ?_
      rintro e W1 ⟨rfl, lW⟩
      have HB1 := Lib.hid (HB0.out.trans (lW.mono HB0.out.size))
      have HR1 := Lib.hid (HR0.out.below lW HR0.out.lt)
      have HA1 := Lib.hid (HA0.out.below lW HA0.out.lt)
      have HO1 := Lib.hid (HO0.out.below lW HO0.out.lt)
      clear lW HA0 HR0 HB0 HO0 HV a0 a1 a2 a3 a4
      obtain ⟨a0, a1, a2, a3, a4⟩ := HA1.out.cells
      obtain ⟨o0, o1, o2, o3, o4⟩ := HO1.out.cells
      go_wp2_with fail
      refine (HV2.out _).mono ?_
      rintro e W3 ⟨rfl, l3⟩
      have HB3 := Lib.hid (HB1.out.trans (l3.mono HB1.out.size))
      have HR3 := Lib.hid (HR1.out.below l3 HR1.out.lt)
      have HO3 := Lib.hid (HO1.out.below l3 HO1.out.lt)
      clear l3 HA1 HR1 HB1 HO1 HV2 a0 a1 a2 a3 a4 o0 o1 o2 o3 o4
      obtain ⟨r0, r1, r2, r3, r4⟩ := HR3.out.cells
      obtain ⟨o0, o1, o2, o3, o4⟩ := HO3.out.cells
      have f0 := HR3.out.free 0
      have f1 := HR3.out.free 1
      have f2 := HR3.out.free 2
      have f3 := HR3.out.free 3
      have f4 := HR3.out.free 4
      cases hp2 : pktOk 2 n tr le d with
      | false =>
        have HO2 := Lib.hid (HO.out.trans hp2)
        clear hp2
        go_wp2_with fail
        obtain ⟨hp1, hg1⟩ := HR3.out.store (k' := 0) (n' := 0) (t' := 0) (l' := 0) (d' := ⟨#[]⟩)
        refine bodyPost_ret (results_pkt rfl _ _ (w.heap.size + 1) rfl rfl hp1) rfl ⟨ret_vb (repV_no HO2.out).symm HO2.out.symm, ?_⟩
        exact HB3.out.grown hg1 HB3.out.size (fun k hk => by have e : w.heap.size + 1 = k := Option.some.inj hk; omega)
      | true =>
        have HO2 := Lib.hid (HO.out.trans hp2)
        clear hp2
        go_wp2_with fail
        obtain ⟨hp1, hg1⟩ := HR3.out.store (k' := 2) (n' := n) (t' := tr) (l' := le) (d' := d)
        refine bodyPost_ret (results_pkt rfl _ _ (w.heap.size + 1) rfl rfl hp1) rfl ⟨ret_vb (repV_yes HO2.out).symm HO2.out.symm, ?_⟩
        exact HB3.out.grown hg1 HB3.out.size (fun k hk => by have e : w.heap.size + 1 = k := Option.some.inj hk; omega)
    · have HO := Lib.hid (hO.trans (by rw [decide_eq_false hk, Bool.false_and]))
      have hk' : (k != 1) = true := by simpa using hk
      clear hO hk
      go_wp2_with fail
      refine (HV.out _).mono ?_
      rintro e W1 ⟨rfl, lW⟩
      have HB1 := Lib.hid (HB0.out.trans (lW.mono HB0.out.size))
      have HR1 := Lib.hid (HR0.out.below lW HR0.out.lt)
      have HA1 := Lib.hid (HA0.out.below lW HA0.out.lt)
      clear lW HA0 HR0 HB0 HO0 HV a0 a1 a2 a3 a4
      obtain ⟨a0, a1, a2, a3, a4⟩ := HA1.out.cells
      obtain ⟨r0, r1, r2, r3, r4⟩ := HR1.out.cells
      have f0 := HR1.out.free 0
      have f1 := HR1.out.free 1
      have f2 := HR1.out.free 2
      have f3 := HR1.out.free 3
      have f4 := HR1.out.free 4
      go_wp2_with fail
      obtain ⟨hp1, hg1⟩ := HR1.out.store (k' := 0) (n' := 0) (t' := 0) (l' := 0) (d' := ⟨#[]⟩)
      refine bodyPost_ret (results_pkt rfl _ _ (w.heap.size + 1) rfl rfl hp1) rfl ⟨ret_vb (repV_no HO.out).symm HO.out.symm, ?_⟩
      exact HB1.out.grown hg1 HB1.out.size (fun k hk => by have e : w.heap.size + 1 = k := Option.some.inj hk; omega)
end Go.Proofs.YtncjplcefdeckaaGreatDoor
