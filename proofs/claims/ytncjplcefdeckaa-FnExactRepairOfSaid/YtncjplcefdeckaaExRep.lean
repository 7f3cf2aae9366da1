/-
  The exact law of RepairOf.
-/
import Derived.Test.YtncjplcefdeckaaPktR
import Derived.Test.YtncjplcefdeckaaPktLaw
import Derived.Test.YtncjplcefdeckaaPkt5
import Derived.WalkLawsBesides
namespace Go.Proofs.Ytncjplcefdeckaa
open Go.RowKit Go.Lib Go.Joins
set_option linter.unusedVariables false

set_option maxRecDepth 100000 in
set_option maxHeartbeats 2000000 in
theorem fnExactRepairOf_walk (w : World) (a0_0 : Int) (w0_0 : (Lit.int .i64 a0_0).wf = true) (a0_1 : Int) (w0_1 : (Lit.int .i64 a0_1).wf = true) (a0_2 : Int) (w0_2 : (Lit.int .i64 a0_2).wf = true) (a0_3 : Int) (w0_3 : (Lit.int .i64 a0_3).wf = true) (a0_4 : ByteArray) (w0_4 : a0_4.size ≤ maxLen) (a1 : Int) (w1 : (Lit.int .i64 a1).wf = true) (a2 : Int) (w2 : (Lit.int .i64 a2).wf = true) (_hsh : w.ShapedOpen Try.prog) :
    Calls Try.prog 7 #[.agg #[.int .i64 a0_0, .int .i64 a0_1, .int .i64 a0_2, .int .i64 a0_3, .string a0_4], .int .i64 a1, .int .i64 a2] w fun e w' => e = .returned (.bool true) ∧ Below w.heap.size w w' := by
  have HB0 := Lib.hid ((Below.refl w.heap.size w).alloc (Nat.le_refl _) (.cells #[.int .i64 a0_0, .int .i64 a0_1, .int .i64 a0_2, .int .i64 a0_3, .string a0_4] 23))
  have HP0 : Hid (Lb (w.alloc (.cells #[.int .i64 a0_0, .int .i64 a0_1, .int .i64 a0_2, .int .i64 a0_3, .string a0_4] 23)) w.heap.size a0_0 a0_1 a0_2 a0_3 a0_4) := Lib.hid (heap_alloc_new w _)
  by_cases hn0 : a0_4.size ≤ 1048576
  rotate_left
  · have HZ := Lib.hid (fun w => szPacket_no a0_0 a0_1 a0_2 a0_3 a0_4 w hn0 w0_4)
    unfold pv at HZ
    go_enter Try.func7, Try.ntmps7
    go_wp2_with fail
    refine (HZ.out _).mono ?_
    rintro e W1 ⟨rfl, l1⟩
    have HB1 := Lib.hid (HB0.out.trans (l1.mono HB0.out.size))
    go_wp2_with fail
    go_ret
    exact ⟨rfl, HB1.out⟩
  have HZ := Lib.hid (fun w => szPacket_any a0_0 a0_1 a0_2 a0_3 a0_4 w hn0)
  have HTo := Lib.hid (fun w => toPacket_any a0_0 a0_1 a0_2 a0_3 a0_4 w)
  have HSp := Lib.hid (fun (W : World) => specRepair_any a0_0 a0_1 a0_2 a0_3 a0_4 a1 a2 W w0_4)
  have HIm := Lib.hid (fun (W : World) => implRepair_any a0_0 a0_1 a0_2 a0_3 a0_4 a1 a2 W w0_4)
  generalize repOk a0_0 a0_1 a0_2 a0_3 a0_4 a1 a2 = r0 at HSp HIm
  obtain ⟨pk, pn, pt, pl, pd, hv⟩ := repV_form a0_0 a0_1 a0_2 a0_3 a0_4 a1 a2
  rw [hv] at HSp HIm
  clear hv
  have HEq := Lib.hid (fun (W : World) => eqPacket_same pk pn pt pl pd W)
  unfold pv at HZ HTo HSp HIm HEq
  clear w0_4 hn0
  go_enter Try.func7, Try.ntmps7
  go_wp2_with fail
  refine (HZ.out _).mono ?_
  rintro e W1 ⟨qz, rfl, hqz, l1⟩
  have hqz' : ¬ qz < 0 := by omega
  have HP1 := Lib.hid (HP0.out.below l1 HP0.out.lt)
  have HB1 := Lib.hid (HB0.out.trans (l1.mono HB0.out.size))
  clear HB0 l1 HP0
  obtain ⟨c0, c1, c2, c3, c4⟩ := HP1.out.cells
  go_wp2_with fail
  refine (HTo.out _).mono ?_
  rintro e W2 ⟨rfl, l2⟩
  have HP2 := Lib.hid (HP1.out.below l2 HP1.out.lt)
  have HB2 := Lib.hid (HB1.out.trans (l2.mono HB1.out.size))
  clear HB1 l2 HP1 c0 c1 c2 c3 c4
  go_wp2_with fail
  refine (HSp.out _).mono ?_
  rintro e W3 ⟨rfl, l3⟩
  have HP3 := Lib.hid (HP2.out.below l3 HP2.out.lt)
  have HB3 := Lib.hid (HB2.out.trans (l3.mono HB2.out.size))
  clear HB2 l3 HP2
  obtain ⟨c0, c1, c2, c3, c4⟩ := HP3.out.cells
  have hlt := HP3.out.lt
  go_wp2_with fail
  obtain ⟨W4, hW4⟩ : ∃ W4, W4 = W3.alloc (.cells #[.int .i64 pk, .int .i64 pn, .int .i64 pt, .int .i64 pl, .string pd] 26) := ⟨_, rfl⟩
  have HQ4 : Hid (Pb W4 W3.heap.size pk pn pt pl pd) := Lib.hid (by rw [hW4]; exact heap_alloc_new W3 _)
  have hb4 : Below W3.heap.size W3 W4 := by rw [hW4]; exact (Below.refl _ _).alloc (Nat.le_refl _) _
  rw [← hW4]
  have HP4 := Lib.hid (HP3.out.below hb4 hlt)
  have HB4 := Lib.hid (HB3.out.trans (hb4.mono HB3.out.size))
  clear hW4 hb4 HP3 HB3 c0 c1 c2 c3 c4 hlt
  refine (HTo.out _).mono ?_
  rintro e W5 ⟨rfl, l5⟩
  have HQ5 := Lib.hid (HQ4.out.below l5 HQ4.out.lt)
  have HB5 := Lib.hid (HB4.out.trans (l5.mono HB4.out.size))
  clear HB4 l5 HP4 HQ4
  go_wp2_with fail
  refine (HIm.out _).mono ?_
  rintro e W6 ⟨rfl, l6⟩
  have HQ6 := Lib.hid (HQ5.out.below l6 HQ5.out.lt)
  have HB6 := Lib.hid (HB5.out.trans (l6.mono HB5.out.size))
  clear HB5 l6 HQ5
  obtain ⟨c0, c1, c2, c3, c4⟩ := HQ6.out.cells
  have hlt := HQ6.out.lt
  go_wp2_with fail
  refine (HEq.out _).mono ?_
  rintro e W7 ⟨rfl, l7⟩
  have HB7 := Lib.hid ((HB6.out.alloc HB6.out.size (.cells #[.int .i64 pk, .int .i64 pn, .int .i64 pt, .int .i64 pl, .string pd] 26)).trans (l7.mono (by have := HB6.out.size; simp; omega)))
  clear l7 c0 c1 c2 c3 c4 hlt
  go_wp2_with fail
  go_ret
  exact ⟨rfl, HB7.out⟩
end Go.Proofs.Ytncjplcefdeckaa
