/-
  The exact laws of IsValidPacket, OctetsOf, EncodePacket and CheckOf.
-/
import Derived.Test.YtncjplcefdeckaaPktE
import Derived.Test.YtncjplcefdeckaaPktLaw
import Derived.WalkLawsBesides
namespace Go.Proofs.Ytncjplcefdeckaa
open Go.RowKit Go.Lib Go.Joins
set_option linter.unusedVariables false

theorem Lb.grown {w w' : World} {g : Nat} {k n t l : Int} {d : ByteArray} {row : Option Nat} (h : Lb w g k n t l d) (hg : w.grownBy w' row) (hne : some g ≠ row) : Lb w' g k n t l d := (hg.block g h.lt hne).trans h

set_option maxRecDepth 100000 in
set_option maxHeartbeats 2000000 in
theorem fnExactIsValidPacket_walk (w : World) (a0_0 : Int) (w0_0 : (Lit.int .i64 a0_0).wf = true) (a0_1 : Int) (w0_1 : (Lit.int .i64 a0_1).wf = true) (a0_2 : Int) (w0_2 : (Lit.int .i64 a0_2).wf = true) (a0_3 : Int) (w0_3 : (Lit.int .i64 a0_3).wf = true) (a0_4 : ByteArray) (w0_4 : a0_4.size ≤ maxLen) (_hsh : w.ShapedOpen Try.prog) :
    Calls Try.prog 3 #[.agg #[.int .i64 a0_0, .int .i64 a0_1, .int .i64 a0_2, .int .i64 a0_3, .string a0_4]] w fun e w' => e = .returned (.bool true) ∧ Below w.heap.size w w' := by
  have HB0 := Lib.hid ((Below.refl w.heap.size w).alloc (Nat.le_refl _) (.cells #[.int .i64 a0_0, .int .i64 a0_1, .int .i64 a0_2, .int .i64 a0_3, .string a0_4] 23))
  have HP0 : Hid (Lb (w.alloc (.cells #[.int .i64 a0_0, .int .i64 a0_1, .int .i64 a0_2, .int .i64 a0_3, .string a0_4] 23)) w.heap.size a0_0 a0_1 a0_2 a0_3 a0_4) := Lib.hid (heap_alloc_new w _)
  by_cases hn0 : a0_4.size ≤ 1048576
  rotate_left
  · have HZ := Lib.hid (fun w => szPacket_no a0_0 a0_1 a0_2 a0_3 a0_4 w hn0 w0_4)
    unfold pv at HZ
    go_enter Try.func3, Try.ntmps3
    go_wp2_with fail
    refine (HZ.out _).mono ?_
    rintro e W1 ⟨rfl, l1⟩
    have HB1 := Lib.hid (HB0.out.trans (l1.mono HB0.out.size))
    go_wp2_with fail
    go_ret
    exact ⟨rfl, HB1.out⟩
  have HZ := Lib.hid (fun w => szPacket_any a0_0 a0_1 a0_2 a0_3 a0_4 w hn0)
  have HTo := Lib.hid (fun w => toPacket_any a0_0 a0_1 a0_2 a0_3 a0_4 w)
  have hd0 : a0_4.size ≤ maxLen := w0_4
  have HSp := Lib.hid (fun (W : World) => specValid_any a0_0 a0_1 a0_2 a0_3 a0_4 W hd0)
  have HIm := Lib.hid (fun (W : World) => implValid_any a0_0 a0_1 a0_2 a0_3 a0_4 W hd0)
  generalize pktOk a0_0 a0_1 a0_2 a0_3 a0_4 = r0 at HSp HIm
  unfold pv at HZ HTo HSp HIm
  clear hd0 w0_4 hn0
  have HT := Lib.hid (show ((1 : Int)) = ((1 : Nat) : Int) from rfl)
  go_enter Try.func3, Try.ntmps3
  go_wp2_with fail
  refine (HZ.out _).mono ?_
  rintro e W1 ⟨qz, rfl, hqz, l1⟩
  have hqz' : ¬ qz < 0 := by omega
  have HB1 := Lib.hid (HB0.out.trans (l1.mono HB0.out.size))
  have HP1 := Lib.hid (HP0.out.below l1 HP0.out.lt)
  clear HP0
  clear HB0
  clear l1
  obtain ⟨c0, c1, c2, c3, c4⟩ := HP1.out.cells
  go_wp2_with fail
  refine (HTo.out _).mono ?_
  rintro e W2 ⟨rfl, l2⟩
  clear c0 c1 c2 c3 c4
  have HB2 := Lib.hid (HB1.out.trans (l2.mono HB1.out.size))
  have HP2 := Lib.hid (HP1.out.below l2 HP1.out.lt)
  clear HP1
  clear HB1
  clear l2
  go_wp2_with fail
  refine (HSp.out  _ ).mono ?_
  rintro e W3 ⟨rfl, l3⟩
  have HB3 := Lib.hid (HB2.out.trans (l3.mono HB2.out.size))
  have HP3 := Lib.hid (HP2.out.below l3 HP2.out.lt)
  clear HP2
  clear HB2
  clear l3
  obtain ⟨c0, c1, c2, c3, c4⟩ := HP3.out.cells
  go_wp2_with fail
  refine (HTo.out _).mono ?_
  rintro e W4 ⟨rfl, l4⟩
  clear c0 c1 c2 c3 c4
  have HB4 := Lib.hid (HB3.out.trans (l4.mono HB3.out.size))
  have HP4 := Lib.hid (HP3.out.below l4 HP3.out.lt)
  clear HP3
  clear HB3
  clear l4
  go_wp2_with fail
  refine (HIm.out  _ ).mono ?_
  rintro e W5 ⟨rfl, l5⟩
  have HB5 := Lib.hid (HB4.out.trans (l5.mono HB4.out.size))
  have HP5 := Lib.hid (HP4.out.below l5 HP4.out.lt)
  clear HP4
  clear HB4
  clear l5
  go_wp2_with fail
  go_ret
  exact ⟨rfl, HB5.out⟩

set_option maxRecDepth 100000 in
set_option maxHeartbeats 2000000 in
theorem fnExactOctetsOf_walk (w : World) (a0_0 : Int) (w0_0 : (Lit.int .i64 a0_0).wf = true) (a0_1 : Int) (w0_1 : (Lit.int .i64 a0_1).wf = true) (a0_2 : Int) (w0_2 : (Lit.int .i64 a0_2).wf = true) (a0_3 : Int) (w0_3 : (Lit.int .i64 a0_3).wf = true) (a0_4 : ByteArray) (w0_4 : a0_4.size ≤ maxLen) (_hsh : w.ShapedOpen Try.prog) :
    Calls Try.prog 4 #[.agg #[.int .i64 a0_0, .int .i64 a0_1, .int .i64 a0_2, .int .i64 a0_3, .string a0_4]] w fun e w' => e = .returned (.bool true) ∧ Below w.heap.size w w' := by
  have HB0 := Lib.hid ((Below.refl w.heap.size w).alloc (Nat.le_refl _) (.cells #[.int .i64 a0_0, .int .i64 a0_1, .int .i64 a0_2, .int .i64 a0_3, .string a0_4] 23))
  have HP0 : Hid (Lb (w.alloc (.cells #[.int .i64 a0_0, .int .i64 a0_1, .int .i64 a0_2, .int .i64 a0_3, .string a0_4] 23)) w.heap.size a0_0 a0_1 a0_2 a0_3 a0_4) := Lib.hid (heap_alloc_new w _)
  by_cases hn0 : a0_4.size ≤ 1048576
  rotate_left
  · have HZ := Lib.hid (fun w => szPacket_no a0_0 a0_1 a0_2 a0_3 a0_4 w hn0 w0_4)
    unfold pv at HZ
    go_enter Try.func4, Try.ntmps4
    go_wp2_with fail
    refine (HZ.out _).mono ?_
    rintro e W1 ⟨rfl, l1⟩
    have HB1 := Lib.hid (HB0.out.trans (l1.mono HB0.out.size))
    go_wp2_with fail
    go_ret
    exact ⟨rfl, HB1.out⟩
  have HZ := Lib.hid (fun w => szPacket_any a0_0 a0_1 a0_2 a0_3 a0_4 w hn0)
  have HTo := Lib.hid (fun w => toPacket_any a0_0 a0_1 a0_2 a0_3 a0_4 w)
  have hd0 : a0_4.size ≤ maxLen := w0_4
  have HSp := Lib.hid (fun (W : World) => specOctets_any a0_0 a0_1 a0_2 a0_3 a0_4 W hd0)
  have HIm := Lib.hid (fun (W : World) => implOctets_any a0_0 a0_1 a0_2 a0_3 a0_4 W hd0)
  have hlen0 := octV_len a0_0 a0_1 a0_2 a0_3 a0_4
  generalize octV a0_0 a0_1 a0_2 a0_3 a0_4 = ps0 at HSp HIm hlen0
  have HL0 := Lib.hid hlen0
  clear hlen0
  generalize pktOk a0_0 a0_1 a0_2 a0_3 a0_4 = r0 at HSp HIm
  unfold pv at HZ HTo HSp HIm
  clear hd0 w0_4 hn0
  have HT := Lib.hid (show ((1 : Int)) = ((1 : Nat) : Int) from rfl)
  go_enter Try.func4, Try.ntmps4
  go_wp2_with fail
  refine (HZ.out _).mono ?_
  rintro e W1 ⟨qz, rfl, hqz, l1⟩
  have hqz' : ¬ qz < 0 := by omega
  have HB1 := Lib.hid (HB0.out.trans (l1.mono HB0.out.size))
  have HP1 := Lib.hid (HP0.out.below l1 HP0.out.lt)
  clear HP0
  clear HB0
  clear l1
  obtain ⟨c0, c1, c2, c3, c4⟩ := HP1.out.cells
  go_wp2_with fail
  refine (HTo.out _).mono ?_
  rintro e W2 ⟨rfl, l2⟩
  clear c0 c1 c2 c3 c4
  have HB2 := Lib.hid (HB1.out.trans (l2.mono HB1.out.size))
  have HP2 := Lib.hid (HP1.out.below l2 HP1.out.lt)
  clear HP1
  clear HB1
  clear l2
  go_wp2_with fail
  refine (HSp.out  _ ).mono ?_
  rintro e W3 ⟨vw0, rfl, o_vw0, l3⟩
  have apL_vw0 : ∀ k, (vw0 : Value).ownBlock = some k → w.heap.size < k := fun k hk => Nat.lt_of_lt_of_le HP2.out.lt (o_vw0.lt k hk).1
  have O_vw0 := Lib.hid (own_base o_vw0 (HB2.out.size))
  have HB3 := Lib.hid (HB2.out.trans (l3.mono HB2.out.size))
  have HP3 := Lib.hid (HP2.out.below l3 HP2.out.lt)
  clear HP2
  clear HB2
  clear l3 o_vw0
  obtain ⟨c0, c1, c2, c3, c4⟩ := HP3.out.cells
  go_wp2_with fail
  refine (HTo.out _).mono ?_
  rintro e W4 ⟨rfl, l4⟩
  clear c0 c1 c2 c3 c4
  have HB4 := Lib.hid (HB3.out.trans (l4.mono HB3.out.size))
  have vw0_4 := Lib.hid (own_below O_vw0.out l4 (Nat.le_refl _))
  clear O_vw0
  have HP4 := Lib.hid (HP3.out.below l4 HP3.out.lt)
  clear HP3
  clear HB3
  clear l4
  go_wp2_with fail
  refine (HIm.out  _ ).mono ?_
  rintro e W5 ⟨vg0, rfl, o_vg0, l5⟩
  have ap_vw0_vg0 : ∀ k, (vw0 : Value).ownBlock = some k → (vg0 : Value).ownBlock ≠ some k := fun k h1 h2 => absurd (vw0_4.out.lt k h1).2 (Nat.not_lt.2 (o_vg0.lt k h2).1)
  have apL_vg0 : ∀ k, (vg0 : Value).ownBlock = some k → w.heap.size < k := fun k hk => Nat.lt_of_lt_of_le HP4.out.lt (o_vg0.lt k hk).1
  have O_vg0 := Lib.hid (own_base o_vg0 (HB4.out.size))
  have HB5 := Lib.hid (HB4.out.trans (l5.mono HB4.out.size))
  have vw0_5 := Lib.hid (own_below vw0_4.out l5 (Nat.le_refl _))
  clear vw0_4
  have HP5 := Lib.hid (HP4.out.below l5 HP4.out.lt)
  clear HP4
  clear HB4
  clear l5 o_vg0
  go_wp2_with fail
  refine (eqIntS_any _ _ ps0 ps0 _ (row_own O_vg0.out) (row_own vw0_5.out)).mono ?_
  rintro e W6 ⟨rfl, k6, hw6⟩
  have l6 : Below W5.heap.size W5 W6 := by rw [hw6]; exact bdrew _ _
  clear hw6
  have HB6 := Lib.hid (HB5.out.trans (l6.mono HB5.out.size))
  have vw0_6 := Lib.hid (own_below vw0_5.out l6 (Nat.le_refl _))
  clear vw0_5
  have vg0_6 := Lib.hid (own_below O_vg0.out l6 (Nat.le_refl _))
  clear O_vg0
  have HP6 := Lib.hid (HP5.out.below l6 HP5.out.lt)
  clear HP5
  clear HB5
  clear l6
  go_wp2_with fail
  refine (markI_own _ ps0.length 1 _ _ _ vg0_6.out (by have := HL0.out; omega)).mono ?_
  rintro e W7 ⟨rfl, m7, gr7⟩
  have HB7 := Lib.hid (HB6.out.grown gr7 HB6.out.size (fun q hq => (vg0_6.out.lt q hq).1))
  have vw0_7 := Lib.hid (own_apart vw0_6.out gr7 (fun k h1 h2 => ap_vw0_vg0 k h1 h2))
  clear vw0_6
  have HP7 := Lib.hid (HP6.out.grown gr7 (by intro e; have := apL_vg0 _ e.symm; omega))
  clear HP6
  have vg0_7 := Lib.hid m7
  clear m7 gr7 vg0_6 HB6
  go_wp2_with fail
  refine (heldI_own _ ps0.length 1 _ _ vg0_7.out (by have := HL0.out; omega)).mono ?_
  rintro e W ⟨rfl, rfl⟩
  obtain ⟨c0, c1, c2, c3, c4⟩ := HP7.out.cells
  go_wp2_with fail
  refine (HTo.out _).mono ?_
  rintro e W8 ⟨rfl, l8⟩
  clear c0 c1 c2 c3 c4
  have HB8 := Lib.hid (HB7.out.trans (l8.mono HB7.out.size))
  have vw0_8 := Lib.hid (own_below vw0_7.out l8 (Nat.le_refl _))
  clear vw0_7
  have vg0_8 := Lib.hid (own_below vg0_7.out l8 (Nat.le_refl _))
  clear vg0_7
  have HP8 := Lib.hid (HP7.out.below l8 HP7.out.lt)
  clear HP7
  clear HB7
  clear l8
  go_wp2_with fail
  refine (HIm.out  _ ).mono ?_
  rintro e W9 ⟨vh0, rfl, o_vh0, l9⟩
  have ap_vw0_vh0 : ∀ k, (vw0 : Value).ownBlock = some k → (vh0 : Value).ownBlock ≠ some k := fun k h1 h2 => absurd (vw0_8.out.lt k h1).2 (Nat.not_lt.2 (o_vh0.lt k h2).1)
  have ap_vg0_vh0 : ∀ k, (vg0 : Value).ownBlock = some k → (vh0 : Value).ownBlock ≠ some k := fun k h1 h2 => absurd (vg0_8.out.lt k h1).2 (Nat.not_lt.2 (o_vh0.lt k h2).1)
  have apL_vh0 : ∀ k, (vh0 : Value).ownBlock = some k → w.heap.size < k := fun k hk => Nat.lt_of_lt_of_le HP8.out.lt (o_vh0.lt k hk).1
  have O_vh0 := Lib.hid (own_base o_vh0 (HB8.out.size))
  have HB9 := Lib.hid (HB8.out.trans (l9.mono HB8.out.size))
  have vw0_9 := Lib.hid (own_below vw0_8.out l9 (Nat.le_refl _))
  clear vw0_8
  have vg0_9 := Lib.hid (own_below vg0_8.out l9 (Nat.le_refl _))
  clear vg0_8
  have HP9 := Lib.hid (HP8.out.below l9 HP8.out.lt)
  clear HP8
  clear HB8
  clear l9 o_vh0
  go_wp2_with fail
  refine (eqIntS_any _ _ ps0 ps0 _ (row_own O_vh0.out) (row_own vw0_9.out)).mono ?_
  rintro e W10 ⟨rfl, k10, hw10⟩
  have l10 : Below W9.heap.size W9 W10 := by rw [hw10]; exact bdrew _ _
  clear hw10
  have HB10 := Lib.hid (HB9.out.trans (l10.mono HB9.out.size))
  have vw0_10 := Lib.hid (own_below vw0_9.out l10 (Nat.le_refl _))
  clear vw0_9
  have vg0_10 := Lib.hid (own_below vg0_9.out l10 (Nat.le_refl _))
  clear vg0_9
  have vh0_10 := Lib.hid (own_below O_vh0.out l10 (Nat.le_refl _))
  clear O_vh0
  have HP10 := Lib.hid (HP9.out.below l10 HP9.out.lt)
  clear HP9
  clear HB9
  clear l10
  go_wp2_with fail
  refine (heldI_own _ ps0.length 1 _ _ vg0_10.out (by have := HL0.out; omega)).mono ?_
  rintro e W ⟨rfl, rfl⟩
  go_wp2_with fail
  go_ret
  exact ⟨rfl, HB10.out⟩

set_option maxRecDepth 100000 in
set_option maxHeartbeats 2000000 in
theorem fnExactEncodePacket_walk (w : World) (a0_0 : Int) (w0_0 : (Lit.int .i64 a0_0).wf = true) (a0_1 : Int) (w0_1 : (Lit.int .i64 a0_1).wf = true) (a0_2 : Int) (w0_2 : (Lit.int .i64 a0_2).wf = true) (a0_3 : Int) (w0_3 : (Lit.int .i64 a0_3).wf = true) (a0_4 : ByteArray) (w0_4 : a0_4.size ≤ maxLen) (_hsh : w.ShapedOpen Try.prog) :
    Calls Try.prog 6 #[.agg #[.int .i64 a0_0, .int .i64 a0_1, .int .i64 a0_2, .int .i64 a0_3, .string a0_4]] w fun e w' => e = .returned (.bool true) ∧ Below w.heap.size w w' := by
  have HB0 := Lib.hid ((Below.refl w.heap.size w).alloc (Nat.le_refl _) (.cells #[.int .i64 a0_0, .int .i64 a0_1, .int .i64 a0_2, .int .i64 a0_3, .string a0_4] 23))
  have HP0 : Hid (Lb (w.alloc (.cells #[.int .i64 a0_0, .int .i64 a0_1, .int .i64 a0_2, .int .i64 a0_3, .string a0_4] 23)) w.heap.size a0_0 a0_1 a0_2 a0_3 a0_4) := Lib.hid (heap_alloc_new w _)
  by_cases hn0 : a0_4.size ≤ 1048576
  rotate_left
  · have HZ := Lib.hid (fun w => szPacket_no a0_0 a0_1 a0_2 a0_3 a0_4 w hn0 w0_4)
    unfold pv at HZ
    go_enter Try.func6, Try.ntmps6
    go_wp2_with fail
    refine (HZ.out _).mono ?_
    rintro e W1 ⟨rfl, l1⟩
    have HB1 := Lib.hid (HB0.out.trans (l1.mono HB0.out.size))
    go_wp2_with fail
    go_ret
    exact ⟨rfl, HB1.out⟩
  have HZ := Lib.hid (fun w => szPacket_any a0_0 a0_1 a0_2 a0_3 a0_4 w hn0)
  have HTo := Lib.hid (fun w => toPacket_any a0_0 a0_1 a0_2 a0_3 a0_4 w)
  have hd0 : a0_4.size ≤ maxLen := w0_4
  have HSp := Lib.hid (fun (W : World) => specEncode_any a0_0 a0_1 a0_2 a0_3 a0_4 W hd0)
  have HIm := Lib.hid (fun (W : World) => implEncode_any a0_0 a0_1 a0_2 a0_3 a0_4 W hd0)
  generalize encV a0_0 a0_1 a0_2 a0_3 a0_4 = r0 at HSp HIm
  generalize pktOk a0_0 a0_1 a0_2 a0_3 a0_4 = r1 at HSp HIm
  unfold pv at HZ HTo HSp HIm
  clear hd0 w0_4 hn0
  have HT := Lib.hid (show ((1 : Int)) = ((1 : Nat) : Int) from rfl)
  go_enter Try.func6, Try.ntmps6
  go_wp2_with fail
  refine (HZ.out _).mono ?_
  rintro e W1 ⟨qz, rfl, hqz, l1⟩
  have hqz' : ¬ qz < 0 := by omega
  have HB1 := Lib.hid (HB0.out.trans (l1.mono HB0.out.size))
  have HP1 := Lib.hid (HP0.out.below l1 HP0.out.lt)
  clear HP0
  clear HB0
  clear l1
  obtain ⟨c0, c1, c2, c3, c4⟩ := HP1.out.cells
  go_wp2_with fail
  refine (HTo.out _).mono ?_
  rintro e W2 ⟨rfl, l2⟩
  clear c0 c1 c2 c3 c4
  have HB2 := Lib.hid (HB1.out.trans (l2.mono HB1.out.size))
  have HP2 := Lib.hid (HP1.out.below l2 HP1.out.lt)
  clear HP1
  clear HB1
  clear l2
  go_wp2_with fail
  refine (HSp.out  _ ).mono ?_
  rintro e W3 ⟨rfl, l3⟩
  have HB3 := Lib.hid (HB2.out.trans (l3.mono HB2.out.size))
  have HP3 := Lib.hid (HP2.out.below l3 HP2.out.lt)
  clear HP2
  clear HB2
  clear l3
  obtain ⟨c0, c1, c2, c3, c4⟩ := HP3.out.cells
  go_wp2_with fail
  refine (HTo.out _).mono ?_
  rintro e W4 ⟨rfl, l4⟩
  clear c0 c1 c2 c3 c4
  have HB4 := Lib.hid (HB3.out.trans (l4.mono HB3.out.size))
  have HP4 := Lib.hid (HP3.out.below l4 HP3.out.lt)
  clear HP3
  clear HB3
  clear l4
  go_wp2_with fail
  refine (HIm.out  _ ).mono ?_
  rintro e W5 ⟨rfl, l5⟩
  have HB5 := Lib.hid (HB4.out.trans (l5.mono HB4.out.size))
  have HP5 := Lib.hid (HP4.out.below l5 HP4.out.lt)
  clear HP4
  clear HB4
  clear l5
  go_wp2_with fail
  go_ret
  exact ⟨rfl, HB5.out⟩

set_option maxRecDepth 100000 in
set_option maxHeartbeats 2000000 in
theorem fnExactCheckOf_walk (w : World) (v0 : Value) (z0 : List Int) (w0 : Row w v0 z0.length (z0.map (Value.int .i64))) (b0 : ∀ z ∈ z0, (Lit.int .i64 z).wf = true) (_hsh : w.ShapedOpen Try.prog) :
    Calls Try.prog 5 #[v0] w fun e w' => e = .returned (.bool true) ∧ Below w.heap.size w w' := by
  obtain ⟨p0, cap0, rfl, hc10, hc20, _⟩ := row_open w0
  unfold maxLen at hc20
  by_cases hn0 : z0.length ≤ 1048576
  rotate_left
  · have hn0' : ¬ (z0.length : Int) ≤ 1048576 := by omega
    go_enter Try.func5, Try.ntmps5
    go_wp2_with fail
    go_ret
    exact ⟨rfl, Below.refl _ _⟩
  have hn0' : (z0.length : Int) ≤ 1048576 := by omega
  have HR0 := Lib.hid w0
  have HN0 := Lib.hid hn0
  clear w0 b0
  have HSp := Lib.hid (fun (g0 : Nat) (W : World) (h0 : Row W (.slice (some ⟨g0, 0, none⟩) z0.length z0.length) z0.length (z0.map (Value.int .i64))) => specCheck_any (.slice (some ⟨g0, 0, none⟩) z0.length z0.length) z0 W h0)
  have HIm := Lib.hid (fun (g0 : Nat) (W : World) (h0 : Row W (.slice (some ⟨g0, 0, none⟩) z0.length z0.length) z0.length (z0.map (Value.int .i64))) => implCheck_any (.slice (some ⟨g0, 0, none⟩) z0.length z0.length) z0 W h0)
  generalize ck4V z0 = r0 at HSp HIm
  generalize ck4Ok z0 = r1 at HSp HIm
  have HT := Lib.hid (show ((1 : Int)) = ((1 : Nat) : Int) from rfl)
  go_enter Try.func5, Try.ntmps5
  go_wp2_with fail
  refine (toIntS_lit _ z0 _ (HR0.out.below (Below.refl _ _) (Nat.le_refl _)) HN0.out).mono ?_
  rintro e W1 ⟨g_s0, rfl, o_s0, l1⟩
  have O_s0 := Lib.hid o_s0
  have HB1 := Lib.hid l1
  clear o_s0 l1
  go_wp2_with fail
  refine (HSp.out g_s0 _ (row_own O_s0.out)).mono ?_
  rintro e W2 ⟨rfl, rfl⟩
  clear O_s0
  go_wp2_with fail
  refine (toIntS_lit _ z0 _ (HR0.out.below HB1.out (Nat.le_refl _)) HN0.out).mono ?_
  rintro e W3 ⟨g_x0, rfl, o_x0, l3⟩
  have O_x0 := Lib.hid (own_base o_x0 (HB1.out.size))
  have HB3 := Lib.hid (HB1.out.trans (l3.mono HB1.out.size))
  clear HB1
  clear o_x0 l3
  go_wp2_with fail
  refine (HIm.out g_x0 _ (row_own O_x0.out)).mono ?_
  rintro e W4 ⟨rfl, rfl⟩
  go_wp2_with fail
  refine (toIntS_lit _ z0 _ (HR0.out.below HB3.out (Nat.le_refl _)) HN0.out).mono ?_
  rintro e W5 ⟨g_y0, rfl, o_y0, l5⟩
  have ap_x0_y0 : ∀ k, (.slice (some ⟨g_x0, 0, none⟩) z0.length z0.length : Value).ownBlock = some k → (.slice (some ⟨g_y0, 0, none⟩) z0.length z0.length : Value).ownBlock ≠ some k := fun k h1 h2 => absurd (O_x0.out.lt k h1).2 (Nat.not_lt.2 (o_y0.lt k h2).1)
  have O_y0 := Lib.hid (own_base o_y0 (HB3.out.size))
  have HB5 := Lib.hid (HB3.out.trans (l5.mono HB3.out.size))
  have x0_5 := Lib.hid (own_below O_x0.out l5 (Nat.le_refl _))
  clear O_x0
  clear HB3
  clear o_y0 l5
  go_wp2_with fail
  refine (eqIntS_any _ _ z0 z0 _ (row_own x0_5.out) (row_own O_y0.out)).mono ?_
  rintro e W6 ⟨rfl, k6, hw6⟩
  have l6 : Below W5.heap.size W5 W6 := by rw [hw6]; exact bdrew _ _
  clear hw6
  have HB6 := Lib.hid (HB5.out.trans (l6.mono HB5.out.size))
  have x0_6 := Lib.hid (own_below x0_5.out l6 (Nat.le_refl _))
  clear x0_5
  have y0_6 := Lib.hid (own_below O_y0.out l6 (Nat.le_refl _))
  clear O_y0
  clear HB5
  clear l6
  clear y0_6
  go_wp2_with fail
  go_ret
  exact ⟨rfl, HB6.out⟩

end Go.Proofs.Ytncjplcefdeckaa
