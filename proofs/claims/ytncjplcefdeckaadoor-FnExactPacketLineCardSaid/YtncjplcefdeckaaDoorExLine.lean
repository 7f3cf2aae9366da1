/-
  The exact law of PacketLine.
-/
import Derived.Test.YtncjplcefdeckaaDoorPLine
import Derived.Test.YtncjplcefdeckaaDoorPktLaw
import Derived.Test.YtncjplcefdeckaaDoorParse
import Derived.Test.YtncjplcefdeckaaDoorKw
import Derived.WalkLawsBesides
namespace Go.Proofs.YtncjplcefdeckaaDoor
open Go.RowKit Go.Lib Go.Joins
set_option linter.unusedVariables false

set_option maxRecDepth 100000 in
set_option maxHeartbeats 2000000 in
theorem fnExactPacketLine_walk (w : World) (a0_0 : Int) (w0_0 : (Lit.int .i64 a0_0).wf = true) (a0_1 : Int) (w0_1 : (Lit.int .i64 a0_1).wf = true) (a0_2 : Int) (w0_2 : (Lit.int .i64 a0_2).wf = true) (a0_3 : Int) (w0_3 : (Lit.int .i64 a0_3).wf = true) (a0_4 : ByteArray) (w0_4 : a0_4.size ≤ maxLen) (_hsh : w.ShapedOpen Tryd.prog) (hL : laidMetH Tryd.prog Rows.fnExactPacketLineRow.laid w) :
    Calls Tryd.prog 5 #[.agg #[.int .i64 a0_0, .int .i64 a0_1, .int .i64 a0_2, .int .i64 a0_3, .string a0_4]] w fun e w' => e = .returned (.bool true) ∧ Below w.heap.size w w' := by
  have HFT := Lib.hid (tab_of_laid hL rfl (by simp [Rows.fnExactPacketLineRow]))
  have HFK := Lib.hid (kw_of_laid hL rfl (by simp [Rows.fnExactPacketLineRow]))
  clear hL
  have HB0 := Lib.hid ((Below.refl w.heap.size w).alloc (Nat.le_refl _) (.cells #[.int .i64 a0_0, .int .i64 a0_1, .int .i64 a0_2, .int .i64 a0_3, .string a0_4] 41))
  have HP0 : Hid (Lb (w.alloc (.cells #[.int .i64 a0_0, .int .i64 a0_1, .int .i64 a0_2, .int .i64 a0_3, .string a0_4] 41)) w.heap.size a0_0 a0_1 a0_2 a0_3 a0_4) := Lib.hid (heap_alloc_new w _)
  by_cases hn0 : a0_4.size ≤ 1048576
  rotate_left
  · have HZ := Lib.hid (fun w => szPacket_no a0_0 a0_1 a0_2 a0_3 a0_4 w hn0 w0_4)
    unfold pv at HZ
    go_enter Tryd.func5, Tryd.ntmps5
    go_wp2_with fail
    refine (HZ.out _).mono ?_
    rintro e W1 ⟨rfl, l1⟩
    have HB1 := Lib.hid (HB0.out.trans (l1.mono HB0.out.size))
    go_wp2_with fail
    go_ret
    exact ⟨rfl, HB1.out⟩
  have HZ := Lib.hid (fun w => szPacket_any a0_0 a0_1 a0_2 a0_3 a0_4 w hn0)
  have HTo := Lib.hid (fun w => toPacket_any a0_0 a0_1 a0_2 a0_3 a0_4 w)
  have hd0 : a0_4.size ≤ maxLen := w0_4
  have HSp := Lib.hid (fun (W : World) => specLine_any a0_0 a0_1 a0_2 a0_3 a0_4 W hd0)
  have HIm := Lib.hid (fun (W : World) (hT : Tab W) (hK : Kw W) => implLine_any a0_0 a0_1 a0_2 a0_3 a0_4 W hd0 hT hK)
  generalize lineV a0_0 a0_1 a0_2 a0_3 a0_4 = r0 at HSp HIm
  generalize pktOk a0_0 a0_1 a0_2 a0_3 a0_4 = r1 at HSp HIm
  unfold pv at HZ HTo HSp HIm
  clear hd0 w0_4 hn0
  have HT := Lib.hid (show ((1 : Int)) = ((1 : Nat) : Int) from rfl)
  go_enter Tryd.func5, Tryd.ntmps5
  go_wp2_with fail
  refine (HZ.out _).mono ?_
  rintro e W1 ⟨qz, rfl, hqz, l1⟩
  have hqz' : ¬ qz < 0 := by omega
  have HB1 := Lib.hid (HB0.out.trans (l1.mono HB0.out.size))
  have HP1 := Lib.hid (HP0.out.below l1 HP0.out.lt)
  clear HP0
  clear HB0
  clear l1
  obtain ⟨c0, c1, c2, c3, c4⟩ := HP1.out.cells
  go_wp2_with fail
  refine (HTo.out _).mono ?_
  rintro e W2 ⟨rfl, l2⟩
  clear c0 c1 c2 c3 c4
  have HB2 := Lib.hid (HB1.out.trans (l2.mono HB1.out.size))
  have HP2 := Lib.hid (HP1.out.below l2 HP1.out.lt)
  clear HP1
  clear HB1
  clear l2
  go_wp2_with fail
  refine (HSp.out  _ ).mono ?_
  rintro e W3 ⟨rfl, l3⟩
  have HB3 := Lib.hid (HB2.out.trans (l3.mono HB2.out.size))
  have HP3 := Lib.hid (HP2.out.below l3 HP2.out.lt)
  clear HP2
  clear HB2
  clear l3
  obtain ⟨c0, c1, c2, c3, c4⟩ := HP3.out.cells
  go_wp2_with fail
  refine (HTo.out _).mono ?_
  rintro e W4 ⟨rfl, l4⟩
  clear c0 c1 c2 c3 c4
  have HB4 := Lib.hid (HB3.out.trans (l4.mono HB3.out.size))
  have HP4 := Lib.hid (HP3.out.below l4 HP3.out.lt)
  clear HP3
  clear HB3
  clear l4
  go_wp2_with fail
  refine (HIm.out  _  (HFT.out.below HB4.out) (HFK.out.below HB4.out)).mono ?_
  rintro e W5 ⟨rfl, l5⟩
  have HB5 := Lib.hid (HB4.out.trans (l5.mono HB4.out.size))
  have HP5 := Lib.hid (HP4.out.below l5 HP4.out.lt)
  clear HP4
  clear HB4
  clear l5
  go_wp2_with fail
  go_ret
  exact ⟨rfl, HB5.out⟩

end Go.Proofs.YtncjplcefdeckaaDoor
