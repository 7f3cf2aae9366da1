/-
  The exact law of ParsePacketLine.
-/
import Derived.Test.YtncjplcefdeckaaDoorDec3
namespace Go.Proofs.YtncjplcefdeckaaDoor
open Go.RowKit Go.Lib Go.Joins
set_option linter.unusedVariables false

set_option maxRecDepth 100000 in
set_option maxHeartbeats 2000000 in
theorem fnExactParsePacketLine_walk (w : World) (a0 : ByteArray) (w0 : a0.size ≤ maxLen) (_hsh : w.ShapedOpen Tryd.prog) (hL : laidMetH Tryd.prog Rows.fnExactParsePacketLineRow.laid w) :
    Calls Tryd.prog 6 #[.string a0] w fun e w' => e = .returned (.bool true) ∧ Below w.heap.size w w' := by
  have he : Errs w := errs_of_laid hL rfl (by simp [Rows.fnExactParsePacketLineRow]) (by simp [Rows.fnExactParsePacketLineRow])
  unfold maxLen at w0
  by_cases hn0 : a0.size ≤ 1048576
  rotate_left
  · have hn0' : ¬ (a0.size : Int) ≤ 1048576 := by omega
    go_enter Tryd.func6, Tryd.ntmps6
    go_wp2_with fail
    go_ret
    exact ⟨rfl, Below.refl _ _⟩
  have hn0' : (a0.size : Int) ≤ 1048576 := by omega
  have HSp := Lib.hid (fun (W : World) => specParseLine_any a0 W hn0)
  have HIm := Lib.hid (fun (W : World) (hm : MLOk W) (ht : Tab W) (h : Errs W) (hw : Kw W) => implParseLine_any a0 W hn0 hm ht h hw)
  have HE := Lib.hid he
  have HT := Lib.hid (tab_of_laid hL rfl (by simp [Rows.fnExactParsePacketLineRow]))
  have HK := Lib.hid (kw_of_laid hL rfl (by simp [Rows.fnExactParsePacketLineRow]))
  have HM := Lib.hid (mlOk_of _hsh)
  generalize parB a0 = r0 at HSp HIm
  obtain ⟨pk, pn, pt, pl, pd, hv⟩ : ∃ k n t l d, parV a0 = pv k n t l d := ⟨_, _, _, _, _, rfl⟩
  rw [hv] at HSp HIm
  clear hv hL he _hsh
  have HEq := Lib.hid (fun (W : World) => eqPacket_same pk pn pt pl pd W)
  unfold pv at HSp HIm HEq
  go_enter Tryd.func6, Tryd.ntmps6
  go_wp2_with fail
  refine (HSp.out _).mono ?_
  rintro e W3 ⟨rfl, l3⟩
  have HB3 := Lib.hid l3
  clear l3
  go_wp2_with fail
  obtain ⟨W4, hW4⟩ : ∃ W4, W4 = W3.alloc (.cells #[.int .i64 pk, .int .i64 pn, .int .i64 pt, .int .i64 pl, .string pd] 25) := ⟨_, rfl⟩
  have HQ4 : Hid (Pb W4 W3.heap.size pk pn pt pl pd) := Lib.hid (by rw [hW4]; exact heap_alloc_new W3 _)
  have hb4 : Below W3.heap.size W3 W4 := by rw [hW4]; exact (Below.refl _ _).alloc (Nat.le_refl _) _
  rw [← hW4]
  have HB4 := Lib.hid (HB3.out.trans (hb4.mono HB3.out.size))
  clear hW4 hb4 HB3
  refine (HIm.out _ (HM.out.below HB4.out) (HT.out.below HB4.out) (HE.out.below HB4.out) (HK.out.below HB4.out)).mono ?_
  rintro e W6 ⟨rfl, l6⟩
  have HQ6 := Lib.hid (HQ4.out.below l6 HQ4.out.lt)
  have HB6 := Lib.hid (HB4.out.trans (l6.mono HB4.out.size))
  clear HB4 l6 HQ4
  obtain ⟨c0, c1, c2, c3, c4⟩ := HQ6.out.cells
  have hlt := HQ6.out.lt
  go_wp2_with fail
  refine (HEq.out _).mono ?_
  rintro e W7 ⟨rfl, l7⟩
  have HB7 := Lib.hid ((HB6.out.alloc HB6.out.size (.cells #[.int .i64 pk, .int .i64 pn, .int .i64 pt, .int .i64 pl, .string pd] 25)).trans (l7.mono (by have := HB6.out.size; simp; omega)))
  clear l7 c0 c1 c2 c3 c4 hlt
  go_wp2_with fail
  go_ret
  exact ⟨rfl, HB7.out⟩
end Go.Proofs.YtncjplcefdeckaaDoor
