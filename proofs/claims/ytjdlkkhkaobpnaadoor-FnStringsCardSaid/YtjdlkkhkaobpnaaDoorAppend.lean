/-
  AppendChecksum of the program, and its exact law.
-/
import Derived.Test.YtjdlkkhkaobpnaaDoorSeal
namespace Go.Proofs.YtjdlkkhkaobpnaaDoor
open Go.RowKit

theorem dg_value (s : ByteArray) : ∃ u : Int, -999999 ≤ u ∧ u ≤ 999999 ∧ u = M.ck s.data.toList ∧ fmtOut u = .tuple #[.string (dg s), .bool true] := by
  have := M.ck_bd s.data.toList
  exact ⟨_, by omega, by omega, rfl, by rw [fmtOut_yes (by omega)]; rfl⟩

set_option maxHeartbeats 400000 in
theorem implAppend_any (s : ByteArray) (hs : s.size ≤ 1048576) (w : World) (ht : Tab w) :
    Calls Tryd.prog 16 #[.string s] w fun e w' => e = .returned (sealOut s) ∧ Below w.heap.size w w' := by
  have hm : s.size ≤ maxLen := by unfold maxLen; omega
  have HM := Lib.hid hm
  clear hm
  by_cases h4 : s.size ≤ 4000
  · obtain ⟨u, hu0, hu1, hu, hf⟩ := dg_value s
    have hck : ckOut s = .tuple #[.int .i64 u, .bool true] := by rw [ckOut_yes h4, hu]
    have HC := Lib.hid hck
    have HF := Lib.hid hf
    clear hck hf hu
    obtain ⟨d, hd⟩ : ∃ d, d = dg s := ⟨_, rfl⟩
    have hds := dg_size s
    rw [← hd] at HF hds
    have HD := Lib.hid hd
    clear hd
    obtain ⟨t, b, hform⟩ := sealOut_form s
    have HO := Lib.hid hform
    have HJ : Hid (joinOut [s, d] ⟨#[35]⟩ = .tuple #[.string t, .bool b]) := Lib.hid (by rw [HD.out, join_seal, hform])
    clear hform
    have hrow : ∀ W : World, Row (W.alloc (.cells #[.string s, .string d] 9)) (.slice (some ⟨W.heap.size, 0, none⟩) 2 2) [s, d].length ([s, d].map Value.string) := fun W =>
      row_made W [.string s, .string d] 9 2 rfl (by decide)
    have HR := Lib.hid hrow
    clear hrow
    go_enter Tryd.func16, Tryd.ntmps16
    go_wp2_with fail
    refine (implChecksum_any s _ HM.out).mono ?_
    rintro e w' ⟨rfl, rfl⟩
    rw [HC.out]
    go_wp2_with fail
    refine (implFormatInt_any u _ ht).mono ?_
    rintro e w1 ⟨rfl, hb1⟩
    rw [HF.out]
    go_wp2_with fail
    refine (implJoin_any _ [s, d] ⟨#[35]⟩ _ (HR.out w1) (by simp) (by intro p hp; simp at hp; rcases hp with rfl | rfl <;> omega) (by decide)).mono ?_
    rintro e w2 ⟨rfl, hb2⟩
    rw [HJ.out]
    go_wp2_with fail
    go_ret2
    exact ⟨by rw [HO.out]; rfl, hb1.trans (((Below.refl _ _).alloc (Nat.le_refl _) _).trans (hb2.mono (by simp)) |>.mono hb1.size)⟩
  · rw [sealOut_big h4]
    have HC := Lib.hid (ckOut_no h4)
    go_enter Tryd.func16, Tryd.ntmps16
    go_wp2_with fail
    refine (implChecksum_any s _ HM.out).mono ?_
    rintro e w' ⟨rfl, rfl⟩
    rw [HC.out]
    go_wp2_with fail
    go_ret2
    exact ⟨rfl, Below.refl _ _⟩

set_option maxHeartbeats 400000 in
theorem fnExactAppendChecksum_walk (w : World) (a0 : ByteArray) (w0 : a0.size ≤ maxLen) (_hsh : w.ShapedOpen Tryd.prog) (hL : laidMetH Tryd.prog Rows.fnExactAppendChecksumRow.laid w) :
    Calls Tryd.prog 6 #[.string a0] w fun e w' => e = .returned (.bool true) ∧ Below w.heap.size w w' := by
  have ht : Tab w := tab_of_laid hL rfl (by simp [Rows.fnExactAppendChecksumRow])
  clear hL
  unfold maxLen at w0
  by_cases hs : a0.size ≤ 1048576
  · obtain ⟨t, b, hform⟩ := sealOut_form a0
    have HO := Lib.hid hform
    clear hform
    go_enter Tryd.func6, Tryd.ntmps6
    go_wp2_with fail
    refine (specAppend_any a0 hs _).mono ?_
    rintro e w' ⟨rfl, k, rfl⟩
    rw [HO.out]
    go_wp2_with fail
    refine (implAppend_any a0 hs _ (ht.below (bdrew _ _))).mono ?_
    rintro e w2 ⟨rfl, hb⟩
    rw [HO.out]
    go_wp2_with fail
    go_ret
    exact ⟨rfl, (bdrew _ _).trans hb⟩
  · go_enter Tryd.func6, Tryd.ntmps6
    go_wp2_with fail
    go_ret
    exact ⟨rfl, Below.refl _ _⟩
end Go.Proofs.YtjdlkkhkaobpnaaDoor
