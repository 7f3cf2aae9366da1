/-
  VerifyChecksum of the program, and its exact law.
-/
import Derived.Test.YtjdlkkhkaobpnaaDoorVerify
namespace Go.Proofs.YtjdlkkhkaobpnaaDoor
open Go.RowKit

/-- The library's bound on a search holds some number. -/
def MaxLenOk (w : World) : Prop := ∃ m, w.cell? ⟨2, 0, none⟩ = some (.int .i64 m)
theorem MaxLenOk.below {w w' : World} (h : MaxLenOk w) (hb : Below w.heap.size w w') : MaxLenOk w' := by
  obtain ⟨m, hm⟩ := h
  exact ⟨m, (hb.cell (p := ⟨2, 0, none⟩) (World.block_lt_of_cell? w _ hm)).trans hm⟩
theorem maxLenOk_of {w : World} (h : w.ShapedOpen Tryd.prog) : MaxLenOk w := Tryd.laysM145.s1_3 w h

theorem cut_any (s : ByteArray) (hs : s.size ≤ 1048576) (w : World) (hm : MaxLenOk w) :
    Calls Tryd.prog 35 #[.string s, .string ⟨#[35]⟩] w fun e w' => ∃ r b, e = .returned (.tuple #[.string (preS s), .string r, .bool b]) ∧ ∃ n, w' = w.drewN n := by
  obtain ⟨m, hm⟩ := hm
  refine (Tryd.strings_Cut s ⟨#[35]⟩ m w (by omega) hm).mono fun e w' h => ?_
  obtain ⟨h1, h2⟩ := h
  have e1 : (Lib.cut s.data.toList (⟨#[35]⟩ : ByteArray).data.toList).1 = M.pre s.data.toList := M.pre_cut _
  rw [e1] at h1
  exact ⟨_, _, h1, h2⟩

set_option maxHeartbeats 400000 in
theorem implVerify_any (s : ByteArray) (hs : s.size ≤ 1048576) (w : World) (hm : MaxLenOk w) (ht : Tab w) :
    Calls Tryd.prog 18 #[.string s] w fun e w' => e = .returned (verOut s) ∧ Below w.heap.size w w' := by
  have H1 := Lib.hid hs
  have hps := preS_size s
  obtain ⟨p, hp⟩ : ∃ p, p = preS s := ⟨_, rfl⟩
  obtain ⟨t, b, hform⟩ := sealOut_form (preS s)
  have HN := Lib.hid (fun (h : ¬ (s.size ≤ 4000 ∧ preSeal s = s)) => seal_sealOut h t b hform)
  have HY : Hid (s.size ≤ 4000 → preSeal s = s → b = true ∧ t = s) := Lib.hid (fun h1 h2 => by
    have hl : (M.sld (preS s).data.toList).length ≤ 4000 := by
      have e : s.size = (M.sld (preS s).data.toList).length := by
        have := congrArg ByteArray.size h2
        rw [← this]; unfold preSeal; rw [size_of_list]
      omega
    rw [sealOut_yes (preS_has s) hl] at hform
    injection hform with hform
    injection hform with hform
    injection hform with h3 h4
    injection h3 with h3
    injection h4 with h4 _
    injection h4 with h4
    exact ⟨h4.symm, by rw [← h3]; exact h2⟩)
  rw [← hp] at hform hps
  have HF := Lib.hid hform
  have HP := Lib.hid hp
  clear hform hp
  have hcut : ∀ w, MaxLenOk w → Calls Tryd.prog 35 #[.string s, .string ⟨#[35]⟩] w fun e w' => ∃ r b, e = .returned (.tuple #[.string p, .string r, .bool b]) ∧ ∃ n, w' = w.drewN n := fun w h => by
    rw [HP.out]; exact cut_any s H1.out w h
  have HC := Lib.hid hcut
  clear hcut
  by_cases hv : s.size ≤ 4000 ∧ preSeal s = s
  · obtain ⟨rfl, rfl⟩ := HY.out hv.1 hv.2
    have HO := Lib.hid (verOut_yes hv.1 hv.2)
    have hp1 : p.size ≤ 1048576 := by have := H1.out; omega
    have HQ := Lib.hid hp1
    clear hv hps hs hp1
    go_enter Tryd.func18, Tryd.ntmps18
    go_wp2_with fail
    refine (HC.out _ hm).mono ?_
    rintro e w1 ⟨r, bb, rfl, n, rfl⟩
    go_wp2_with fail
    refine (implAppend_any p HQ.out _ (ht.below (bdrew _ _))).mono ?_
    rintro e w2 ⟨rfl, hb⟩
    rw [HF.out]
    go_wp2_with fail
    go_ret2
    exact ⟨by rw [HO.out, HP.out]; rfl, (bdrew _ _).trans hb⟩
  · have HO := Lib.hid (verOut_no hv)
    have hne := HN.out hv
    have hp1 : p.size ≤ 1048576 := by have := H1.out; omega
    have HQ := Lib.hid hp1
    have HE := Lib.hid hne
    clear hv hps hs hp1 hne
    cases b with
    | false =>
      go_enter Tryd.func18, Tryd.ntmps18
      go_wp2_with fail
      refine (HC.out _ hm).mono ?_
      rintro e w1 ⟨r, bb, rfl, n, rfl⟩
      go_wp2_with fail
      refine (implAppend_any p HQ.out _ (ht.below (bdrew _ _))).mono ?_
      rintro e w2 ⟨rfl, hb⟩
      rw [HF.out]
      go_wp2_with fail
      go_ret2
      exact ⟨by rw [HO.out]; rfl, (bdrew _ _).trans hb⟩
    | true =>
      have hd : (!t.toList == s.toList) = true := by
        cases h : (!t.toList == s.toList) with
        | true => rfl
        | false => exact absurd (bytes_same h) (HE.out rfl)
      go_enter Tryd.func18, Tryd.ntmps18
      go_wp2_with fail
      refine (HC.out _ hm).mono ?_
      rintro e w1 ⟨r, bb, rfl, n, rfl⟩
      go_wp2_with fail
      refine (implAppend_any p HQ.out _ (ht.below (bdrew _ _))).mono ?_
      rintro e w2 ⟨rfl, hb⟩
      rw [HF.out]
      go_wp2_with fail
      go_ret2
      exact ⟨by rw [HO.out]; rfl, (bdrew _ _).trans hb⟩

set_option maxHeartbeats 400000 in
theorem fnExactVerifyChecksum_walk (w : World) (a0 : ByteArray) (w0 : a0.size ≤ maxLen) (hsh : w.ShapedOpen Tryd.prog) (hL : laidMetH Tryd.prog Rows.fnExactVerifyChecksumRow.laid w) :
    Calls Tryd.prog 7 #[.string a0] w fun e w' => e = .returned (.bool true) ∧ Below w.heap.size w w' := by
  have ht : Tab w := tab_of_laid hL rfl (by simp [Rows.fnExactVerifyChecksumRow])
  have hm := maxLenOk_of hsh
  clear hL hsh
  unfold maxLen at w0
  by_cases hs : a0.size ≤ 1048576
  · obtain ⟨t, b, hform⟩ := verOut_form a0
    have HO := Lib.hid hform
    clear hform
    go_enter Tryd.func7, Tryd.ntmps7
    go_wp2_with fail
    refine (specVerify_any a0 hs _).mono ?_
    rintro e w1 ⟨rfl, hb1⟩
    rw [HO.out]
    go_wp2_with fail
    refine (implVerify_any a0 hs _ (hm.below hb1) (ht.below hb1)).mono ?_
    rintro e w2 ⟨rfl, hb2⟩
    rw [HO.out]
    go_wp2_with fail
    go_ret
    exact ⟨rfl, hb1.trans (hb2.mono hb1.size)⟩
  · go_enter Tryd.func7, Tryd.ntmps7
    go_wp2_with fail
    go_ret
    exact ⟨rfl, Below.refl _ _⟩
end Go.Proofs.YtjdlkkhkaobpnaaDoor
