/-
  The walk of the law FnStrings.
-/
import Derived.Test.YtjdlkkhkaobpnaaDoorFnVerify
import Derived.Test.YtjdlkkhkaobpnaaDoorFnParseInt
import Derived.Test.YtjdlkkhkaobpnaaDoorAppend
import Derived.Test.YtjdlkkhkaobpnaaDoorMath5
import Derived.Test.YtjdlkkhkaobpnaaDoorDraw4
import Derived.Lib.ConvBytes
import Derived.Lib.AtoiErrMem
import Derived.StillTailTactics
import Derived.Laws.Bits64
import Derived.Laws.IdiomStrings
namespace Go.Proofs.YtjdlkkhkaobpnaaDoor
open Go.RowKit

theorem PR.form (s : ByteArray) : ∃ m b, ∀ e, PR s e → e = .returned (.tuple #[.int .i64 m, .bool b]) := by
  by_cases hP : ∃ n, M.inR n ∧ Lib.itoa n = s.data.toList
  · obtain ⟨n, h1, h2⟩ := hP
    exact ⟨n, true, fun e h => PR.det h1 h2 h⟩
  · exact ⟨0, false, fun e h => PR.det_no (fun m h1 h2 => hP ⟨m, h1, h2⟩) h⟩

/-- What FormatInt answers, and what ParseInt answers to it. -/
theorem fmt_back (n : Int) : ∃ (s : ByteArray) (ok : Bool) (m : Int) (b : Bool), fmtOut n = .tuple #[.string s, .bool ok] ∧ s.size ≤ 1048576 ∧ (∀ e, PR s e → e = .returned (.tuple #[.int .i64 m, .bool b])) ∧ (ok = true → m = n ∧ b = true) := by
  by_cases h : -999999 ≤ n ∧ n ≤ 999999
  · refine ⟨⟨(Lib.itoa n).toArray⟩, true, n, true, fmtOut_yes h, ?_, fun e he => PR.det (n := n) (by unfold M.inR; omega) (by simp) he, fun _ => ⟨rfl, rfl⟩⟩
    rw [size_of_list]
    unfold Lib.itoa
    split
    · rw [List.length_cons, Lib.decDigits_length]
      have := nDigits_le n.natAbs
      omega
    · rw [Lib.decDigits_length]
      have := nDigits_le n.toNat
      omega
  · obtain ⟨m, b, hmb⟩ := PR.form ⟨#[]⟩
    exact ⟨⟨#[]⟩, false, m, b, fmtOut_no h, by decide, hmb, fun h => nomatch h⟩

/-- What AppendChecksum answers. -/
theorem seal_cases (x : ByteArray) : sealOut x = .tuple #[.string ⟨#[]⟩, .bool false] ∨
    ∃ y : ByteArray, sealOut x = .tuple #[.string y, .bool true] ∧ (35 : UInt8) ∉ x.data.toList ∧ y.data.toList = M.sld x.data.toList ∧ y.size ≤ 4000 ∧ 1 ≤ y.size := by
  by_cases h : M.has x 35 = false ∧ (M.sld x.data.toList).length ≤ 4000
  · refine .inr ⟨_, sealOut_yes h.1 h.2, ?_, by simp, by rw [size_of_list]; exact h.2, ?_⟩
    · have := h.1
      unfold M.has at this
      exact of_decide_eq_false this
    · rw [size_of_list]
      have := seal_len x
      omega
  · exact .inl (sealOut_no h)

theorem bits_xor_u8 (a b : Nat) (ha : a < 256) (hb : b < 256) : bits .xor .u8 (a : Int) (b : Int) = ((a ^^^ b : Nat) : Int) := by
  have hx : a ^^^ b < 2 ^ 8 := Nat.xor_lt_two_pow (by omega) (by omega)
  have h1 : (BitVec.ofInt 8 (a : Int)).toNat = a := by
    rw [BitVec.ofInt_natCast, BitVec.toNat_ofNat]; exact Nat.mod_eq_of_lt (by omega)
  have h2 : (BitVec.ofInt 8 (b : Int)).toNat = b := by
    rw [BitVec.ofInt_natCast, BitVec.toNat_ofNat]; exact Nat.mod_eq_of_lt (by omega)
  show IntKind.u8.wrap ((BitVec.ofInt 8 (a : Int) ^^^ BitVec.ofInt 8 (b : Int)).toNat : Int) = _
  rw [BitVec.toNat_xor, h1, h2]
  simp [IntKind.wrap, IntKind.bits, IntKind.signed]
  omega
theorem xor_ne (a b : Nat) (hb : b ≠ 0) : a ^^^ b ≠ a := fun h => by
  have h2 := congrArg (fun t => a ^^^ t) h
  simp only [← Nat.xor_assoc, Nat.xor_self, Nat.zero_xor] at h2
  exact hb h2

theorem xor_byte (c : UInt8) (v : Nat) : ∃ d : UInt8, bits .xor .u8 (c.toNat : Int) (1 + (v : Int) % 255) = d.toNat ∧ c ≠ d := by
  have h1 := c.toNat_lt
  have h2 : c.toNat ^^^ (1 + v % 255) < 2 ^ 8 := Nat.xor_lt_two_pow (by omega) (by omega)
  have h3 : (UInt8.ofNat (c.toNat ^^^ (1 + v % 255))).toNat = c.toNat ^^^ (1 + v % 255) := by
    rw [UInt8.toNat_ofNat']; exact Nat.mod_eq_of_lt h2
  refine ⟨UInt8.ofNat (c.toNat ^^^ (1 + v % 255)), ?_, fun e => ?_⟩
  · rw [h3, show (1 + (v : Int) % 255) = ((1 + v % 255 : Nat) : Int) by omega]
    exact bits_xor_u8 _ _ (by omega) (by omega)
  · have := congrArg UInt8.toNat e
    rw [h3] at this
    exact xor_ne c.toNat (1 + v % 255) (by omega) this.symm

/-- 'vAt' in whatever world: one value. -/
theorem vAt_det (v : Value) (z : List Int) (i : Nat) (hz : ∀ x ∈ z, 0 ≤ x ∧ x < 256) (hi : i ≤ 1000) (hn : z.length ≤ 65536) :
    ∃ x : Nat, x < 256 ∧ ∀ w, Row w v z.length (z.map (Value.int .u8)) → Calls Tryd.prog 19 #[v, .int .i64 i] w fun e w' => e = .returned (.int .i64 x) ∧ w' = w := by
  by_cases h : i < z.length
  · have hx := hz _ (List.getElem_mem h)
    obtain ⟨x, hxe⟩ : ∃ x, x = z[i] := ⟨_, rfl⟩
    rw [← hxe] at hx
    refine ⟨x.toNat, by omega, fun w hrow => ?_⟩
    obtain ⟨a, cap, rfl, _, _, hcell⟩ := row_open hrow
    obtain ⟨b, off, rfl, _, hc⟩ := hcell i h
    rw [← hxe] at hc
    have hx0 := hx.1
    have hx1 := hx.2
    clear hcell hrow hz hx hxe
    go_enter Tryd.func19, Tryd.ntmps19
    go_wp2
    go_ret
    exact ⟨ret_int (by omega), rfl⟩
  · refine ⟨(i * 7 + z.length) % 256, by omega, fun w hrow => ?_⟩
    obtain ⟨a, cap, rfl, _, _, hcell⟩ := row_open hrow
    clear hcell hrow hz
    go_enter Tryd.func19, Tryd.ntmps19
    go_wp2
    go_ret
    exact ⟨ret_int (by omega), rfl⟩

/-- A text's bytes, one of them stored anew, read back. -/
theorem back_set (w : World) (B k cap : Nat) (y : ByteArray) (d : UInt8) (X : Int) (hX : X = d.toNat) (hk : k < y.size) (h : ∀ j, j < y.size → w.cell? ⟨B, j, none⟩ = some (.int .u8 (y.data.toList.getD j 0).toNat)) :
    (convert 22 9 (.slice (some ⟨B, 0, none⟩) y.size cap)).run Tryd.prog (w.setCell ⟨B, k, none⟩ (.int .u8 X)) = .ok (.string ⟨(y.data.toList.set k d).toArray⟩) (w.setCell ⟨B, k, none⟩ (.int .u8 X)) := by
  subst hX
  have hl : (y.data.toList.set k d).length = y.size := by simp
  have := run_convert_bytes_back (P := Tryd.prog) (w.setCell ⟨B, k, none⟩ (.int .u8 d.toNat)) 22 9 5 ⟨B, 0, none⟩ cap (y.data.toList.set k d) Tryd.underlying22 Tryd.underlying5 Tryd.underlying9
    (fun j hj0 => by
      have hj : j < y.size := hl ▸ hj0
      rw [addr_add, Nat.zero_add]
      by_cases hjk : j = k
      · subst hjk
        rw [World.cell?_setCell_same _ _ _ (h j hj)]
        simp
      · rw [World.cell?_setCell_other _ _ _ _ (by intro e; injection e with _ e2; exact hjk e2.symm), h j hj]
        have e1 : (y.data.toList.set k d)[j]'hj0 = y.data.toList.getD j 0 := by
          rw [List.getElem_set_ne (fun e => hjk e.symm), List.getD_eq_getElem?_getD, List.getElem?_eq_getElem (by simpa using hj)]
          rfl
        rw [e1])
  rw [hl] at this
  exact this

theorem bytes_free (w : World) (e : TypeId) (s : ByteArray) (k : Nat) (hk : k < s.size) : (Lib.bytesWorld w e s).frozen? ⟨w.heap.size, k, none⟩ = false := by
  unfold World.frozen?
  rw [Lib.bytesWorld_at_new]
  have : s.size ≤ (Lib.bytesCells w e s).size := by
    unfold Lib.bytesCells
    rw [Array.size_append, Array.size_map]
    exact Nat.le_add_right _ _
  simp
  intro h
  omega

theorem pre_sld (l : List UInt8) (h : (35 : UInt8) ∉ l) : M.pre (M.sld l) = l := by
  have := M.parts_head 35 l (Lib.itoa (M.ck l)) h
  unfold M.pre
  show (M.parts 35 (l ++ 35 :: Lib.itoa (M.ck l))).headD [] = l
  cases h4 : M.parts 35 (l ++ 35 :: Lib.itoa (M.ck l)) with
  | nil => exact absurd h4 (M.parts_ne 35 _)
  | cons x xs => rw [h4] at this; simp at this; simp [this]

/-- A sealed text is verified. -/
theorem ver_sealed {x y : ByteArray} (hx : (35 : UInt8) ∉ x.data.toList) (hy : y.data.toList = M.sld x.data.toList) (hs : y.size ≤ 4000) : verOut y = .tuple #[.string x, .bool true] := by
  have hp : preS y = x := by
    unfold preS
    rw [hy, pre_sld _ hx]
  have h2 : preSeal y = y := by
    unfold preSeal
    rw [hp, ← hy]
  rw [verOut_yes hs h2, hp]

/-- A sealed text with one byte changed is not. -/
theorem ver_flipped {x y : ByteArray} (hx : (35 : UInt8) ∉ x.data.toList) (hy : y.data.toList = M.sld x.data.toList) (k : Nat) (b c : UInt8) (hc : y.data.toList[k]? = some c) (hb : c ≠ b) : verOut ⟨(y.data.toList.set k b).toArray⟩ = .tuple #[.string ⟨#[]⟩, .bool false] := by
  apply verOut_no
  rintro ⟨_, h⟩
  have h1 := congrArg (fun s : ByteArray => s.data.toList) h
  simp only [preSeal] at h1
  rw [hy] at hc h1
  exact M.flip_ne _ _ hx (M.pre_clean _) k b c hc hb h1

set_option maxRecDepth 100000 in
set_option maxHeartbeats 2000000 in
theorem fnStrings_walk (w : World) (v0 : Value) (z0 : List Int) (w0 : Row w v0 z0.length (z0.map (Value.int .u8))) (b0 : ∀ z ∈ z0, (Lit.int .u8 z).wf = true) (hsh : w.ShapedOpen Tryd.prog) (hL : laidMetH Tryd.prog Rows.fnStringsRow.laid w) :
    Calls Tryd.prog 3 #[v0] w fun e w' => e = .returned (.bool true) ∧ Below w.heap.size w w' := by
  have ht : Tab w := tab_of_laid hL rfl (by simp [Rows.fnStringsRow])
  have he : Errs w := errs_of_laid hL rfl (by simp [Rows.fnStringsRow]) (by simp [Rows.fnStringsRow])
  have hm : MaxLenOk w := maxLenOk_of hsh
  clear hL hsh
  have hz : ∀ x ∈ z0, 0 ≤ x ∧ x < 256 := fun x hx => by have := bounds_u8 (b0 x hx); omega
  obtain ⟨a0, cap0, e0, _, _, _⟩ := row_open w0
  by_cases hbig : (65536 : Int) < z0.length
  · subst e0
    have hd : decide ((65536 : Int) < (z0.length : Int)) = true := decide_eq_true hbig
    clear w0 b0 hz
    go_enter Tryd.func3, Tryd.ntmps3
    go_wp2_with (go_at_call 8; refine (vBig_any _ _ _ _).mono ?_; rintro e w' ⟨rfl, rfl⟩)
    go_ret
    exact ⟨rfl, Below.refl _ _⟩
  · have hd : decide ((65536 : Int) < (z0.length : Int)) = false := decide_eq_false hbig
    have HR := Lib.hid w0
    have HZ := Lib.hid hz
    have HT := Lib.hid ht
    have HE := Lib.hid he
    have HM := Lib.hid hm
    have HD1 := Lib.hid (fun w hr => drawFormat_any v0 z0 w hr hz)
    have HD2 := Lib.hid (fun w hr => drawParse_any v0 z0 w hr hz)
    have HD3 := Lib.hid (fun w hr => drawAppend_any v0 z0 w hr hz)
    obtain ⟨v9, h9, ha9⟩ := vAt_det v0 z0 9 hz (by omega) (by omega)
    obtain ⟨v10, h10, ha10⟩ := vAt_det v0 z0 10 hz (by omega) (by omega)
    have HA9 := Lib.hid ha9
    have HA10 := Lib.hid ha10
    clear ha9 ha10
    have HV : Hid (∀ w, Calls Tryd.prog 8 #[v0] w fun e w' => e = .returned (.bool false) ∧ w = w') := Lib.hid (fun w => by
      rw [e0, ← hd]; exact vBig_any _ _ _ w)
    clear w0 b0 hz e0 hd ht he hm hbig
    go_enter Tryd.func3, Tryd.ntmps3
    go_wp2_with fail
    refine (HV.out _).mono ?_
    rintro e w' ⟨rfl, rfl⟩
    go_wp2_with fail
    refine (HD1.out _ HR.out).mono ?_
    rintro e W1 ⟨n, rfl, l1⟩
    have L1 := Lib.hid l1
    clear l1
    obtain ⟨s, ok, m2, b2, hf, hfs, hfp, hok⟩ := fmt_back n
    have HF := Lib.hid hf
    have HFS := Lib.hid hfs
    have HFP := Lib.hid hfp
    have HOK := Lib.hid hok
    clear hf hfs hfp hok
    go_wp2_with fail
    refine (implFormatInt_any n _ (HT.out.below L1.out)).mono ?_
    rintro e W2 ⟨rfl, l2⟩
    rw [HF.out]
    have L2 := Lib.hid (L1.out.trans (l2.mono L1.out.size))
    clear l2
    go_wp2_with fail
    refine (specFormatInt_any n _).mono ?_
    rintro e W3 ⟨rfl, k3, rfl⟩
    rw [HF.out]
    have L3 := Lib.hid (L2.out.trans ((bdrew W2 k3).mono L2.out.size))
    go_wp2_with fail
    refine (HD2.out _ (HR.out.below L3.out (Nat.le_refl _))).mono ?_
    rintro e W4 ⟨t, hts, rfl, l4⟩
    have L4 := Lib.hid (L3.out.trans (l4.mono L3.out.size))
    obtain ⟨m, fine, hp⟩ := PR.form t
    have HP := Lib.hid hp
    have HTS := Lib.hid hts
    clear l4 hp hts
    go_wp2_with fail
    refine (implParseInt_any t (by have := HTS.out; omega) _ (HT.out.below L4.out) (HE.out.below L4.out)).mono ?_
    rintro e W5 ⟨hpr, l5⟩
    obtain rfl := HP.out e hpr
    have L5 := Lib.hid (L4.out.trans (l5.mono L4.out.size))
    clear hpr l5
    go_wp2_with fail
    refine (specParseInt_any t (by have := HTS.out; omega) _).mono ?_
    rintro e W6 ⟨hpr, k6, rfl⟩
    obtain rfl := HP.out e hpr
    have L6 := Lib.hid (L5.out.trans ((bdrew W5 k6).mono L5.out.size))
    clear hpr
    go_wp2_with fail
    refine (HD3.out _ (HR.out.below L6.out (Nat.le_refl _))).mono ?_
    rintro e W7 ⟨x, hxs, rfl, l7⟩
    have L7 := Lib.hid (L6.out.trans (l7.mono L6.out.size))
    have HXS := Lib.hid hxs
    clear l7 hxs
    rcases seal_cases x with hq | ⟨y, hq, hx35, hy, hy1, hy2⟩
    · have HQ := Lib.hid hq
      clear hq
      go_wp2_with fail
      refine (implAppend_any x (by have := HXS.out; omega) _ (HT.out.below L7.out)).mono ?_
      rintro e W8 ⟨rfl, l8⟩
      rw [HQ.out]
      have L8 := Lib.hid (L7.out.trans (l8.mono L7.out.size))
      clear l8
      go_wp2_with fail
      refine (specAppend_any x (by have := HXS.out; omega) _).mono ?_
      rintro e W9 ⟨rfl, k9, rfl⟩
      rw [HQ.out]
      have L9 := Lib.hid (L8.out.trans ((bdrew W8 k9).mono L8.out.size))
      go_wp2_with fail
      refine (implParseInt_any s HFS.out _ (HT.out.below L9.out) (HE.out.below L9.out)).mono ?_
      rintro e W10 ⟨hpr, l10⟩
      obtain rfl := HFP.out e hpr
      have L10 := Lib.hid (L9.out.trans (l10.mono L9.out.size))
      clear hpr l10
      have hok := HOK.out
      clear HFP HOK HF
      cases ok with
      | false =>
        go_wp2_with fail
        go_ret
        exact ⟨rfl, L10.out⟩
      | true =>
        obtain ⟨rfl, rfl⟩ := hok rfl
        go_wp2_with fail
        go_ret
        exact ⟨rfl, L10.out⟩
    · have HQ := Lib.hid hq
      have HX := Lib.hid hx35
      have HY := Lib.hid hy
      have HV1 := Lib.hid (ver_sealed hx35 hy hy1)
      have hcv : ∀ W : World, (convert 9 22 (.string y)).run Tryd.prog W = .ok (.slice (some ⟨W.heap.size, 0, none⟩) y.size (grownCap W y.size 0 5)) (Lib.bytesWorld W 5 y) := fun W =>
        Lib.run_convert_string_bytes W 9 22 5 y Tryd.underlying9 Tryd.underlying22 Tryd.underlying5
      have HCV := Lib.hid hcv
      clear hq hx35 hy hcv
      go_wp2_with fail
      refine (implAppend_any x (by have := HXS.out; omega) _ (HT.out.below L7.out)).mono ?_
      rintro e W8 ⟨rfl, l8⟩
      rw [HQ.out]
      have L8 := Lib.hid (L7.out.trans (l8.mono L7.out.size))
      clear l8
      go_wp2_with fail
      refine (specAppend_any x (by have := HXS.out; omega) _).mono ?_
      rintro e W9 ⟨rfl, k9, rfl⟩
      rw [HQ.out]
      have L9 := Lib.hid (L8.out.trans ((bdrew W8 k9).mono L8.out.size))
      go_wp2_with fail
      refine (implParseInt_any s HFS.out _ (HT.out.below L9.out) (HE.out.below L9.out)).mono ?_
      rintro e W10 ⟨hpr, l10⟩
      obtain rfl := HFP.out e hpr
      have L10 := Lib.hid (L9.out.trans (l10.mono L9.out.size))
      clear hpr l10
      have hok := HOK.out
      clear HFP HOK HF
      cases ok with
      | false =>
        go_wp2_with fail
        refine (implVerify_any y (by omega) _ (HM.out.below L10.out) (HT.out.below L10.out)).mono ?_
        rintro e W11 ⟨rfl, l11⟩
        rw [HV1.out]
        have L11 := Lib.hid (L10.out.trans (l11.mono L10.out.size))
        clear l11
        have hcv := HCV.out W11
        go_wp2_with fail
        have hrb : Row (Lib.bytesWorld W11 5 y) v0 z0.length (z0.map (Value.int .u8)) := HR.out.below (L11.out.trans ((Lib.bytesWorld_below _ _ _).mono L11.out.size)) (Nat.le_refl _)
        have c1 := Lib.bytesWorld_cell W11 5 y
        have c2 := bytes_free W11 5 y
        have l12 := Lib.bytesWorld_below W11 5 y
        clear hcv
        generalize Lib.bytesWorld W11 5 y = WB at hrb c1 c2 l12 ⊢
        have C1 := Lib.hid c1
        have L12 := Lib.hid (L11.out.trans (l12.mono L11.out.size))
        obtain ⟨k, hk, hke⟩ : ∃ k : Nat, k < y.size ∧ (v9 : Int) % (y.size : Int) = k := ⟨v9 % y.size, Nat.mod_lt _ (by omega), by omega⟩
        have c1k := c1 k hk
        have c2k := c2 k hk
        obtain ⟨c, hc⟩ : ∃ c : UInt8, c = y.data.toList.getD k 0 := ⟨_, rfl⟩
        rw [← hc] at c1k
        have HC := Lib.hid hc
        clear c1 c2 l12 hc
        refine (HA9.out _ hrb).mono ?_
        rintro e w' ⟨rfl, rfl⟩
        go_wp2_with fail
        rw [hke]
        have hk0 : (0 : Int) ≤ k := by omega
        have hk1 : (k : Int) < y.size := by omega
        refine wp_region_still_tail 12 (by kernel_rfl) (by kernel_rfl) ?_
        have hrd : Row (w'.drewN 1) v0 z0.length (z0.map (Value.int .u8)) := hrb.below (bdrew w' 1) (Nat.le_refl _)
        have d1 : (w'.drewN 1).cell? ⟨W11.heap.size, k, none⟩ = some (.int .u8 c.toNat) := c1k
        have d2 : (w'.drewN 1).frozen? ⟨W11.heap.size, k, none⟩ = false := c2k
        have L13 := Lib.hid (L12.out.trans ((bdrew w' 1).mono L12.out.size))
        have D1 : Hid (∀ j, j < y.size → (w'.drewN 1).cell? ⟨W11.heap.size, j, none⟩ = some (.int .u8 (y.data.toList.getD j 0).toNat)) := Lib.hid (fun j hj => C1.out j hj)
        clear hrb c1k c2k
        obtain ⟨wd, hwd⟩ : ∃ wd, wd = w'.drewN 1 := ⟨_, rfl⟩
        rw [← hwd] at hrd d1 d2 L13 D1
        have hwd2 : ({ w' with drawn := w'.drawn + 1 } : World) = wd := hwd.symm
        rw [hwd2]
        clear hwd hwd2 C1 L12
        simp only [List.take_succ_cons, List.take_zero, List.drop_succ_cons, List.drop_zero]
        repeat still_step
        still_call (HA10.out _ hrd)
        repeat still_step
        refine wpStill_nil ?_
        obtain ⟨d, hd, hcd⟩ : ∃ d : UInt8, bits .xor .u8 (c.toNat : Int) (1 + (v10 : Int) % 255) = d.toNat ∧ c ≠ d := xor_byte c v10
        have hback : (convert 22 9 (.slice (some ⟨W11.heap.size, 0, none⟩) y.size (grownCap W11 y.size 0 5))).run Tryd.prog (wd.setCell ⟨W11.heap.size, k, none⟩ (.int .u8 (bits .xor .u8 (c.toNat : Int) (1 + (v10 : Int) % 255)))) = .ok (.string ⟨(y.data.toList.set k d).toArray⟩) (wd.setCell ⟨W11.heap.size, k, none⟩ (.int .u8 (bits .xor .u8 (c.toNat : Int) (1 + (v10 : Int) % 255)))) :=
          back_set wd _ k _ y d _ hd hk (fun j hj => D1.out j hj)
        have hflip : verOut ⟨(y.data.toList.set k d).toArray⟩ = .tuple #[.string ⟨#[]⟩, .bool false] :=
          ver_flipped HX.out HY.out k d c (by rw [HC.out, List.getD_eq_getElem?_getD, List.getElem?_eq_getElem (by simpa using hk)]; rfl) hcd
        have HFL := Lib.hid hflip
        have hsz : (⟨(y.data.toList.set k d).toArray⟩ : ByteArray).size ≤ 1048576 := by
          have h1 : y.data.toList.length = y.size := by simp
          rw [size_of_list, List.length_set]
          omega
        have HSZ := Lib.hid hsz
        clear hflip hsz hd hcd D1 HC
        obtain ⟨f, hf⟩ : ∃ f : ByteArray, f = ⟨(y.data.toList.set k d).toArray⟩ := ⟨_, rfl⟩
        rw [← hf] at hback HFL HSZ
        clear hf
        go_wp2_with fail
        have L14 := Lib.hid (L13.out.setCell (p := ⟨W11.heap.size, k, none⟩) L11.out.size (.int .u8 (bits .xor .u8 (c.toNat : Int) (1 + (v10 : Int) % 255))))
        refine (implVerify_any f HSZ.out _ (HM.out.below L14.out) (HT.out.below L14.out)).mono ?_
        rintro e W15 ⟨rfl, l15⟩
        rw [HFL.out]
        go_wp2_with fail
        go_ret
        exact ⟨rfl, L14.out.trans (l15.mono L14.out.size)⟩
      | true =>
        obtain ⟨rfl, rfl⟩ := hok rfl
        go_wp2_with fail
        refine (implVerify_any y (by omega) _ (HM.out.below L10.out) (HT.out.below L10.out)).mono ?_
        rintro e W11 ⟨rfl, l11⟩
        rw [HV1.out]
        have L11 := Lib.hid (L10.out.trans (l11.mono L10.out.size))
        clear l11
        have hcv := HCV.out W11
        go_wp2_with fail
        have hrb : Row (Lib.bytesWorld W11 5 y) v0 z0.length (z0.map (Value.int .u8)) := HR.out.below (L11.out.trans ((Lib.bytesWorld_below _ _ _).mono L11.out.size)) (Nat.le_refl _)
        have c1 := Lib.bytesWorld_cell W11 5 y
        have c2 := bytes_free W11 5 y
        have l12 := Lib.bytesWorld_below W11 5 y
        clear hcv
        generalize Lib.bytesWorld W11 5 y = WB at hrb c1 c2 l12 ⊢
        have C1 := Lib.hid c1
        have L12 := Lib.hid (L11.out.trans (l12.mono L11.out.size))
        obtain ⟨k, hk, hke⟩ : ∃ k : Nat, k < y.size ∧ (v9 : Int) % (y.size : Int) = k := ⟨v9 % y.size, Nat.mod_lt _ (by omega), by omega⟩
        have c1k := c1 k hk
        have c2k := c2 k hk
        obtain ⟨c, hc⟩ : ∃ c : UInt8, c = y.data.toList.getD k 0 := ⟨_, rfl⟩
        rw [← hc] at c1k
        have HC := Lib.hid hc
        clear c1 c2 l12 hc
        refine (HA9.out _ hrb).mono ?_
        rintro e w' ⟨rfl, rfl⟩
        go_wp2_with fail
        rw [hke]
        have hk0 : (0 : Int) ≤ k := by omega
        have hk1 : (k : Int) < y.size := by omega
        refine wp_region_still_tail 12 (by kernel_rfl) (by kernel_rfl) ?_
        have hrd : Row (w'.drewN 1) v0 z0.length (z0.map (Value.int .u8)) := hrb.below (bdrew w' 1) (Nat.le_refl _)
        have d1 : (w'.drewN 1).cell? ⟨W11.heap.size, k, none⟩ = some (.int .u8 c.toNat) := c1k
        have d2 : (w'.drewN 1).frozen? ⟨W11.heap.size, k, none⟩ = false := c2k
        have L13 := Lib.hid (L12.out.trans ((bdrew w' 1).mono L12.out.size))
        have D1 : Hid (∀ j, j < y.size → (w'.drewN 1).cell? ⟨W11.heap.size, j, none⟩ = some (.int .u8 (y.data.toList.getD j 0).toNat)) := Lib.hid (fun j hj => C1.out j hj)
        clear hrb c1k c2k
        obtain ⟨wd, hwd⟩ : ∃ wd, wd = w'.drewN 1 := ⟨_, rfl⟩
        rw [← hwd] at hrd d1 d2 L13 D1
        have hwd2 : ({ w' with drawn := w'.drawn + 1 } : World) = wd := hwd.symm
        rw [hwd2]
        clear hwd hwd2 C1 L12
        simp only [List.take_succ_cons, List.take_zero, List.drop_succ_cons, List.drop_zero]
        repeat still_step
        still_call (HA10.out _ hrd)
        repeat still_step
        refine wpStill_nil ?_
        obtain ⟨d, hd, hcd⟩ : ∃ d : UInt8, bits .xor .u8 (c.toNat : Int) (1 + (v10 : Int) % 255) = d.toNat ∧ c ≠ d := xor_byte c v10
        have hback : (convert 22 9 (.slice (some ⟨W11.heap.size, 0, none⟩) y.size (grownCap W11 y.size 0 5))).run Tryd.prog (wd.setCell ⟨W11.heap.size, k, none⟩ (.int .u8 (bits .xor .u8 (c.toNat : Int) (1 + (v10 : Int) % 255)))) = .ok (.string ⟨(y.data.toList.set k d).toArray⟩) (wd.setCell ⟨W11.heap.size, k, none⟩ (.int .u8 (bits .xor .u8 (c.toNat : Int) (1 + (v10 : Int) % 255)))) :=
          back_set wd _ k _ y d _ hd hk (fun j hj => D1.out j hj)
        have hflip : verOut ⟨(y.data.toList.set k d).toArray⟩ = .tuple #[.string ⟨#[]⟩, .bool false] :=
          ver_flipped HX.out HY.out k d c (by rw [HC.out, List.getD_eq_getElem?_getD, List.getElem?_eq_getElem (by simpa using hk)]; rfl) hcd
        have HFL := Lib.hid hflip
        have hsz : (⟨(y.data.toList.set k d).toArray⟩ : ByteArray).size ≤ 1048576 := by
          have h1 : y.data.toList.length = y.size := by simp
          rw [size_of_list, List.length_set]
          omega
        have HSZ := Lib.hid hsz
        clear hflip hsz hd hcd D1 HC
        obtain ⟨f, hf⟩ : ∃ f : ByteArray, f = ⟨(y.data.toList.set k d).toArray⟩ := ⟨_, rfl⟩
        rw [← hf] at hback HFL HSZ
        clear hf
        go_wp2_with fail
        have L14 := Lib.hid (L13.out.setCell (p := ⟨W11.heap.size, k, none⟩) L11.out.size (.int .u8 (bits .xor .u8 (c.toNat : Int) (1 + (v10 : Int) % 255))))
        refine (implVerify_any f HSZ.out _ (HM.out.below L14.out) (HT.out.below L14.out)).mono ?_
        rintro e W15 ⟨rfl, l15⟩
        rw [HFL.out]
        go_wp2_with fail
        go_ret
        exact ⟨rfl, L14.out.trans (l15.mono L14.out.size)⟩
end Go.Proofs.YtjdlkkhkaobpnaaDoor
