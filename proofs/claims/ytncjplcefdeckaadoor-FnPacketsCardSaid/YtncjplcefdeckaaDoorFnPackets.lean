/-
  The law of packets: they are recovered from their texts, and no text with one digit changed is the text of a packet.
-/
import Derived.Test.YtncjplcefdeckaaDoorDec2
import Derived.Test.YtncjplcefdeckaaDoorDrawDec
import Derived.Test.YtncjplcefdeckaaDoorPktMath2
import Derived.Test.YtncjplcefdeckaaDoorBig
import Derived.Test.YtncjplcefdeckaaDoorVHas
import Derived.Test.YtncjplcefdeckaaDoorPktO
import Derived.Test.YtncjplcefdeckaaDoorPktParse
import Derived.Deep.CutRange
import Derived.BigQuiet
import Derived.WalkLawsBesides
namespace Go.Proofs.YtncjplcefdeckaaDoor
open Go.RowKit Go.Lib Go.Joins
set_option linter.unusedVariables false
set_option linter.unusedSimpArgs false

theorem encV_size (k n t l : Int) (d : ByteArray) : (encV k n t l d).size ≤ 36 := by
  cases h : pktOk k n t l d with
  | true => rw [encV_yes h, encB_size]; have := (pktOk_bd h).2.2.2.2.2.2.1; omega
  | false => rw [encV_no h]; decide
/-- What decoding a packet's text gives. -/
theorem dec_back {k n t l k1 n1 t1 l1 : Int} {d d1 : ByteArray} (h : pktOk k n t l d = true) (hv : decV (encV k n t l d) = pv k1 n1 t1 l1 d1) : decOk (encV k n t l d) = true ∧ k = k1 ∧ n = n1 ∧ t = t1 ∧ l = l1 ∧ d = d1 := by
  rw [encV_yes h] at hv ⊢
  rw [decV_enc h] at hv
  unfold pv at hv
  injection hv with hv
  have := congrArg Array.toList hv
  simp at this
  exact ⟨dec_enc h, this⟩
theorem enc_back {s : ByteArray} {k n t l : Int} {d : ByteArray} (hv : decV s = pv k n t l d) (h : decOk s = true) : pktOk k n t l d = true ∧ encV k n t l d = s := by
  rw [decV_yes h] at hv
  unfold pv at hv
  injection hv with hv
  have := congrArg Array.toList hv
  simp at this
  obtain ⟨rfl, rfl, rfl, rfl, rfl⟩ := this
  exact ⟨decOk_pkt h, by rw [encV_yes (decOk_pkt h)]; exact decOk_enc h⟩
theorem dec_none {s : ByteArray} (h : decOk s = false) : decV s = pv 0 0 0 0 ⟨#[]⟩ := by unfold decV; rw [h]; rfl
/-- A zero packet that the call has made, in a block behind those that stood. -/
def Qy (W0 w : World) (g : Nat) : Prop := Pb w g 0 0 0 0 ⟨#[]⟩ ∧ W0.heap.size ≤ g
theorem qy_call {W0 W w5 : World} {g : Nat} (h : Qy W0 W g) (l5 : Below W.heap.size W w5) : Qy W0 w5 g := ⟨h.1.below l5 h.1.lt, h.2⟩
theorem qy_store {W0 w : World} {g : Nat} (hb : Below W0.heap.size W0 w) (h : Qy W0 w g) {k' n' t' l' : Int} {d' : ByteArray} :
    Below W0.heap.size W0 (((((w.setCell ⟨g, 0, none⟩ (.int .i64 k')).setCell ⟨g, 1, none⟩ (.int .i64 n')).setCell ⟨g, 2, none⟩ (.int .i64 t')).setCell ⟨g, 3, none⟩ (.int .i64 l')).setCell ⟨g, 4, none⟩ (.string d')) :=
  hb.grown (h.1.store (k' := k') (n' := n') (t' := t') (l' := l') (d' := d')).2 hb.size (fun k hk => by have e : g = k := Option.some.inj hk; have := h.2; omega)
set_option maxRecDepth 100000 in
set_option maxHeartbeats 4000000 in
theorem fnPackets_walk (w : World) (v0 : Value) (z0 : List Int) (w0 : Row w v0 z0.length (z0.map (Value.int .u8))) (b0 : ∀ z ∈ z0, (Lit.int .u8 z).wf = true) (_hsh : w.ShapedOpen Tryd.prog) (hL : laidMetH Tryd.prog Rows.fnPacketsRow.laid w) :
    Calls Tryd.prog 3 #[v0] w fun e w' => e = .returned (.bool true) ∧ Below w.heap.size w w' := by
  have he : Errs w := errs_of_laid hL rfl (by simp [Rows.fnPacketsRow]) (by simp [Rows.fnPacketsRow])
  clear hL _hsh
  have hz : ∀ x ∈ z0, 0 ≤ x ∧ x < 256 := fun x hx => by have := bounds_u8 (b0 x hx); omega
  obtain ⟨a0, cap0, e0, _, _, _⟩ := row_open w0
  by_cases hbig : (65536 : Int) < z0.length
  · subst e0
    have hd : decide ((65536 : Int) < (z0.length : Int)) = true := decide_eq_true hbig
    clear w0 b0 hz
    go_enter Tryd.func3, Tryd.ntmps3
    go_wp2_with (go_at_call 7; refine (vBigI_any _ _ _ _).mono ?_; rintro e w' ⟨rfl, rfl⟩)
    go_ret
    exact ⟨rfl, Below.refl _ _⟩
  have hd : decide ((65536 : Int) < (z0.length : Int)) = false := decide_eq_false hbig
  have HR := Lib.hid w0
  have HE := Lib.hid he
  have HD1 := Lib.hid (fun w hr => drawEncode_any v0 z0 w hr hz)
  have HD2 := Lib.hid (fun w hr => drawDecode_any v0 z0 w hr hz)
  subst e0
  clear w0 b0 hz he
  go_enter Tryd.func3, Tryd.ntmps3
  go_wp2_with (go_at_call 7; refine (vBigI_any _ _ _ _).mono ?_; rintro e w' ⟨rfl, rfl⟩)
  refine (HD1.out _ HR.out).mono ?_
  rintro e W1 ⟨k, n, t, l, d, hd9, rfl, l1⟩
  have HB1 := Lib.hid l1
  clear l1 HD1 hd hbig
  obtain ⟨k1, n1, t1, l1, d1, hv1, hd8⟩ := decV_form (encV k n t l d)
  have hs36 := encV_size k n t l d
  have HEn := Lib.hid (fun W => implEncode_any k n t l d W (by unfold maxLen; omega))
  have HSe := Lib.hid (fun W => specEncode_any k n t l d W (by unfold maxLen; omega))
  have HVa := Lib.hid (fun W => implValid_any k n t l d W (by unfold maxLen; omega))
  have HOc := Lib.hid (fun W => implOctets_any k n t l d W (by unfold maxLen; omega))
  have HSo := Lib.hid (fun W => specOctets_any k n t l d W (by unfold maxLen; omega))
  have HDe := Lib.hid (fun W he => implDecode_any (encV k n t l d) W (by omega) he)
  have HF : Hid (pktOk k n t l d = true → decOk (encV k n t l d) = true ∧ k = k1 ∧ n = n1 ∧ t = t1 ∧ l = l1 ∧ d = d1) := Lib.hid (fun h => dec_back h hv1)
  have HN : Hid (pktOk k n t l d = false → (encV k n t l d).size = 0) := Lib.hid (fun h => by rw [encV_no h]; rfl)
  have HX : Hid (pktOk k n t l d = true → (encV k n t l d).size = 2 * d.size + 20 ∧ octV k n t l d = bodyI k n t l d ++ [ckI (bodyI k n t l d) / 256, ckI (bodyI k n t l d) % 256] ∧ ck4Ok (bodyI k n t l d) = true) := Lib.hid (fun h => ⟨by rw [encV_yes h, encB_size], by rw [octV_yes h]; rfl, by
    have hz := (pktOk_bd h).2.2.2.2.2.2.1
    exact ck4_yes (by rw [bodyI_len]; omega) (fun i hi _ => bodyI_bd h _ (List.getElem_mem hi))⟩)
  have HCh : Hid (∀ (i : Nat) (hi : i < (encV k n t l d).size) (c : UInt8), (encV k n t l d)[i] ≠ c → pktOk k n t l d = true → decOk ((encV k n t l d).extract 0 i ++ ⟨#[c]⟩ ++ (encV k n t l d).extract (i + 1) (encV k n t l d).size) = false) := Lib.hid (fun i hi c hc h => chg_no h (encV_yes h).symm hi hc)
  rw [hv1] at HDe
  generalize decOk (encV k n t l d) = f1 at HDe HF
  generalize encV k n t l d = s at *
  obtain ⟨ok, hok⟩ : ∃ ok, ok = pktOk k n t l d := ⟨_, rfl⟩
  rw [← hok] at HEn HSe HVa HOc HSo HF HN HX HCh
  clear hv1 hok
  unfold pv at HEn HSe HVa HOc HSo HDe ⊢
  go_wp2_with fail
  obtain ⟨W2, hW2⟩ : ∃ W2, W2 = W1.alloc (.cells #[.int .i64 k, .int .i64 n, .int .i64 t, .int .i64 l, .string d] 25) := ⟨_, rfl⟩
  have HQ2 : Hid (Pb W2 W1.heap.size k n t l d) := Lib.hid (by rw [hW2]; exact heap_alloc_new W1 _)
  have HB2 : Hid (Below w.heap.size w W2) := Lib.hid (by rw [hW2]; exact HB1.out.alloc HB1.out.size _)
  have hwp : w.heap.size ≤ W1.heap.size := HB1.out.size
  obtain ⟨p, hp⟩ : ∃ p, p = W1.heap.size := ⟨_, rfl⟩
  rw [← hW2]
  rw [← hp] at HQ2 hwp ⊢
  clear hW2 hp HB1
  refine (HEn.out _).mono ?_
  rintro e W3 ⟨rfl, l3⟩
  have HQ3 := Lib.hid (HQ2.out.below l3 HQ2.out.lt)
  have HB3 := Lib.hid (HB2.out.trans (l3.mono HB2.out.size))
  clear l3 HQ2 HB2 HEn
  go_wp2_with fail
  refine (HDe.out _ (HE.out.below HB3.out)).mono ?_
  rintro e W4 ⟨rfl, l4⟩
  have HQ4 := Lib.hid (HQ3.out.below l4 HQ3.out.lt)
  have HB4 := Lib.hid (HB3.out.trans (l4.mono HB3.out.size))
  clear l4 HQ3 HB3 HDe
  obtain ⟨c0, c1, c2, c3, c4⟩ := HQ4.out.cells
  have hlt := HQ4.out.lt
  go_wp2_with fail
  clear c0 c1 c2 c3 c4
  obtain ⟨W5, hW5⟩ : ∃ W5, W5 = W4.alloc (.cells #[.int .i64 k1, .int .i64 n1, .int .i64 t1, .int .i64 l1, .string d1] 25) := ⟨_, rfl⟩
  have HR5 : Hid (Pb W5 W4.heap.size k1 n1 t1 l1 d1) := Lib.hid (by rw [hW5]; exact heap_alloc_new W4 _)
  have hb5 : Below W4.heap.size W4 W5 := by rw [hW5]; exact (Below.refl _ _).alloc (Nat.le_refl _) _
  have HQ5 := Lib.hid (HQ4.out.below hb5 HQ4.out.lt)
  have HB5 := Lib.hid (HB4.out.trans (hb5.mono HB4.out.size))
  obtain ⟨q, hq⟩ : ∃ q, q = W4.heap.size := ⟨_, rfl⟩
  rw [← hW5]
  rw [← hq] at HR5 hlt ⊢
  clear hW5 hq HB4 HQ4 hb5
  have hpq : p ≠ q := by omega
  have hqp : q ≠ p := by omega
  refine (HSe.out _).mono ?_
  rintro e W6 ⟨rfl, l6⟩
  have HQ6 := Lib.hid (HQ5.out.below l6 HQ5.out.lt)
  have HR6 := Lib.hid (HR5.out.below l6 HR5.out.lt)
  have HB6 := Lib.hid (HB5.out.trans (l6.mono HB5.out.size))
  clear l6 HQ5 HR5 HB5 HSe
  go_upto_region 7 with fail
  go_cut [72] from 47 to 72 (fun b wx => b = .bool false ∧ Hid (Below W6.heap.size W6 wx))
  case first => as_aux_lemma =>
    obtain ⟨c0, c1, c2, c3, c4⟩ := HQ6.out.cells
    obtain ⟨r0, r1, r2, r3, r4⟩ := HR6.out.cells
    cases ok with
    | true =>
      obtain ⟨rfl, rfl, rfl, rfl, rfl, rfl⟩ := HF.out rfl
      go_wp2_with fail
      refine (HVa.out _).mono ?_
      rintro e W7 ⟨rfl, l7⟩
      obtain ⟨c0, c1, c2, c3, c4⟩ := (HQ6.out.below l7 HQ6.out.lt).cells
      obtain ⟨r0, r1, r2, r3, r4⟩ := (HR6.out.below l7 HR6.out.lt).cells
      have HL := Lib.hid l7
      clear l7
      go_wp2_with fail
      go_meet
      case rel => exact ⟨rfl, HL⟩
    | false =>
      go_wp2_with fail
      refine (HVa.out _).mono ?_
      rintro e W7 ⟨rfl, l7⟩
      have HL := Lib.hid l7
      clear l7
      go_wp2_with fail
      go_meet
      case rel => exact ⟨rfl, HL⟩
  case rest => as_aux_lemma =>
    obtain ⟨rfl, HL⟩ := hcut
    have HQc := Lib.hid (HQ6.out.below HL.out HQ6.out.lt)
    have HBc := Lib.hid (HB6.out.trans (HL.out.mono HB6.out.size))
    clear HL HQ6 HR6 HB6 HVa HF hpq hqp hlt
    have hp0 : p < w.heap.size + (p - w.heap.size) + 1 := by omega
    go_wp2_with fail
    go_loopw [10] (fun i wr => ∃ j : Nat, i = .int .i64 j ∧ j ≤ s.size + 2 ∧ Hid (Pb wr p k n t l d) ∧ Hid (Below w.heap.size w wr)) (fun i _ => s.size + 3 - (RowKit.intOf i).toNat)
    case atStart => exact ⟨0, rfl, by omega, HQc, HBc⟩
    case round =>
      clear HQc HBc
      obtain ⟨j, rfl, hj, HQr, HBr⟩ := hrel
      by_cases hlt : j < s.size
      · have hlt' : (j : Int) < (s.size : Int) := by omega
        have hokt : ok = true := by
          cases ok with
          | true => rfl
          | false => have := HN.out rfl; omega
        have hj1 : (j : Int) + 1 ≤ (s.size : Int) := by omega
        obtain ⟨x, hx⟩ : ∃ x, x = s[j] := ⟨_, rfl⟩
        have HC : Hid (∀ c : UInt8, x ≠ c → decOk (s.extract 0 j ++ ⟨#[c]⟩ ++ s.extract (j + 1) s.size) = false) := Lib.hid (fun c h => HCh.out j hlt c (by rw [← hx]; exact h) hokt)
        subst hokt
        go_upto_if 82 with fail
        rw [← hx]
        clear hx
        go_cut [11] from 73 to 83 (fun v wx => ∃ c : UInt8, v = .string ⟨#[c]⟩ ∧ x ≠ c ∧ wx = wr)
        case first => as_aux_lemma =>
          by_cases hc : x = 48
          · subst hc
            go_wp2_with fail
            go_meet
            case rel => exact ⟨55, rfl, by decide, rfl⟩
          · have hb : ((x.toNat : Int) == 48) = false := by
              rw [beq_eq_false_iff_ne]
              intro e
              exact hc (UInt8.toNat.inj (by show x.toNat = 48; omega))
            go_wp2_with fail
            go_meet
            case rel => exact ⟨48, rfl, hc, rfl⟩
        case rest => as_aux_lemma =>
          obtain ⟨c, rfl, hxc, hwx⟩ := hcut
          rw [hwx]
          clear hwx
          have hj0 : j ≤ s.size := by omega
          have hj2 : j + 1 ≤ s.size := by omega
          have hwr : IntKind.i64.wrap ((j : Int) + 1) = (j : Int) + 1 := IntWalk.i64_in _ (by omega)
          have hnat : ((j : Int) + 1).toNat = j + 1 := by omega
          have hn0 : (0 : Int) ≤ (j : Int) + 1 := by omega
          have nb1 : ¬ 9223372036854775807 < j + 1 := by omega
          have nb3 : ¬ 9223372036854775807 < s.size := by omega
          have hno := HC.out c hxc
          have a1 : (s.extract 0 j).size = j := by simp; omega
          have a3 : (s.extract (j + 1) s.size).size = s.size - (j + 1) := by simp
          have a5 : (⟨#[c]⟩ : ByteArray).size = 1 := rfl
          have a4 : (s.extract 0 j ++ ⟨#[c]⟩).size = j + 1 := by rw [ByteArray.size_append, a1, a5]
          have b1 : (s.extract 0 j).size + (⟨#[c]⟩ : ByteArray).size ≤ 9223372036854775807 := by omega
          have b3 : (s.extract 0 j ++ ⟨#[c]⟩).size + (s.extract (j + 1) s.size).size ≤ 9223372036854775807 := by omega
          have HCd := Lib.hid (fun (W : World) (he : Errs W) => by
            have H := implDecode_any (s.extract 0 j ++ ⟨#[c]⟩ ++ s.extract (j + 1) s.size) W (by rw [ByteArray.size_append, a4, a3]; omega) he
            rw [dec_none hno, hno] at H
            unfold pv at H
            exact H)
          have HEr := Lib.hid (HE.out.below HBr.out)
          clear hno HC a5
          go_upto_region 15 with fail
          go_cut [12, 13] from 83 to 97 (fun a b wx => b = .bool false ∧ Hid (Pb wx p k n t l d) ∧ Hid (Below w.heap.size w wx))
          case first => as_aux_lemma =>
            have HA := Lib.hid (HCd.out wr.drew (HEr.out.below (Below.drew (Below.refl _ _))))
            have HAl := Lib.hid (HCd.out (wr.alloc (.cells #[.int .i64 0, .int .i64 0, .int .i64 0, .int .i64 0, .string ⟨#[]⟩] 25)).drew (HEr.out.below (Below.drew (below_alloc' (Below.refl _ _)))))
            clear HCd HEr
            go_region_held3 (fun w' => Below wr.heap.size wr w')
              ((first | exact qy_store hb5 hq5 | exact below_alloc' hb5 | exact hb5 | exact Below.drew (Below.refl _ _) | exact Below.drew (below_alloc' (Below.refl _ _)) | exact below_alloc' (Below.drew (Below.refl _ _))))
              (first | (go_at_call 10; refine HA.out.mono ?_; rintro e w5 ⟨rfl, l5⟩; have hb5 : Below wr.heap.size wr w5 := (Below.drew (Below.refl _ _)).trans l5) | (go_at_call 10; refine HAl.out.mono ?_; rintro e w5 ⟨rfl, l5⟩; have hq5 : Qy wr w5 wr.heap.size := qy_call (W := (wr.alloc (.cells #[.int .i64 0, .int .i64 0, .int .i64 0, .int .i64 0, .string ⟨#[]⟩] 25)).drew) ⟨heap_new1 wr 0 0 0 0 ⟨#[]⟩, Nat.le_refl _⟩ l5; have hb5 : Below wr.heap.size wr w5 := (Below.drew (below_alloc' (Below.refl _ _))).trans (l5.mono (Below.drew (below_alloc' (Below.refl _ _))).size); have hqc := hq5.1.cells; have f0 := hq5.1.free 0; have f1 := hq5.1.free 1; have f2 := hq5.1.free 2; have f3 := hq5.1.free 3; have f4 := hq5.1.free 4; obtain ⟨r0, r1, r2, r3, r4⟩ := hqc))
            all_goals go_wp2_with fail
            all_goals go_meet
            all_goals
              case rel =>
                first
                | exact ⟨rfl, Lib.hid (HQr.out.below (qy_store hb5 hq5) HQr.out.lt), Lib.hid (HBr.out.trans ((qy_store hb5 hq5).mono HBr.out.size))⟩
                | exact ⟨rfl, Lib.hid (HQr.out.below (below_alloc' hb5) HQr.out.lt), Lib.hid (HBr.out.trans ((below_alloc' hb5).mono HBr.out.size))⟩
          case rest => as_aux_lemma =>
            obtain ⟨rfl, HQc, HBc⟩ := hcut
            go_wp2_with fail
            go_roundw
            case rel => exact ⟨j + 3, by first | rfl | (congr 1; omega), by omega, HQc, HBc⟩
            case measure => (simp [RowKit.intOf]; omega)
      · have hge : ¬ (j : Int) < (s.size : Int) := by omega
        clear HCh HN
        go_wp2_with fail
        refine (HD2.out _ (HR.out.below HBr.out (Nat.le_refl _))).mono ?_
        rintro e W8 ⟨u, hu, rfl, l8⟩
        have HB8 := Lib.hid (HBr.out.trans (l8.mono HBr.out.size))
        have HQ8 := Lib.hid (HQr.out.below l8 HQr.out.lt)
        clear l8 HBr HQr HD2 HR
        obtain ⟨k2, n2, t2, l2, d2, hv2, hd2⟩ := decV_form u
        have HDi := Lib.hid (fun W he => implDecode_any u W (by omega) he)
        have HDs := Lib.hid (fun W => specDecode_any u W (by omega))
        have HEn := Lib.hid (fun W => implEncode_any k2 n2 t2 l2 d2 W (by unfold maxLen; omega))
        have HG : Hid (decOk u = true → pktOk k2 n2 t2 l2 d2 = true ∧ encV k2 n2 t2 l2 d2 = u) := Lib.hid (fun h => enc_back hv2 h)
        rw [hv2] at HDi HDs
        generalize decOk u = f2 at HDi HDs HG
        generalize encV k2 n2 t2 l2 d2 = u2 at HEn HG
        generalize pktOk k2 n2 t2 l2 d2 = f3 at HEn HG
        clear hv2 hd2
        unfold pv at HDi HDs HEn
        go_wp2_with fail
        refine (HDi.out _ (HE.out.below HB8.out)).mono ?_
        rintro e W9 ⟨rfl, l9⟩
        have HB9 := Lib.hid (HB8.out.trans (l9.mono HB8.out.size))
        have HQ9 := Lib.hid (HQ8.out.below l9 HQ8.out.lt)
        clear l9 HB8 HQ8
        go_wp2_with fail
        obtain ⟨W10, hW10⟩ : ∃ W, W = W9.alloc (.cells #[.int .i64 k2, .int .i64 n2, .int .i64 t2, .int .i64 l2, .string d2] 25) := ⟨_, rfl⟩
        have HR10 : Hid (Pb W10 W9.heap.size k2 n2 t2 l2 d2) := Lib.hid (by rw [hW10]; exact heap_alloc_new W9 _)
        have hb : Below W9.heap.size W9 W10 := by rw [hW10]; exact (Below.refl _ _).alloc (Nat.le_refl _) _
        have HB10 := Lib.hid (HB9.out.trans (hb.mono HB9.out.size))
        have HQ10 := Lib.hid (HQ9.out.below hb HQ9.out.lt)
        have ltq2_HQ10 := HQ9.out.lt
        obtain ⟨q2, hq2⟩ : ∃ q, q = W9.heap.size := ⟨_, rfl⟩
        rw [← hW10]
        rw [← hq2] at HR10 ltq2_HQ10 ⊢
        clear hW10 hq2 hb HB9 HQ9
        refine (HEn.out _).mono ?_
        rintro e W11 ⟨rfl, l11⟩
        have HB11 := Lib.hid (HB10.out.trans (l11.mono HB10.out.size))
        have HQ11 := Lib.hid (HQ10.out.below l11 HQ10.out.lt)
        have HR11 := Lib.hid (HR10.out.below l11 HR10.out.lt)
        clear l11 HB10 HQ10 HR10
        go_wp2_with fail
        refine (HDs.out _).mono ?_
        rintro e W12 ⟨rfl, l12⟩
        have HB12 := Lib.hid (HB11.out.trans (l12.mono HB11.out.size))
        have HQ12 := Lib.hid (HQ11.out.below l12 HQ11.out.lt)
        have HR12 := Lib.hid (HR11.out.below l12 HR11.out.lt)
        clear l12 HB11 HQ11 HR11
        go_upto_region 22 with fail
        obtain ⟨W13, hW13⟩ : ∃ W, W = W12.alloc (.cells #[.int .i64 k2, .int .i64 n2, .int .i64 t2, .int .i64 l2, .string d2] 25) := ⟨_, rfl⟩
        have HX13 : Hid (Pb W13 W12.heap.size k2 n2 t2 l2 d2) := Lib.hid (by rw [hW13]; exact heap_alloc_new W12 _)
        have hb : Below W12.heap.size W12 W13 := by rw [hW13]; exact (Below.refl _ _).alloc (Nat.le_refl _) _
        have HB13 := Lib.hid (HB12.out.trans (hb.mono HB12.out.size))
        have HQ13 := Lib.hid (HQ12.out.below hb HQ12.out.lt)
        have HR13 := Lib.hid (HR12.out.below hb HR12.out.lt)
        have ltq3_HQ13 := HQ12.out.lt
        have ltq3_HR13 := HR12.out.lt
        obtain ⟨q3, hq3⟩ : ∃ q, q = W12.heap.size := ⟨_, rfl⟩
        rw [← hW13]
        rw [← hq3] at HX13 ltq3_HQ13 ltq3_HR13 ⊢
        clear hW13 hq3 hb HB12 HQ12 HR12
        go_cut [134] from 115 to 134 (fun b wx => b = .bool false ∧ wx = W13)
        case first => as_aux_lemma =>
          obtain ⟨r0, r1, r2, r3, r4⟩ := HR13.out.cells
          obtain ⟨x0, x1, x2, x3, x4⟩ := HX13.out.cells
          cases f2 with
          | true =>
            obtain ⟨rfl, rfl⟩ := HG.out rfl
            go_wp2_with fail
            go_meet
            case rel => exact ⟨rfl, rfl⟩
          | false =>
            go_wp2_with fail
            go_meet
            case rel => exact ⟨rfl, rfl⟩
        case rest => as_aux_lemma =>
          obtain ⟨rfl, rfl⟩ := hcut
          clear HG HEn HDi HDs HR13 HX13 HE
          obtain ⟨c0, c1, c2, c3, c4⟩ := HQ13.out.cells
          go_wp2_with fail
          refine (HOc.out _).mono ?_
          rintro e W14 ⟨v1, rfl, o1, l14⟩
          have HB14 := Lib.hid (HB13.out.trans (l14.mono HB13.out.size))
          have HQ14 := Lib.hid (HQ13.out.below l14 HQ13.out.lt)
          have HO1 := Lib.hid o1
          clear l14 HB13 HQ13 c0 c1 c2 c3 c4 HOc
          obtain ⟨c0, c1, c2, c3, c4⟩ := HQ14.out.cells
          obtain ⟨a1, cp1, rfl⟩ := own_slice_i o1
          clear o1
          go_wp2_with fail
          refine (HSo.out _).mono ?_
          rintro e W15 ⟨v2, rfl, o2, l15⟩
          have HB15 := Lib.hid (HB14.out.trans (l15.mono HB14.out.size))
          have HO15 := Lib.hid (own_below HO1.out l15 (Nat.le_refl _))
          obtain ⟨a2, cp2, rfl⟩ := own_slice_i o2
          have HI := Lib.hid (vInts_any _ _ (octV k n t l d) (octV k n t l d) W15 (row_own HO15.out) (row_own o2))
          rw [decide_eq_true (rfl : octV k n t l d = octV k n t l d)] at HI
          clear l15 o2 HB14 HQ14 HO1 c0 c1 c2 c3 c4 HSo
          go_upto_region 26 with fail
          go_cut [153] from 145 to 153 (fun b wx => b = .bool false ∧ ∃ q, wx = W15.drewN q)
          case first => as_aux_lemma =>
            have hbb : (ok != ok) = false := by cases ok <;> rfl
            go_wp2_with fail
            refine HI.out.mono ?_
            rintro e w5 ⟨rfl, q5, rfl⟩
            go_wp2_with fail
            go_meet
            case rel => exact ⟨rfl, q5, rfl⟩
          case rest => as_aux_lemma =>
            obtain ⟨rfl, q5, hwx⟩ := hcut
            have HBc := Lib.hid (HB15.out.trans ((bdrew W15 q5).mono HB15.out.size))
            have HOx := Lib.hid (own_below HO15.out (bdrew W15 q5) (Nat.le_refl _))
            rw [← hwx] at HBc HOx
            clear hwx HI HB15 HO15
            cases ok with
            | false =>
              go_wp2_with fail
              go_ret
              exact ⟨rfl, HBc.out⟩
            | true =>
              obtain ⟨hz, hx, hck⟩ := HX.out rfl
              have hbl := bodyI_len k n t l d
              obtain ⟨ck0, ck1⟩ := ckI_bd (bodyI k n t l d)
              have hcv : ck4V (bodyI k n t l d) = ckI (bodyI k n t l d) := by unfold ck4V; rw [if_pos hck]
              have HCk := Lib.hid (fun (v : Value) (W : World) h => implCheck_any v (bodyI k n t l d) W h)
              rw [hcv, hck] at HCk
              rw [hx] at HOx ⊢
              clear hx hck hcv HX
              generalize ckI (bodyI k n t l d) = cK at HCk HOx ck0 ck1 ⊢
              generalize bodyI k n t l d = ys at HCk HOx hbl ⊢
              obtain ⟨N, hN⟩ : ∃ N, N = (ys ++ [cK / 256, cK % 256]).length := ⟨_, rfl⟩
              have hN2 : N = d.size + 10 := by rw [hN, List.length_append, hbl]; rfl
              rw [← hN] at HOx ⊢
              obtain ⟨g, c', e'⟩ := own_form HOx.out (by omega)
              injection e' with e1 _ e2
              subst e1; subst e2
              have hcp := (row_some4 (row_own HOx.out)).1
              have hM : N - 2 = ys.length := by omega
              have h8 : wc.cell? ⟨g, N - 2, none⟩ = some (.int .i64 (cK / 256)) := by
                obtain ⟨⟨u8, hu, h⟩, _⟩ := own_facts HOx.out (show N - 2 < N by omega)
                rw [List.getElem?_map, List.getElem?_append_right (by omega), show N - 2 - ys.length = 0 by omega] at hu
                rw [h, ← hu]
                rfl
              have h9 : wc.cell? ⟨g, N - 1, none⟩ = some (.int .i64 (cK % 256)) := by
                obtain ⟨⟨u8, hu, h⟩, _⟩ := own_facts HOx.out (show N - 1 < N by omega)
                rw [List.getElem?_map, List.getElem?_append_right (by omega), show N - 1 - ys.length = 1 by omega] at hu
                rw [h, ← hu]
                rfl
              have HRow : Hid (Row wc (.slice (some ⟨g, 0, none⟩) (N - 2) cp1) ys.length (ys.map (Value.int .i64))) := Lib.hid (by
                have := row_head' (row_own HOx.out) (show N - 2 ≤ N by omega)
                rw [hM] at this ⊢
                rw [List.map_append, List.take_left' (List.length_map _)] at this
                exact this)
              have q1 : (0 : Int) ≤ (N : Int) - 2 := by omega
              have q2 : (N : Int) - 2 ≤ (cp1 : Int) := by omega
              have q4 : ((N : Int) - 2).toNat = N - 2 := by omega
              have q6 : IntKind.i64.wrap ((N : Int) - 2) = (N : Int) - 2 := IntWalk.i64_in _ (by omega)
              have q7 : IntKind.i64.wrap ((N : Int) - 1) = (N : Int) - 1 := IntWalk.i64_in _ (by omega)
              have q8 : ((N : Int) - 1).toNat = N - 1 := by omega
              have q9 : (N : Int) - 2 < (N : Int) := by omega
              have r1 : (0 : Int) ≤ (N : Int) - 1 := by omega
              have r2 : (N : Int) - 1 < (N : Int) := by omega
              have w1 : IntKind.i64.wrap (cK / 256 * 256) = cK / 256 * 256 := IntWalk.i64_in _ (by omega)
              have w2 : IntKind.i64.wrap (cK / 256 * 256 + cK % 256) = cK := by rw [IntWalk.i64_in _ (by omega)]; omega
              have w3 : IntKind.i64.wrap cK = cK := IntWalk.i64_in _ (by omega)
              have w4 : IntKind.i64.wrap (2 * (N : Int)) = 2 * (N : Int) := IntWalk.i64_in _ (by omega)
              have hE : (2 * (N : Int) == (s.size : Int)) = true := by rw [beq_iff_eq]; omega
              clear hN hN2 hbl HOx hM hz
              go_wp2_with fail
              refine (HCk.out _ _ HRow.out).mono ?_
              rintro e w5 ⟨rfl, rfl⟩
              clear HRow HCk
              go_wp2_with fail
              go_quiet (fail)
              go_wp2_with fail
              go_ret
              exact ⟨rfl, HBc.out.trans ((bdrew _ _).mono HBc.out.size)⟩
end Go.Proofs.YtncjplcefdeckaaDoor
