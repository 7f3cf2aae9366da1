/-
  Packets of the program: the packet that a text spells, and 'DecodePacket'.
-/
import Derived.Test.YtncjplcefdeckaaDoorDec1
import Derived.Test.YtncjplcefdeckaaDoorPktE
import Derived.Test.YtncjplcefdeckaaDoorPkt5
import Derived.Test.YtncjplcefdeckaaDoorPktLaw
import Derived.StillTailTactics
import Derived.Deep.RegionHeld3
namespace Go.Proofs.YtncjplcefdeckaaDoor
open Go.RowKit Go.Lib Go.Joins
set_option linter.unusedVariables false

theorem paired_any (a b : Int) (w : World) (a0 : 0 ≤ a) (a1 : a ≤ 255) (b0 : 0 ≤ b) (b1 : b ≤ 255) :
    Calls Tryd.prog 46 #[.int .u8 a, .int .u8 b] w fun e w' => e = .returned (.int .i64 (256 * a + b)) ∧ w = w' := by
  go_enter Tryd.func46, Tryd.ntmps46
  go_wp2
  go_ret
  exact ⟨rfl, rfl⟩
theorem own_cell8 {W : World} {B n g c : Nat} {xs : List Int} (h : W.ownsRow B 5 1 (.slice (some ⟨g, 0, none⟩) n c) n (xs.map (Value.int .u8))) {i : Nat} (hi : i < n) (hl : xs.length = n) (hb : ∀ x ∈ xs, 0 ≤ x ∧ x ≤ 255) :
    ∃ x : Int, x = xs.getD i 0 ∧ W.cell? ⟨g, i, none⟩ = some (.int .u8 x) ∧ 0 ≤ x ∧ x ≤ 255 := by
  obtain ⟨⟨u, hu, hc⟩, _⟩ := own_facts h hi
  have hx : i < xs.length := by omega
  rw [List.getElem?_map, List.getElem?_eq_getElem hx] at hu
  obtain rfl := Option.some.inj hu
  have hm := hb _ (List.getElem_mem hx)
  exact ⟨_, by rw [List.getD_eq_getElem?_getD, List.getElem?_eq_getElem hx]; rfl, hc, hm.1, hm.2⟩
theorem bytes_mid {W : World} {B n g c o m c2 : Nat} {xs : List Int} (h : W.ownsRow B 5 1 (.slice (some ⟨g, 0, none⟩) n c) n (xs.map (Value.int .u8))) (hl : xs.length = n) (ho : o + m ≤ n) :
    (convert 22 9 (.slice (some ⟨g, o, none⟩) m c2)).run Tryd.prog W = .ok (.string (bytI ((xs.drop o).take m))) W :=
  run_convert_bytes_arg (P := Tryd.prog) W 22 5 Tryd.underlying22 Tryd.underlying5 g o m c2 ((xs.drop o).take m) (by rw [List.length_take, List.length_drop]; omega) (fun i hi => by
    obtain ⟨⟨u, hu, hc⟩, _⟩ := own_facts h (show o + i < n by omega)
    rw [hc]
    have hx : o + i < xs.length := by omega
    rw [List.getElem?_map, List.getElem?_eq_getElem hx] at hu
    have h2 : ((xs.drop o).take m).getD i 0 = xs[o + i] := by
      rw [List.getD_eq_getElem?_getD, List.getElem?_take_of_lt hi, List.getElem?_drop, List.getElem?_eq_getElem hx]; rfl
    rw [h2]
    exact (congrArg some (Option.some.inj hu)).symm) 9 Tryd.underlying9
/-- The fields that a list of octets spells. -/
def fldsOf (s : ByteArray) (k n t l : Int) (d : ByteArray) : Prop := decOk s = true → k = dK s ∧ n = dN s ∧ t = dT s ∧ l = dL s ∧ d = dD s
theorem dec_octs {s : ByteArray} {xs : List Int} {n : Nat} (hd : digsB s = true → xs = octsT s (s.size / 2)) (hl : xs.length = n) (h : decOk s = true) : 10 ≤ n ∧ n = s.size / 2 ∧ xs = octsT s n := by
  have hs := decOk_shp h
  unfold shpB at hs
  simp only [Bool.and_eq_true, decide_eq_true_eq] at hs
  have hx := hd hs.2.2.2
  have hn : n = s.size / 2 := by rw [← hl, hx, octsT_len]
  exact ⟨by omega, hn, by rw [hn]; exact hx⟩
theorem dec_flds {s : ByteArray} {xs : List Int} {n : Nat} {x0 x1 x2 x3 x4 x5 x6 : Int} (hd : digsB s = true → xs = octsT s (s.size / 2)) (hl : xs.length = n) (h10 : 10 ≤ n)
    (e0 : x0 = xs.getD 0 0) (e1 : x1 = xs.getD 1 0) (e2 : x2 = xs.getD 2 0) (e3 : x3 = xs.getD 3 0) (e4 : x4 = xs.getD 4 0) (e5 : x5 = xs.getD 5 0) (e6 : x6 = xs.getD 6 0) :
    fldsOf s x0 (256 * x1 + x2) (256 * x3 + x4) (256 * x5 + x6) (bytI ((xs.drop 8).take (n - 10))) := fun h => by
  obtain ⟨_, hn, hx⟩ := dec_octs hd hl h
  subst hx
  rw [octsT_at _ _ _ (by omega)] at e0 e1 e2 e3 e4 e5 e6
  unfold dK dN dT dL dD
  rw [← hn]
  exact ⟨e0, by rw [e1, e2], by rw [e3, e4], by rw [e5, e6], rfl⟩
set_option maxRecDepth 100000 in
set_option maxHeartbeats 2000000 in
theorem packetIn_any (s : ByteArray) (w : World) (hs : s.size ≤ 2097152) (he : Errs w) :
    Calls Tryd.prog 28 #[.string s] w fun e w' => ∃ (k n t l : Int) (d : ByteArray), e = .returned (pv k n t l d) ∧ d.size ≤ 2097152 ∧ fldsOf s k n t l d ∧ Below w.heap.size w w' := by
  have HA := Lib.hid ((Below.refl w.heap.size w).alloc (Nat.le_refl _) (.cells #[.int .i64 0, .int .i64 0, .int .i64 0, .int .i64 0, .string ⟨#[]⟩] 25))
  have HC := Lib.hid (octetsIn_any s _ hs (he.below HA.out))
  have HR0 := Lib.hid (heap_new1 w 0 0 0 0 ⟨#[]⟩)
  clear he
  go_enter Tryd.func28, Tryd.ntmps28
  go_wp2_with fail
  refine HC.out.mono ?_
  rintro e W1 ⟨g, m, c, xs, rfl, o1, hl, hm, hb, hd, l1⟩
  have HR1 := Lib.hid (HR0.out.below l1 HR0.out.lt)
  have HB1 := Lib.hid (HA.out.trans (l1.mono HA.out.size))
  have HO1 := Lib.hid o1
  have HD := Lib.hid hd
  clear l1 HC HA HR0 o1 hd
  have hmc : m ≤ c := by
    obtain ⟨_, ⟨e, _⟩ | ⟨g', c', cu, e, _, _, hnc, _⟩⟩ := HO1.out
    · cases e
    · injection e with e1 e2 e3
      omega
  obtain ⟨r0, r1, r2, r3, r4⟩ := HR1.out.cells
  have f0 := HR1.out.free 0
  have f1 := HR1.out.free 1
  have f2 := HR1.out.free 2
  have f3 := HR1.out.free 3
  have f4 := HR1.out.free 4
  by_cases h10 : 10 ≤ m
  · have h10' : ¬ (m : Int) < 10 := by omega
    obtain ⟨x0, HX0, c0, a0, b0⟩ := own_cell8 HO1.out (show 0 < m by omega) hl hb
    obtain ⟨x1, HX1, c1, a1, b1⟩ := own_cell8 HO1.out (show 1 < m by omega) hl hb
    obtain ⟨x2, HX2, c2, a2, b2⟩ := own_cell8 HO1.out (show 2 < m by omega) hl hb
    obtain ⟨x3, HX3, c3, a3, b3⟩ := own_cell8 HO1.out (show 3 < m by omega) hl hb
    obtain ⟨x4, HX4, c4, a4, b4⟩ := own_cell8 HO1.out (show 4 < m by omega) hl hb
    obtain ⟨x5, HX5, c5, a5, b5⟩ := own_cell8 HO1.out (show 5 < m by omega) hl hb
    obtain ⟨x6, HX6, c6, a6, b6⟩ := own_cell8 HO1.out (show 6 < m by omega) hl hb
    have HF := Lib.hid (dec_flds HD.out hl h10 HX0 HX1 HX2 HX3 HX4 HX5 HX6)
    have n0 : 0 < m := by omega
    have hc8 : ¬ c = 8 := by omega
    have hwx : IntKind.i64.wrap x0 = x0 := IntWalk.i64_in _ (by omega)
    have n1 : (1 : Int) < (m : Int) := by omega
    have n2 : (2 : Int) < (m : Int) := by omega
    have n3 : (3 : Int) < (m : Int) := by omega
    have n4 : (4 : Int) < (m : Int) := by omega
    have n5 : (5 : Int) < (m : Int) := by omega
    have n6 : (6 : Int) < (m : Int) := by omega
    have q1 : (8 : Int) ≤ (m : Int) - 2 := by omega
    have q2 : (m : Int) - 2 ≤ (c : Int) := by omega
    have q3 : (0 : Int) ≤ (m : Int) - 2 := by omega
    have q4 : ((m : Int) - 2).toNat = m - 2 := by omega
    have q5 : IntKind.i64.wrap ((m : Int) - 2) = (m : Int) - 2 := IntWalk.i64_in _ (by omega)
    have hcv0 := bytes_mid (W := W1.drewN 1) (o := 8) (m := m - 10) (c2 := c - 8) (own_below HO1.out (bdrew W1 1) (Nat.le_refl _)) hl (by omega)
    have hds : (bytI ((xs.drop 8).take (m - 10))).size = m - 10 := by rw [bytI_size, List.length_take, List.length_drop]; omega
    generalize bytI ((xs.drop 8).take (m - 10)) = d at HF hcv0 hds
    have hcv1 := hcv0
    rw [show m - 10 = m - 2 - 8 by omega] at hcv1
    have hP := fun (a b : Int) (a0 : 0 ≤ a) (a1 : a ≤ 255) (b0 : 0 ≤ b) (b1 : b ≤ 255) (w : World) => (paired_any a b w a0 a1 b0 b1).mono fun e w' (h : e = .returned (.int .i64 (256 * a + b)) ∧ w = w') => (⟨h.1, h.2.symm⟩ : e = .returned (.int .i64 (256 * a + b)) ∧ w' = w)
    have HPa := Lib.hid hP
    clear HX0 HX1 HX2 HX3 HX4 HX5 HX6 hb hP
    go_wp2_with fail
    refine wp_region_still_tail 32 (by kernel_rfl) (by kernel_rfl) ?_
    obtain ⟨wd, hwd⟩ : ∃ wd, wd = W1.drewN 1 := ⟨_, rfl⟩
    have HRd : Hid (Pb wd w.heap.size 0 0 0 0 ⟨#[]⟩) := Lib.hid (by rw [hwd]; exact HR1.out.drew)
    have HBd : Hid (Below w.heap.size w wd) := Lib.hid (by rw [hwd]; exact HB1.out.trans ((bdrew _ _).mono HB1.out.size))
    have d0 : wd.cell? ⟨g, 0, none⟩ = some (.int .u8 x0) := by rw [hwd]; exact c0
    have d1 : wd.cell? ⟨g, 1, none⟩ = some (.int .u8 x1) := by rw [hwd]; exact c1
    have d2 : wd.cell? ⟨g, 2, none⟩ = some (.int .u8 x2) := by rw [hwd]; exact c2
    have d3 : wd.cell? ⟨g, 3, none⟩ = some (.int .u8 x3) := by rw [hwd]; exact c3
    have d4 : wd.cell? ⟨g, 4, none⟩ = some (.int .u8 x4) := by rw [hwd]; exact c4
    have d5 : wd.cell? ⟨g, 5, none⟩ = some (.int .u8 x5) := by rw [hwd]; exact c5
    have d6 : wd.cell? ⟨g, 6, none⟩ = some (.int .u8 x6) := by rw [hwd]; exact c6
    rw [← hwd] at hcv0 hcv1
    have hwd2 : ({ W1 with drawn := W1.drawn + 1 } : World) = wd := hwd.symm
    rw [hwd2]
    clear hwd hwd2 HR1 HB1 HO1 c0 c1 c2 c3 c4 c5 c6 r0 r1 r2 r3 r4 f0 f1 f2 f3 f4
    simp only [List.take_succ_cons, List.take_zero, List.drop_succ_cons, List.drop_zero]
    repeat still_step
    still_call (HPa.out x1 x2 a1 b1 a2 b2 wd)
    repeat still_step
    still_call (HPa.out x3 x4 a3 b3 a4 b4 wd)
    repeat still_step
    still_call (HPa.out x5 x6 a5 b5 a6 b6 wd)
    repeat still_step
    refine wpStill_nil ?_
    obtain ⟨r0, r1, r2, r3, r4⟩ := HRd.out.cells
    have f0 := HRd.out.free 0
    have f1 := HRd.out.free 1
    have f2 := HRd.out.free 2
    have f3 := HRd.out.free 3
    have f4 := HRd.out.free 4
    go_wp2_with fail
    obtain ⟨hp1, hg1⟩ := HRd.out.store (k' := x0) (n' := 256 * x1 + x2) (t' := 256 * x3 + x4) (l' := 256 * x5 + x6) (d' := d)
    refine bodyPost_ret (results_pkt1 rfl _ _ w.heap.size rfl hp1) rfl ⟨_, _, _, _, _, rfl, by omega, HF.out, ?_⟩
    exact HBd.out.grown hg1 HBd.out.size (fun k hk => by have e : w.heap.size = k := Option.some.inj hk; omega)
  · have h10' : (m : Int) < 10 := by omega
    have HF : Hid (fldsOf s 0 0 0 0 ⟨#[]⟩) := Lib.hid (fun h => absurd (dec_octs HD.out hl h).1 h10)
    clear hb
    go_wp2_with fail
    obtain ⟨hp1, hg1⟩ := HR1.out.store (k' := 0) (n' := 0) (t' := 0) (l' := 0) (d' := ⟨#[]⟩)
    refine bodyPost_ret (results_pkt1 rfl _ _ w.heap.size rfl hp1) rfl ⟨_, _, _, _, _, rfl, by decide, HF.out, ?_⟩
    exact HB1.out.grown hg1 HB1.out.size (fun k hk => by have e : w.heap.size = k := Option.some.inj hk; omega)
/-- A packet if its text is the given one, or the zero packet. -/
def keepV (k n t l : Int) (d s tx : ByteArray) (ok : Bool) : Value := if ok = true ∧ tx = s then pv k n t l d else pv 0 0 0 0 ⟨#[]⟩
theorem keepV_no {k n t l : Int} {d s tx : ByteArray} {ok : Bool} (h : ok = false) : keepV k n t l d s tx ok = pv 0 0 0 0 ⟨#[]⟩ := if_neg (fun e => by rw [h] at e; cases e.1)
theorem keepV_ne {k n t l : Int} {d s tx : ByteArray} {ok : Bool} (h : tx ≠ s) : keepV k n t l d s tx ok = pv 0 0 0 0 ⟨#[]⟩ := if_neg (fun e => h e.2)
theorem keepV_yes {k n t l : Int} {d s tx : ByteArray} {ok : Bool} (h : ok = true) (h2 : tx = s) : keepV k n t l d s tx ok = pv k n t l d := if_pos ⟨h, h2⟩
set_option maxHeartbeats 1000000 in
theorem keepEnc_any (k n t l : Int) (d s tx : ByteArray) (ok : Bool) (w : World)
    (HW : ∀ wx, Below w.heap.size w wx → Calls Tryd.prog 9 #[pv k n t l d] wx fun e w' => e = .returned (.tuple #[.string tx, .bool ok]) ∧ Below wx.heap.size wx w') :
    Calls Tryd.prog 27 #[pv k n t l d, .string s, .func (.func 9) #[] #[]] w fun e w' => e = .returned (keepV k n t l d s tx ok) ∧ Below w.heap.size w w' := by
  obtain ⟨W0, hW0⟩ : ∃ W0, W0 = (w.alloc (.cells #[.int .i64 k, .int .i64 n, .int .i64 t, .int .i64 l, .string d] 25)).alloc (.cells #[.int .i64 0, .int .i64 0, .int .i64 0, .int .i64 0, .string ⟨#[]⟩] 25) := ⟨_, rfl⟩
  have HA0 : Hid (Pb W0 w.heap.size k n t l d) := Lib.hid (by rw [hW0]; exact heap_alloc2_old w _ _)
  have HR0 : Hid (Pb W0 (w.heap.size + 1) 0 0 0 0 ⟨#[]⟩) := Lib.hid (by rw [hW0]; exact heap_alloc2_new w _ _)
  have HB0 : Hid (Below w.heap.size w W0) := Lib.hid (by rw [hW0]; exact ((Below.refl _ _).alloc (Nat.le_refl _) _).alloc (by simp) _)
  have HC := Lib.hid (HW W0 HB0.out)
  have HW0 := Lib.hid hW0
  clear hW0 HW
  unfold pv at HC ⊢
  go_enter Tryd.func27, Tryd.ntmps27
  go_wp2_with fail
  rw [← HW0.out]
  refine HC.out.mono ?_
  rintro e W1 ⟨rfl, lW⟩
  have HB1 := Lib.hid (HB0.out.trans (lW.mono HB0.out.size))
  have HR1 := Lib.hid (HR0.out.below lW HR0.out.lt)
  have HA1 := Lib.hid (HA0.out.below lW HA0.out.lt)
  clear lW HA0 HR0 HB0 HW0 HC
  have f0 := HR1.out.free 0
  have f1 := HR1.out.free 1
  have f2 := HR1.out.free 2
  have f3 := HR1.out.free 3
  have f4 := HR1.out.free 4
  obtain ⟨r0, r1, r2, r3, r4⟩ := HR1.out.cells
  obtain ⟨a0, a1, a2, a3, a4⟩ := HA1.out.cells
  cases ok with
  | false =>
    go_wp2_with fail
    obtain ⟨hp1, hg1⟩ := HR1.out.store (k' := 0) (n' := 0) (t' := 0) (l' := 0) (d' := ⟨#[]⟩)
    refine bodyPost_ret (results_pkt1 rfl _ _ (w.heap.size + 1) rfl hp1) rfl ⟨by rw [keepV_no rfl], ?_⟩
    exact HB1.out.grown hg1 HB1.out.size (fun k hk => by have e : w.heap.size + 1 = k := Option.some.inj hk; omega)
  | true =>
    by_cases hes : tx = s
    · subst hes
      go_wp2_with fail
      obtain ⟨hp1, hg1⟩ := HR1.out.store (k' := k) (n' := n) (t' := t) (l' := l) (d' := d)
      refine bodyPost_ret (results_pkt1 rfl _ _ (w.heap.size + 1) rfl hp1) rfl ⟨by rw [keepV_yes rfl rfl], ?_⟩
      exact HB1.out.grown hg1 HB1.out.size (fun k hk => by have e : w.heap.size + 1 = k := Option.some.inj hk; omega)
    · have hne : (tx.toList == s.toList) = false := list_ne hes
      have HNe := Lib.hid hes
      clear hes
      go_wp2_with fail
      obtain ⟨hp1, hg1⟩ := HR1.out.store (k' := 0) (n' := 0) (t' := 0) (l' := 0) (d' := ⟨#[]⟩)
      refine bodyPost_ret (results_pkt1 rfl _ _ (w.heap.size + 1) rfl hp1) rfl ⟨by rw [keepV_ne HNe.out], ?_⟩
      exact HB1.out.grown hg1 HB1.out.size (fun k hk => by have e : w.heap.size + 1 = k := Option.some.inj hk; omega)
/-- What decoding keeps. -/
theorem keep_dec {s d : ByteArray} {k n t l : Int} (hf : fldsOf s k n t l d) : keepV k n t l d s (encV k n t l d) (pktOk k n t l d) = decV s := by
  cases h : decOk s with
  | true =>
    obtain ⟨rfl, rfl, rfl, rfl, rfl⟩ := hf h
    rw [decV_yes h]
    have hp := decOk_pkt h
    exact keepV_yes hp (by rw [encV_yes hp]; exact decOk_enc h)
  | false =>
    rw [decV_no h]
    cases hp : pktOk k n t l d with
    | false => exact keepV_no rfl
    | true =>
      refine keepV_ne (fun e => ?_)
      rw [encV_yes hp] at e
      rw [← e, dec_enc hp] at h
      cases h
theorem decV_kind (s : ByteArray) (h : decOk s = true) : ∃ k n t l d, decV s = pv k n t l d ∧ 1 ≤ k := ⟨_, _, _, _, _, decV_yes h, (pktOk_bd (decOk_pkt h)).1.1⟩
set_option maxRecDepth 100000 in
set_option maxHeartbeats 2000000 in
theorem implDecode_any (s : ByteArray) (w : World) (hs : s.size ≤ 2097152) (he : Errs w) :
    Calls Tryd.prog 10 #[.string s] w fun e w' => e = .returned (.tuple #[decV s, .bool (decOk s)]) ∧ Below w.heap.size w w' := by
  have HA := Lib.hid ((Below.refl w.heap.size w).alloc (Nat.le_refl _) (.cells #[.int .i64 0, .int .i64 0, .int .i64 0, .int .i64 0, .string ⟨#[]⟩] 25))
  have HC := Lib.hid (packetIn_any s _ hs (he.below HA.out))
  have HR0 := Lib.hid (heap_new1 w 0 0 0 0 ⟨#[]⟩)
  have HKp := Lib.hid (fun (k n t l : Int) (d : ByteArray) (hd : d.size ≤ 2097152) (hf : fldsOf s k n t l d) (W1 : World) => by
    have HK := keepEnc_any k n t l d s (encV k n t l d) (pktOk k n t l d) W1 (fun wx _ => implEncode_any k n t l d wx (by unfold maxLen; omega))
    rw [keep_dec hf] at HK
    exact HK)
  clear he
  cases hok : decOk s with
  | true =>
    obtain ⟨k2, n2, t2, l2, d2, hv, hk2⟩ := decV_kind s hok
    rw [hv] at HKp ⊢
    have hk0 : (k2 == 0) = false := by simp; omega
    unfold pv at HKp ⊢
    clear hv hok
    go_enter Tryd.func10, Tryd.ntmps10
    go_wp2_with fail
    refine HC.out.mono ?_
    rintro e W1 ⟨k, n, t, l, d, rfl, hd, hf, l1⟩
    have HR1 := Lib.hid (HR0.out.below l1 HR0.out.lt)
    have HB1 := Lib.hid (HA.out.trans (l1.mono HA.out.size))
    have HK1 := Lib.hid (HKp.out k n t l d hd hf W1)
    clear hf hd l1 HC HA HR0 HKp
    unfold pv
    go_wp2_with fail
    refine HK1.out.mono ?_
    rintro e W2 ⟨rfl, lB⟩
    have HR2 := Lib.hid (HR1.out.below lB HR1.out.lt)
    have HB2 := Lib.hid (HB1.out.trans (lB.mono HB1.out.size))
    have hlt := HR2.out.lt
    clear lB HR1 HB1 HK1
    go_wp2_with fail
    obtain ⟨W3, hW3⟩ : ∃ W3, W3 = W2.alloc (.cells #[.int .i64 k2, .int .i64 n2, .int .i64 t2, .int .i64 l2, .string d2] 25) := ⟨_, rfl⟩
    have hb3 : Below W2.heap.size W2 W3 := by rw [hW3]; exact (Below.refl _ _).alloc (Nat.le_refl _) _
    have HQ3 : Hid (Pb W3 W2.heap.size k2 n2 t2 l2 d2) := Lib.hid (by rw [hW3]; exact heap_alloc_new W2 _)
    rw [← hW3]
    clear hW3
    have HR3 := Lib.hid (HR2.out.below hb3 HR2.out.lt)
    have HB3 := Lib.hid (HB2.out.trans (hb3.mono HB2.out.size))
    clear hb3 HR2 HB2
    obtain ⟨q, hq⟩ : ∃ q, q = W2.heap.size := ⟨_, rfl⟩
    rw [← hq] at HQ3 hlt ⊢
    clear hq
    have hqn : w.heap.size ≠ q := by omega
    have hqn2 : q ≠ w.heap.size := by omega
    obtain ⟨c0, c1, c2, c3, c4⟩ := HQ3.out.cells
    obtain ⟨r0, r1, r2, r3, r4⟩ := HR3.out.cells
    have f0 := HR3.out.free 0
    have f1 := HR3.out.free 1
    have f2 := HR3.out.free 2
    have f3 := HR3.out.free 3
    have f4 := HR3.out.free 4
    go_region_held3 (fun w' => w'.cell? ⟨q, 0, none⟩ = some (.int .i64 k2) ∧ w'.cell? ⟨q, 1, none⟩ = some (.int .i64 n2) ∧ w'.cell? ⟨q, 2, none⟩ = some (.int .i64 t2) ∧ w'.cell? ⟨q, 3, none⟩ = some (.int .i64 l2) ∧ w'.cell? ⟨q, 4, none⟩ = some (.string d2)) (go_keep) (fail)
    go_wp2_with fail
    obtain ⟨hp1, hg1⟩ := HR3.out.store (k' := k2) (n' := n2) (t' := t2) (l' := l2) (d' := d2)
    refine bodyPost_ret (results_pkt rfl _ _ w.heap.size rfl rfl (show Pb (World.drew _) _ _ _ _ _ _ from hp1)) rfl ⟨rfl, ?_⟩
    exact (HB3.out.grown hg1 HB3.out.size (fun k hk => by have e : w.heap.size = k := Option.some.inj hk; omega)).drew
  | false =>
    rw [decV_no hok] at HKp ⊢
    unfold pv at HKp ⊢
    clear hok
    go_enter Tryd.func10, Tryd.ntmps10
    go_wp2_with fail
    refine HC.out.mono ?_
    rintro e W1 ⟨k, n, t, l, d, rfl, hd, hf, l1⟩
    have HR1 := Lib.hid (HR0.out.below l1 HR0.out.lt)
    have HB1 := Lib.hid (HA.out.trans (l1.mono HA.out.size))
    have HK1 := Lib.hid (HKp.out k n t l d hd hf W1)
    clear hf hd l1 HC HA HR0 HKp
    unfold pv
    go_wp2_with fail
    refine HK1.out.mono ?_
    rintro e W2 ⟨rfl, lB⟩
    have HR2 := Lib.hid (HR1.out.below lB HR1.out.lt)
    have HB2 := Lib.hid (HB1.out.trans (lB.mono HB1.out.size))
    have hlt := HR2.out.lt
    clear lB HR1 HB1 HK1
    go_wp2_with fail
    obtain ⟨W3, hW3⟩ : ∃ W3, W3 = W2.alloc (.cells #[.int .i64 0, .int .i64 0, .int .i64 0, .int .i64 0, .string ⟨#[]⟩] 25) := ⟨_, rfl⟩
    have hb3 : Below W2.heap.size W2 W3 := by rw [hW3]; exact (Below.refl _ _).alloc (Nat.le_refl _) _
    have HQ3 : Hid (Pb W3 W2.heap.size 0 0 0 0 ⟨#[]⟩) := Lib.hid (by rw [hW3]; exact heap_alloc_new W2 _)
    rw [← hW3]
    clear hW3
    have HR3 := Lib.hid (HR2.out.below hb3 HR2.out.lt)
    have HB3 := Lib.hid (HB2.out.trans (hb3.mono HB2.out.size))
    clear hb3 HR2 HB2
    obtain ⟨q, hq⟩ : ∃ q, q = W2.heap.size := ⟨_, rfl⟩
    rw [← hq] at HQ3 hlt ⊢
    clear hq
    have hqn : w.heap.size ≠ q := by omega
    have hqn2 : q ≠ w.heap.size := by omega
    obtain ⟨c0, c1, c2, c3, c4⟩ := HQ3.out.cells
    obtain ⟨r0, r1, r2, r3, r4⟩ := HR3.out.cells
    have f0 := HR3.out.free 0
    have f1 := HR3.out.free 1
    have f2 := HR3.out.free 2
    have f3 := HR3.out.free 3
    have f4 := HR3.out.free 4
    go_region_held3 (fun w' => w'.cell? ⟨q, 0, none⟩ = some (.int .i64 0) ∧ w'.cell? ⟨q, 1, none⟩ = some (.int .i64 0) ∧ w'.cell? ⟨q, 2, none⟩ = some (.int .i64 0) ∧ w'.cell? ⟨q, 3, none⟩ = some (.int .i64 0) ∧ w'.cell? ⟨q, 4, none⟩ = some (.string ⟨#[]⟩)) (go_keep) (fail)
    go_wp2_with fail
    obtain ⟨hp1, hg1⟩ := HR3.out.store (k' := 0) (n' := 0) (t' := 0) (l' := 0) (d' := ⟨#[]⟩)
    refine bodyPost_ret (results_pkt rfl _ _ w.heap.size rfl rfl (show Pb (World.drew _) _ _ _ _ _ _ from hp1)) rfl ⟨rfl, ?_⟩
    exact (HB3.out.grown hg1 HB3.out.size (fun k hk => by have e : w.heap.size = k := Option.some.inj hk; omega)).drew
end Go.Proofs.YtncjplcefdeckaaDoor
