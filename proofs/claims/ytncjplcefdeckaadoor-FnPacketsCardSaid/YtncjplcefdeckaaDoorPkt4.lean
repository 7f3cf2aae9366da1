/-
  Packets: 'l4Decode' and 'DecodePacket' of the specification.
-/
import Derived.Test.YtncjplcefdeckaaDoorPkt3
import Derived.Laws.BytesArg
import Derived.BigRegion
import Derived.Deep.CutRange
import Derived.Laws.ResultCell
import Derived.Laws.Rows
import Derived.Lib.SmallJoins
namespace Go.Proofs.YtncjplcefdeckaaDoor
open Go.RowKit Go.Lib Go.Joins
set_option linter.unusedVariables false

theorem quiet_eq4 {f : FuncId} {args : Array Value} {w : World} {v : Value} {d : Nat} (h : Calls Tryd.prog f args (w.drewN d) fun e w' => e = .returned v ∧ w.drewN d = w') :
    Calls Tryd.prog f args (w.drewN d) fun e w'' => e = .returned v ∧ ∃ n, w'' = w.drewN n := h.mono fun e w'' ⟨h1, h2⟩ => ⟨h1, d, h2.symm⟩
/-- What decoding returns. -/
def decV (s : ByteArray) : Value := if decOk s = true then pv (dK s) (dN s) (dT s) (dL s) (dD s) else pv 0 0 0 0 ⟨#[]⟩
theorem decV_no {s : ByteArray} (h : decOk s = false) : decV s = pv 0 0 0 0 ⟨#[]⟩ := by unfold decV; rw [h]; rfl
theorem decV_yes {s : ByteArray} (h : decOk s = true) : decV s = pv (dK s) (dN s) (dT s) (dL s) (dD s) := if_pos h
theorem ret_vb {a b : Value} {c d : Bool} (h : a = b) (h' : c = d) : Ending.returned (.tuple #[a, .bool c]) = .returned (.tuple #[b, .bool d]) := by rw [h, h']
theorem dec_odd {s : ByteArray} (h : s.size % 2 ≠ 0) : decOk s = false := by
  unfold decOk shpB; rw [decide_eq_false h]; rfl
theorem dec_short {s : ByteArray} (h : ¬ (20 ≤ s.size ∧ s.size ≤ 36)) : decOk s = false := by
  unfold decOk shpB
  by_cases h1 : 20 ≤ s.size
  · rw [decide_eq_false (show ¬ s.size ≤ 36 by omega)]; simp
  · rw [decide_eq_false h1]; simp
theorem dec_dig {s : ByteArray} {i : Nat} (hi : i < s.size) (h : hexV s[i] < 0) : decOk s = false := by
  have : digsB s = false := by
    rw [Bool.eq_false_iff]
    intro e
    have := digs_at e hi
    omega
  unfold decOk shpB
  rw [this]; simp
theorem oct_cell {W : World} {B m g c : Nat} {s : ByteArray} (h : W.ownsRow B 3 1 (.slice (some ⟨g, 0, none⟩) m c) m ((octsT s m).map (Value.int .i64))) {i : Nat} (hi : i < m) : W.cell? ⟨g, i, none⟩ = some (.int .i64 (octT s i)) := by
  obtain ⟨⟨u, hu, hc⟩, _⟩ := own_facts h hi
  rw [hc]
  unfold octsT at hu
  simp [hi] at hu
  rw [← hu]
theorem digs_all {s : ByteArray} (h : ∀ i (hi : i < s.size), 0 ≤ hexV s[i]) : digsB s = true := by
  unfold digsB
  rw [List.all_eq_true]
  intro b hb
  obtain ⟨i, hi, rfl⟩ := List.getElem_of_mem hb
  exact decide_eq_true (h i hi)
theorem infoU8 : (Tryd.prog.info? 5).map (fun i => (i.zero, i.size, i.bytes)) = some (some (.int .u8 0), 1, 1) := by kernel_rfl
theorem drop_oct {s : ByteArray} {j r ii : Nat} (h0 : ii ≤ 8 + r) (h1 : 8 + r ≤ ii) (h : ii < j) : ((octsT s j).drop 8).take (r + 1) = ((octsT s j).drop 8).take r ++ [octT s ii] := by
  obtain rfl : ii = 8 + r := by omega
  have hl : r < ((octsT s j).drop 8).length := by rw [List.length_drop, octsT_len]; omega
  rw [List.take_succ_eq_append_getElem hl, List.getElem_drop]
  congr 2
  simp [octsT]
theorem bytI_size (xs : List Int) : (bytI xs).size = xs.length := by
  show (xs.map (fun x => UInt8.ofNat x.toNat)).toArray.size = _
  simp
theorem list_ne {a b : ByteArray} (h : a ≠ b) : (a.toList == b.toList) = false := by
  rw [beq_eq_false_iff_ne, ByteArray.toList_eq, ByteArray.toList_eq]
  intro e
  exact h (ByteArray.ext (Array.toList_inj.1 e))
theorem bytes_row {W : World} {B n g c : Nat} {xs : List Int} (h : W.ownsRow B 5 1 (.slice (some ⟨g, 0, none⟩) n c) n (xs.map (Value.int .u8))) (hl : xs.length = n) :
    (convert 22 9 (.slice (some ⟨g, 0, none⟩) n c)).run Tryd.prog W = .ok (.string (bytI xs)) W :=
  run_convert_bytes_arg (P := Tryd.prog) W 22 5 Tryd.underlying22 Tryd.underlying5 g 0 n c xs hl (fun i hi => by
    obtain ⟨⟨u, hu, hc⟩, _⟩ := own_facts h hi
    rw [Nat.zero_add, hc]
    have hx : i < xs.length := by omega
    rw [List.getElem?_map, List.getElem?_eq_getElem hx] at hu
    rw [List.getD_eq_getElem?_getD, List.getElem?_eq_getElem hx]
    exact (congrArg some (Option.some.inj hu)).symm) 9 Tryd.underlying9
theorem own_oct {W : World} {B j : Nat} {v : Value} {s : ByteArray} {x : Int} (he : x = octT s j) (h : W.ownsRow B 3 1 v (j + 1) ((octsT s j).map (Value.int .i64) ++ [.int .i64 x])) : W.ownsRow B 3 1 v (j + 1) ((octsT s (j + 1)).map (Value.int .i64)) := by
  subst he
  rw [octsT_succ, List.map_append, List.map_singleton]
  exact h


/-- A zero packet's block. -/
def Zb (w : World) (g : Nat) : Prop := w.heap[g]? = some (.cells #[.int .i64 0, .int .i64 0, .int .i64 0, .int .i64 0, .string ⟨#[]⟩] 25 (0, 0))
def Pb (w : World) (g : Nat) (k n t l : Int) (d : ByteArray) : Prop := w.heap[g]? = some (.cells #[.int .i64 k, .int .i64 n, .int .i64 t, .int .i64 l, .string d] 25 (0, 0))
theorem Pb.cells {w : World} {g : Nat} {k n t l : Int} {d : ByteArray} (h : Pb w g k n t l d) : w.cell? ⟨g, 0, none⟩ = some (.int .i64 k) ∧ w.cell? ⟨g, 1, none⟩ = some (.int .i64 n) ∧ w.cell? ⟨g, 2, none⟩ = some (.int .i64 t) ∧ w.cell? ⟨g, 3, none⟩ = some (.int .i64 l) ∧ w.cell? ⟨g, 4, none⟩ = some (.string d) := by
  unfold Pb at h
  refine ⟨?_, ?_, ?_, ?_, ?_⟩ <;> rw [cell_of_block h] <;> rfl
theorem Pb.free {w : World} {g : Nat} {k n t l : Int} {d : ByteArray} (h : Pb w g k n t l d) (i : Nat) : w.frozen? ⟨g, i, none⟩ = false := unfrozen_of_block h i
theorem Pb.lt {w : World} {g : Nat} {k n t l : Int} {d : ByteArray} (h : Pb w g k n t l d) : g < w.heap.size := (Array.getElem?_eq_some_iff.1 h).1
theorem Pb.below {w w' : World} {g : Nat} {k n t l : Int} {d : ByteArray} {B : Nat} (h : Pb w g k n t l d) (hb : Below B w w') (hB : g < B) : Pb w' g k n t l d := (hb.block g hB).trans h
theorem results_pkt {fn : Func} {p u : Tmp} (h : fn.results = #[.cell p 25, .tmp u]) (tmps : Array Value) (w : World) (g : Nat) {k n t l : Int} {d : ByteArray} (hp : tmps.getD p undef = .pointer (some ⟨g, 0, none⟩)) {b : Bool} (hu : tmps.getD u undef = .bool b) (hg : Pb w g k n t l d) :
    (results fn tmps).run Tryd.prog w = .ok (.tuple #[pv k n t l d, .bool b]) w := by
  rw [results_cell_tmp h, hu]
  have hp' : tmps[p]?.getD undef = .pointer (some ⟨g, 0, none⟩) := by simpa using hp
  simp [asAddr, hp', Result.andThen, run_loadVar_row w g 25 25 _ _ _ hg Tryd.underlying25 (by rfl) (by kernel_rfl)]
  rfl

theorem Pb.set {w : World} {g i : Nat} {cs : Array Value} (h : w.heap[g]? = some (.cells cs 25 (0, 0))) (v : Value) : (w.setCell ⟨g, i, none⟩ v).heap[g]? = some (.cells (cs.setIfInBounds i v) 25 (0, 0)) ∧ w.grownBy (w.setCell ⟨g, i, none⟩ v) (some g) := by
  have e1 := setCell_eq_setRow w g i cs 25 (0, 0) v h
  refine ⟨block_setCell h v, ?_⟩
  rw [e1]
  exact ⟨rfl, rfl, rfl, by simp, fun q _ hne => setRow_other w g q _ (fun e => hne (by rw [e]))⟩
theorem Pb.store {w : World} {g : Nat} {k n t l k' n' t' l' : Int} {d d' : ByteArray} (h : Pb w g k n t l d) :
    Pb (((((w.setCell ⟨g, 0, none⟩ (.int .i64 k')).setCell ⟨g, 1, none⟩ (.int .i64 n')).setCell ⟨g, 2, none⟩ (.int .i64 t')).setCell ⟨g, 3, none⟩ (.int .i64 l')).setCell ⟨g, 4, none⟩ (.string d')) g k' n' t' l' d' ∧
    w.grownBy (((((w.setCell ⟨g, 0, none⟩ (.int .i64 k')).setCell ⟨g, 1, none⟩ (.int .i64 n')).setCell ⟨g, 2, none⟩ (.int .i64 t')).setCell ⟨g, 3, none⟩ (.int .i64 l')).setCell ⟨g, 4, none⟩ (.string d')) (some g) := by
  obtain ⟨a1, b1⟩ := Pb.set (i := 0) h (.int .i64 k')
  obtain ⟨a2, b2⟩ := Pb.set (i := 1) a1 (.int .i64 n')
  obtain ⟨a3, b3⟩ := Pb.set (i := 2) a2 (.int .i64 t')
  obtain ⟨a4, b4⟩ := Pb.set (i := 3) a3 (.int .i64 l')
  obtain ⟨a5, b5⟩ := Pb.set (i := 4) a4 (.string d')
  refine ⟨?_, grown_trans (grown_trans (grown_trans (grown_trans b1 b2) b3) b4) b5⟩
  unfold Pb
  rw [a5]
  rfl
theorem Pb.drew {w : World} {g q : Nat} {k n t l : Int} {d : ByteArray} (h : Pb w g k n t l d) : Pb (w.drewN q) g k n t l d := h

set_option maxRecDepth 100000 in
set_option maxHeartbeats 2000000 in
theorem l4Decode_any (s : ByteArray) (w : World) (hs : s.size ≤ 2097152) :
    Calls Tryd.prog 37 #[.string s] w fun e w' => e = .returned (.tuple #[decV s, .bool (decOk s)]) ∧ Below w.heap.size w w' := by
  obtain ⟨i0, hi, hz0, hz1, hz2⟩ := info_parts infoInt
  by_cases hev : s.size % 2 = 0
  · have hev' : (((s.size : Int) % 2) != 0) = false := by simp; omega
    by_cases hsz : 20 ≤ s.size ∧ s.size ≤ 36
    · have hin : inB (s.size : Int) 20 36 = true := inB_yes (by omega) (by omega)
      obtain ⟨hz20, hz36⟩ := hsz
      go_enter Tryd.func37, Tryd.ntmps37
      go_wp2_with (go_at_call 47; refine (l1In_any _ _ _ _).mono ?_; rintro e w' ⟨rfl, rfl⟩)
      obtain ⟨W1, hW1⟩ : ∃ W1, W1 = (w.alloc (.cells #[.int .i64 0, .int .i64 0, .int .i64 0, .int .i64 0, .string ⟨#[]⟩] 25)).alloc (.cells #[.int .i64 0, .int .i64 0, .int .i64 0, .int .i64 0, .string ⟨#[]⟩] 25) := ⟨_, rfl⟩
      rw [← hW1]
      have hR : Pb W1 w.heap.size 0 0 0 0 ⟨#[]⟩ := by rw [hW1]; exact heap_alloc2_old w _ _
      have hN : Pb W1 (w.heap.size + 1) 0 0 0 0 ⟨#[]⟩ := by rw [hW1]; exact heap_alloc2_new w _ _
      have hs1 : W1.heap.size = w.heap.size + 2 := by rw [hW1]; simp
      have HB1 : Hid (Below w.heap.size w W1) := Lib.hid (by rw [hW1]; exact ((Below.refl _ _).alloc (Nat.le_refl _) _).alloc (by simp) _)
      have HR := Lib.hid hR
      have HN := Lib.hid hN
      obtain ⟨m, hm1, hm2⟩ : ∃ m, s.size ≤ 2 * m ∧ 2 * m ≤ s.size := ⟨s.size / 2, by omega, by omega⟩
      clear hW1 hR hN hin hev' hev
      go_loopw [5, 6] (fun o i wr => ∃ j q : Nat, (q ≤ 2 * j ∧ 2 * j ≤ q) ∧ j ≤ m ∧ i = .int .i64 q ∧ Hid (wr.ownsRow W1.heap.size 3 1 o j ((octsT s j).map (Value.int .i64))) ∧ Hid (∀ i, i < q → 0 ≤ byteH s i) ∧ Hid (Below W1.heap.size W1 wr)) (fun _ i _ => s.size + 1 - (intOf i).toNat)
      case atStart => exact ⟨0, 0, ⟨Nat.le_refl _, Nat.le_refl _⟩, Nat.zero_le _, rfl, Lib.hid (by rw [show w.heap.size + 1 + 1 = W1.heap.size by omega]; exact World.ownsRow_made W1 #[] 0 (Nat.le_refl _) (Nat.zero_le _) rfl), Lib.hid (by simp), Lib.hid ((Below.refl _ _).alloc (Nat.le_refl _) _)⟩
      case round =>
        obtain ⟨j, q, ⟨hqa, hqb⟩, hj, rfl, HO, HDg, HB⟩ := hrel
        have hszr := HB.out.size
        have hRr := HR.out.below HB.out (by omega)
        have hNr := HN.out.below HB.out (by omega)
        by_cases hjm : j < m
        · have hq0 : q < s.size := by omega
          obtain ⟨p, hp⟩ : ∃ p, p = q + 1 := ⟨_, rfl⟩
          have HP := Lib.hid hp
          have hq1 : p < s.size := by omega
          have hwp : IntKind.i64.wrap ((q : Int) + 1) = (p : Int) := by rw [IntWalk.i64_in _ (by omega)]; omega
          clear hp
          obtain ⟨xa, xb⟩ := hexV_bd s[q]
          obtain ⟨ya, yb⟩ := hexV_bd s[p]
          have hb1 : s[q].toNat < 256 := s[q].toNat_lt
          have hb2 : s[p].toNat < 256 := s[p].toNat_lt
          obtain ⟨n0, n1, n2, n3, n4⟩ := hNr.cells
          obtain ⟨r0, r1, r2, r3, r4⟩ := hRr.cells
          have f0 := hRr.free 0
          have f1 := hRr.free 1
          have f2 := hRr.free 2
          have f3 := hRr.free 3
          have f4 := hRr.free 4
          by_cases hd1 : hexV s[q] < 0
          · have HD := Lib.hid (dec_dig hq0 hd1)
            go_wp2_with fail
            go_quiet ((go_at_call 58; exact quiet_eq4 (l4Digit_any _ _)))
            go_wp2_with fail
            obtain ⟨hp1, hg1⟩ := (hRr.drew (q := nq)).store (k' := 0) (n' := 0) (t' := 0) (l' := 0) (d' := ⟨#[]⟩)
            refine bodyPost_ret (results_pkt rfl _ _ w.heap.size rfl rfl hp1) rfl ⟨ret_vb (decV_no HD.out).symm HD.out.symm, ?_⟩
            have hbw : Below w.heap.size w wr := HB1.out.trans (HB.out.mono (by omega))
            exact (hbw.trans ((bdrew wr nq).mono (by omega))).grown hg1 (by have := hbw.size; simpa using this) (fun k hk => by have e : w.heap.size = k := Option.some.inj hk; omega)
          · by_cases hd2 : hexV s[p] < 0
            · have HD := Lib.hid (dec_dig hq1 hd2)
              go_wp2_with fail
              go_quiet ((go_at_call 58; exact quiet_eq4 (l4Digit_any _ _)))
              go_wp2_with fail
              obtain ⟨hp1, hg1⟩ := (hRr.drew (q := nq)).store (k' := 0) (n' := 0) (t' := 0) (l' := 0) (d' := ⟨#[]⟩)
              refine bodyPost_ret (results_pkt rfl _ _ w.heap.size rfl rfl hp1) rfl ⟨ret_vb (decV_no HD.out).symm HD.out.symm, ?_⟩
              have hbw : Below w.heap.size w wr := HB1.out.trans (HB.out.mono (by omega))
              exact (hbw.trans ((bdrew wr nq).mono (by omega))).grown hg1 (by have := hbw.size; simpa using this) (fun k hk => by have e : w.heap.size = k := Option.some.inj hk; omega)
            · have HX : Hid (16 * hexV s[q] + hexV s[p] = octT s j) := Lib.hid (by
                unfold octT
                have hp := HP.out
                have e1 : byteH s (2 * j) = hexV s[q] := by rw [show 2 * j = q by omega]; exact byteH_in hq0
                have e2 : byteH s (2 * j + 1) = hexV s[p] := by rw [show 2 * j + 1 = p by omega]; exact byteH_in hq1
                rw [e1, e2])
              have HDg2 : Hid (∀ i, i < q + 2 → 0 ≤ byteH s i) := Lib.hid (by
                intro i hi
                by_cases h : i < q
                · exact HDg.out i h
                · have hp := HP.out
                  rcases (by omega : i = q ∨ i = p) with rfl | rfl
                  · rw [byteH_in hq0]; omega
                  · rw [byteH_in hq1]; omega)
              clear n0 n1 n2 n3 n4 r0 r1 r2 r3 r4 f0 f1 f2 f3 f4
              go_wp2_with fail
              go_quiet ((go_at_call 58; exact quiet_eq4 (l4Digit_any _ _)))
              obtain ⟨w3, hw3⟩ : ∃ w3, w3 = wr.drewN nq := ⟨_, rfl⟩
              rw [← hw3]
              have HO3 : Hid (w3.ownsRow W1.heap.size 3 1 _ j ((octsT s j).map (Value.int .i64))) := Lib.hid (by rw [hw3]; exact own_below HO.out (bdrew _ _) (Nat.le_refl _))
              have HB3 : Hid (Below W1.heap.size W1 w3) := Lib.hid (by rw [hw3]; exact HB.out.trans ((bdrew _ _).mono hszr))
              have hsz3 := HB3.out.size
              have xm0 : 0 ≤ 16 * hexV s[q] + hexV s[p] := by omega
              have xm1 : 16 * hexV s[q] + hexV s[p] ≤ 255 := by omega
              clear hw3
              go_wp2_with (at_builtin; refine wpList_append_own _ rfl _ _ 33 rfl W1.heap.size 3 i0 (.int .i64 0) 1 8 Tryd.underlying33 hi hz0 hz1 hz2 rfl (by decide) _ _ _ rfl (HO3.out.alloc _) ⟨w3.heap.size, 0, none⟩ 1 1 [.int .i64 (16 * hexV s[q] + hexV s[p])] rfl rfl (cell_one_new _ _ _) (by intro u hu; simp at hu; subst hu; rfl) (by unfold maxLen; omega) (by omega) (by simp; omega) ?_; intro v' w4 hown' hgrow _)
              have HB4 := Lib.hid (below_app4 HB3.out hsz3 HO3.out hgrow)
              have HO4 := Lib.hid (own_oct HX.out hown')
              clear hown' hgrow
              go_roundw
              case rel => exact ⟨j + 1, q + 2, ⟨by omega, by omega⟩, by omega, by go_num, HO4, HDg2, HB4⟩
              case measure => (first | (simp [intOf]; done) | (simp [intOf]; omega))
        · obtain rfl : j = m := by omega
          have hdg : digsB s = true := digs_all (by
            intro i hi
            have := HDg.out i (by omega)
            rw [byteH_in hi] at this
            exact this)
          obtain ⟨g, oc, rfl⟩ := own_form HO.out (by omega)
          have hcap : j ≤ oc := by
            obtain ⟨a', c', e', h1, _, _⟩ := row_own HO.out
            injection e' with _ _ e3
            omega
          obtain ⟨x0, hx0⟩ : ∃ x, x = octT s 0 := ⟨_, rfl⟩
          obtain ⟨a0, b0⟩ := octT_bd hdg (j := 0) (by omega)
          have c0 := oct_cell HO.out (show 0 < j by omega)
          rw [← hx0] at a0 b0 c0
          have HX0 := Lib.hid hx0
          clear hx0
          have l0 : (0 : Int) < (j : Int) := by omega
          obtain ⟨x1, hx1⟩ : ∃ x, x = octT s 1 := ⟨_, rfl⟩
          obtain ⟨a1, b1⟩ := octT_bd hdg (j := 1) (by omega)
          have c1 := oct_cell HO.out (show 1 < j by omega)
          rw [← hx1] at a1 b1 c1
          have HX1 := Lib.hid hx1
          clear hx1
          have l1 : (1 : Int) < (j : Int) := by omega
          obtain ⟨x2, hx2⟩ : ∃ x, x = octT s 2 := ⟨_, rfl⟩
          obtain ⟨a2, b2⟩ := octT_bd hdg (j := 2) (by omega)
          have c2 := oct_cell HO.out (show 2 < j by omega)
          rw [← hx2] at a2 b2 c2
          have HX2 := Lib.hid hx2
          clear hx2
          have l2 : (2 : Int) < (j : Int) := by omega
          obtain ⟨x3, hx3⟩ : ∃ x, x = octT s 3 := ⟨_, rfl⟩
          obtain ⟨a3, b3⟩ := octT_bd hdg (j := 3) (by omega)
          have c3 := oct_cell HO.out (show 3 < j by omega)
          rw [← hx3] at a3 b3 c3
          have HX3 := Lib.hid hx3
          clear hx3
          have l3 : (3 : Int) < (j : Int) := by omega
          obtain ⟨x4, hx4⟩ : ∃ x, x = octT s 4 := ⟨_, rfl⟩
          obtain ⟨a4, b4⟩ := octT_bd hdg (j := 4) (by omega)
          have c4 := oct_cell HO.out (show 4 < j by omega)
          rw [← hx4] at a4 b4 c4
          have HX4 := Lib.hid hx4
          clear hx4
          have l4 : (4 : Int) < (j : Int) := by omega
          obtain ⟨x5, hx5⟩ : ∃ x, x = octT s 5 := ⟨_, rfl⟩
          obtain ⟨a5, b5⟩ := octT_bd hdg (j := 5) (by omega)
          have c5 := oct_cell HO.out (show 5 < j by omega)
          rw [← hx5] at a5 b5 c5
          have HX5 := Lib.hid hx5
          clear hx5
          have l5 : (5 : Int) < (j : Int) := by omega
          obtain ⟨x6, hx6⟩ : ∃ x, x = octT s 6 := ⟨_, rfl⟩
          obtain ⟨a6, b6⟩ := octT_bd hdg (j := 6) (by omega)
          have c6 := oct_cell HO.out (show 6 < j by omega)
          rw [← hx6] at a6 b6 c6
          have HX6 := Lib.hid hx6
          clear hx6
          have l6 : (6 : Int) < (j : Int) := by omega
          have w12 : IntKind.i64.wrap (256 * x1) = 256 * x1 := IntWalk.i64_in _ (by omega)
          have v12 : IntKind.i64.wrap (256 * x1 + x2) = 256 * x1 + x2 := IntWalk.i64_in _ (by omega)
          have w34 : IntKind.i64.wrap (256 * x3) = 256 * x3 := IntWalk.i64_in _ (by omega)
          have v34 : IntKind.i64.wrap (256 * x3 + x4) = 256 * x3 + x4 := IntWalk.i64_in _ (by omega)
          have w56 : IntKind.i64.wrap (256 * x5) = 256 * x5 := IntWalk.i64_in _ (by omega)
          have v56 : IntKind.i64.wrap (256 * x5 + x6) = 256 * x5 + x6 := IntWalk.i64_in _ (by omega)
          have HDG := Lib.hid hdg
          have hj10 : 10 ≤ j := by omega
          have hj0 : 0 < j := by omega
          have hj18 : j ≤ 18 := by omega
          clear hdg
          go_upto_region 12 with fail
          have hgl0 : g < wr.heap.size := World.block_lt_of_cell? wr _ c0
          go_cut [9] from 12 to 81 (fun pp wx => pp = .pointer (some ⟨wr.heap.size, 0, none⟩) ∧ Hid (Pb wx wr.heap.size x0 (256 * x1 + x2) (256 * x3 + x4) (256 * x5 + x6) ⟨#[]⟩) ∧ Hid (Below wr.heap.size wr wx))
          case first => as_aux_lemma =>
            have hgl : g < wr.heap.size := World.block_lt_of_cell? wr _ c0
            have HC7 : Hid (∀ w' : World, Below wr.heap.size wr w' → (w'.cell? ⟨g, 0, none⟩ = some (.int .i64 x0) ∧ w'.cell? ⟨g, 1, none⟩ = some (.int .i64 x1) ∧ w'.cell? ⟨g, 2, none⟩ = some (.int .i64 x2) ∧ w'.cell? ⟨g, 3, none⟩ = some (.int .i64 x3) ∧ w'.cell? ⟨g, 4, none⟩ = some (.int .i64 x4) ∧ w'.cell? ⟨g, 5, none⟩ = some (.int .i64 x5) ∧ w'.cell? ⟨g, 6, none⟩ = some (.int .i64 x6) ∧ Below wr.heap.size wr w')) := Lib.hid (fun w' hb => ⟨(hb.cell (p := ⟨g, 0, none⟩) hgl).trans c0, (hb.cell (p := ⟨g, 1, none⟩) hgl).trans c1, (hb.cell (p := ⟨g, 2, none⟩) hgl).trans c2, (hb.cell (p := ⟨g, 3, none⟩) hgl).trans c3, (hb.cell (p := ⟨g, 4, none⟩) hgl).trans c4, (hb.cell (p := ⟨g, 5, none⟩) hgl).trans c5, (hb.cell (p := ⟨g, 6, none⟩) hgl).trans c6, hb⟩)
            go_region_held3 (fun w' => w'.cell? ⟨g, 0, none⟩ = some (.int .i64 x0) ∧ w'.cell? ⟨g, 1, none⟩ = some (.int .i64 x1) ∧ w'.cell? ⟨g, 2, none⟩ = some (.int .i64 x2) ∧ w'.cell? ⟨g, 3, none⟩ = some (.int .i64 x3) ∧ w'.cell? ⟨g, 4, none⟩ = some (.int .i64 x4) ∧ w'.cell? ⟨g, 5, none⟩ = some (.int .i64 x5) ∧ w'.cell? ⟨g, 6, none⟩ = some (.int .i64 x6) ∧ Below wr.heap.size wr w')
              ((refine HC7.out _ ?_; repeat (first | assumption | exact Below.refl _ _ | refine Below.drew ?_ | refine below_alloc' ?_)))
              (first | fail)
            all_goals go_wp2_with fail
            all_goals go_meet
            all_goals
              case rel => exact ⟨rfl, Lib.hid (by first | exact heap_alloc_new _ _ | exact (heap_alloc_new _ _)), Lib.hid (by repeat (first | assumption | exact Below.refl _ _ | refine Below.drew ?_ | refine below_alloc' ?_))⟩
          case rest =>
            obtain ⟨rfl, HPb, HBc⟩ := hcut
            have HOc := Lib.hid (own_below HO.out HBc.out (Nat.le_refl _))
            have HRc := Lib.hid (hRr.below HBc.out (by omega))
            have HNc := Lib.hid (hNr.below HBc.out (by omega))
            have hpw : wr.heap.size < wc.heap.size := HPb.out.lt
            have HBw : Hid (Below w.heap.size w wc) := Lib.hid ((HB1.out.trans (HB.out.mono (by omega))).trans (HBc.out.mono (by omega)))
            obtain ⟨pbk, hpbk⟩ : ∃ pbk, pbk = wr.heap.size := ⟨_, rfl⟩
            rw [← hpbk] at HPb hpw ⊢
            have hpbk2 : w.heap.size + 1 < pbk := by omega
            clear hpbk
            have HE : Hid (dK s = x0 ∧ dN s = 256 * x1 + x2 ∧ dT s = 256 * x3 + x4 ∧ dL s = 256 * x5 + x6) := Lib.hid (by
              unfold dK dN dT dL
              rw [HX0.out, HX1.out, HX2.out, HX3.out, HX4.out, HX5.out, HX6.out]
              exact ⟨rfl, rfl, rfl, rfl⟩)
            have HDd : Hid (dD s = bytI (((octsT s j).drop 8).take (j - 10))) := Lib.hid (by unfold dD; rw [show s.size / 2 = j by omega])
            have HShp : Hid (shpB s = true) := Lib.hid (by unfold shpB; rw [decide_eq_true (by omega), decide_eq_true (by omega), decide_eq_true (by omega), HDG.out]; rfl)
            have HBo : Hid (∀ i, i < j → 0 ≤ octT s i ∧ octT s i ≤ 255) := Lib.hid (fun i hi => octT_bd HDG.out (by omega))
            clear HX0 HX1 HX2 HX3 HX4 HX5 HX6 c0 c1 c2 c3 c4 c5 c6 HB HO hRr hNr HDg HDG HR HN hszr
            obtain ⟨iu, hiu, hu0, hu1, hu2⟩ := info_parts infoU8
            go_wp2_with fail
            go_loopw [10, 11] (fun o i wr => ∃ (r ii g2 c2 : Nat), (ii ≤ 8 + r ∧ 8 + r ≤ ii) ∧ r + 10 ≤ j ∧ i = .int .i64 ii ∧ o = .slice (some ⟨g2, 0, none⟩) r c2 ∧ Hid (wr.ownsRow wc.heap.size 5 1 (.slice (some ⟨g2, 0, none⟩) r c2) r ((((octsT s j).drop 8).take r).map (Value.int .u8))) ∧ Hid (Below wc.heap.size wc wr)) (fun _ i _ => j - (intOf i).toNat)
            case atStart => exact ⟨0, 8, _, _, ⟨Nat.le_refl _, Nat.le_refl _⟩, by omega, rfl, rfl, Lib.hid (World.ownsRow_made wc #[] 0 (Nat.le_refl _) (Nat.zero_le _) rfl), Lib.hid ((Below.refl _ _).alloc (Nat.le_refl _) _)⟩
            case round =>
              obtain ⟨r, ii, g2, c2, ⟨hia, hib⟩, hr, rfl, rfl, HOu, HBu⟩ := hrel
              have hsu := HBu.out.size
              by_cases hrj : r + 10 < j
              · have hii : ii < j := by omega
                have hc := oct_cell (own_below HOc.out HBu.out (Nat.le_refl _)) hii
                obtain ⟨x0', x1'⟩ := HBo.out ii hii
                have HS := Lib.hid (drop_oct (s := s) (j := j) (r := r) (ii := ii) hia hib hii)
                generalize octT s ii = x at hc x0' x1' HS
                go_wp2_with (at_builtin; refine wpList_append_own _ rfl _ _ 22 rfl wc.heap.size 5 iu (.int .u8 0) 1 1 Tryd.underlying22 hiu hu0 hu1 hu2 rfl (by decide) _ _ _ rfl (HOu.out.alloc _) ⟨wr.heap.size, 0, none⟩ 1 1 [.int .u8 x] rfl rfl (cell_one_new _ _ _) (by intro u hu; simp at hu; subst hu; rfl) (by unfold maxLen; omega) (by omega) (by simp; omega) ?_; intro v' w2 hown' hgrow _)
                obtain ⟨g3, c3, rfl⟩ := own_form hown' (by omega)
                have HBu2 := Lib.hid (below_app4 HBu.out hsu HOu.out hgrow)
                have HOu2 : Hid (w2.ownsRow wc.heap.size 5 1 (.slice (some ⟨g3, 0, none⟩) (r + 1) c3) (r + 1) ((((octsT s j).drop 8).take (r + 1)).map (Value.int .u8))) := Lib.hid (by rw [HS.out, List.map_append, List.map_singleton]; exact hown')
                clear hown' hgrow
                go_roundw
                case rel => exact ⟨r + 1, ii + 1, g3, c3, ⟨by omega, by omega⟩, by omega, by go_num, rfl, HOu2, HBu2⟩
                case measure => (first | (simp [intOf]; done) | (simp [intOf]; omega))
              · have hrj2 : j - 10 = r := by omega
                rw [hrj2] at HDd
                have hcv : (convert 22 9 (.slice (some ⟨g2, 0, none⟩) r c2)).run Tryd.prog wr = .ok (.string (bytI (((octsT s j).drop 8).take r))) wr := bytes_row HOu.out (by rw [List.length_take, List.length_drop, octsT_len]; omega)
                have hds : (bytI (((octsT s j).drop 8).take r)).size = r := by rw [bytI_size, List.length_take, List.length_drop, octsT_len]; omega
                generalize bytI (((octsT s j).drop 8).take r) = d at hcv hds HDd
                have hPr := HPb.out.below HBu.out hpw
                have p4 := hPr.cells.2.2.2.2
                have pf := hPr.free 4
                have hst := Pb.set (i := 4) hPr (.string d)
                have HPs : Hid (Pb (wr.setCell ⟨pbk, 4, none⟩ (.string d)) pbk x0 (256 * x1 + x2) (256 * x3 + x4) (256 * x5 + x6) d) := Lib.hid (by unfold Pb; rw [hst.1]; rfl)
                have HGs := Lib.hid hst.2
                clear hst hPr
                go_upto_region 19 with fail
                obtain ⟨W3, hW3⟩ : ∃ W3, W3 = wr.setCell ⟨pbk, 4, none⟩ (.string d) := ⟨_, rfl⟩
                rw [← hW3] at HPs HGs ⊢
                have hbc3 : Below (w.heap.size + 2) wc W3 := (HBu.out.mono (by omega)).grown HGs.out (by omega) (fun k hk => by have e : pbk = k := Option.some.inj hk; omega)
                have hb3 : Below w.heap.size w W3 := HBw.out.trans (hbc3.mono (by omega))
                have HR3 := Lib.hid (HRc.out.below hbc3 (by omega))
                have HN3 := Lib.hid (HNc.out.below hbc3 (by omega))
                have HB3 := Lib.hid hb3
                have HGo := Lib.hid (l4Good_any x0 (256 * x1 + x2) (256 * x3 + x4) (256 * x5 + x6) d W3 (by unfold maxLen; omega))
                have hdo : decOk s = (pktOk x0 (256 * x1 + x2) (256 * x3 + x4) (256 * x5 + x6) d && decide (encB x0 (256 * x1 + x2) (256 * x3 + x4) (256 * x5 + x6) d = s)) := by
                  unfold decOk
                  rw [HShp.out, HE.out.1, HE.out.2.1, HE.out.2.2.1, HE.out.2.2.2, HDd.out, Bool.true_and]
                have hdv : decV s = if decOk s = true then pv x0 (256 * x1 + x2) (256 * x3 + x4) (256 * x5 + x6) d else pv 0 0 0 0 ⟨#[]⟩ := by
                  unfold decV
                  rw [HE.out.1, HE.out.2.1, HE.out.2.2.1, HE.out.2.2.2, HDd.out]
                have HDV := Lib.hid hdv
                clear hcv p4 pf hW3 hbc3 hb3 HE HDd HShp HOu HBu HGs HPb HOc HRc HNc HBc HB1 hdv hrj2 HBo
                generalize 256 * x1 + x2 = xn at *
                generalize 256 * x3 + x4 = xt at *
                generalize 256 * x5 + x6 = xl at *
                obtain ⟨e0, e1, e2, e3, e4⟩ := HPs.out.cells
                go_wp2_with fail
                refine HGo.out.mono ?_
                rintro e W4 ⟨rfl, l4⟩
                have HP4 := Lib.hid (HPs.out.below l4 HPs.out.lt)
                have HR4 := Lib.hid (HR3.out.below l4 HR3.out.lt)
                have HN4 := Lib.hid (HN3.out.below l4 HN3.out.lt)
                have HB4 := Lib.hid (HB3.out.trans (l4.mono HB3.out.size))
                clear l4 HPs HR3 HN3 HB3 HGo e0 e1 e2 e3 e4
                cases hpk : pktOk x0 xn xt xl d with
                | false =>
                  rw [hpk, Bool.false_and] at hdo
                  have HDO := Lib.hid hdo
                  obtain ⟨n0, n1, n2, n3, n4⟩ := HN4.out.cells
                  obtain ⟨r0, r1, r2, r3, r4⟩ := HR4.out.cells
                  have f0 := HR4.out.free 0
                  have f1 := HR4.out.free 1
                  have f2 := HR4.out.free 2
                  have f3 := HR4.out.free 3
                  have f4 := HR4.out.free 4
                  clear hdo hpk
                  go_wp2_with fail
                  obtain ⟨hp1, hg1⟩ := HR4.out.store (k' := 0) (n' := 0) (t' := 0) (l' := 0) (d' := ⟨#[]⟩)
                  refine bodyPost_ret (results_pkt rfl _ _ w.heap.size rfl rfl hp1) rfl ⟨ret_vb (decV_no HDO.out).symm HDO.out.symm, ?_⟩
                  exact HB4.out.grown hg1 HB4.out.size (fun k hk => by have e : w.heap.size = k := Option.some.inj hk; omega)
                | true =>
                  rw [hpk, Bool.true_and] at hdo
                  have HEn := Lib.hid (l4Encode_any x0 xn xt xl d W4 hpk)
                  generalize encB x0 xn xt xl d = es at hdo HEn
                  obtain ⟨e0, e1, e2, e3, e4⟩ := HP4.out.cells
                  have HDO := Lib.hid hdo
                  clear hpk hdo
                  go_wp2_with fail
                  refine HEn.out.mono ?_
                  rintro e W5 ⟨rfl, l5⟩
                  have HP5 := Lib.hid (HP4.out.below l5 HP4.out.lt)
                  have HR5 := Lib.hid (HR4.out.below l5 HR4.out.lt)
                  have HN5 := Lib.hid (HN4.out.below l5 HN4.out.lt)
                  have HB5 := Lib.hid (HB4.out.trans (l5.mono HB4.out.size))
                  clear l5 HP4 HR4 HN4 HB4 HEn e0 e1 e2 e3 e4
                  obtain ⟨r0, r1, r2, r3, r4⟩ := HR5.out.cells
                  have f0 := HR5.out.free 0
                  have f1 := HR5.out.free 1
                  have f2 := HR5.out.free 2
                  have f3 := HR5.out.free 3
                  have f4 := HR5.out.free 4
                  by_cases hes : es = s
                  · subst hes
                    have hd1 : decOk es = true := by rw [HDO.out]; exact decide_eq_true rfl
                    have hd2 : decV es = pv x0 xn xt xl d := by rw [HDV.out, hd1]; rfl
                    have HD1 := Lib.hid hd1
                    have HD2 := Lib.hid hd2
                    obtain ⟨e0, e1, e2, e3, e4⟩ := HP5.out.cells
                    clear hd1 hd2
                    go_wp2_with fail
                    obtain ⟨hp1, hg1⟩ := HR5.out.store (k' := x0) (n' := xn) (t' := xt) (l' := xl) (d' := d)
                    refine bodyPost_ret (results_pkt rfl _ _ w.heap.size rfl rfl hp1) rfl ⟨ret_vb HD2.out.symm HD1.out.symm, ?_⟩
                    exact HB5.out.grown hg1 HB5.out.size (fun k hk => by have e : w.heap.size = k := Option.some.inj hk; omega)
                  · have hd1 : decOk s = false := by rw [HDO.out]; exact decide_eq_false hes
                    have HD1 := Lib.hid hd1
                    have hne : (es.toList == s.toList) = false := list_ne hes
                    obtain ⟨n0, n1, n2, n3, n4⟩ := HN5.out.cells
                    clear hd1 hes
                    go_wp2_with fail
                    obtain ⟨hp1, hg1⟩ := HR5.out.store (k' := 0) (n' := 0) (t' := 0) (l' := 0) (d' := ⟨#[]⟩)
                    refine bodyPost_ret (results_pkt rfl _ _ w.heap.size rfl rfl hp1) rfl ⟨ret_vb (decV_no HD1.out).symm HD1.out.symm, ?_⟩
                    exact HB5.out.grown hg1 HB5.out.size (fun k hk => by have e : w.heap.size = k := Option.some.inj hk; omega)
    · have hin : inB (s.size : Int) 20 36 = false := inB_no (by omega)
      have HD := Lib.hid (dec_short hsz)
      go_enter Tryd.func37, Tryd.ntmps37
      go_wp2_with (go_at_call 47; refine (l1In_any _ _ _ _).mono ?_; rintro e w' ⟨rfl, rfl⟩)
      refine bodyPost_ret (results_pkt rfl _ _ w.heap.size rfl rfl (heap_alloc2_old w _ _)) rfl ⟨ret_vb (decV_no HD.out).symm HD.out.symm, ?_⟩
      exact ((Below.refl _ _).alloc (Nat.le_refl _) _).alloc (by simp) _
  · have hev' : (((s.size : Int) % 2) != 0) = true := by simp; omega
    have HD := Lib.hid (dec_odd hev)
    clear hev
    go_enter Tryd.func37, Tryd.ntmps37
    go_wp2_with (go_at_call 47; refine (l1In_any _ _ _ _).mono ?_; rintro e w' ⟨rfl, rfl⟩)
    refine bodyPost_ret (results_pkt rfl _ _ w.heap.size rfl rfl (heap_alloc2_old w _ _)) rfl ⟨ret_vb (decV_no HD.out).symm HD.out.symm, ?_⟩
    exact ((Below.refl _ _).alloc (Nat.le_refl _) _).alloc (by simp) _
end Go.Proofs.YtncjplcefdeckaaDoor
