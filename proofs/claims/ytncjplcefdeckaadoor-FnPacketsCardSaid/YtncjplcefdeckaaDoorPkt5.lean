/-
  Packets: 'DecodePacket' of the specification, and the laws' comparison.
-/
import Derived.Test.YtncjplcefdeckaaDoorPkt4
namespace Go.Proofs.YtncjplcefdeckaaDoor
open Go.RowKit Go.Lib Go.Joins
set_option linter.unusedVariables false

theorem decV_form (s : ByteArray) : ∃ k n t l d, decV s = pv k n t l d ∧ d.size ≤ 8 := by
  cases h : decOk s with
  | false => exact ⟨_, _, _, _, _, decV_no h, by decide⟩
  | true => exact ⟨_, _, _, _, _, decV_yes h, (pktOk_bd (decOk_pkt h)).2.2.2.2.2.2.1⟩
theorem heap_new1 (w : World) (k n t l : Int) (d : ByteArray) : Pb (w.alloc (.cells #[.int .i64 k, .int .i64 n, .int .i64 t, .int .i64 l, .string d] 25)) w.heap.size k n t l d := heap_alloc_new w _

set_option maxHeartbeats 1000000 in
theorem specDecode_any (s : ByteArray) (w : World) (hs : s.size ≤ 2097152) :
    Calls Tryd.prog 14 #[.string s] w fun e w' => e = .returned (.tuple #[decV s, .bool (decOk s)]) ∧ Below w.heap.size w w' := by
  have HC := Lib.hid (fun w => l4Decode_any s w hs)
  obtain ⟨k, n, t, l, d, hv, _⟩ := decV_form s
  rw [hv] at HC ⊢
  generalize decOk s = ok at HC
  clear hv
  unfold pv at HC
  go_enter Tryd.func14, Tryd.ntmps14
  go_wp2_with fail
  refine (HC.out _).mono ?_
  rintro e w1 ⟨rfl, l1⟩
  have HR := Lib.hid ((heap_new1 w 0 0 0 0 ⟨#[]⟩).below l1 (by simp))
  have HB := Lib.hid (((Below.refl w.heap.size w).alloc (Nat.le_refl _) (.cells #[.int .i64 0, .int .i64 0, .int .i64 0, .int .i64 0, .string ⟨#[]⟩] 25)).trans (l1.mono (by simp)))
  clear l1 HC
  obtain ⟨r0, r1, r2, r3, r4⟩ := HR.out.cells
  have f0 := HR.out.free 0
  have f1 := HR.out.free 1
  have f2 := HR.out.free 2
  have f3 := HR.out.free 3
  have f4 := HR.out.free 4
  go_wp2_with fail
  obtain ⟨hp1, hg1⟩ := HR.out.store (k' := k) (n' := n) (t' := t) (l' := l) (d' := d)
  refine bodyPost_ret (results_pkt rfl _ _ w.heap.size rfl rfl hp1) rfl ⟨rfl, ?_⟩
  exact HB.out.grown hg1 HB.out.size (fun k hk => by have e : w.heap.size = k := Option.some.inj hk; omega)
set_option maxHeartbeats 1000000 in
theorem eqPacket_same (k n t l : Int) (d : ByteArray) (w : World) :
    Calls Tryd.prog 19 #[pv k n t l d, pv k n t l d] w fun e w' => e = .returned (.bool true) ∧ Below w.heap.size w w' := by
  unfold pv
  go_enter Tryd.func19, Tryd.ntmps19
  go_wp2_with fail
  go_ret
  exact ⟨rfl, ((Below.refl _ _).alloc (Nat.le_refl _) _).alloc (by simp) _⟩
end Go.Proofs.YtncjplcefdeckaaDoor
