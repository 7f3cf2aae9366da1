/-
  Packets: 'DecodePacket' of the specification, and the laws' comparison.
-/
import Derived.Test.YtlendmiolhgecaaPkt2
import Derived.Laws.Concat
import Derived.Laws.BytesArg
import Derived.BigRegion
import Derived.Deep.CutRange
import Derived.Laws.ResultCell
import Derived.Laws.Rows
import Derived.Lib.SmallJoins
namespace Go.Proofs.Ytlendmiolhgecaa
open Go.RowKit Go.Lib
set_option linter.unusedVariables false

theorem str_append4 (a b : List UInt8) : (⟨a.toArray⟩ ++ ⟨b.toArray⟩ : ByteArray) = ⟨(a ++ b).toArray⟩ := by
  apply ByteArray.ext; simp
theorem hex_piece (u : Nat) (h : u < 16) : ((⟨#[48, 49, 50, 51, 52, 53, 54, 55, 56, 57, 65, 66, 67, 68, 69, 70]⟩ : ByteArray).extract u (u + 1)) = ⟨[hexC (u : Int)].toArray⟩ := by
  have : ∀ i : Fin 16, ((⟨#[48, 49, 50, 51, 52, 53, 54, 55, 56, 57, 65, 66, 67, 68, 69, 70]⟩ : ByteArray).extract i.val (i.val + 1)) = ⟨[hexC ((i.val : Nat) : Int)].toArray⟩ := by decide +kernel
  exact this ⟨u, h⟩
theorem size_list4 (l : List UInt8) : (⟨l.toArray⟩ : ByteArray).size = l.length := by show l.toArray.size = _; simp
theorem wrap_q (u : Nat) (h : u < 256) : IntKind.i64.wrap ((u : Int) / 16) = (u : Int) / 16 := IntWalk.i64_in _ (by omega)
theorem wrap_r (u : Nat) (h : u < 256) : IntKind.i64.wrap ((u : Int) % 16) = (u : Int) % 16 := IntWalk.i64_in _ (by omega)
theorem wrap_q1 (u : Nat) (h : u < 256) : IntKind.i64.wrap ((u : Int) / 16 + 1) = (u : Int) / 16 + 1 := IntWalk.i64_in _ (by omega)
theorem wrap_r1 (u : Nat) (h : u < 256) : IntKind.i64.wrap ((u : Int) % 16 + 1) = (u : Int) % 16 + 1 := IntWalk.i64_in _ (by omega)
theorem tmod16 (u : Nat) : (u : Int).tmod 16 = (u : Int) % 16 := Int.tmod_eq_emod_of_nonneg (by omega)
theorem tdiv16 (u : Nat) : (u : Int).tdiv 16 = (u : Int) / 16 := Int.tdiv_eq_ediv_of_nonneg (by omega)

end Go.Proofs.Ytlendmiolhgecaa

namespace Go.Proofs.Ytlendmiolhgecaa
open Go.RowKit Go.Lib Go.Joins
set_option linter.unusedVariables false

theorem quiet_eq4 {f : FuncId} {args : Array Value} {w : World} {v : Value} {d : Nat} (h : Calls Try.prog f args (w.drewN d) fun e w' => e = .returned v ∧ w.drewN d = w') :
    Calls Try.prog f args (w.drewN d) fun e w'' => e = .returned v ∧ ∃ n, w'' = w.drewN n := h.mono fun e w'' ⟨h1, h2⟩ => ⟨h1, d, h2.symm⟩
/-- What decoding returns. -/
def decV (s : ByteArray) : Value := if decOk s = true then pv (dK s) (dN s) (dT s) (dL s) (dD s) else pv 0 0 0 0 ⟨#[]⟩
theorem decV_no {s : ByteArray} (h : decOk s = false) : decV s = pv 0 0 0 0 ⟨#[]⟩ := by unfold decV; rw [h]; rfl
theorem decV_yes {s : ByteArray} (h : decOk s = true) : decV s = pv (dK s) (dN s) (dT s) (dL s) (dD s) := if_pos h
theorem ret_vb {a b : Value} {c d : Bool} (h : a = b) (h' : c = d) : Ending.returned (.tuple #[a, .bool c]) = .returned (.tuple #[b, .bool d]) := by rw [h, h']
theorem dec_odd {s : ByteArray} (h : s.size % 2 ≠ 0) : decOk s = false := by
  unfold decOk shpB; rw [decide_eq_false h]; rfl
theorem dec_short {s : ByteArray} (h : ¬ (20 ≤ s.size ∧ s.size ≤ 36)) : decOk s = false := by
  unfold decOk shpB
  by_cases h1 : 20 ≤ s.size
  · rw [decide_eq_false (show ¬ s.size ≤ 36 by omega)]; simp
  · rw [decide_eq_false h1]; simp
theorem dec_dig {s : ByteArray} {i : Nat} (hi : i < s.size) (h : hexV s[i] < 0) : decOk s = false := by
  have : digsB s = false := by
    rw [Bool.eq_false_iff]
    intro e
    have := digs_at e hi
    omega
  unfold decOk shpB
  rw [this]; simp
theorem oct_cell {W : World} {B m g c : Nat} {s : ByteArray} (h : W.ownsRow B 3 1 (.slice (some ⟨g, 0, none⟩) m c) m ((octsT s m).map (Value.int .i64))) {i : Nat} (hi : i < m) : W.cell? ⟨g, i, none⟩ = some (.int .i64 (octT s i)) := by
  obtain ⟨⟨u, hu, hc⟩, _⟩ := own_facts h hi
  rw [hc]
  unfold octsT at hu
  simp [hi] at hu
  rw [← hu]
theorem digs_all {s : ByteArray} (h : ∀ i (hi : i < s.size), 0 ≤ hexV s[i]) : digsB s = true := by
  unfold digsB
  rw [List.all_eq_true]
  intro b hb
  obtain ⟨i, hi, rfl⟩ := List.getElem_of_mem hb
  exact decide_eq_true (h i hi)
theorem infoU8 : (Try.prog.info? 5).map (fun i => (i.zero, i.size, i.bytes)) = some (some (.int .u8 0), 1, 1) := by kernel_rfl
theorem drop_oct {s : ByteArray} {j r ii : Nat} (h0 : ii ≤ 8 + r) (h1 : 8 + r ≤ ii) (h : ii < j) : ((octsT s j).drop 8).take (r + 1) = ((octsT s j).drop 8).take r ++ [octT s ii] := by
  obtain rfl : ii = 8 + r := by omega
  have hl : r < ((octsT s j).drop 8).length := by rw [List.length_drop, octsT_len]; omega
  rw [List.take_succ_eq_append_getElem hl, List.getElem_drop]
  congr 2
  simp [octsT]
theorem bytI_size (xs : List Int) : (bytI xs).size = xs.length := by
  show (xs.map (fun x => UInt8.ofNat x.toNat)).toArray.size = _
  simp
theorem list_ne {a b : ByteArray} (h : a ≠ b) : (a.toList == b.toList) = false := by
  rw [beq_eq_false_iff_ne, ByteArray.toList_eq, ByteArray.toList_eq]
  intro e
  exact h (ByteArray.ext (Array.toList_inj.1 e))
theorem bytes_row {W : World} {B n g c : Nat} {xs : List Int} (h : W.ownsRow B 5 1 (.slice (some ⟨g, 0, none⟩) n c) n (xs.map (Value.int .u8))) (hl : xs.length = n) :
    (convert 22 9 (.slice (some ⟨g, 0, none⟩) n c)).run Try.prog W = .ok (.string (bytI xs)) W :=
  run_convert_bytes_arg (P := Try.prog) W 22 5 Try.underlying22 Try.underlying5 g 0 n c xs hl (fun i hi => by
    obtain ⟨⟨u, hu, hc⟩, _⟩ := own_facts h hi
    rw [Nat.zero_add, hc]
    have hx : i < xs.length := by omega
    rw [List.getElem?_map, List.getElem?_eq_getElem hx] at hu
    rw [List.getD_eq_getElem?_getD, List.getElem?_eq_getElem hx]
    exact (congrArg some (Option.some.inj hu)).symm) 9 Try.underlying9
theorem own_oct {W : World} {B j : Nat} {v : Value} {s : ByteArray} {x : Int} (he : x = octT s j) (h : W.ownsRow B 3 1 v (j + 1) ((octsT s j).map (Value.int .i64) ++ [.int .i64 x])) : W.ownsRow B 3 1 v (j + 1) ((octsT s (j + 1)).map (Value.int .i64)) := by
  subst he
  rw [octsT_succ, List.map_append, List.map_singleton]
  exact h


/-- A zero packet's block. -/
def Zb (w : World) (g : Nat) : Prop := w.heap[g]? = some (.cells #[.int .i64 0, .int .i64 0, .int .i64 0, .int .i64 0, .string ⟨#[]⟩] 64 (0, 0))
def Pb (w : World) (g : Nat) (k n t l : Int) (d : ByteArray) : Prop := w.heap[g]? = some (.cells #[.int .i64 k, .int .i64 n, .int .i64 t, .int .i64 l, .string d] 64 (0, 0))
theorem Pb.cells {w : World} {g : Nat} {k n t l : Int} {d : ByteArray} (h : Pb w g k n t l d) : w.cell? ⟨g, 0, none⟩ = some (.int .i64 k) ∧ w.cell? ⟨g, 1, none⟩ = some (.int .i64 n) ∧ w.cell? ⟨g, 2, none⟩ = some (.int .i64 t) ∧ w.cell? ⟨g, 3, none⟩ = some (.int .i64 l) ∧ w.cell? ⟨g, 4, none⟩ = some (.string d) := by
  unfold Pb at h
  refine ⟨?_, ?_, ?_, ?_, ?_⟩ <;> rw [cell_of_block h] <;> rfl
theorem Pb.free {w : World} {g : Nat} {k n t l : Int} {d : ByteArray} (h : Pb w g k n t l d) (i : Nat) : w.frozen? ⟨g, i, none⟩ = false := unfrozen_of_block h i
theorem Pb.lt {w : World} {g : Nat} {k n t l : Int} {d : ByteArray} (h : Pb w g k n t l d) : g < w.heap.size := (Array.getElem?_eq_some_iff.1 h).1
theorem Pb.below {w w' : World} {g : Nat} {k n t l : Int} {d : ByteArray} {B : Nat} (h : Pb w g k n t l d) (hb : Below B w w') (hB : g < B) : Pb w' g k n t l d := (hb.block g hB).trans h
theorem results_pkt {fn : Func} {p u : Tmp} (h : fn.results = #[.cell p 64, .tmp u]) (tmps : Array Value) (w : World) (g : Nat) {k n t l : Int} {d : ByteArray} (hp : tmps.getD p undef = .pointer (some ⟨g, 0, none⟩)) {b : Bool} (hu : tmps.getD u undef = .bool b) (hg : Pb w g k n t l d) :
    (results fn tmps).run Try.prog w = .ok (.tuple #[pv k n t l d, .bool b]) w := by
  rw [results_cell_tmp h, hu]
  have hp' : tmps[p]?.getD undef = .pointer (some ⟨g, 0, none⟩) := by simpa using hp
  simp [asAddr, hp', Result.andThen, run_loadVar_row w g 64 64 _ _ _ hg Try.underlying64 (by rfl) (by kernel_rfl)]
  rfl

theorem Pb.set {w : World} {g i : Nat} {cs : Array Value} (h : w.heap[g]? = some (.cells cs 64 (0, 0))) (v : Value) : (w.setCell ⟨g, i, none⟩ v).heap[g]? = some (.cells (cs.setIfInBounds i v) 64 (0, 0)) ∧ w.grownBy (w.setCell ⟨g, i, none⟩ v) (some g) := by
  have e1 := setCell_eq_setRow w g i cs 64 (0, 0) v h
  refine ⟨block_setCell h v, ?_⟩
  rw [e1]
  exact ⟨rfl, rfl, rfl, by simp, fun q _ hne => setRow_other w g q _ (fun e => hne (by rw [e]))⟩
theorem Pb.store {w : World} {g : Nat} {k n t l k' n' t' l' : Int} {d d' : ByteArray} (h : Pb w g k n t l d) :
    Pb (((((w.setCell ⟨g, 0, none⟩ (.int .i64 k')).setCell ⟨g, 1, none⟩ (.int .i64 n')).setCell ⟨g, 2, none⟩ (.int .i64 t')).setCell ⟨g, 3, none⟩ (.int .i64 l')).setCell ⟨g, 4, none⟩ (.string d')) g k' n' t' l' d' ∧
    w.grownBy (((((w.setCell ⟨g, 0, none⟩ (.int .i64 k')).setCell ⟨g, 1, none⟩ (.int .i64 n')).setCell ⟨g, 2, none⟩ (.int .i64 t')).setCell ⟨g, 3, none⟩ (.int .i64 l')).setCell ⟨g, 4, none⟩ (.string d')) (some g) := by
  obtain ⟨a1, b1⟩ := Pb.set (i := 0) h (.int .i64 k')
  obtain ⟨a2, b2⟩ := Pb.set (i := 1) a1 (.int .i64 n')
  obtain ⟨a3, b3⟩ := Pb.set (i := 2) a2 (.int .i64 t')
  obtain ⟨a4, b4⟩ := Pb.set (i := 3) a3 (.int .i64 l')
  obtain ⟨a5, b5⟩ := Pb.set (i := 4) a4 (.string d')
  refine ⟨?_, grown_trans (grown_trans (grown_trans (grown_trans b1 b2) b3) b4) b5⟩
  unfold Pb
  rw [a5]
  rfl
theorem Pb.drew {w : World} {g q : Nat} {k n t l : Int} {d : ByteArray} (h : Pb w g k n t l d) : Pb (w.drewN q) g k n t l d := h

end Go.Proofs.Ytlendmiolhgecaa

namespace Go.Proofs.Ytlendmiolhgecaa
open Go.RowKit Go.Lib Go.Joins
set_option linter.unusedVariables false

theorem decV_form (s : ByteArray) : ∃ k n t l d, decV s = pv k n t l d ∧ d.size ≤ 8 := by
  cases h : decOk s with
  | false => exact ⟨_, _, _, _, _, decV_no h, by decide⟩
  | true => exact ⟨_, _, _, _, _, decV_yes h, (pktOk_bd (decOk_pkt h)).2.2.2.2.2.2.1⟩
theorem heap_new1 (w : World) (k n t l : Int) (d : ByteArray) : Pb (w.alloc (.cells #[.int .i64 k, .int .i64 n, .int .i64 t, .int .i64 l, .string d] 64)) w.heap.size k n t l d := heap_alloc_new w _

set_option maxHeartbeats 1000000 in
theorem eqPacket_same (k n t l : Int) (d : ByteArray) (w : World) :
    Calls Try.prog 38 #[pv k n t l d, pv k n t l d] w fun e w' => e = .returned (.bool true) ∧ Below w.heap.size w w' := by
  unfold pv
  go_enter Try.func38, Try.ntmps38
  go_wp2_with fail
  go_ret
  exact ⟨rfl, ((Below.refl _ _).alloc (Nat.le_refl _) _).alloc (by simp) _⟩
end Go.Proofs.Ytlendmiolhgecaa
