/-
  The source of choices of the draws: 'l1Cur' and its methods. What is drawn lies within its bounds; nothing else of it is said.
-/
import Derived.Test.YtpmjdppipalfcaaProg
import Derived.Test.YtpmjdppipalfcaaFill
import Derived.Laws.Tables
import Derived.Deep.QuietTactic
import Derived.BigQuiet
import Derived.IntWalk
import Derived.OpenShut
import Derived.Laws.Bits64b
namespace Go.Proofs.Ytpmjdppipalfcaa
open Go.RowKit

/-- Block B is known whole. -/
def Blk (w : World) (B : Nat) (cs : Array Value) (t : TypeId) : Prop := w.heap[B]? = some (.cells cs t (0, 0))

theorem Blk.cell {w : World} {B : Nat} {cs : Array Value} {t : TypeId} (h : Blk w B cs t) (i : Nat) : w.cell? ⟨B, i, none⟩ = cs[i]? := by
  unfold Blk at h
  simp [World.cell?, h]
theorem Blk.free {w : World} {B : Nat} {cs : Array Value} {t : TypeId} (h : Blk w B cs t) (i : Nat) : w.frozen? ⟨B, i, none⟩ = false := by
  unfold Blk at h
  simp [World.frozen?, h]
theorem Blk.lt {w : World} {B : Nat} {cs : Array Value} {t : TypeId} (h : Blk w B cs t) : B < w.heap.size := (Array.getElem?_eq_some_iff.1 h).1
theorem Blk.set {w : World} {B : Nat} {cs : Array Value} {t : TypeId} (h : Blk w B cs t) (i : Nat) (v : Value) : Blk (w.setCell ⟨B, i, none⟩ v) B (cs.setIfInBounds i v) t := by
  unfold Blk
  rw [setCell_eq_setRow w B i cs t (0, 0) v h]
  exact setRow_heap w B cs _ t (0, 0) h
theorem Blk.grown {w w' : World} {B : Nat} {cs : Array Value} {t : TypeId} (h : Blk w B cs t) {row : Option Nat} (hg : w.grownBy w' row) (hr : some B ≠ row) : Blk w' B cs t := (hg.block B h.lt hr).trans h
theorem grown_set (w : World) (B i : Nat) (v : Value) (cs : Array Value) (t : TypeId) (h : Blk w B cs t) : w.grownBy (w.setCell ⟨B, i, none⟩ v) (some B) := by
  rw [setCell_eq_setRow w B i cs t (0, 0) v h]
  exact ⟨rfl, rfl, rfl, by simp, fun k _ hne => setRow_other w B k _ (fun e => hne (by rw [e]))⟩

/-- A cursor over the code z: at most m steps made. -/
def Cu (w : World) (B : Nat) (z : List Int) (m : Nat) : Prop :=
  (∃ (v : Value) (at_ : Nat) (s : Int), Blk w B #[v, .int .i64 at_, .int .u64 s] 83 ∧ at_ ≤ m ∧ (Lit.int .u64 s).wf = true ∧ Row w v z.length (z.map (Value.int .u8)) ∧
    (∀ a c, v = .slice (some a) z.length c → 0 < z.length → a.block < B)) ∧ ∀ x ∈ z, 0 ≤ x ∧ x < 256

theorem cu_next {w : World} {B m q r t : Nat} {z : List Int} {v : Value} {s s' : Int} (hb : Blk w B #[v, .int .i64 t, .int .u64 s] 83) (ht : t ≤ m) (hs : (Lit.int .u64 s').wf = true) (hrow : Row w v z.length (z.map (Value.int .u8)))
    (hne : ∀ a c, v = .slice (some a) z.length c → 0 < z.length → a.block < B) (hz : ∀ x ∈ z, 0 ≤ x ∧ x < 256) :
    Cu ((((w.drewN q).setCell ⟨B, 1, none⟩ (.int .i64 ((t : Int) + 1))).setCell ⟨B, 2, none⟩ (.int .u64 s')).drewN r) B z (m + 1) ∧
      w.grownBy ((((w.drewN q).setCell ⟨B, 1, none⟩ (.int .i64 ((t : Int) + 1))).setCell ⟨B, 2, none⟩ (.int .u64 s')).drewN r) (some B) := by
  suffices h : Cu (((w.drewN q).setCell ⟨B, 1, none⟩ (.int .i64 ((t : Int) + 1))).setCell ⟨B, 2, none⟩ (.int .u64 s')) B z (m + 1) ∧
      w.grownBy (((w.drewN q).setCell ⟨B, 1, none⟩ (.int .i64 ((t : Int) + 1))).setCell ⟨B, 2, none⟩ (.int .u64 s')) (some B) from
    ⟨h.1, ⟨h.2.os, h.2.tape, h.2.output, h.2.size, h.2.block⟩⟩
  have h0 : Blk (w.drewN q) B #[v, .int .i64 t, .int .u64 s] 83 := hb
  have g0 : w.grownBy (w.drewN q) (some B) := ⟨rfl, rfl, rfl, Nat.le_refl _, fun _ _ _ => rfl⟩
  have h1 := h0.set 1 (.int .i64 ((t : Int) + 1))
  have g1 := grown_set (w.drewN q) B 1 (.int .i64 ((t : Int) + 1)) _ _ h0
  have h2 := h1.set 2 (.int .u64 s')
  have g2 := grown_set _ B 2 (.int .u64 s') _ _ h1
  have g : w.grownBy (((w.drewN q).setCell ⟨B, 1, none⟩ (.int .i64 ((t : Int) + 1))).setCell ⟨B, 2, none⟩ (.int .u64 s')) (some B) :=
    ⟨g2.os.trans (g1.os.trans g0.os), g2.tape.trans (g1.tape.trans g0.tape), g2.output.trans (g1.output.trans g0.output), Nat.le_trans g0.size (Nat.le_trans g1.size g2.size), fun k hk hn =>
      (g2.block k (Nat.lt_of_lt_of_le hk (Nat.le_trans g0.size g1.size)) hn).trans ((g1.block k (Nat.lt_of_lt_of_le hk g0.size) hn).trans (g0.block k hk hn))⟩
  refine ⟨⟨⟨v, t + 1, s', h2, by omega, hs, ?_, hne⟩, hz⟩, g⟩
  obtain ⟨a, cap, rfl, r1, r2, r3⟩ := hrow
  refine ⟨a, cap, rfl, r1, r2, fun hx => ?_⟩
  obtain ⟨b, off, rfl, hlt, hc⟩ := r3 hx
  refine ⟨b, off, rfl, Nat.lt_of_lt_of_le hlt g.size, fun i hi => g.cell (hc i hi) ?_⟩
  have hpos : 0 < z.length := by
    rw [List.length_map] at hi
    omega
  intro e
  have e2 : b = B := Option.some.inj e
  have h8 : b < B := hne _ _ rfl hpos
  omega

theorem u64_bounds {E : Int} (h : (Lit.int .u64 E).wf = true) : 0 ≤ E ∧ E ≤ 18446744073709551615 := by
  exact bounds_u64 h

theorem low_bits (X : Int) : ∃ y : Nat, y < 256 ∧ wrap64 (bits BinOp.and IntKind.u64 (IntKind.u64.wrap X / 1099511627776) 255) = y := by
  obtain ⟨h0, h1⟩ := u64_bounds (wf_wrap .u64 X)
  obtain ⟨u, hu⟩ : ∃ u : Nat, IntKind.u64.wrap X / 1099511627776 = u := ⟨(IntKind.u64.wrap X / 1099511627776).toNat, by omega⟩
  have hlt : u < 18446744073709551616 := by omega
  rw [hu, show (255 : Int) = ((255 : Nat) : Int) from rfl, bits_and_u64_nat u 255 hlt (by omega)]
  have hle : u &&& 255 ≤ 255 := Nat.and_le_right
  exact ⟨u &&& 255, by omega, by unfold wrap64; omega⟩

set_option maxRecDepth 100000 in
set_option maxHeartbeats 1000000 in
theorem next_any (B m : Nat) (z : List Int) (w : World) (h : Cu w B z m) (hm : m ≤ 1000000) :
    Calls Try.prog 88 #[.pointer (some ⟨B, 0, none⟩)] w fun e w' => ∃ b : Nat, b < 256 ∧ e = .returned (.int .i64 b) ∧ Cu w' B z (m + 1) ∧ w.grownBy w' (some B) := by
  obtain ⟨⟨v, t, s, hb, ht, hs, hrow, hne⟩, hz⟩ := h
  obtain ⟨a, cap, rfl, hc1, hc2, hcell⟩ := row_open hrow
  have k0 : w.cell? ⟨B, 0, none⟩ = some (.slice a z.length cap) := by rw [hb.cell]; rfl
  have k1 : w.cell? ⟨B, 1, none⟩ = some (.int .i64 t) := by rw [hb.cell]; rfl
  have k2 : w.cell? ⟨B, 2, none⟩ = some (.int .u64 s) := by rw [hb.cell]; rfl
  have f1 := hb.free 1
  have f2 := hb.free 2
  by_cases hlt : t < z.length
  · obtain ⟨b, off, rfl, hbl, hcl⟩ := hcell t hlt
    have hx := hz _ (List.getElem_mem hlt)
    obtain ⟨x, hxe⟩ : ∃ x, x = z[t] := ⟨_, rfl⟩
    rw [← hxe] at hcl hx
    have HX := Lib.hid hxe
    have hrow2 : Row w (.slice (some ⟨b, off, none⟩) z.length cap) z.length (z.map (Value.int .u8)) := hrow
    have HR2 := Lib.hid hrow2
    clear hrow2
    have HZ := Lib.hid hz
    have HB := Lib.hid hb
    have HN := Lib.hid hne
    have HW := Lib.hid hs
    clear hxe hz hcell hrow hne hs
    go_enter Try.func88, Try.ntmps88
    go_wp2
    go_quiet (fail)
    go_wp2
    go_quiet (fail)
    go_wp2
    go_quiet (fail)
    go_wp2
    go_ret
    exact ⟨x.toNat, by omega, ret_int (by omega), cu_next HB.out ht (wf_wrap _ _) HR2.out HN.out HZ.out⟩
  · have HZ := Lib.hid hz
    have HB := Lib.hid hb
    have HN := Lib.hid hne
    have HW := Lib.hid hs
    have HR2 : Hid (Row w (.slice a z.length cap) z.length (z.map (Value.int .u8))) := Lib.hid hrow
    clear hz hrow hne hs hcell
    go_enter Try.func88, Try.ntmps88
    go_wp2
    go_quiet (fail)
    go_wp2
    go_quiet (fail)
    go_wp2
    go_ret
    obtain ⟨y, hy, e⟩ := low_bits (IntKind.u64.wrap (IntKind.u64.wrap (s * 6364136223846793005)) + 840840)
    exact ⟨y, hy, ret_int e, cu_next HB.out ht (wf_wrap _ _) HR2.out HN.out HZ.out⟩
end Go.Proofs.Ytpmjdppipalfcaa
