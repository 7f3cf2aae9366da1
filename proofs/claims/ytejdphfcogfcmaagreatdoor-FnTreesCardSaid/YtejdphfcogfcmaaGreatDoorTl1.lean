/-
  'among': one of some numbers.
-/
import Derived.Test.YtejdphfcogfcmaaGreatDoorProg
import Derived.Test.YtejdphfcogfcmaaGreatDoorFill
import Derived.Laws.Tables
import Derived.Deep.QuietTactic
import Derived.BigQuiet
import Derived.IntWalk
import Derived.OpenShut
import Derived.Laws.Bits64b
namespace Go.Proofs.YtejdphfcogfcmaaGreatDoor
open Go.RowKit

/-- Block B is known whole. -/
def Blk (w : World) (B : Nat) (cs : Array Value) (t : TypeId) : Prop := w.heap[B]? = some (.cells cs t (0, 0))

theorem Blk.cell {w : World} {B : Nat} {cs : Array Value} {t : TypeId} (h : Blk w B cs t) (i : Nat) : w.cell? ⟨B, i, none⟩ = cs[i]? := by
  unfold Blk at h
  simp [World.cell?, h]
theorem Blk.free {w : World} {B : Nat} {cs : Array Value} {t : TypeId} (h : Blk w B cs t) (i : Nat) : w.frozen? ⟨B, i, none⟩ = false := by
  unfold Blk at h
  simp [World.frozen?, h]
theorem Blk.lt {w : World} {B : Nat} {cs : Array Value} {t : TypeId} (h : Blk w B cs t) : B < w.heap.size := (Array.getElem?_eq_some_iff.1 h).1
theorem Blk.set {w : World} {B : Nat} {cs : Array Value} {t : TypeId} (h : Blk w B cs t) (i : Nat) (v : Value) : Blk (w.setCell ⟨B, i, none⟩ v) B (cs.setIfInBounds i v) t := by
  unfold Blk
  rw [setCell_eq_setRow w B i cs t (0, 0) v h]
  exact setRow_heap w B cs _ t (0, 0) h
theorem Blk.grown {w w' : World} {B : Nat} {cs : Array Value} {t : TypeId} (h : Blk w B cs t) {row : Option Nat} (hg : w.grownBy w' row) (hr : some B ≠ row) : Blk w' B cs t := (hg.block B h.lt hr).trans h
theorem grown_set (w : World) (B i : Nat) (v : Value) (cs : Array Value) (t : TypeId) (h : Blk w B cs t) : w.grownBy (w.setCell ⟨B, i, none⟩ v) (some B) := by
  rw [setCell_eq_setRow w B i cs t (0, 0) v h]
  exact ⟨rfl, rfl, rfl, by simp, fun k _ hne => setRow_other w B k _ (fun e => hne (by rw [e]))⟩

/-- A cursor over the code z: at most m steps made. -/
def Cu (w : World) (B : Nat) (z : List Int) (m : Nat) : Prop :=
  (∃ (v : Value) (at_ : Nat) (s : Int), Blk w B #[v, .int .i64 at_, .int .u64 s] 51 ∧ at_ ≤ m ∧ (Lit.int .u64 s).wf = true ∧ Row w v z.length (z.map (Value.int .u8)) ∧
    (∀ a c, v = .slice (some a) z.length c → 0 < z.length → a.block < B)) ∧ ∀ x ∈ z, 0 ≤ x ∧ x < 256

theorem cu_next {w : World} {B m q r t : Nat} {z : List Int} {v : Value} {s s' : Int} (hb : Blk w B #[v, .int .i64 t, .int .u64 s] 51) (ht : t ≤ m) (hs : (Lit.int .u64 s').wf = true) (hrow : Row w v z.length (z.map (Value.int .u8)))
    (hne : ∀ a c, v = .slice (some a) z.length c → 0 < z.length → a.block < B) (hz : ∀ x ∈ z, 0 ≤ x ∧ x < 256) :
    Cu ((((w.drewN q).setCell ⟨B, 1, none⟩ (.int .i64 ((t : Int) + 1))).setCell ⟨B, 2, none⟩ (.int .u64 s')).drewN r) B z (m + 1) ∧
      w.grownBy ((((w.drewN q).setCell ⟨B, 1, none⟩ (.int .i64 ((t : Int) + 1))).setCell ⟨B, 2, none⟩ (.int .u64 s')).drewN r) (some B) := by
  suffices h : Cu (((w.drewN q).setCell ⟨B, 1, none⟩ (.int .i64 ((t : Int) + 1))).setCell ⟨B, 2, none⟩ (.int .u64 s')) B z (m + 1) ∧
      w.grownBy (((w.drewN q).setCell ⟨B, 1, none⟩ (.int .i64 ((t : Int) + 1))).setCell ⟨B, 2, none⟩ (.int .u64 s')) (some B) from
    ⟨h.1, ⟨h.2.os, h.2.tape, h.2.output, h.2.size, h.2.block⟩⟩
  have h0 : Blk (w.drewN q) B #[v, .int .i64 t, .int .u64 s] 51 := hb
  have g0 : w.grownBy (w.drewN q) (some B) := ⟨rfl, rfl, rfl, Nat.le_refl _, fun _ _ _ => rfl⟩
  have h1 := h0.set 1 (.int .i64 ((t : Int) + 1))
  have g1 := grown_set (w.drewN q) B 1 (.int .i64 ((t : Int) + 1)) _ _ h0
  have h2 := h1.set 2 (.int .u64 s')
  have g2 := grown_set _ B 2 (.int .u64 s') _ _ h1
  have g : w.grownBy (((w.drewN q).setCell ⟨B, 1, none⟩ (.int .i64 ((t : Int) + 1))).setCell ⟨B, 2, none⟩ (.int .u64 s')) (some B) :=
    ⟨g2.os.trans (g1.os.trans g0.os), g2.tape.trans (g1.tape.trans g0.tape), g2.output.trans (g1.output.trans g0.output), Nat.le_trans g0.size (Nat.le_trans g1.size g2.size), fun k hk hn =>
      (g2.block k (Nat.lt_of_lt_of_le hk (Nat.le_trans g0.size g1.size)) hn).trans ((g1.block k (Nat.lt_of_lt_of_le hk g0.size) hn).trans (g0.block k hk hn))⟩
  refine ⟨⟨⟨v, t + 1, s', h2, by omega, hs, ?_, hne⟩, hz⟩, g⟩
  obtain ⟨a, cap, rfl, r1, r2, r3⟩ := hrow
  refine ⟨a, cap, rfl, r1, r2, fun hx => ?_⟩
  obtain ⟨b, off, rfl, hlt, hc⟩ := r3 hx
  refine ⟨b, off, rfl, Nat.lt_of_lt_of_le hlt g.size, fun i hi => g.cell (hc i hi) ?_⟩
  have hpos : 0 < z.length := by
    rw [List.length_map] at hi
    omega
  intro e
  have e2 : b = B := Option.some.inj e
  have h8 : b < B := hne _ _ rfl hpos
  omega

theorem u64_bounds {E : Int} (h : (Lit.int .u64 E).wf = true) : 0 ≤ E ∧ E ≤ 18446744073709551615 := by
  exact bounds_u64 h

theorem low_bits (X : Int) : ∃ y : Nat, y < 256 ∧ wrap64 (bits BinOp.and IntKind.u64 (IntKind.u64.wrap X / 1099511627776) 255) = y := by
  obtain ⟨h0, h1⟩ := u64_bounds (wf_wrap .u64 X)
  obtain ⟨u, hu⟩ : ∃ u : Nat, IntKind.u64.wrap X / 1099511627776 = u := ⟨(IntKind.u64.wrap X / 1099511627776).toNat, by omega⟩
  have hlt : u < 18446744073709551616 := by omega
  rw [hu, show (255 : Int) = ((255 : Nat) : Int) from rfl, bits_and_u64_nat u 255 hlt (by omega)]
  have hle : u &&& 255 ≤ 255 := Nat.and_le_right
  exact ⟨u &&& 255, by omega, by unfold wrap64; omega⟩

set_option maxRecDepth 100000 in
set_option maxHeartbeats 1000000 in
theorem next_any (B m : Nat) (z : List Int) (w : World) (h : Cu w B z m) (hm : m ≤ 1000000) :
    Calls Tryz.prog 61 #[.pointer (some ⟨B, 0, none⟩)] w fun e w' => ∃ b : Nat, b < 256 ∧ e = .returned (.int .i64 b) ∧ Cu w' B z (m + 1) ∧ w.grownBy w' (some B) := by
  obtain ⟨⟨v, t, s, hb, ht, hs, hrow, hne⟩, hz⟩ := h
  obtain ⟨a, cap, rfl, hc1, hc2, hcell⟩ := row_open hrow
  have k0 : w.cell? ⟨B, 0, none⟩ = some (.slice a z.length cap) := by rw [hb.cell]; rfl
  have k1 : w.cell? ⟨B, 1, none⟩ = some (.int .i64 t) := by rw [hb.cell]; rfl
  have k2 : w.cell? ⟨B, 2, none⟩ = some (.int .u64 s) := by rw [hb.cell]; rfl
  have f1 := hb.free 1
  have f2 := hb.free 2
  by_cases hlt : t < z.length
  · obtain ⟨b, off, rfl, hbl, hcl⟩ := hcell t hlt
    have hx := hz _ (List.getElem_mem hlt)
    obtain ⟨x, hxe⟩ : ∃ x, x = z[t] := ⟨_, rfl⟩
    rw [← hxe] at hcl hx
    have HX := Lib.hid hxe
    have hrow2 : Row w (.slice (some ⟨b, off, none⟩) z.length cap) z.length (z.map (Value.int .u8)) := hrow
    have HR2 := Lib.hid hrow2
    clear hrow2
    have HZ := Lib.hid hz
    have HB := Lib.hid hb
    have HN := Lib.hid hne
    have HW := Lib.hid hs
    clear hxe hz hcell hrow hne hs
    go_enter Tryz.func61, Tryz.ntmps61
    go_wp2
    go_quiet (fail)
    go_wp2
    go_quiet (fail)
    go_wp2
    go_quiet (fail)
    go_wp2
    go_ret
    exact ⟨x.toNat, by omega, ret_int (by omega), cu_next HB.out ht (wf_wrap _ _) HR2.out HN.out HZ.out⟩
  · have HZ := Lib.hid hz
    have HB := Lib.hid hb
    have HN := Lib.hid hne
    have HW := Lib.hid hs
    have HR2 : Hid (Row w (.slice a z.length cap) z.length (z.map (Value.int .u8))) := Lib.hid hrow
    clear hz hrow hne hs hcell
    go_enter Tryz.func61, Tryz.ntmps61
    go_wp2
    go_quiet (fail)
    go_wp2
    go_quiet (fail)
    go_wp2
    go_ret
    obtain ⟨y, hy, e⟩ := low_bits (IntKind.u64.wrap (IntKind.u64.wrap (s * 6364136223846793005)) + 840840)
    exact ⟨y, hy, ret_int e, cu_next HB.out ht (wf_wrap _ _) HR2.out HN.out HZ.out⟩
end Go.Proofs.YtejdphfcogfcmaaGreatDoor

namespace Go.Proofs.YtejdphfcogfcmaaGreatDoor
open Go.RowKit

theorem g_trans {a b c : World} {row : Option Nat} (h1 : a.grownBy b row) (h2 : b.grownBy c row) : a.grownBy c row :=
  ⟨h2.os.trans h1.os, h2.tape.trans h1.tape, h2.output.trans h1.output, Nat.le_trans h1.size h2.size, fun k hk hn => (h2.block k (Nat.lt_of_lt_of_le hk h1.size) hn).trans (h1.block k hk hn)⟩
theorem g_refl (a : World) (row : Option Nat) : a.grownBy a row := ⟨rfl, rfl, rfl, Nat.le_refl _, fun _ _ _ => rfl⟩

theorem Cu.mono {w : World} {B m m' : Nat} {z : List Int} (h : Cu w B z m) (hm : m ≤ m') : Cu w B z m' := by
  obtain ⟨⟨v, t, s, h1, h2, h3⟩, h4⟩ := h
  exact ⟨⟨v, t, s, h1, by omega, h3⟩, h4⟩

set_option maxHeartbeats 400000 in
theorem pick_any (B m n : Nat) (z : List Int) (w : World) (h : Cu w B z m) (hm : m ≤ 900000) (h1 : 1 ≤ n) (hn : n ≤ 65536) :
    Calls Tryz.prog 46 #[.pointer (some ⟨B, 0, none⟩), .int .i64 n] w fun e w' => ∃ b : Nat, b < n ∧ e = .returned (.int .i64 b) ∧ Cu w' B z (m + 2) ∧ w.grownBy w' (some B) := by
  by_cases hs : n ≤ 1
  · go_enter Tryz.func46, Tryz.ntmps46
    go_wp2_with fail
    go_ret
    exact ⟨0, by omega, rfl, h.mono (by omega), g_refl _ _⟩
  · by_cases hb : n ≤ 200
    · have HH := Lib.hid h
      clear h
      go_enter Tryz.func46, Tryz.ntmps46
      go_wp2_with (go_at_call 61; refine (next_any B m z _ HH.out (by omega)).mono ?_; rintro e w1 ⟨b, hb1, rfl, hc1, hg1⟩; have HC1 := Lib.hid hc1; have HG1 := Lib.hid hg1; clear hc1 hg1)
      go_ret
      exact ⟨b % n, Nat.mod_lt _ (by omega), ret_int (by simp), HC1.out.mono (by omega), HG1.out⟩
    · have HH := Lib.hid h
      clear h
      go_enter Tryz.func46, Tryz.ntmps46
      go_wp2_with fail
      refine (next_any B m z _ HH.out (by omega)).mono ?_
      rintro e w1 ⟨b, hb1, rfl, hc1, hg1⟩
      have HC1 := Lib.hid hc1
      have HG1 := Lib.hid hg1
      clear hc1 hg1
      go_wp2_with fail
      refine (next_any B (m + 1) z _ HC1.out (by omega)).mono ?_
      rintro e w2 ⟨b2, hb2, rfl, hc2, hg2⟩
      have HC2 := Lib.hid hc2
      have HG2 := Lib.hid hg2
      clear hc2 hg2
      go_wp2_with fail
      go_ret
      exact ⟨(b * 256 + b2) % n, Nat.mod_lt _ (by omega), ret_int (by simp), HC2.out, g_trans HG1.out HG2.out⟩

theorem one_any (B m n : Nat) (z : List Int) (w : World) (h : Cu w B z m) (hm : m ≤ 900000) (h1 : 1 ≤ n) (hn : n ≤ 65536) :
    Calls Tryz.prog 28 #[.pointer (some ⟨B, 0, none⟩), .int .i64 n] w fun e w' => ∃ b : Bool, e = .returned (.bool b) ∧ Cu w' B z (m + 2) ∧ w.grownBy w' (some B) := by
  have HH := Lib.hid h
  clear h
  go_enter Tryz.func28, Tryz.ntmps28
  go_wp2_with fail
  refine (pick_any B m n z _ HH.out hm h1 hn).mono ?_
  rintro e w1 ⟨b, hb1, rfl, hc1, hg1⟩
  have HC1 := Lib.hid hc1
  have HG1 := Lib.hid hg1
  clear hc1 hg1
  go_wp2_with fail
  go_ret
  exact ⟨_, rfl, HC1.out, HG1.out⟩

end Go.Proofs.YtejdphfcogfcmaaGreatDoor

namespace Go.Proofs.YtejdphfcogfcmaaGreatDoor
open Go.RowKit

theorem Cu.grown' {w w' : World} {B m : Nat} {z : List Int} {row : Option Nat} (h : Cu w B z m) (hg : w.grownBy w' row) (hr : ∀ k, row = some k → B < k) : Cu w' B z m := by
  obtain ⟨⟨v, t, s, h1, h2, h3, h4, h5⟩, h6⟩ := h
  refine ⟨⟨v, t, s, h1.grown hg (fun e => by have := hr B e.symm; omega), h2, h3, ?_, h5⟩, h6⟩
  obtain ⟨a, cap, rfl, r1, r2, r3⟩ := h4
  refine ⟨a, cap, rfl, r1, r2, fun hx => ?_⟩
  obtain ⟨b, off, rfl, hlt, hc⟩ := r3 hx
  refine ⟨b, off, rfl, Nat.lt_of_lt_of_le hlt hg.size, fun i hi => hg.cell (hc i hi) (fun e => ?_)⟩
  have hpos : 0 < z.length := by
    rw [List.length_map] at hi
    omega
  have h8 : b < B := h5 _ _ rfl hpos
  have := hr b e.symm
  omega
theorem Cu.grown {w w' : World} {B m : Nat} {z : List Int} (h : Cu w B z m) (hg : w.grownBy w' none) : Cu w' B z m := h.grown' hg (by simp)

theorem Cu.lt {w : World} {B m : Nat} {z : List Int} (h : Cu w B z m) : B < w.heap.size := by
  obtain ⟨⟨v, t, s, h1, _⟩, _⟩ := h
  exact h1.lt

/-- A row in a new block outlives whatever is written into an older one. -/
theorem row_fresh {w w' : World} {B n : Nat} {xs : List Value} {t : TypeId} (hn : n = xs.length) (hm : n ≤ maxLen) (hB : B < w.heap.size) (hg : (w.alloc (.cells xs.toArray t)).grownBy w' (some B)) :
    Row w' (.slice (some ⟨w.heap.size, 0, none⟩) n n) n xs := by
  obtain ⟨a, cap, e, r1, r2, r3⟩ := row_made w xs t n hn hm
  refine ⟨a, cap, e, r1, r2, fun hx => ?_⟩
  obtain ⟨b, off, rfl, hlt, hc⟩ := r3 hx
  injection e with e1 e2 e3
  injection e1 with e1
  have eb : w.heap.size = b := congrArg Addr.block e1
  exact ⟨b, off, rfl, Nat.lt_of_lt_of_le hlt hg.size, fun i hi => hg.cell (hc i hi) (by intro e4; have e5 : b = B := Option.some.inj e4; omega)⟩

/-- The cursor that a draw begins with. -/
theorem cu_new (w : World) (v : Value) (z : List Int) (hrow : Row w v z.length (z.map (Value.int .u8))) (hz : ∀ x ∈ z, 0 ≤ x ∧ x < 256) :
    Cu (w.alloc (.cells #[v, .int .i64 0, .int .u64 0] 51)) w.heap.size z 0 := by
  have hg := World.grownBy_alloc w (.cells #[v, .int .i64 0, .int .u64 0] 51) none
  obtain ⟨a, cap, rfl, r1, r2, r3⟩ := hrow
  refine ⟨⟨_, 0, 0, heap_alloc_new w _, Nat.le_refl _, by decide, ⟨a, cap, rfl, r1, r2, fun hx => ?_⟩, ?_⟩, hz⟩
  · obtain ⟨b, off, rfl, hlt, hc⟩ := r3 hx
    exact ⟨b, off, rfl, Nat.lt_of_lt_of_le hlt hg.size, fun i hi => hg.cell (hc i hi) (by simp)⟩
  · intro a' c' e hpos
    injection e with e1 _ _
    obtain ⟨b, off, rfl, hlt, _⟩ := r3 (by intro e; have := congrArg List.length e; simp at this; rw [this] at hpos; simp at hpos)
    injection e1 with e1
    subst e1
    exact hlt

/-- The texts of 'any1'. -/
def anyL : List ByteArray := [⟨#[]⟩, ⟨#[97]⟩, ⟨#[97, 44, 98]⟩, ⟨#[115, 111, 109, 101, 32, 119, 111, 114, 100, 115]⟩, ⟨#[120, 35, 121]⟩, ⟨#[45, 49, 50]⟩, ⟨#[0, 255]⟩, ⟨#[44, 44]⟩, ⟨#[48]⟩]
theorem anyL_size : ∀ x ∈ anyL, x.size ≤ 10 := by
  intro x hx
  simp only [anyL, List.mem_cons, List.not_mem_nil, or_false] at hx
  rcases hx with rfl | rfl | rfl | rfl | rfl | rfl | rfl | rfl | rfl <;> decide


end Go.Proofs.YtejdphfcogfcmaaGreatDoor

namespace Go.Proofs.YtejdphfcogfcmaaGreatDoor
open Go.RowKit

theorem among_any (B m : Nat) (z : List Int) (v : Value) (xs : List Int) (w : World) (h : Cu w B z m) (hm : m ≤ 900000) (h1 : 1 ≤ xs.length) (hn : xs.length ≤ 65536)
    (hrow : ∀ w' : World, w.grownBy w' (some B) → Row w' v xs.length (xs.map (Value.int .i64))) :
    Calls Tryz.prog 53 #[.pointer (some ⟨B, 0, none⟩), v] w fun e w' => ∃ x ∈ xs, e = .returned (.int .i64 x) ∧ Cu w' B z (m + 2) ∧ w.grownBy w' (some B) := by
  obtain ⟨a, cap, rfl, hc1, hc2, _⟩ := row_open (hrow w (g_refl _ _))
  have HR := Lib.hid hrow
  have HH := Lib.hid h
  clear h hrow
  obtain ⟨n, hN⟩ : ∃ n, n = xs.length := ⟨_, rfl⟩
  rw [← hN] at h1 hn hc1 ⊢
  have HN := Lib.hid hN
  clear hN
  go_enter Tryz.func53, Tryz.ntmps53
  go_wp2_with fail
  refine (pick_any B m n z _ HH.out hm h1 hn).mono ?_
  rintro e w1 ⟨b, hb1, rfl, hc, hg⟩
  obtain ⟨a', cap', e', _, _, hcell⟩ := row_open (HR.out w1 hg)
  have hbn : b < xs.length := by rw [← HN.out]; exact hb1
  obtain ⟨bk, off, hab, _, hx⟩ := hcell b hbn
  have ea : a = a' := by
    rw [← HN.out] at e'
    injection e'
  subst ea
  subst hab
  have HM := Lib.hid (List.getElem_mem hbn)
  obtain ⟨x, hxe⟩ : ∃ x, x = xs[b] := ⟨_, rfl⟩
  rw [← hxe] at hx HM
  have HC := Lib.hid hc
  have HG := Lib.hid hg
  clear hc hg hcell hxe e'
  go_wp2_with fail
  go_ret
  exact ⟨x, HM.out, rfl, HC.out, HG.out⟩
end Go.Proofs.YtejdphfcogfcmaaGreatDoor
