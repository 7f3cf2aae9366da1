/-
  The draw of AppendChecksum; 'vAt'; 'vBig'.
-/
import Derived.Test.YtjdlkkhkaobpnaaDoorDraw3
import Derived.Test.YtjdlkkhkaobpnaaDoorZero
namespace Go.Proofs.YtjdlkkhkaobpnaaDoor
open Go.RowKit

theorem drawAppend_any (v : Value) (z : List Int) (w : World) (hrow : Row w v z.length (z.map (Value.int .u8))) (hz : ∀ x ∈ z, 0 ≤ x ∧ x < 256) :
    Calls Tryd.prog 15 #[v] w fun e w' => ∃ t : ByteArray, t.size ≤ 4010 ∧ e = .returned (.string t) ∧ Below w.heap.size w w' := by
  have HC0 := Lib.hid (cu_new w v z hrow hz)
  obtain ⟨a0, cap0, rfl, _, _, _⟩ := row_open hrow
  clear hrow hz
  go_enter Tryd.func15, Tryd.ntmps15
  go_wp2_with fail
  refine (one_any w.heap.size 0 20 z _ HC0.out (by omega) (by omega) (by omega)).mono ?_
  rintro e w1 ⟨b, rfl, hc, hg⟩
  have HC := Lib.hid hc
  have b1 : Below w.heap.size w w1 := ((Below.refl _ _).alloc (Nat.le_refl _) _).trans (grown_below hg (by simp) (Nat.le_refl _))
  have HB := Lib.hid b1
  clear b1 hc hg
  cases b with
  | true =>
    go_wp2_with fail
    refine (pick_any w.heap.size 2 10 z _ HC.out (by omega) (by omega) (by omega)).mono ?_
    rintro e w2 ⟨j, hj, rfl, _, hg2⟩
    have b2 : Below w.heap.size w w2 := HB.out.trans (grown_below hg2 HB.out.size (Nat.le_refl _))
    have HB2 := Lib.hid b2
    clear hg2 b2
    have hmk : ∀ W : World, (Instr.makeSlice 22 (.int .i64 (3990 + (j : Int))) (.int .i64 (3990 + (j : Int)))).run Tryd.prog W = .ok (.slice (some ⟨W.heap.size, 0, none⟩) (3990 + j) (3990 + j)) (W.alloc (.cells (fillV (List.replicate (3990 + j) (.int .u8 0)) (.int .u8 0) 0) 5)) := fun W => by
      rw [show (3990 + (j : Int)) = ((3990 + j : Nat) : Int) from by omega]; exact zero_bytes (3990 + j) (by omega) W
    obtain ⟨zt, hzt⟩ : ∃ zt : ByteArray, zt = ⟨(List.replicate (3990 + j) 0).toArray⟩ := ⟨_, rfl⟩
    have hzs : zt.size ≤ 4010 := by
      rw [hzt]; show (List.replicate (3990 + j) (0 : UInt8)).toArray.size ≤ 4010
      simp; omega
    have htx := zero_text (3990 + j) w2
    rw [← hzt] at htx
    have HZ := Lib.hid hzs
    clear hzt hzs
    go_wp2_with fail
    go_ret
    exact ⟨zt, HZ.out, rfl, HB2.out.alloc HB2.out.size _⟩
  | false =>
    go_wp2_with fail
    refine (any1_any w.heap.size 2 z _ HC.out (by omega)).mono ?_
    rintro e w2 ⟨x, hx, rfl, _, hg2⟩
    have HX := Lib.hid (anyL_size x hx)
    have b2 : Below w.heap.size w w2 := HB.out.trans (grown_below hg2 HB.out.size (Nat.le_refl _))
    have HB2 := Lib.hid b2
    clear hg2 b2 hx
    go_wp2_with fail
    go_ret
    exact ⟨x, by have := HX.out; omega, rfl, HB2.out⟩

theorem vAt_any (v : Value) (z : List Int) (i : Nat) (w : World) (hrow : Row w v z.length (z.map (Value.int .u8))) (hz : ∀ x ∈ z, 0 ≤ x ∧ x < 256) (hi : i ≤ 1000) (hn : z.length ≤ 65536) :
    Calls Tryd.prog 19 #[v, .int .i64 i] w fun e w' => ∃ x : Nat, x < 256 ∧ e = .returned (.int .i64 x) ∧ w = w' := by
  obtain ⟨a, cap, rfl, _, _, hcell⟩ := row_open hrow
  by_cases h : i < z.length
  · obtain ⟨b, off, rfl, _, hc⟩ := hcell i h
    have hx := hz _ (List.getElem_mem h)
    obtain ⟨x, hxe⟩ : ∃ x, x = z[i] := ⟨_, rfl⟩
    rw [← hxe] at hc hx
    have hx0 := hx.1
    have hx1 := hx.2
    clear hcell hrow hz hx hxe
    go_enter Tryd.func19, Tryd.ntmps19
    go_wp2
    go_ret
    exact ⟨x.toNat, by omega, ret_int (by omega), rfl⟩
  · clear hcell hrow hz
    go_enter Tryd.func19, Tryd.ntmps19
    go_wp2
    go_ret
    exact ⟨(i * 7 + z.length) % 256, by omega, ret_int (by omega), rfl⟩

theorem vBig_any (a : Option Addr) (n cap : Nat) (w : World) :
    Calls Tryd.prog 8 #[.slice a n cap] w fun e w' => e = .returned (.bool (decide ((65536 : Int) < n))) ∧ w = w' := by
  go_enter Tryd.func8, Tryd.ntmps8
  go_wp2
  go_ret
  exact ⟨rfl, rfl⟩
end Go.Proofs.YtjdlkkhkaobpnaaDoor
