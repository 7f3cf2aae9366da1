/-
  The draws of chapter 4 that draw packets.
-/
import Derived.Test.YtkijfneaglogmaaDraw1
import Derived.Test.YtkijfneaglogmaaDrawSer
import Derived.Test.YtkijfneaglogmaaAmong
import Derived.Test.YtkijfneaglogmaaPkt5
import Derived.Deep.RegionHeld3
import Derived.Test.YtkijfneaglogmaaPktLaw
namespace Go.Proofs.Ytkijfneaglogmaa
open Go.RowKit Go.Lib
set_option linter.unusedVariables false

def letL : List ByteArray := [⟨#[97]⟩, ⟨#[98]⟩, ⟨#[99]⟩, ⟨#[120]⟩, ⟨#[122]⟩]
theorem letL_ok : ∀ x ∈ letL, x.size = 1 ∧ ltrB x = true := by
  intro x hx
  simp only [letL, List.mem_cons, List.not_mem_nil, or_false] at hx
  rcases hx with rfl | rfl | rfl | rfl | rfl <;> exact ⟨rfl, by decide⟩
theorem ltrB_append {a b : ByteArray} (ha : ltrB a = true) (hb : ltrB b = true) : ltrB (a ++ b) = true := by
  unfold ltrB at ha hb ⊢
  have e : (a ++ b).data.toList = a.data.toList ++ b.data.toList := by simp
  rw [e, List.all_append, ha, hb]
  rfl
set_option maxHeartbeats 400000 in
theorem letters_any (B m n : Nat) (z : List Int) (w : World) (h : Cu w B z m) (hm : m ≤ 800000) (hn : n ≤ 100) :
    Calls Try.prog 93 #[.pointer (some ⟨B, 0, none⟩), .int .i64 n] w fun e w' => ∃ s : ByteArray, s.size ≤ n ∧ ltrB s = true ∧ e = .returned (.string s) ∧ Cu w' B z (m + 2 + 2 * n) ∧ w.grownBy w' (some B) := by
  have HH := Lib.hid h
  clear h
  go_enter Try.func93, Try.ntmps93
  go_wp2_with fail
  refine (pick_any B m (n + 1) z _ HH.out (by omega) (by omega) (by omega)).mono ?_
  rintro e w1 ⟨p, hp, rfl, hc, hg⟩
  have HC := Lib.hid hc
  have HG := Lib.hid hg
  clear hc hg
  go_wp2_with fail
  go_loopw [5, 6] (fun t q wr => ∃ (k : Nat) (s : ByteArray), s.size + k ≤ n ∧ q = .int .i64 k ∧ t = .string s ∧ Hid (ltrB s = true) ∧ Hid (Cu wr B z (m + 2 + 2 * s.size)) ∧ Hid (w.grownBy wr (some B))) (fun _ q _ => (intOf q).toNat)
  case atStart => exact ⟨p, ⟨#[]⟩, by show 0 + p ≤ n; omega, rfl, rfl, Lib.hid rfl, HC, HG⟩
  case round =>
    clear HC HG HH
    obtain ⟨k, s, hk, rfl, rfl, HL, HC, HG⟩ := hrel
    by_cases hk0 : 0 < k
    · go_wp2_with fail
      refine (of_any B (m + 2 + 2 * s.size) z _ letL _ (HC.out.grown (World.grownBy_alloc _ _ none)) (by omega) (by decide) (by decide) (fun w' hg => row_fresh (xs := letL.map Value.string) (n := letL.length) (List.length_map _).symm (by decide) HC.out.lt hg)).mono ?_
      rintro e w2 ⟨x, hx, rfl, hc2, hg2⟩
      obtain ⟨x0, x1⟩ := letL_ok x hx
      have HC2 := Lib.hid hc2
      have HG2 := Lib.hid (g_trans HG.out (g_trans (World.grownBy_alloc _ _ _) hg2))
      have HL2 := Lib.hid (ltrB_append HL.out x1)
      clear hx hc2 hg2 x1
      have hsz : (s ++ x).size = s.size + 1 := by rw [ByteArray.size_append, x0]
      have hsm : s.size + x.size ≤ 9223372036854775807 := by omega
      go_wp2_with fail
      go_roundw
      case rel => exact ⟨k - 1, s ++ x, by omega, by congr 1; omega, rfl, HL2, Lib.hid (HC2.out.mono (by omega)), HG2⟩
      case measure => (first | (simp [intOf]; done) | (simp [intOf]; omega))
    · obtain rfl : k = 0 := by omega
      go_wp2_with fail
      go_ret
      exact ⟨s, by omega, HL.out, rfl, HC.out.mono (by omega), HG.out⟩
theorem pkt_drawn {k t : Int} {a : Nat} {d : ByteArray} (hk : 1 ≤ k ∧ k ≤ 5) (ht : 0 ≤ t ∧ t ≤ 65535) (ha : a < 9) (hd : ltrB d = true ∧ d.size ≤ 8 ∧ (d.size = 0 ∨ k ≤ 2)) (m : Int) :
    pktOk k (aftI t m) t (aftI t a) d = true := by
  obtain ⟨h1, h2, h3⟩ := hd
  have n1 := aftI_bd t m
  have n2 := aftI_bd t a
  have hg : gapI t (aftI t a) ≤ 32767 := by unfold gapI aftI; omega
  unfold pktOk
  simp only [Bool.and_eq_true, Bool.or_eq_true, decide_eq_true_eq]
  exact ⟨inB_yes hk.1 hk.2, serB_yes n1.1 n1.2, serB_yes ht.1 ht.2, serB_yes n2.1 n2.2, hg, h1, h2, h3.imp id (fun h => inB_yes hk.1 h)⟩
theorem Pb.gr {w w' : World} {g B : Nat} {k n t l : Int} {d : ByteArray} (h : Pb w g k n t l d) (hg : w.grownBy w' (some B)) (hne : B ≠ g) : Pb w' g k n t l d := (hg.block g h.lt (by intro e; exact hne (Option.some.inj e).symm)).trans h
/-- A packet in a block of the call's own, beside the cursor. -/
structure PC (w0 w : World) (B : Nat) (z : List Int) (m R : Nat) (k n t l : Int) (d : ByteArray) : Prop where
  pb : Pb w R k n t l d
  cu : Cu w B z m
  gr : w0.grownBy w (some B)
  lo : w0.heap.size ≤ R
  hb : B < w0.heap.size
theorem PC.call {w0 w w' : World} {B R m m' : Nat} {z : List Int} {k n t l : Int} {d : ByteArray} (h : PC w0 w B z m R k n t l d) (hc : Cu w' B z m') (hg : w.grownBy w' (some B)) : PC w0 w' B z m' R k n t l d :=
  ⟨h.pb.gr hg (by have := h.lo; have := h.hb; omega), hc, g_trans h.gr hg, h.lo, h.hb⟩
theorem PC.alloc {w0 w : World} {B R m : Nat} {z : List Int} {k n t l : Int} {d : ByteArray} (h : PC w0 w B z m R k n t l d) (o : Obj) : PC w0 (w.alloc o) B z m R k n t l d :=
  h.call (h.cu.grown (World.grownBy_alloc _ _ none)) (World.grownBy_alloc _ _ _)
theorem PC.new {w0 w : World} {B m : Nat} {z : List Int} (hc : Cu w B z m) (hg : w0.grownBy w (some B)) (hb : B < w0.heap.size) (k n t l : Int) (d : ByteArray) : PC w0 (w.alloc (.cells #[.int .i64 k, .int .i64 n, .int .i64 t, .int .i64 l, .string d] 30)) B z m w.heap.size k n t l d :=
  ⟨heap_alloc_new w _, hc.grown (World.grownBy_alloc _ _ none), g_trans hg (World.grownBy_alloc _ _ _), hg.size, hb⟩
theorem PC.set {w0 w w' : World} {B R m : Nat} {z : List Int} {k n t l k' n' t' l' : Int} {d d' : ByteArray} (h : PC w0 w B z m R k n t l d) (hp : Pb w' R k' n' t' l' d') (hg : w.grownBy w' (some R)) : PC w0 w' B z m R k' n' t' l' d' :=
  ⟨hp, h.cu.grown' hg (fun k e => by have : R = k := Option.some.inj e; have := h.lo; have := h.hb; omega), g_fresh h.gr hg h.lo, h.lo, h.hb⟩
theorem PC.other {w0 w w' : World} {B R q m : Nat} {z : List Int} {k n t l : Int} {d : ByteArray} (h : PC w0 w B z m R k n t l d) (hg : w.grownBy w' (some q)) (hq : w0.heap.size ≤ q) (hne : q ≠ R) : PC w0 w' B z m R k n t l d :=
  ⟨h.pb.gr hg hne, h.cu.grown' hg (fun k e => by have : q = k := Option.some.inj e; have := h.hb; omega), g_fresh h.gr hg hq, h.lo, h.hb⟩
theorem pb_set3 {w : World} {g : Nat} {k n t l : Int} {d : ByteArray} (h : Pb w g k n t l d) (y : Int) : Pb (w.setCell ⟨g, 3, none⟩ (.int .i64 y)) g k n t y d := by
  unfold Pb
  rw [(Pb.set (i := 3) h (.int .i64 y)).1]
  rfl
theorem gdrew (W : World) (row : Option Nat) : W.grownBy W.drew row := ⟨rfl, rfl, rfl, Nat.le_refl _, fun _ _ _ => rfl⟩
theorem PC.drew {w0 w : World} {B R m : Nat} {z : List Int} {k n t l : Int} {d : ByteArray} (h : PC w0 w B z m R k n t l d) : PC w0 w.drew B z m R k n t l d :=
  ⟨h.pb, h.cu, ⟨h.gr.os, h.gr.tape, h.gr.output, h.gr.size, h.gr.block⟩, h.lo, h.hb⟩
set_option maxHeartbeats 1000000 in
theorem packet_any (B m : Nat) (z : List Int) (w : World) (h : Cu w B z m) (hm : m ≤ 700000) :
    Calls Try.prog 99 #[.pointer (some ⟨B, 0, none⟩)] w fun e w' => ∃ (k n t l : Int) (d : ByteArray), pktOk k n t l d = true ∧ e = .returned (pv k n t l d) ∧ Cu w' B z (m + 28) ∧ w.grownBy w' (some B) := by
  have HP0 := Lib.hid (PC.new h (g_refl w _) h.lt 0 0 0 0 ⟨#[]⟩)
  clear h
  go_enter Try.func99, Try.ntmps99
  go_wp2_with fail
  refine (serial_any B m z _ HP0.out.cu (by omega)).mono ?_
  rintro e w1 ⟨t, t0, t1, rfl, hc, hg⟩
  have HP1 := Lib.hid (HP0.out.call hc hg)
  clear hc hg HP0
  go_wp2_with fail
  refine (pick_any B (m + 4) 5 z _ HP1.out.cu (by omega) (by omega) (by omega)).mono ?_
  rintro e w2 ⟨a, ha, rfl, hc, hg⟩
  have HP2 := Lib.hid (HP1.out.call hc hg)
  clear hc hg HP1
  go_wp2_with fail
  refine (pick_any B (m + 4 + 2) 9 z _ HP2.out.cu (by omega) (by omega) (by omega)).mono ?_
  rintro e w3 ⟨b, hb, rfl, hc, hg⟩
  have HP3 := Lib.hid (HP2.out.call hc hg)
  clear hc hg HP2
  go_wp2_with fail
  refine (l2After_any t b _ t0 t1 (by omega) (by omega)).mono ?_
  rintro e _ ⟨rfl, rfl⟩
  go_wp2_with fail
  refine (pick_any B (m + 4 + 2 + 2) 10 z _ HP3.out.cu (by omega) (by omega) (by omega)).mono ?_
  rintro e w4 ⟨c, hcc, rfl, hc, hg⟩
  have HP4 := Lib.hid (HP3.out.call hc hg)
  clear hc hg HP3
  go_wp2_with fail
  refine (l2After_any t (c - 1) _ t0 t1 (by omega) (by omega)).mono ?_
  rintro e _ ⟨rfl, rfl⟩
  have HOk := Lib.hid (fun (d : ByteArray) (hd : ltrB d = true ∧ d.size ≤ 8 ∧ (d.size = 0 ∨ (1 + (a : Int)) ≤ 2)) => pkt_drawn (k := 1 + (a : Int)) (t := t) (a := b) (d := d) (by omega) ⟨t0, t1⟩ hb hd ((c : Int) - 1))
  obtain ⟨y0, y1⟩ := aftI_bd t b
  obtain ⟨x0, x1⟩ := aftI_bd t ((c : Int) - 1)
  generalize aftI t b = l at y0 y1 HOk ⊢
  generalize aftI t ((c : Int) - 1) = n at x0 x1 HOk ⊢
  go_upto_region 3 with fail
  obtain ⟨k, hk⟩ : ∃ k : Int, k = 1 + (a : Int) := ⟨_, rfl⟩
  rw [← hk] at HOk ⊢
  have k1 : 1 ≤ k := by omega
  have k5 : k ≤ 5 := by omega
  clear hk
  obtain ⟨W5, hW5⟩ : ∃ W5, W5 = w4.alloc (.cells #[.int .i64 k, .int .i64 n, .int .i64 t, .int .i64 l, .string ⟨#[]⟩] 30) := ⟨_, rfl⟩
  have HP5 : Hid (PC w W5 B z (m + 10) w.heap.size 0 0 0 0 ⟨#[]⟩) := Lib.hid (by rw [hW5]; exact HP4.out.alloc _)
  have HQ5 : Hid (PC w W5 B z (m + 10) w4.heap.size k n t l ⟨#[]⟩) := Lib.hid (by rw [hW5]; exact PC.new HP4.out.cu HP4.out.gr HP4.out.hb k n t l ⟨#[]⟩)
  have hlt : w.heap.size < w4.heap.size := HP4.out.pb.lt
  obtain ⟨q, hq⟩ : ∃ q, q = w4.heap.size := ⟨_, rfl⟩
  rw [← hW5]
  rw [← hq] at HQ5 hlt ⊢
  clear hW5 hq HP4
  have hqr : q ≠ w.heap.size := by omega
  have hqr2 : w.heap.size ≠ q := by omega
  by_cases hk2 : k ≤ 2
  · obtain ⟨q0, q1, q2, q3, q4⟩ := HQ5.out.pb.cells
    go_wp2_with fail
    refine (letters_any B (m + 10) 8 z _ HQ5.out.cu (by omega) (by omega)).mono ?_
    rintro e w6 ⟨s, hs, hl, rfl, hc, hg⟩
    have HP6 := Lib.hid (HP5.out.call hc hg)
    have HQ6 := Lib.hid (HQ5.out.call hc hg)
    have HO := Lib.hid (HOk.out s ⟨hl, hs, .inr hk2⟩)
    clear hc hg hl HP5 HQ5 HOk q0 q1 q2 q3 q4
    obtain ⟨q0, q1, q2, q3, q4⟩ := HQ6.out.pb.cells
    have f4 := HQ6.out.pb.free 4
    go_upto_region 5 with fail
    obtain ⟨a5, b5⟩ := Pb.set (i := 4) HQ6.out.pb (.string s)
    obtain ⟨W7, hW7⟩ : ∃ W7, W7 = w6.setCell ⟨q, 4, none⟩ (.string s) := ⟨_, rfl⟩
    rw [← hW7] at a5 b5 ⊢
    have HQ7 := Lib.hid (HQ6.out.set (show Pb W7 q k n t l s by unfold Pb; rw [a5]; rfl) b5)
    have HP7 := Lib.hid (HP6.out.other b5 (by omega) hqr)
    clear hW7 a5 b5 HP6 HQ6 q0 q1 q2 q3 q4 f4
    obtain ⟨q0, q1, q2, q3, q4⟩ := HQ7.out.pb.cells
    obtain ⟨r0, r1, r2, r3, r4⟩ := HP7.out.pb.cells
    have f0 := HP7.out.pb.free 0
    have f1 := HP7.out.pb.free 1
    have f2 := HP7.out.pb.free 2
    have f3 := HP7.out.pb.free 3
    have f4 := HP7.out.pb.free 4
    go_wp2_with fail
    obtain ⟨hp1, hg1⟩ := HP7.out.pb.store (k' := k) (n' := n) (t' := t) (l' := l) (d' := s)
    have HE := HP7.out.set hp1 hg1
    refine bodyPost_ret (results_pkt1 rfl _ _ w.heap.size rfl hp1) rfl ⟨k, n, t, l, s, HO.out, rfl, HE.cu.mono (by omega), HE.gr⟩
  · have HO := Lib.hid (HOk.out ⟨#[]⟩ ⟨rfl, by decide, .inl rfl⟩)
    obtain ⟨q0, q1, q2, q3, q4⟩ := HQ5.out.pb.cells
    obtain ⟨r0, r1, r2, r3, r4⟩ := HP5.out.pb.cells
    have f0 := HP5.out.pb.free 0
    have f1 := HP5.out.pb.free 1
    have f2 := HP5.out.pb.free 2
    have f3 := HP5.out.pb.free 3
    have f4 := HP5.out.pb.free 4
    go_wp2_with fail
    obtain ⟨hp1, hg1⟩ := HP5.out.pb.store (k' := k) (n' := n) (t' := t) (l' := l) (d' := ⟨#[]⟩)
    have HE := HP5.out.set hp1 hg1
    refine bodyPost_ret (results_pkt1 rfl _ _ w.heap.size rfl hp1) rfl ⟨k, n, t, l, ⟨#[]⟩, HO.out, rfl, HE.cu.mono (by omega), HE.gr⟩
def anyKL : List Int := [0, 6, 5]
def anyNL : List Int := [-1, 65536, 65535]
def anyLL : List Int := [32767, 32768]
def anyDL : List ByteArray := [⟨#[97, 98, 99, 100, 101, 102, 103, 104]⟩, ⟨#[97, 98, 99, 100, 101, 102, 103, 104, 105]⟩, ⟨#[65]⟩, ⟨#[97, 32, 98]⟩, ⟨#[97]⟩]
theorem anyLL_bd : ∀ x ∈ anyLL, -65536 ≤ x ∧ x ≤ 65536 := by
  intro x hx
  simp only [anyLL, List.mem_cons, List.not_mem_nil, or_false] at hx
  omega
theorem anyDL_size : ∀ x ∈ anyDL, x.size ≤ 9 := by
  intro x hx
  simp only [anyDL, List.mem_cons, List.not_mem_nil, or_false] at hx
  rcases hx with rfl | rfl | rfl | rfl | rfl <;> decide
set_option maxHeartbeats 2000000 in
theorem anyPacket_any (B m : Nat) (z : List Int) (w : World) (h : Cu w B z m) (hm : m ≤ 600000) :
    Calls Try.prog 77 #[.pointer (some ⟨B, 0, none⟩)] w fun e w' => ∃ (k n t l : Int) (d : ByteArray), d.size ≤ 9 ∧ e = .returned (pv k n t l d) ∧ Cu w' B z (m + 32) ∧ w.grownBy w' (some B) := by
  have HP0 := Lib.hid (PC.new h (g_refl w _) h.lt 0 0 0 0 ⟨#[]⟩)
  clear h
  go_enter Try.func77, Try.ntmps77
  go_wp2_with fail
  refine (packet_any B m z _ HP0.out.cu (by omega)).mono ?_
  rintro e w4 ⟨k, n, t, l, d, hok, rfl, hc, hg⟩
  have HP4 := Lib.hid (HP0.out.call hc hg)
  obtain ⟨_, _, ⟨t0, t1⟩, _, _, _, hd8, _⟩ := pktOk_bd hok
  clear hc hg HP0 hok
  unfold pv
  go_upto_region 2 with fail
  obtain ⟨W5, hW5⟩ : ∃ W5, W5 = w4.alloc (.cells #[.int .i64 k, .int .i64 n, .int .i64 t, .int .i64 l, .string d] 30) := ⟨_, rfl⟩
  have HP5 : Hid (PC w W5 B z (m + 28) w.heap.size 0 0 0 0 ⟨#[]⟩) := Lib.hid (by rw [hW5]; exact HP4.out.alloc _)
  have HQ5 : Hid (PC w W5 B z (m + 28) w4.heap.size k n t l d) := Lib.hid (by rw [hW5]; exact PC.new HP4.out.cu HP4.out.gr HP4.out.hb k n t l d)
  have hlt : w.heap.size < w4.heap.size := HP4.out.pb.lt
  obtain ⟨q, hq⟩ : ∃ q, q = w4.heap.size := ⟨_, rfl⟩
  rw [← hW5]
  rw [← hq] at HQ5 hlt ⊢
  clear hW5 hq HP4
  have hqr : q ≠ w.heap.size := by omega
  have hqr2 : w.heap.size ≠ q := by omega
  go_wp2_with fail
  refine (pick_any B (m + 28) 24 z _ HP5.out.cu (by omega) (by omega) (by omega)).mono ?_
  rintro e w5 ⟨p, hp, rfl, hc, hg⟩
  have HP5 := Lib.hid (HP5.out.call hc hg)
  have HQ5 := Lib.hid (HQ5.out.call hc hg)
  clear hc hg
  by_cases h0 : p = 0
  · subst h0
    go_wp2_with fail
    refine (among_any B (m + 30) z _ anyKL _ (HP5.out.cu.grown (World.grownBy_alloc _ _ none)) (by omega) (by decide) (by decide) (fun w' hg => row_fresh (xs := anyKL.map (Value.int .i64)) (n := anyKL.length) (List.length_map _).symm (by decide) HP5.out.cu.lt hg)).mono ?_
    rintro e w6 ⟨x, hx, rfl, hc, hg⟩
    have hg := g_trans (World.grownBy_alloc _ _ _) hg
    clear hx
    have HP6 := Lib.hid (HP5.out.call hc hg)
    have HQ6 := Lib.hid (HQ5.out.call hc hg)
    clear hc hg HP5 HQ5
    have f0 := HQ6.out.pb.free 0
    obtain ⟨q0, q1, q2, q3, q4⟩ := HQ6.out.pb.cells
    go_upto_region 11 with fail
    obtain ⟨a5, b5⟩ := Pb.set (i := 0) HQ6.out.pb (.int .i64 x)
    obtain ⟨W7, hW7⟩ : ∃ W7, W7 = w6.setCell ⟨q, 0, none⟩ (.int .i64 x) := ⟨_, rfl⟩
    rw [← hW7] at a5 b5 ⊢
    have HQ7 := Lib.hid (HQ6.out.set (show Pb W7 q x n t l d by unfold Pb; rw [a5]; rfl) b5)
    have HP7 := Lib.hid (HP6.out.other b5 (by omega) hqr)
    clear hW7 a5 b5 HP6 HQ6 q0 q1 q2 q3 q4 f0
    obtain ⟨q0, q1, q2, q3, q4⟩ := HQ7.out.pb.cells
    obtain ⟨r0, r1, r2, r3, r4⟩ := HP7.out.pb.cells
    have f0 := HP7.out.pb.free 0
    have f1 := HP7.out.pb.free 1
    have f2 := HP7.out.pb.free 2
    have f3 := HP7.out.pb.free 3
    have f4 := HP7.out.pb.free 4
    go_wp2_with fail
    obtain ⟨hp1, hg1⟩ := HP7.out.pb.store (k' := x) (n' := n) (t' := t) (l' := l) (d' := d)
    have HE := HP7.out.set hp1 hg1
    refine bodyPost_ret (results_pkt1 rfl _ _ w.heap.size rfl hp1) rfl ⟨x, n, t, l, d, by omega, rfl, HE.cu.mono (by omega), HE.gr⟩
  by_cases h1 : p = 1
  · subst h1
    clear h0
    go_wp2_with fail
    refine (among_any B (m + 30) z _ anyNL _ (HP5.out.cu.grown (World.grownBy_alloc _ _ none)) (by omega) (by decide) (by decide) (fun w' hg => row_fresh (xs := anyNL.map (Value.int .i64)) (n := anyNL.length) (List.length_map _).symm (by decide) HP5.out.cu.lt hg)).mono ?_
    rintro e w6 ⟨x, hx, rfl, hc, hg⟩
    have hg := g_trans (World.grownBy_alloc _ _ _) hg
    clear hx
    have HP6 := Lib.hid (HP5.out.call hc hg)
    have HQ6 := Lib.hid (HQ5.out.call hc hg)
    clear hc hg HP5 HQ5
    have f1 := HQ6.out.pb.free 1
    obtain ⟨q0, q1, q2, q3, q4⟩ := HQ6.out.pb.cells
    go_upto_region 11 with fail
    obtain ⟨a5, b5⟩ := Pb.set (i := 1) HQ6.out.pb (.int .i64 x)
    obtain ⟨W7, hW7⟩ : ∃ W7, W7 = w6.setCell ⟨q, 1, none⟩ (.int .i64 x) := ⟨_, rfl⟩
    rw [← hW7] at a5 b5 ⊢
    have HQ7 := Lib.hid (HQ6.out.set (show Pb W7 q k x t l d by unfold Pb; rw [a5]; rfl) b5)
    have HP7 := Lib.hid (HP6.out.other b5 (by omega) hqr)
    clear hW7 a5 b5 HP6 HQ6 q0 q1 q2 q3 q4 f1
    obtain ⟨q0, q1, q2, q3, q4⟩ := HQ7.out.pb.cells
    obtain ⟨r0, r1, r2, r3, r4⟩ := HP7.out.pb.cells
    have f0 := HP7.out.pb.free 0
    have f1 := HP7.out.pb.free 1
    have f2 := HP7.out.pb.free 2
    have f3 := HP7.out.pb.free 3
    have f4 := HP7.out.pb.free 4
    go_wp2_with fail
    obtain ⟨hp1, hg1⟩ := HP7.out.pb.store (k' := k) (n' := x) (t' := t) (l' := l) (d' := d)
    have HE := HP7.out.set hp1 hg1
    refine bodyPost_ret (results_pkt1 rfl _ _ w.heap.size rfl hp1) rfl ⟨k, x, t, l, d, by omega, rfl, HE.cu.mono (by omega), HE.gr⟩
  by_cases h2 : p = 2
  · subst h2
    clear h0 h1
    obtain ⟨q0, q1, q2, q3, q4⟩ := HQ5.out.pb.cells
    go_upto_region 8 with fail
    have HPd := Lib.hid (HP5.out.alloc (.cells #[.int .i64 32767, .int .i64 32768] 3)).drew
    have HQd := Lib.hid (HQ5.out.alloc (.cells #[.int .i64 32767, .int .i64 32768] 3)).drew
    go_region_held3 (fun w' => w'.cell? ⟨q, 2, none⟩ = some (.int .i64 t)) (first | exact q2 | exact hcl | exact hcs _ | go_keep)
      (first | (go_at_call 81; refine (among_any B (m + 30) z _ anyLL _ HPd.out.cu (by omega) (by decide) (by decide) (fun w' hg => row_fresh (xs := anyLL.map (Value.int .i64)) (n := anyLL.length) (List.length_map _).symm (by decide) HP5.out.cu.lt (g_trans (gdrew _ _) hg))).mono ?_; rintro e w6 ⟨x, hx, rfl, hc, hg⟩; obtain ⟨x0, x1⟩ := anyLL_bd x hx; have HP6 := Lib.hid (HPd.out.call hc hg); have HQ6 := Lib.hid (HQd.out.call hc hg); clear hx hc hg; have hcl := HQ6.out.pb.cells.2.2.1; have hc3 := HQ6.out.pb.cells.2.2.2.1; have f3 := HQ6.out.pb.free 3; have hcs := fun y => (pb_set3 HQ6.out.pb y).cells.2.2.1) | (go_at_call 75; refine (l2After_any t x _ t0 t1 (by omega) (by omega)).mono ?_; rintro e _ ⟨rfl, rfl⟩))
    go_upto_region 11 with fail
    obtain ⟨a5, b5⟩ := Pb.set (i := 3) HQ6.out.pb (.int .i64 (aftI t x))
    obtain ⟨W7, hW7⟩ : ∃ W7, W7 = w6.setCell ⟨q, 3, none⟩ (.int .i64 (aftI t x)) := ⟨_, rfl⟩
    rw [← hW7] at a5 b5 ⊢
    have HQ7 := Lib.hid (HQ6.out.set (show Pb W7 q k n t (aftI t x) d by unfold Pb; rw [a5]; rfl) b5)
    have HP7 := Lib.hid (HP6.out.other b5 (by omega) hqr)
    clear hW7 a5 b5 HP6 HQ6 q0 q1 q2 q3 q4 f3 hcl hc3 hcs
    obtain ⟨q0, q1, q2, q3, q4⟩ := HQ7.out.pb.cells
    obtain ⟨r0, r1, r2, r3, r4⟩ := HP7.out.pb.cells
    have f0 := HP7.out.pb.free 0
    have f1 := HP7.out.pb.free 1
    have f2 := HP7.out.pb.free 2
    have f3 := HP7.out.pb.free 3
    have f4 := HP7.out.pb.free 4
    go_wp2_with fail
    obtain ⟨hp1, hg1⟩ := HP7.out.pb.store (k' := k) (n' := n) (t' := t) (l' := aftI t x) (d' := d)
    have HE := HP7.out.set hp1 hg1
    refine bodyPost_ret (results_pkt1 rfl _ _ w.heap.size rfl hp1) rfl ⟨k, n, t, aftI t x, d, by omega, rfl, HE.cu.mono (by omega), HE.gr⟩
  by_cases h3 : p = 3
  · subst h3
    clear h0 h1 h2
    go_wp2_with fail
    refine (of_any B (m + 30) z _ anyDL _ (HP5.out.cu.grown (World.grownBy_alloc _ _ none)) (by omega) (by decide) (by decide) (fun w' hg => row_fresh (xs := anyDL.map Value.string) (n := anyDL.length) (List.length_map _).symm (by decide) HP5.out.cu.lt hg)).mono ?_
    rintro e w6 ⟨x, hx, rfl, hc, hg⟩
    have hg := g_trans (World.grownBy_alloc _ _ _) hg
    have hx9 := anyDL_size x hx
    clear hx
    have HP6 := Lib.hid (HP5.out.call hc hg)
    have HQ6 := Lib.hid (HQ5.out.call hc hg)
    clear hc hg HP5 HQ5
    have f4 := HQ6.out.pb.free 4
    obtain ⟨q0, q1, q2, q3, q4⟩ := HQ6.out.pb.cells
    go_upto_region 11 with fail
    obtain ⟨a5, b5⟩ := Pb.set (i := 4) HQ6.out.pb (.string x)
    obtain ⟨W7, hW7⟩ : ∃ W7, W7 = w6.setCell ⟨q, 4, none⟩ (.string x) := ⟨_, rfl⟩
    rw [← hW7] at a5 b5 ⊢
    have HQ7 := Lib.hid (HQ6.out.set (show Pb W7 q k n t l x by unfold Pb; rw [a5]; rfl) b5)
    have HP7 := Lib.hid (HP6.out.other b5 (by omega) hqr)
    clear hW7 a5 b5 HP6 HQ6 q0 q1 q2 q3 q4 f4
    obtain ⟨q0, q1, q2, q3, q4⟩ := HQ7.out.pb.cells
    obtain ⟨r0, r1, r2, r3, r4⟩ := HP7.out.pb.cells
    have f0 := HP7.out.pb.free 0
    have f1 := HP7.out.pb.free 1
    have f2 := HP7.out.pb.free 2
    have f3 := HP7.out.pb.free 3
    have f4 := HP7.out.pb.free 4
    go_wp2_with fail
    obtain ⟨hp1, hg1⟩ := HP7.out.pb.store (k' := k) (n' := n) (t' := t) (l' := l) (d' := x)
    have HE := HP7.out.set hp1 hg1
    refine bodyPost_ret (results_pkt1 rfl _ _ w.heap.size rfl hp1) rfl ⟨k, n, t, l, x, by omega, rfl, HE.cu.mono (by omega), HE.gr⟩
  · have e0 : ¬ (p : Int) = 0 := by omega
    have e1 : ¬ (p : Int) = 1 := by omega
    have e2 : ¬ (p : Int) = 2 := by omega
    have e3 : ¬ (p : Int) = 3 := by omega
    clear h0 h1 h2 h3
    obtain ⟨q0, q1, q2, q3, q4⟩ := HQ5.out.pb.cells
    obtain ⟨r0, r1, r2, r3, r4⟩ := HP5.out.pb.cells
    have f0 := HP5.out.pb.free 0
    have f1 := HP5.out.pb.free 1
    have f2 := HP5.out.pb.free 2
    have f3 := HP5.out.pb.free 3
    have f4 := HP5.out.pb.free 4
    go_wp2_with fail
    obtain ⟨hp1, hg1⟩ := HP5.out.pb.store (k' := k) (n' := n) (t' := t) (l' := l) (d' := d)
    have HE := HP5.out.set hp1 hg1
    refine bodyPost_ret (results_pkt1 rfl _ _ w.heap.size rfl hp1) rfl ⟨k, n, t, l, d, by omega, rfl, HE.cu.mono (by omega), HE.gr⟩
end Go.Proofs.Ytkijfneaglogmaa
