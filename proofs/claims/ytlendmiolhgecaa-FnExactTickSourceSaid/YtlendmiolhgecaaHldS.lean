/-
  The laws' helpers at slices of Holds: sizes, copies, comparisons, marks.
-/
import Derived.Test.YtlendmiolhgecaaHldR
import Derived.Laws.ResultCell
import Derived.WalkLawsBesides
namespace Go.Proofs.Ytlendmiolhgecaa
open Go.RowKit Go.Lib Go.Joins
set_option linter.unusedVariables false

set_option maxHeartbeats 400000 in
theorem szHd_yes (a : Option Addr) (n cap : Nat) (l : Int) (w : World) (h : (n : Int) ≤ l) (hl : l ≤ 1048576) :
    Calls Try.prog 75 #[.slice a n cap, .int .i64 l] w fun e w' => e = .returned (.int .i64 (l - n)) ∧ w = w' := by
  have w1 : IntKind.i64.wrap (l - (n : Int)) = l - n := IntWalk.i64_in _ (by omega)
  have h2 : ¬ (l - (n : Int) < 0) := by omega
  go_enter Try.func75, Try.ntmps75
  go_wp2_with fail
  go_ret
  exact ⟨rfl, rfl⟩
set_option maxHeartbeats 400000 in
theorem szHd_no (a : Option Addr) (n cap : Nat) (l : Int) (w : World) (h : l < (n : Int)) (h0 : 0 ≤ l) (hn : n ≤ 9223372036854775807) :
    Calls Try.prog 75 #[.slice a n cap, .int .i64 l] w fun e w' => e = .returned (.int .i64 (-1)) ∧ w = w' := by
  have w1 : IntKind.i64.wrap (l - (n : Int)) = l - n := IntWalk.i64_in _ (by omega)
  have h2 : l - (n : Int) < 0 := by omega
  go_enter Try.func75, Try.ntmps75
  go_wp2_with fail
  go_ret
  exact ⟨rfl, rfl⟩
theorem results_Hd1 {fn : Func} {p : Tmp} (h : fn.results = #[.cell p 82]) (tmps : Array Value) (w : World) (g : Nat) {t : Hd} (hp : tmps.getD p undef = .pointer (some ⟨g, 0, none⟩)) (hg : Hb w g t) :
    (results fn tmps).run Try.prog w = .ok (hdV t) w := by
  have hp' : tmps[p]?.getD undef = .pointer (some ⟨g, 0, none⟩) := by simpa using hp
  unfold results hdV
  rw [h]
  simp [asAddr, hp', run_loadVar_row w g 82 82 _ _ _ hg Try.underlying82 (by rfl) (by kernel_rfl)]
set_option maxHeartbeats 400000 in
theorem toHd_any (t : Hd) (w : World) :
    Calls Try.prog 115 #[.agg #[.int .i64 t.n, .int .i64 t.u]] w fun e w' => e = .returned (.agg #[.int .i64 t.n, .int .i64 t.u]) ∧ Below w.heap.size w w' := by
  go_enter Try.func115, Try.ntmps115
  go_wp2_with fail
  refine bodyPost_ret (results_Hd1 (t := t) rfl _ _ (w.heap.size + 1) rfl ((heap_alloc_old _ _ (by simp)).trans (heap_second w _ _))) rfl ⟨rfl, ?_⟩
  exact (((Below.refl _ _).alloc (Nat.le_refl _) _).alloc (by simp) _).alloc (by simp; omega) _
theorem made_zeroHd {z0 : Value} (n : Nat) (xs : List Value) (h : 2 * n = xs.length) : madeCells #[z0, z0] (n * 2) = fillV xs z0 0 := by
  rw [fillV_zero]
  apply Array.ext_getElem?
  intro i
  unfold madeCells
  simp only [Array.getElem?_map, Array.getElem?_replicate]
  by_cases hi : i < xs.length
  · rw [if_pos hi, Array.getElem?_range, if_pos (by omega)]
    have : i % 2 = 0 ∨ i % 2 = 1 := by omega
    rcases this with h | h <;> simp [h]
  · rw [if_neg hi, Array.getElem?_range, if_neg (by omega)]
    rfl
theorem make_Hds (n : Nat) (ss : List Hd) (h : n = ss.length) (hn : n ≤ 1048576) (W : World) :
    (Instr.makeSlice 27 (.int .i64 (n : Int)) (.int .i64 (n : Int))).run Try.prog W = .ok (.slice (some ⟨W.heap.size, 0, none⟩) n n) (W.alloc (.cells (fillV (hdF ss) (.int .i64 0) 0) 82)) := by
  obtain ⟨i0, hi, hz0, hz1, hz2⟩ := info_parts infoHd
  rw [run_make (P := Try.prog) W 27 82 i0 (.agg #[.int .i64 0, .int .i64 0]) Try.underlying27 hi hz0 .i64 .i64 n n (by omega) (by omega) (by rw [hz2]; omega) (by omega), hz1, Int.toNat_natCast,
    show (Value.agg #[.int .i64 0, .int .i64 0]).cells = #[.int .i64 0, .int .i64 0] from rfl, made_zeroHd n (hdF ss) (by rw [hdF_len]; omega)]
theorem fillV_setHd {xs : List Value} {z u0 u1 : Value} {k : Nat} (h0 : xs[k * 2]? = some u0) (h1 : xs[k * 2 + 1]? = some u1) : (((fillV xs z (k * 2)).setIfInBounds (k * 2) u0).setIfInBounds (k * 2 + 1) u1) = fillV xs z ((k + 1) * 2) := by
  obtain ⟨a0, b0⟩ := List.getElem?_eq_some_iff.1 h0
  obtain ⟨a1, b1⟩ := List.getElem?_eq_some_iff.1 h1
  rw [← b0, fillV_set xs z (k * 2) a0, ← b1, fillV_set xs z (k * 2 + 1) a1, show (k + 1) * 2 = k * 2 + 1 + 1 by omega]
/-- A block that is filled. -/
def FbHd (w : World) (g : Nat) (s : List Hd) (k : Nat) : Prop := w.heap[g]? = some (.cells (fillV (hdF s) (.int .i64 0) (k * 2)) 82 (0, 0))
theorem FbHd.free {w : World} {g k : Nat} {s : List Hd} (h : FbHd w g s k) {i : Nat} (hi : i < s.length * 2) (hk : k ≤ s.length) : w.frozen? ⟨g, i, none⟩ = false ∧ ∃ u, w.cell? ⟨g, i, none⟩ = some u := by
  unfold FbHd at h
  have hsz : (fillV (hdF s) (.int .i64 0) (k * 2)).size = s.length * 2 := by rw [fillV_size _ _ _ (by rw [hdF_len]; omega), hdF_len]
  refine ⟨by simp [World.frozen?, h], (fillV (hdF s) (.int .i64 0) (k * 2))[i]'(by omega), ?_⟩
  rw [cell_of_block h]
  exact Array.getElem?_eq_getElem (by omega)
theorem FbHd.store {w : World} {g k : Nat} {s : List Hd} (h : FbHd w g s k) (hk : k < s.length) :
    FbHd ((w.setCell ⟨g, k * 2, none⟩ (.int .i64 s[k].n)).setCell ⟨g, k * 2 + 1, none⟩ (.int .i64 s[k].u)) g s (k + 1) ∧ w.grownBy ((w.setCell ⟨g, k * 2, none⟩ (.int .i64 s[k].n)).setCell ⟨g, k * 2 + 1, none⟩ (.int .i64 s[k].u)) (some g) := by
  obtain ⟨a0, b0⟩ := blk_set (i := k * 2) h (.int .i64 s[k].n)
  obtain ⟨a1, b1⟩ := blk_set (i := k * 2 + 1) a0 (.int .i64 s[k].u)
  obtain ⟨e0, e1⟩ := hdF_at hk
  refine ⟨?_, (grown_trans b0 b1)⟩
  unfold FbHd
  rw [a1, fillV_setHd e0 e1]
set_option maxHeartbeats 1000000 in
theorem toHdS_lit (v : Value) (s : List Hd) (w : World) (hrow : Row w v s.length (hdF s)) (hn : s.length ≤ 1048576) :
    Calls Try.prog 77 #[v] w fun e w' => ∃ g : Nat, e = .returned (.slice (some ⟨g, 0, none⟩) s.length s.length) ∧ w'.ownsRow w.heap.size 82 2 (.slice (some ⟨g, 0, none⟩) s.length s.length) s.length (hdF s) ∧ Below w.heap.size w w' := by
  obtain ⟨n, hN⟩ : ∃ n, n = s.length := ⟨_, rfl⟩
  have hmk := make_Hds n s hN (by omega)
  obtain ⟨a, cap, rfl, hc1, hm1, hcell⟩ := hd_open hrow
  have HC := Lib.hid hcell
  clear hcell hrow
  rw [← hN] at hn hc1 ⊢
  have HN := Lib.hid hN
  clear hN
  have HF0 : Hid (FbHd (w.alloc (.cells (fillV (hdF s) (.int .i64 0) 0) 82)) w.heap.size s 0) := Lib.hid (by unfold FbHd; rw [Nat.zero_mul]; exact heap_alloc_new w _)
  have HB0 := Lib.hid ((Below.refl w.heap.size w).alloc (Nat.le_refl _) (.cells (fillV (hdF s) (.int .i64 0) 0) 82))
  go_enter Try.func77, Try.ntmps77
  go_wp2_with fail
  clear hmk
  go_loopw [4] (fun i wr => ∃ k : Nat, k ≤ n ∧ i = .int .i64 k ∧ Hid (FbHd wr w.heap.size s k) ∧ Hid (Below w.heap.size w wr)) (fun i _ => n - (intOf i).toNat)
  case atStart => exact ⟨0, Nat.zero_le _, rfl, HF0, HB0⟩
  case round =>
    clear HF0 HB0
    obtain ⟨k, hk, rfl, HF, HB⟩ := hrel
    by_cases hkn : k < n
    · have hks : k < s.length := by rw [← HN.out]; exact hkn
      obtain ⟨b, off, rfl, hb, q0, q1⟩ := HC.out k hks
      have r0 := HB.out.cell hb |>.trans q0
      have r1 := HB.out.cell hb |>.trans q1
      clear q0 q1
      have HK := Lib.hid (fun (W : World) (h : FbHd W w.heap.size s k) => h.store hks)
      have HK2 := Lib.hid (fun (W : World) (h : FbHd W w.heap.size s k) => (And.intro (h.free (i := k * 2) (by omega) (by omega)) (h.free (i := k * 2 + 1) (by omega) (by omega))))
      generalize s[k].n = x0 at r0 HK
      generalize s[k].u = x1 at r1 HK
      go_wp2_with fail
      refine (toHd_any ⟨x0, x1⟩ _).mono ?_
      rintro e w1 ⟨rfl, l1⟩
      have hlt : w.heap.size < wr.heap.size := (Array.getElem?_eq_some_iff.1 HF.out).1
      have HF1 : Hid (FbHd w1 w.heap.size s k) := Lib.hid ((l1.block _ hlt).trans HF.out)
      have HB1 := Lib.hid (HB.out.trans (l1.mono HB.out.size))
      obtain ⟨⟨f0, u0, c0⟩, f1, u1, c1⟩ := HK2.out w1 HF1.out
      clear l1 r0 r1
      go_wp2_with fail
      go_roundw
      case rel => exact ⟨k + 1, by omega, by go_num, Lib.hid (HK.out _ HF1.out).1, Lib.hid (HB1.out.grown (HK.out _ HF1.out).2 HB1.out.size (fun q hq => by have e2 : w.heap.size = q := Option.some.inj hq; omega))⟩
      case measure => (simp [intOf]; omega)
    · obtain rfl : k = n := by omega
      have HF2 : Hid (wr.heap[w.heap.size]? = some (.cells (hdF s).toArray 82 (0, 0))) := Lib.hid (by
        have h := HF.out
        unfold FbHd at h
        rw [HN.out, show s.length * 2 = (hdF s).length from (hdF_len s).symm, fillV_all] at h
        exact h)
      go_wp2_with fail
      go_ret
      refine ⟨w.heap.size, rfl, ?_, HB.out⟩
      have hl : (hdF s).length = k * 2 := by rw [HN.out]; exact hdF_len s
      exact ⟨hl, .inr ⟨w.heap.size, k, (hdF s).toArray, rfl, Nat.le_refl _, HF2.out, Nat.le_refl _, by unfold maxLen; omega, by simp [hl], by rw [← hl]; simp⟩⟩
set_option maxHeartbeats 400000 in
theorem eqHd_same (t : Hd) (w : World) :
    Calls Try.prog 110 #[.agg #[.int .i64 t.n, .int .i64 t.u], .agg #[.int .i64 t.n, .int .i64 t.u]] w fun e w' => e = .returned (.bool true) ∧ Below w.heap.size w w' := by
  go_enter Try.func110, Try.ntmps110
  go_wp2_with fail
  go_ret
  exact ⟨rfl, ((Below.refl _ _).alloc (Nat.le_refl _) _).alloc (by simp) _⟩
theorem keep4Hd {W w' : World} {a0 a1 a2 a3 : Addr} {v0 v1 v2 v3 : Value} {B : Nat} (h0 : W.cell? a0 = some v0) (h1 : W.cell? a1 = some v1) (h2 : W.cell? a2 = some v2) (h3 : W.cell? a3 = some v3)
    (b0 : a0.block < B) (b1 : a1.block < B) (b2 : a2.block < B) (b3 : a3.block < B) (hb : Below B W w') :
    w'.cell? a0 = some v0 ∧ w'.cell? a1 = some v1 ∧ w'.cell? a2 = some v2 ∧ w'.cell? a3 = some v3 ∧ Below B W w' :=
  ⟨(hb.cell b0).trans h0, (hb.cell b1).trans h1, (hb.cell b2).trans h2, (hb.cell b3).trans h3, hb⟩
set_option maxRecDepth 100000 in
set_option maxHeartbeats 4000000 in
theorem eqHdS_same (v1 v2 : Value) (s : List Hd) (w : World) (h1 : Row w v1 s.length (hdF s)) (h2 : Row w v2 s.length (hdF s)) :
    Calls Try.prog 69 #[v1, v2] w fun e w' => e = .returned (.bool true) ∧ Below w.heap.size w w' := by
  obtain ⟨a1, c1, rfl, hc1, hm1, hcell1⟩ := hd_open h1
  obtain ⟨a2, c2, rfl, hc2, hm2, hcell2⟩ := hd_open h2
  have HC1 := Lib.hid hcell1
  have HC2 := Lib.hid hcell2
  clear hcell1 hcell2 h1 h2
  unfold maxLen at hm1 hm2
  obtain ⟨n, hN⟩ : ∃ n, n = s.length := ⟨_, rfl⟩
  rw [← hN] at hc1 hc2 ⊢
  have HN := Lib.hid hN
  clear hN
  have HR0 := Lib.hid (Below.refl w.heap.size w)
  go_enter Try.func69, Try.ntmps69
  go_wp2_with fail
  go_loopw [5] (fun i wr => ∃ k : Nat, k ≤ n ∧ i = .int .i64 k ∧ Hid (Below w.heap.size w wr)) (fun i _ => n - (intOf i).toNat)
  case atStart => exact ⟨0, Nat.zero_le _, rfl, HR0⟩
  case round =>
    clear HR0
    obtain ⟨k, hk, rfl, HB⟩ := hrel
    by_cases hkn : k < n
    · have hks : k < s.length := by rw [← HN.out]; exact hkn
      obtain ⟨b1, o1, rfl, hb1, p0, p1⟩ := HC1.out k hks
      obtain ⟨b2, o2, rfl, hb2, p2, p3⟩ := HC2.out k hks
      have q0 := (HB.out.cell hb1).trans p0
      have q1 := (HB.out.cell hb1).trans p1
      have q2 := (HB.out.cell hb2).trans p2
      have q3 := (HB.out.cell hb2).trans p3
      have g1 : b1 < wr.heap.size := Nat.lt_of_lt_of_le hb1 HB.out.size
      have g2 : b2 < wr.heap.size := Nat.lt_of_lt_of_le hb2 HB.out.size
      clear p0 p1 p2 p3
      generalize s[k].n = x0 at q0 q2
      generalize s[k].u = x1 at q1 q3
      obtain ⟨W0, hW0⟩ : ∃ W0, W0 = wr := ⟨_, rfl⟩
      have HQ := Lib.hid (fun (w' : World) (hb : Below W0.heap.size W0 w') => keep4Hd (hW0 ▸ q0) (hW0 ▸ q1) (hW0 ▸ q2) (hW0 ▸ q3) (by rw [hW0]; exact g1) (by rw [hW0]; exact g1) (by rw [hW0]; exact g2) (by rw [hW0]; exact g2) hb)
      have HBW : Hid (Below w.heap.size w W0) := Lib.hid (by rw [hW0]; exact HB.out)
      rw [← hW0] at q0 q1 q2 q3 ⊢
      clear hW0 HB g1 g2
      go_wp2_with fail
      go_region_held3 (fun w' => w'.cell? ⟨b1, o1 + k * 2, none⟩ = some (.int .i64 x0) ∧ w'.cell? ⟨b1, o1 + k * 2 + 1, none⟩ = some (.int .i64 x1) ∧ w'.cell? ⟨b2, o2 + k * 2, none⟩ = some (.int .i64 x0) ∧ w'.cell? ⟨b2, o2 + k * 2 + 1, none⟩ = some (.int .i64 x1) ∧ Below W0.heap.size W0 w')
        ((refine HQ.out _ ?_; repeat (first | assumption | exact Below.refl _ _ | refine Below.drew ?_)))
        (first | (go_at_call 110; refine (eqHd_same ⟨x0, x1⟩ _).mono ?_; rintro e w5 ⟨rfl, l5⟩; have hb5 := below_call (W0 := W0) (by repeat (first | assumption | exact Below.refl _ _ | refine Below.drew ?_)) l5))
      all_goals go_wp2_with fail
      all_goals
        go_roundw
        case rel => exact ⟨k + 1, by omega, by go_num, Lib.hid (HBW.out.trans (Below.mono (by repeat (first | assumption | exact Below.refl _ _ | refine Below.drew ?_) : Below W0.heap.size W0 _) HBW.out.size))⟩
        case measure => (simp [intOf]; omega)
    · obtain rfl : k = n := by omega
      go_wp2_with fail
      go_ret
      exact ⟨rfl, HB.out⟩
set_option maxRecDepth 100000 in
set_option maxHeartbeats 2000000 in
theorem markHdS_any (g n cap k base : Nat) (xs : List Value) (w : World) (hown : w.ownsRow base 82 2 (.slice (some ⟨g, 0, none⟩) n cap) n xs) (hk : k + 2 * n ≤ 100000000) :
    Calls Try.prog 71 #[.slice (some ⟨g, 0, none⟩) n cap, .int .i64 k] w fun e w' => e = .returned (.int .i64 (k + 2 * n : Nat)) ∧
      w'.ownsRow base 82 2 (.slice (some ⟨g, 0, none⟩) n cap) n (marksR k (2 * n)) ∧ w.grownBy w' (some g) := by
  have hxl : xs.length = 2 * n := by have := hown.1; omega
  have HX := Lib.hid hxl
  clear hxl
  go_enter Try.func71, Try.ntmps71
  go_wp2_with fail
  go_loopw [1, 5] (fun z i wr => ∃ j : Nat, j ≤ n ∧ i = .int .i64 j ∧ z = .int .i64 (k + 2 * j : Nat) ∧ wr.ownsRow base 82 2 (.slice (some ⟨g, 0, none⟩) n cap) n (marksR k (j * 2) ++ xs.drop (j * 2)) ∧ w.grownBy wr (some g)) (fun _ i _ => n - (intOf i).toNat)
  case atStart => exact ⟨0, Nat.zero_le _, rfl, rfl, by simpa [marksR] using hown, ⟨rfl, rfl, rfl, Nat.le_refl _, fun _ _ _ => rfl⟩⟩
  case round =>
    obtain ⟨j, hj, rfl, rfl, ho, hg⟩ := hrel
    by_cases hjn : j < n
    · have hx0 : j * 2 < xs.length := by rw [HX.out]; omega
      have hx1 : j * 2 + 1 < xs.length := by rw [HX.out]; omega
      obtain ⟨c0, f0, _, _⟩ := ownz_facts ho (j := j * 2) (by rw [ho.1]; omega)
      obtain ⟨m, hm⟩ : ∃ m : Nat, m = k + 2 * j := ⟨_, rfl⟩
      have HM := Lib.hid hm
      rw [← hm]
      have hmb : m ≤ 100000000 := by omega
      have s0 := ownz_set ho (j := j * 2) (.int .i64 (m : Int))
      rw [marksR_set' k (j * 2) xs hx0 (by rw [hm]; push_cast; omega)] at s0
      obtain ⟨c1, f1, _, _⟩ := ownz_facts s0.1 (j := j * 2 + 1) (by rw [s0.1.1]; omega)
      have s1 := ownz_set s0.1 (j := j * 2 + 1) (.int .i64 ((m : Int) + 1))
      rw [marksR_set' k (j * 2 + 1) xs hx1 (by rw [hm]; push_cast; omega)] at s1
      have HS0 := Lib.hid s0.2
      have HS1 := Lib.hid s1
      have HG := Lib.hid hg
      generalize (marksR k (j * 2) ++ xs.drop (j * 2))[j * 2]'(by rw [ho.1]; omega) = u0 at c0
      generalize (marksR k (j * 2 + 1) ++ xs.drop (j * 2 + 1))[j * 2 + 1]'(by rw [s0.1.1]; omega) = u1 at c1
      clear hm s0 s1 ho hg
      go_wp2_with fail
      go_roundw
      case rel => exact ⟨j + 1, by omega, by go_num, vint (by have := HM.out; omega), by have h := HS1.out.1; rw [show j * 2 + 1 + 1 = (j + 1) * 2 by omega] at h; exact h, grown_trans (grown_trans HG.out HS0.out) HS1.out.2⟩
      case measure => (simp [intOf]; omega)
    · obtain rfl : j = n := by omega
      go_wp2_with fail
      go_ret
      exact ⟨rfl, by rw [List.drop_of_length_le (by rw [HX.out]; omega), List.append_nil, show j * 2 = 2 * j by omega] at ho; exact ho, hg⟩
set_option maxHeartbeats 400000 in
theorem markHd_own (v : Value) (n k base : Nat) (xs : List Value) (w : World) (hown : w.ownsRow base 82 2 v n xs) (hk : k + 2 * n ≤ 100000000) :
    Calls Try.prog 71 #[v, .int .i64 k] w fun e w' => e = .returned (.int .i64 (k + 2 * n : Nat)) ∧
      w'.ownsRow base 82 2 v n (marksR k (2 * n)) ∧ w.grownBy w' v.ownBlock := by
  have h0' := hown
  obtain ⟨hl, ⟨rfl, rfl⟩ | ⟨g, cap, cur, rfl, hb, hg, hn, hm, hs, ht⟩⟩ := hown
  · clear h0' hl
    go_enter Try.func71, Try.ntmps71
    go_wp2_with fail
    refine wp_loop_rounds 1 ?_
    rw [rounds_succ]
    go_wp2_with fail
    go_ret
    exact ⟨rfl, by simpa [marksR] using World.ownsRow_nil w base _ 2, ⟨rfl, rfl, rfl, Nat.le_refl _, fun _ _ _ => rfl⟩⟩
  · exact markHdS_any g n cap k base xs w h0' hk
set_option maxRecDepth 100000 in
set_option maxHeartbeats 2000000 in
theorem heldHdS_any (g n cap k base : Nat) (w : World) (hown : w.ownsRow base 82 2 (.slice (some ⟨g, 0, none⟩) n cap) n (marksR k (2 * n))) (hk : k + 2 * n ≤ 100000000) :
    Calls Try.prog 73 #[.slice (some ⟨g, 0, none⟩) n cap, .int .i64 k] w fun e w' => e = .returned (.int .i64 (k + 2 * n : Nat)) ∧ w = w' := by
  go_enter Try.func73, Try.ntmps73
  go_wp2_with fail
  go_loop [1, 5] (fun z i => ∃ j : Nat, j ≤ n ∧ i = .int .i64 j ∧ z = .int .i64 (k + 2 * j : Nat)) (fun _ i => n - (intOf i).toNat)
  case atStart => exact ⟨0, Nat.zero_le _, rfl, rfl⟩
  case round =>
    obtain ⟨j, hj, rfl, rfl⟩ := hrel
    by_cases hjn : j < n
    · obtain ⟨c0, _, _, _⟩ := ownz_facts hown (j := j * 2) (by rw [marksR_length]; omega)
      obtain ⟨c1, _, _, _⟩ := ownz_facts hown (j := j * 2 + 1) (by rw [marksR_length]; omega)
      obtain ⟨m, hm⟩ : ∃ m : Nat, m = k + 2 * j := ⟨_, rfl⟩
      have HM := Lib.hid hm
      have e0 : (marksR k (2 * n))[j * 2]'(by rw [marksR_length]; omega) = .int .i64 (m : Int) := mkR_eq (n := 2 * n) (List.getElem?_eq_getElem _) (by omega) |>.trans (vint (by rw [hm]; push_cast; omega))
      have e1 : (marksR k (2 * n))[j * 2 + 1]'(by rw [marksR_length]; omega) = .int .i64 ((m : Int) + 1) := mkR_eq (n := 2 * n) (List.getElem?_eq_getElem _) (by omega) |>.trans (vint (by rw [hm]; push_cast; omega))
      rw [e0] at c0
      rw [e1] at c1
      clear e0 e1
      rw [← hm]
      have hmb : m ≤ 100000000 := by omega
      clear hm
      go_wp2_with fail
      go_round
      case rel => exact ⟨j + 1, by omega, by go_num, vint (by have := HM.out; omega)⟩
      case measure => (simp [intOf]; omega)
    · obtain rfl : j = n := by omega
      go_wp2_with fail
      go_ret
      exact ⟨rfl, rfl⟩
set_option maxHeartbeats 400000 in
theorem heldHd_own (v : Value) (n k base : Nat) (w : World) (hown : w.ownsRow base 82 2 v n (marksR k (2 * n))) (hk : k + 2 * n ≤ 100000000) :
    Calls Try.prog 73 #[v, .int .i64 k] w fun e w' => e = .returned (.int .i64 (k + 2 * n : Nat)) ∧ w = w' := by
  have h0' := hown
  obtain ⟨hl, ⟨rfl, rfl⟩ | ⟨g, cap, cur, rfl, hb, hg, hn, hm, hs, ht⟩⟩ := hown
  · clear h0' hl
    go_enter Try.func73, Try.ntmps73
    go_wp2_with fail
    refine wp_loop_rounds 1 ?_
    rw [rounds_succ]
    go_wp2_with fail
    go_ret
    exact ⟨rfl, rfl⟩
  · exact heldHdS_any g n cap k base w h0' hk
end Go.Proofs.Ytlendmiolhgecaa
