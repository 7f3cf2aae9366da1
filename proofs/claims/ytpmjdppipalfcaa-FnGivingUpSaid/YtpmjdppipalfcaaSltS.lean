/-
  The laws' helpers at slices of Slots.
-/
import Derived.Test.YtpmjdppipalfcaaSltR
import Derived.Test.YtpmjdppipalfcaaMark
import Derived.Test.YtpmjdppipalfcaaFit
import Derived.Laws.ResultCell
import Derived.WalkLawsBesides
import Derived.Deep.CutRange
import Derived.BigQuiet
import Derived.Deep.RegionHeld3
namespace Go.Proofs.Ytpmjdppipalfcaa
open Go.RowKit Go.Lib Go.Joins
set_option linter.unusedVariables false

set_option maxHeartbeats 1000000 in
theorem szSl_any (t : Sl) (w : World) (hm1 : t.s.size ≤ maxLen) (left : Nat) (hl : left ≤ 1048576) :
    Calls Try.prog 78 #[.agg #[.bool t.h, .string t.s], .int .i64 left] w fun e w' => Below w.heap.size w w' ∧ ∃ r : Int, e = .returned (.int .i64 r) ∧ (r < 0 ∨ ((t.s.size ≤ left) ∧ 0 ≤ r ∧ r ≤ left)) := by
  unfold maxLen at hm1
  by_cases h0 : (left : Int) - (t.s.size : Int) < 0
  · go_enter Try.func78, Try.ntmps78
    go_wp2_with fail
    go_ret
    exact ⟨(Below.refl _ _).alloc (Nat.le_refl _) _, -1, rfl, .inl (by omega)⟩
  · go_enter Try.func78, Try.ntmps78
    go_wp2_with fail
    go_ret
    exact ⟨(Below.refl _ _).alloc (Nat.le_refl _) _, _, rfl, .inr ⟨by omega, by omega, by omega⟩⟩
set_option maxRecDepth 100000 in
set_option maxHeartbeats 2000000 in
theorem szSlS_le (v : Value) (s : List Sl) (w : World) (hrow : Row w v s.length (slF s)) (hm : ∀ t ∈ s, t.s.size ≤ maxLen) (left : Nat) (hl : left ≤ 1048576) :
    Calls Try.prog 60 #[v, .int .i64 left] w fun e w' => Below w.heap.size w w' ∧ ∃ r : Int, e = .returned (.int .i64 r) ∧ (r < 0 ∨ (s.length ≤ left ∧ 0 ≤ r ∧ r ≤ left)) := by
  obtain ⟨a, cap, rfl, hc1, hm1, hcell⟩ := sl_open hrow
  have HC := Lib.hid hcell
  have HM := Lib.hid hm
  clear hcell hrow hm
  unfold maxLen at hm1
  obtain ⟨n, hN⟩ : ∃ n, n = s.length := ⟨_, rfl⟩
  rw [← hN] at hc1 ⊢
  have HN := Lib.hid hN
  clear hN
  by_cases hbig : (left : Int) - (n : Int) < 0
  · go_enter Try.func60, Try.ntmps60
    go_wp2_with fail
    go_ret
    exact ⟨Below.refl _ _, -1, rfl, .inl (by omega)⟩
  · have HB0 := Lib.hid (Below.refl w.heap.size w)
    go_enter Try.func60, Try.ntmps60
    go_wp2_with fail
    go_loopw [1, 5] (fun z i wr => ∃ (k r : Nat), k ≤ n ∧ i = .int .i64 k ∧ z = .int .i64 r ∧ r ≤ left ∧ Hid (Below w.heap.size w wr)) (fun _ i _ => n - (RowKit.intOf i).toNat)
    case atStart => exact ⟨0, left - n, Nat.zero_le _, rfl, by congr 1; omega, by omega, HB0⟩
    case round =>
      clear HB0
      obtain ⟨k, r, hk, rfl, rfl, hr, HB⟩ := hrel
      by_cases hkn : k < n
      · have hks : k < s.length := by rw [← HN.out]; exact hkn
        obtain ⟨b, off, rfl, hb, c0, c1⟩ := HC.out k hks
        have d0 := (HB.out.cell hb).trans c0
        have d1 := (HB.out.cell hb).trans c1
        have HZ := Lib.hid (fun (W : World) => szSl_any s[k] W (HM.out _ (List.getElem_mem hks)) r (by omega))
        clear c0 c1
        generalize s[k] = t at d0 d1 HZ
        go_wp2_with fail
        refine (HZ.out _).mono ?_
        rintro e w5 ⟨l5, x, rfl, hx⟩
        have HB5 := Lib.hid (HB.out.trans (l5.mono HB.out.size))
        clear l5
        by_cases hx0 : x < 0
        · clear hx
          go_wp2_with fail
          go_ret
          exact ⟨HB5.out, -1, rfl, .inl (by omega)⟩
        · obtain ⟨-, h1, h2⟩ := hx.resolve_left hx0
          clear hx
          go_wp2_with fail
          go_roundw
          case rel => exact ⟨k + 1, x.toNat, by omega, by go_num, by congr 1; omega, by omega, HB5⟩
          case measure => (simp [RowKit.intOf]; omega)
      · obtain rfl : k = n := by omega
        go_wp2_with fail
        go_ret
        exact ⟨HB.out, _, rfl, .inr ⟨by omega, by omega, by omega⟩⟩
set_option maxHeartbeats 1000000 in
theorem toSl_any (t : Sl) (w : World) :
    Calls Try.prog 79 #[.agg #[.bool t.h, .string t.s]] w fun e w' => e = .returned (.agg #[.bool t.h, .string t.s]) ∧ Below w.heap.size w w' := by
  go_enter Try.func79, Try.ntmps79
  go_wp2_with fail
  refine bodyPost_ret (results_bx rfl isSl _ _ (w.heap.size + 1) rfl rfl ((heap_alloc_old _ _ (by simp)).trans (heap_second w _ _))) rfl ⟨rfl, ?_⟩
  exact (((Below.refl _ _).alloc (Nat.le_refl _) _).alloc (by simp) _).alloc (by simp; omega) _
/-- A block that is filled: the first k elements are there. -/
def FbSl (w : World) (g : Nat) (s : List Sl) (k : Nat) : Prop := ∃ cs : Array Value, w.heap[g]? = some (.cells cs 66 (0, 0)) ∧ cs.size = s.length * 2 ∧ cs.toList.take (k * 2) = slF (s.take k)
theorem FbSl.free {w : World} {g k : Nat} {s : List Sl} (h : FbSl w g s k) {i : Nat} (hi : i < s.length * 2) : w.frozen? ⟨g, i, none⟩ = false ∧ ∃ u, w.cell? ⟨g, i, none⟩ = some u := by
  obtain ⟨cs, hg, hz, -⟩ := h
  refine ⟨by simp [World.frozen?, hg], cs[i]'(by omega), ?_⟩
  rw [cell_of_block hg]
  exact Array.getElem?_eq_getElem (by omega)
theorem FbSl.store {w : World} {g k : Nat} {s : List Sl} (h : FbSl w g s k) (hk : k < s.length) :
    FbSl ((w.setCell ⟨g, k * 2, none⟩ (.bool s[k].h)).setCell ⟨g, k * 2 + 1, none⟩ (.string s[k].s)) g s (k + 1) ∧ w.grownBy ((w.setCell ⟨g, k * 2, none⟩ (.bool s[k].h)).setCell ⟨g, k * 2 + 1, none⟩ (.string s[k].s)) (some g) := by
  obtain ⟨cs, hg, hz, ht⟩ := h
  obtain ⟨a0, b0⟩ := (show Bx w g cs 66 from hg).set (k * 2) (.bool s[k].h)
  obtain ⟨a1, b1⟩ := a0.set (k * 2 + 1) (.string s[k].s)
  refine ⟨⟨_, a1, by simp [hz], ?_⟩, (grown_trans b0 b1)⟩
  rw [List.take_succ_eq_append_getElem hk, slF_snoc, ← ht, show (k + 1) * 2 = k * 2 + 2 by omega]
  apply List.ext_getElem?
  intro i
  simp only [Array.toList_setIfInBounds, List.getElem?_take, List.getElem?_append, List.length_take, Array.length_toList, List.getElem?_set, List.length_set, hz, slC]
  by_cases h1 : i < k * 2
  · rw [if_pos (show i < k * 2 + 2 by omega), if_neg (show ¬ k * 2 + 1 = i by omega), if_neg (show ¬ k * 2 = i by omega), if_pos (show i < min (k * 2) (s.length * 2) by omega), if_pos h1]
  · by_cases h2 : i < k * 2 + 2
    · rw [if_pos h2, if_neg (show ¬ i < min (k * 2) (s.length * 2) by omega)]
      obtain ⟨r, hr, rfl⟩ : ∃ r, r < 2 ∧ i = k * 2 + r := ⟨i - k * 2, by omega, by omega⟩
      have e : k * 2 + r - min (k * 2) (s.length * 2) = r := by omega
      rw [e]
      match r, hr with
      | 0, _ => rw [if_neg (show ¬ k * 2 + 1 = k * 2 + 0 by omega), if_pos (show k * 2 = k * 2 + 0 by omega), if_pos (show k * 2 < s.length * 2 by omega)]; rfl
      | 1, _ => rw [if_pos (show k * 2 + 1 = k * 2 + 1 by omega), if_pos (show k * 2 + 1 < s.length * 2 by omega)]; rfl
    · rw [if_neg h2, if_neg (show ¬ i < min (k * 2) (s.length * 2) by omega), List.getElem?_eq_none (by simp; omega)]
theorem make_Sls (n : Nat) (hn : n ≤ 1048576) (W : World) : ∃ cs : Array Value, cs.size = n * 2 ∧
    (Instr.makeSlice 24 (.int .i64 (n : Int)) (.int .i64 (n : Int))).run Try.prog W = .ok (.slice (some ⟨W.heap.size, 0, none⟩) n n) (W.alloc (.cells cs 66)) := by
  obtain ⟨i0, hi, hz0, hz1, hz2⟩ := info_parts infoSl
  have h := run_make (P := Try.prog) W 24 66 i0 (.agg #[.bool false, .string ⟨#[]⟩]) Try.underlying24 hi hz0 .i64 .i64 n n (by omega) (by omega) (by rw [hz2]; omega) (by omega)
  rw [hz1, Int.toNat_natCast] at h
  exact ⟨_, by simp [madeCells], h⟩
set_option maxHeartbeats 1000000 in
theorem toSlS_lit (v : Value) (s : List Sl) (w : World) (hrow : Row w v s.length (slF s)) (hn : s.length ≤ 1048576) :
    Calls Try.prog 61 #[v] w fun e w' => ∃ g : Nat, e = .returned (.slice (some ⟨g, 0, none⟩) s.length s.length) ∧ w'.ownsRow w.heap.size 66 2 (.slice (some ⟨g, 0, none⟩) s.length s.length) s.length (slF s) ∧ Below w.heap.size w w' := by
  obtain ⟨n, hN⟩ : ∃ n, n = s.length := ⟨_, rfl⟩
  obtain ⟨a, cap, rfl, hc1, hm1, hcell⟩ := sl_open hrow
  have HC := Lib.hid hcell
  clear hcell hrow
  rw [← hN] at hn hc1 ⊢
  obtain ⟨cs, hcs, hmk⟩ := make_Sls n (by omega) w
  have HN := Lib.hid hN
  have HF0 : Hid (FbSl (w.alloc (.cells cs 66)) w.heap.size s 0) := Lib.hid ⟨cs, heap_alloc_new w _, by rw [hcs, hN], by simp [slF_nil]⟩
  have HB0 := Lib.hid ((Below.refl w.heap.size w).alloc (Nat.le_refl _) (.cells cs 66))
  clear hN hcs
  go_enter Try.func61, Try.ntmps61
  go_wp2_with fail
  clear hmk
  go_loopw [4] (fun i wr => ∃ k : Nat, k ≤ n ∧ i = .int .i64 k ∧ Hid (FbSl wr w.heap.size s k) ∧ Hid (Below w.heap.size w wr)) (fun i _ => n - (RowKit.intOf i).toNat)
  case atStart => exact ⟨0, Nat.zero_le _, rfl, HF0, HB0⟩
  case round =>
    clear HF0 HB0
    obtain ⟨k, hk, rfl, HF, HB⟩ := hrel
    by_cases hkn : k < n
    · have hks : k < s.length := by rw [← HN.out]; exact hkn
      obtain ⟨b, off, rfl, hb, q0, q1⟩ := HC.out k hks
      have r0 := HB.out.cell hb |>.trans q0
      have r1 := HB.out.cell hb |>.trans q1
      clear q0 q1
      have HK := Lib.hid (fun (W : World) (h : FbSl W w.heap.size s k) => h.store hks)
      have HK2 := Lib.hid (fun (W : World) (h : FbSl W w.heap.size s k) => (And.intro (h.free (i := k * 2) (by omega)) (h.free (i := k * 2 + 1) (by omega))))
      generalize s[k].h = x0 at r0 HK
      generalize s[k].s = x1 at r1 HK
      go_wp2_with fail
      refine (toSl_any ⟨x0, x1⟩ _).mono ?_
      rintro e w1 ⟨rfl, l1⟩
      have hlt : w.heap.size < wr.heap.size := by obtain ⟨c9, h9, -⟩ := HF.out; exact (Array.getElem?_eq_some_iff.1 h9).1
      have HF1 : Hid (FbSl w1 w.heap.size s k) := Lib.hid (by obtain ⟨c9, h9, h8⟩ := HF.out; exact ⟨c9, (l1.block _ hlt).trans h9, h8⟩)
      have HB1 := Lib.hid (HB.out.trans (l1.mono HB.out.size))
      obtain ⟨⟨f0, u0, c0⟩, f1, u1, c1⟩ := HK2.out w1 HF1.out
      clear l1 r0 r1
      go_wp2_with fail
      go_roundw
      case rel => exact ⟨k + 1, by omega, by go_num, Lib.hid (HK.out _ HF1.out).1, Lib.hid (HB1.out.grown (HK.out _ HF1.out).2 HB1.out.size (fun q hq => by have e2 : w.heap.size = q := Option.some.inj hq; omega))⟩
      case measure => (simp [RowKit.intOf]; omega)
    · obtain rfl : k = n := by omega
      go_wp2_with fail
      go_ret
      refine ⟨w.heap.size, rfl, ?_, HB.out⟩
      obtain ⟨c9, h9, h8, h7⟩ := HF.out
      have hl : (slF s).length = k * 2 := by rw [HN.out]; exact slF_len s
      have h6 : c9.toList = slF s := by
        rw [HN.out, List.take_of_length_le (Nat.le_refl s.length), List.take_of_length_le (by rw [Array.length_toList, h8]; exact Nat.le_refl _)] at h7
        exact h7
      exact ⟨hl, .inr ⟨w.heap.size, k, c9, rfl, Nat.le_refl _, h9, Nat.le_refl _, by unfold maxLen; omega, by rw [h8, ← HN.out], by rw [h6, ← hl]; simp⟩⟩
set_option maxHeartbeats 1000000 in
theorem eqSl_same (t : Sl) (w : World) :
    Calls Try.prog 80 #[.agg #[.bool t.h, .string t.s], .agg #[.bool t.h, .string t.s]] w fun e w' => e = .returned (.bool true) ∧ Below w.heap.size w w' := by
  go_enter Try.func80, Try.ntmps80
  go_wp2_with fail
  go_ret
  exact ⟨rfl, ((Below.refl _ _).alloc (Nat.le_refl _) _).alloc (by simp) _⟩
theorem keep4Sl {W w' : World} {a0 a1 a2 a3 : Addr} {v0 v1 v2 v3 : Value} {B : Nat} (h0 : W.cell? a0 = some v0) (h1 : W.cell? a1 = some v1) (h2 : W.cell? a2 = some v2) (h3 : W.cell? a3 = some v3)
    (b0 : a0.block < B) (b1 : a1.block < B) (b2 : a2.block < B) (b3 : a3.block < B) (hb : Below B W w') :
    w'.cell? a0 = some v0 ∧ w'.cell? a1 = some v1 ∧ w'.cell? a2 = some v2 ∧ w'.cell? a3 = some v3 ∧ Below B W w' :=
  ⟨(hb.cell b0).trans h0, (hb.cell b1).trans h1, (hb.cell b2).trans h2, (hb.cell b3).trans h3, hb⟩
set_option maxRecDepth 100000 in
set_option maxHeartbeats 4000000 in
theorem eqSlS_same (v1 v2 : Value) (s : List Sl) (w : World) (h1 : Row w v1 s.length (slF s)) (h2 : Row w v2 s.length (slF s)) :
    Calls Try.prog 62 #[v1, v2] w fun e w' => e = .returned (.bool true) ∧ Below w.heap.size w w' := by
  obtain ⟨a1, c1, rfl, hc1, hm1, hcell1⟩ := sl_open h1
  obtain ⟨a2, c2, rfl, hc2, hm2, hcell2⟩ := sl_open h2
  have HC1 := Lib.hid hcell1
  have HC2 := Lib.hid hcell2
  clear hcell1 hcell2 h1 h2
  unfold maxLen at hm1 hm2
  obtain ⟨n, hN⟩ : ∃ n, n = s.length := ⟨_, rfl⟩
  rw [← hN] at hc1 hc2 ⊢
  have HN := Lib.hid hN
  clear hN
  have HR0 := Lib.hid (Below.refl w.heap.size w)
  go_enter Try.func62, Try.ntmps62
  go_wp2_with fail
  go_loopw [5] (fun i wr => ∃ k : Nat, k ≤ n ∧ i = .int .i64 k ∧ Hid (Below w.heap.size w wr)) (fun i _ => n - (RowKit.intOf i).toNat)
  case atStart => exact ⟨0, Nat.zero_le _, rfl, HR0⟩
  case round =>
    clear HR0
    obtain ⟨k, hk, rfl, HB⟩ := hrel
    by_cases hkn : k < n
    · have hks : k < s.length := by rw [← HN.out]; exact hkn
      obtain ⟨b1, o1, rfl, hb1, p0, p1⟩ := HC1.out k hks
      obtain ⟨b2, o2, rfl, hb2, p2, p3⟩ := HC2.out k hks
      have q0 := (HB.out.cell hb1).trans p0
      have q1 := (HB.out.cell hb1).trans p1
      have q2 := (HB.out.cell hb2).trans p2
      have q3 := (HB.out.cell hb2).trans p3
      have g1 : b1 < wr.heap.size := Nat.lt_of_lt_of_le hb1 HB.out.size
      have g2 : b2 < wr.heap.size := Nat.lt_of_lt_of_le hb2 HB.out.size
      clear p0 p1 p2 p3
      generalize s[k].h = x0 at q0 q2
      generalize s[k].s = x1 at q1 q3
      obtain ⟨W0, hW0⟩ : ∃ W0, W0 = wr := ⟨_, rfl⟩
      have HQ := Lib.hid (fun (w' : World) (hb : Below W0.heap.size W0 w') => keep4Sl (hW0 ▸ q0) (hW0 ▸ q1) (hW0 ▸ q2) (hW0 ▸ q3) (by rw [hW0]; exact g1) (by rw [hW0]; exact g1) (by rw [hW0]; exact g2) (by rw [hW0]; exact g2) hb)
      have HBW : Hid (Below w.heap.size w W0) := Lib.hid (by rw [hW0]; exact HB.out)
      rw [← hW0] at q0 q1 q2 q3 ⊢
      clear hW0 HB g1 g2
      go_wp2_with fail
      go_region_held3 (fun w' => w'.cell? ⟨b1, o1 + k * 2, none⟩ = some (.bool x0) ∧ w'.cell? ⟨b1, o1 + k * 2 + 1, none⟩ = some (.string x1) ∧ w'.cell? ⟨b2, o2 + k * 2, none⟩ = some (.bool x0) ∧ w'.cell? ⟨b2, o2 + k * 2 + 1, none⟩ = some (.string x1) ∧ Below W0.heap.size W0 w')
        ((refine HQ.out _ ?_; repeat (first | assumption | exact Below.refl _ _ | refine Below.drew ?_)))
        (first | (go_at_call 80; refine (eqSl_same ⟨x0, x1⟩ _).mono ?_; rintro e w5 ⟨rfl, l5⟩; have hb5 := below_call (W0 := W0) (by repeat (first | assumption | exact Below.refl _ _ | refine Below.drew ?_)) l5))
      all_goals go_wp2_with fail
      all_goals
        go_roundw
        case rel => exact ⟨k + 1, by omega, by go_num, Lib.hid (HBW.out.trans (Below.mono (by repeat (first | assumption | exact Below.refl _ _ | refine Below.drew ?_) : Below W0.heap.size W0 _) HBW.out.size))⟩
        case measure => (simp [RowKit.intOf]; omega)
    · obtain rfl : k = n := by omega
      go_wp2_with fail
      go_ret
      exact ⟨rfl, HB.out⟩
/-- The marks of one element. -/
def mkSlE (k : Nat) : List Value := [.bool (decide ((k) % 3 = 0)), .string (mkT (k + 1))]
def mkSl (k n : Nat) : List Value := flatZ (fun i => mkSlE (k + 2 * i)) (List.range n)
theorem mkSl_len (k n : Nat) : (mkSl k n).length = n * 2 := by rw [show mkSl k n = flatZ (fun i => mkSlE (k + 2 * i)) (List.range n) from rfl, flat_len (z := 2) (fun _ => rfl), List.length_range]
theorem mkSl_succ (k j : Nat) : mkSl k (j + 1) = mkSl k j ++ mkSlE (k + 2 * j) := by unfold mkSl; rw [List.range_succ, flat_append, flat_one]
theorem mkSl_at (k n i : Nat) (h : i < n) : (mkSl k n)[i * 2]? = some (.bool (decide ((k + 2 * i) % 3 = 0))) ∧ (mkSl k n)[i * 2 + 1]? = some (.string (mkT (k + 2 * i + 1))) := by
  have hi : i < (List.range n).length := by rw [List.length_range]; exact h
  have e := fun j (hj : j < 2) => flat_get (z := 2) (f := fun i => mkSlE (k + 2 * i)) (fun _ => rfl) (List.range n) i j hi hj
  rw [List.getElem_range] at e
  exact ⟨e 0 (by omega), e 1 (by omega)⟩
theorem mkSl_sets (k j : Nat) (xs : List Value) (h : j * 2 + 2 ≤ xs.length) : (((mkSl k j ++ xs.drop (j * 2)).set (j * 2) (.bool (decide ((k + 2 * j) % 3 = 0)))).set (j * 2 + 1) (.string (mkT (k + 2 * j + 1)))) = mkSl k (j + 1) ++ xs.drop ((j + 1) * 2) := by
  have hl := mkSl_len k j
  obtain ⟨y0, y1, r, hr⟩ : ∃ y0 y1 r, xs.drop (j * 2) = y0 :: y1 :: r := by
    have hlen : (xs.drop (j * 2)).length = xs.length - j * 2 := List.length_drop
    match hx : xs.drop (j * 2) with
    | [] => rw [hx] at hlen; simp at hlen; omega
    | [_] => rw [hx] at hlen; simp at hlen; omega
    | y0 :: y1 :: r => exact ⟨_, _, _, rfl⟩
  have hr2 : xs.drop ((j + 1) * 2) = r := by
    rw [show (j + 1) * 2 = j * 2 + 2 by omega, ← List.drop_drop, hr]; rfl
  rw [hr2, hr, mkSl_succ, List.append_assoc]
  simp only [List.set_append, hl, show ¬ (j * 2 + 1 < j * 2) by omega, Nat.lt_irrefl, if_false, Nat.sub_self, Nat.add_sub_cancel_left, List.set_cons_zero, List.set_cons_succ, mkSlE, List.cons_append, List.nil_append]
end Go.Proofs.Ytpmjdppipalfcaa
