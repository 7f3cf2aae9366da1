/-
  Timers, the program's way: SetTimer, StopTimer, FireTimer, TicksUntil.
-/
import Derived.Test.YtoehedogdbafpaaTimI1
import Derived.Test.YtoehedogdbafpaaTimI2
import Derived.Test.YtoehedogdbafpaaTimC
import Derived.Deep.AppendLies
namespace Go.Proofs.Ytoehedogdbafpaa
open Go.RowKit Go.Lib Go.Joins
set_option linter.unusedVariables false

theorem rowT_slice {w : World} {ab ao n cap k : Nat} {s : List Tm} (h : Row w (.slice (some ⟨ab, ao, none⟩) n cap) n (tmF s)) (hn : n = s.length) (hk : k ≤ n) :
    Row w (.slice (some ⟨ab, ao, none⟩) k cap) (s.take k).length (tmF (s.take k)) ∧
    ∃ o2, (if cap = k then (some ⟨ab, ao, none⟩ : Option Addr) else some ⟨ab, ao + k * 3, none⟩) = some ⟨ab, o2, none⟩ ∧ Row w (.slice (some ⟨ab, o2, none⟩) (n - k) (cap - k)) (s.drop k).length (tmF (s.drop k)) := by
  subst hn
  constructor
  · have h2 := rowz_head (z := 3) h hk
    rw [tmF_take] at h2
    rw [List.length_take, Nat.min_eq_left hk]
    exact h2
  · have h2 := rowz_tail (z := 3) h hk
    rw [tmF_drop] at h2
    rw [List.length_drop]
    by_cases hcap : cap = k
    · refine ⟨ao, if_pos hcap, ?_⟩
      obtain ⟨a9, c9, e9, k1, k2, _⟩ := h2
      injection e9 with _ _ e9
      have hz : tmF (s.drop k) = [] := by rw [List.drop_of_length_le (by omega)]; rfl
      rw [hz]
      exact ⟨_, _, rfl, by omega, by unfold maxLen; omega, fun hh => absurd rfl hh⟩
    · exact ⟨ao + k * 3, if_neg hcap, h2⟩
theorem stopOk_fnd {s : List Tm} (h : tsOk s = true) (x : Int) : stopOk s x = fnd s x := by
  unfold stopOk
  rw [h, fnd_fndN (tsOk_iff.1 h).2.1 x]
  cases fnd s x with
  | true => rw [if_pos rfl]; simp
  | false => rw [if_neg (by simp)]; rfl
theorem heap_new_drewT (w : World) (o : Obj) : ((w.alloc o).drew).heap[w.heap.size]? = some o := heap_alloc_new w o
theorem row_one8 {w : World} {g : Nat} {t : Tm} (h : w.heap[g]? = some (.cells #[.int .i64 t.i, .int .i64 t.d, .int .i64 t.p] 42 (0, 0))) : Row w (.slice (some ⟨g, 0, none⟩) 1 1) [t].length (tmF [t]) := by
  rw [tmF_single]; exact row_litT h
/-- Where a timer is, as the program says it. -/
def fpl (s : List Tm) (x : Int) : Int := if tsOk s = true then (plc s x : Int) else 0
set_option maxRecDepth 100000 in
theorem findT_any (v : Value) (s : List Tm) (x : Int) (w : World) (hrow : Row w v s.length (tmF s)) :
    Calls Try.prog 66 #[v, .int .i64 x] w fun e w' => e = .returned (.tuple #[.int .i64 (fpl s x), .bool (stopOk s x)]) ∧ Below w.heap.size w w' := by
  have HI := Lib.hid (implIsT_any v s w hrow)
  cases hs : tsOk s with
  | false =>
    have e1 : stopOk s x = false := by unfold stopOk; rw [hs]; rfl
    have e2 : fpl s x = 0 := by unfold fpl; rw [hs]; rfl
    rw [e1, e2]
    rw [hs] at HI
    clear e1 e2 hs hrow
    go_enter Try.func66, Try.ntmps66
    go_wp2_with fail
    refine HI.out.mono ?_
    rintro e w1 ⟨rfl, l1⟩
    go_wp2_with fail
    go_ret2
    exact ⟨rfl, l1⟩
  | true =>
    have HP := Lib.hid (fun (W : World) (hb : Below w.heap.size w W) => placeOf_any v s x W (hrow.below hb (Nat.le_refl _)) (tsOk_iff.1 hs).2.1 (below_1000 hs))
    have e2 : fpl s x = (plc s x : Int) := by unfold fpl; rw [hs]; rfl
    rw [stopOk_fnd hs, e2]
    rw [hs] at HI
    clear e2 hs hrow
    generalize plc s x = p at HP ⊢
    generalize fnd s x = b at HP ⊢
    go_enter Try.func66, Try.ntmps66
    go_wp2_with fail
    refine HI.out.mono ?_
    rintro e w1 ⟨rfl, l1⟩
    have HB1 := Lib.hid l1
    clear l1
    go_wp2_with fail
    refine (HP.out _ HB1.out).mono ?_
    rintro e w2 ⟨rfl, l2⟩
    have HB2 := Lib.hid (HB1.out.trans (l2.mono HB1.out.size))
    clear l2
    go_wp2_with fail
    go_ret2
    exact ⟨rfl, HB2.out⟩
set_option maxRecDepth 100000 in
set_option maxHeartbeats 1500000 in
theorem implSetT_any (b off cap : Nat) (s : List Tm) (t : Tm) (w : World) (hrow : Row w (.slice (some ⟨b, off, none⟩) s.length cap) s.length (tmF s)) :
    Calls Try.prog 31 #[.slice (some ⟨b, off, none⟩) s.length cap, .agg #[.int .i64 t.i, .int .i64 t.d, .int .i64 t.p]] w fun e w' => ∃ v', e = .returned (.tuple #[v', .bool (setOk s t)]) ∧ w'.ownsRow w.heap.size 42 3 v' (setV s t).length (tmF (setV s t)) ∧ Below w.heap.size w w' := by
  obtain ⟨W1, hW1⟩ : ∃ W1, W1 = w.alloc (.cells #[.int .i64 t.i, .int .i64 t.d, .int .i64 t.p] 42) := ⟨_, rfl⟩
  have HB1 : Hid (Below w.heap.size w W1) := Lib.hid (by rw [hW1]; exact (Below.refl w.heap.size w).alloc (Nat.le_refl _) _)
  obtain ⟨R, hR⟩ : ∃ R, R = w.heap.size := ⟨_, rfl⟩
  have HT1 : Hid (Tb W1 R t) := Lib.hid (by rw [hW1, hR]; exact Tb.new w t)
  have HW1 := Lib.hid hW1
  have HR := Lib.hid hR
  have HRow := Lib.hid (fun (W : World) (hb : Below w.heap.size w W) => hrow.below hb (Nat.le_refl _))
  obtain ⟨a', cap', e', hcn, hcm, _⟩ := tm_open hrow
  injection e' with e1 _ e2
  subst e1
  subst e2
  unfold maxLen at hcm
  clear hW1 hR hrow
  have HI := Lib.hid (implIsT_any (.slice (some ⟨b, off, none⟩) s.length cap) s W1 (HRow.out _ HB1.out))
  cases hs : tsOk s with
  | false =>
    have e1 : setOk s t = false := by unfold setOk; rw [hs]; rfl
    have e2 : setV s t = [] := by unfold setV; rw [e1]; rfl
    rw [e1, e2]
    rw [hs] at HI
    clear e1 e2 hs
    go_enter Try.func31, Try.ntmps31
    go_upto_region 1 with fail
    rw [← HW1.out, ← HR.out]
    go_wp2_with fail
    refine HI.out.mono ?_
    rintro e w2 ⟨rfl, l2⟩
    have HB2 := Lib.hid (HB1.out.trans (l2.mono HB1.out.size))
    clear l2
    go_wp2_with fail
    go_ret2
    exact ⟨_, rfl, ownz_base (none_own w2) HB2.out.size, b_a HB2.out _⟩
  | true =>
    rw [hs] at HI
    have hasc := (tsOk_iff.1 hs).2.1
    have hn10 := tsOk_len hs
    have HP := Lib.hid (fun (W : World) (hb : Below w.heap.size w W) => placeOf_any (.slice (some ⟨b, off, none⟩) s.length cap) s t.i W (HRow.out _ hb) hasc (below_1000 hs))
    have hput := put_at hasc t
    obtain ⟨ps, hps⟩ : ∃ ps, ps = putT s t := ⟨_, rfl⟩
    rw [← hps] at hput
    have e1 : setOk s t = tsOk ps := by unfold setOk; rw [hs, hps]; rfl
    have e2 : setV s t = if tsOk ps = true then ps else [] := by unfold setV; rw [e1, hps]
    rw [e1, e2]
    obtain ⟨rs, hrs⟩ : ∃ rs, rs = if tsOk ps = true then ps else [] := ⟨_, rfl⟩
    rw [← hrs]
    have HRs := Lib.hid hrs
    clear hrs
    obtain ⟨bs, hbs⟩ : ∃ bs, bs = tsOk ps := ⟨_, rfl⟩
    rw [← hbs]
    have HBs0 := Lib.hid hbs
    have hpl := plc_le s t.i
    have hpl2 : fnd s t.i = true → plc s t.i + 1 ≤ s.length := fun h => (fnd_yes h).1
    clear hbs e1 e2 hs hasc hps
    generalize plc s t.i = p at HP hput hpl hpl2
    obtain ⟨n, hN⟩ : ∃ n, n = s.length := ⟨_, rfl⟩
    rw [← hN] at hcn hn10 hpl hpl2 HI HP HRow ⊢
    have HN := Lib.hid hN
    clear hN
    cases hf : fnd s t.i with
    | true =>
      rw [hf] at HP hput hpl2
      have hq : (p + 1) ≤ n := hpl2 rfl
      rw [if_pos rfl] at hput
      clear hf hpl2
      obtain ⟨q, hqe⟩ : ∃ q, q = (p + 1) := ⟨_, rfl⟩
      rw [← hqe] at hput hq
      have HPut := Lib.hid hput
      clear hput
      have hqI : IntKind.i64.wrap ((p : Int) + 1) = (q : Int) := (IntWalk.i64_in _ (by omega)).trans (by omega)
      have HQe := Lib.hid hqe
      clear hqe
      obtain ⟨x0, x1, x2⟩ := HT1.out.cells
      go_enter Try.func31, Try.ntmps31
      go_upto_region 1 with fail
      rw [← HW1.out, ← HR.out]
      go_wp2_with fail
      refine HI.out.mono ?_
      rintro e w2 ⟨rfl, l2⟩
      have HB2 := Lib.hid (HB1.out.trans (l2.mono HB1.out.size))
      have HT2 := Lib.hid (HT1.out.below l2 HT1.out.lt)
      obtain ⟨y0, y1, y2⟩ := HT2.out.cells
      clear l2 x0 x1 x2
      go_wp2_with fail
      refine (HP.out _ HB2.out).mono ?_
      rintro e W0 ⟨rfl, l3⟩
      have HB3 := Lib.hid (HB2.out.trans (l3.mono HB2.out.size))
      have HT3 := Lib.hid (HT2.out.below l3 HT2.out.lt)
      obtain ⟨z0, z1, z2⟩ := HT3.out.cells
      have hrw := HRow.out W0 HB3.out
      obtain ⟨h1, _⟩ := rowT_slice (k := p) hrw HN.out hpl
      obtain ⟨_, o2, ho2, h3⟩ := rowT_slice (k := q) hrw HN.out hq
      have HR1 := Lib.hid (fun (W : World) (hb : Below W0.heap.size W0 W) => h1.below hb (Nat.le_refl _))
      have HR3 := Lib.hid (fun (W : World) (hb : Below W0.heap.size W0 W) => h3.below hb (Nat.le_refl _))
      have HF1 : Hid (Fit (.slice (some ⟨b, off, none⟩) p cap) (s.take p).length) := Lib.hid (by
        rw [show (s.take p).length = p by rw [List.length_take, ← HN.out]; exact Nat.min_eq_left hpl]
        exact .inr ⟨_, _, rfl⟩)
      have HF2 : Hid (∀ g, Fit (.slice (some ⟨g, 0, none⟩) 1 1) [t].length) := Lib.hid (fun g => .inr ⟨_, _, rfl⟩)
      have HF3 : Hid (Fit (.slice (some ⟨b, o2, none⟩) (n - q) (cap - q)) (s.drop q).length) := Lib.hid (by
        rw [show (s.drop q).length = n - q by rw [List.length_drop, ← HN.out]]
        exact .inr ⟨_, _, rfl⟩)
      have HL1 : Hid ((s.take p).length ≤ 100) := Lib.hid (by rw [List.length_take, ← HN.out]; omega)
      have HL3 : Hid ((s.drop q).length ≤ 100) := Lib.hid (by rw [List.length_drop, ← HN.out]; omega)
      have HLn : Hid ((s.take p ++ [t] ++ s.drop q) = ps) := Lib.hid HPut.out.symm
      have hx := HT3.out.free 0
      have i1 : (p : Int) ≤ (n : Int) := by omega
      have i2 : (n : Int) ≤ (cap : Int) := by omega
      have i3 : (0 : Int) ≤ (p : Int) := by omega
      have i4 : (p : Int) ≤ (cap : Int) := by omega
      have i5 : (0 : Int) ≤ (q : Int) := by omega
      have i6 : (q : Int) ≤ (n : Int) := by omega
      have i7 : (q : Int) ≤ (cap : Int) := by omega
      clear l3 y0 y1 y2 h1 h3 hrw hx
      go_upto_region 7 with fail
      go_region_law (first
        | (go_simp; go_at_call 67; refine (concatT3_any _ _ _ (s.take p) [t] (s.drop q) _ _ (HR1.out _ (by repeat (first | assumption | exact Below.refl _ _ | refine Below.drew ?_ | refine below_alloc' ?_))) HF1.out HL1.out (row_one8 (by first | exact heap_first _ _ _ | exact heap_alloc_old _ _ (by simp))) (HF2.out _) (by simp) (HR3.out _ (by repeat (first | assumption | exact Below.refl _ _ | refine Below.drew ?_ | refine below_alloc' ?_))) HF3.out HL3.out (by first | exact heap_second _ _ _ | exact heap_alloc_new _ _ | exact heap_new_drewT _ _)).mono ?_; rintro e W5 ⟨v5, rfl, o5, l5⟩; rw [HLn.out] at o5; obtain ⟨a5, c5, rfl, _, _⟩ := ownz_slice o5; have hb5 : Below W0.heap.size W0 W5 := below_call (by repeat (first | assumption | exact Below.refl _ _ | refine Below.drew ?_ | refine below_alloc' ?_) : Below W0.heap.size W0 _) l5; clear l5; dsimp only))
      all_goals
        have HO5 := Lib.hid (ownz_base o5 (show W0.heap.size ≤ _ by first | (simp; done) | (simp; omega)))
        have HB5 := Lib.hid (HB3.out.trans (hb5.mono HB3.out.size))
        have HBs := Lib.hid HB3.out.size
        have HIs := Lib.hid (implIsT_any _ ps W5 (rowz_own HO5.out))
        clear o5 hb5 z0 z1 z2
        cases hp : tsOk ps with
        | false =>
          have HRn : Hid (rs = [] ∧ bs = false) := Lib.hid ⟨by rw [HRs.out, hp]; rfl, by rw [HBs0.out, hp]⟩
          rw [hp] at HIs
          clear hp
          go_wp2_with fail
          refine HIs.out.mono ?_
          rintro e w4 ⟨rfl, l4⟩
          have HB6 := Lib.hid (HB5.out.trans (l4.mono HB5.out.size))
          clear l4
          go_wp2_with fail
          go_ret2
          rw [HRn.out.1, HRn.out.2]
          exact ⟨_, rfl, ownz_base (none_own w4) HB6.out.size, b_a HB6.out _⟩
        | true =>
          have HRn : Hid (rs = ps ∧ bs = true) := Lib.hid ⟨by rw [HRs.out, hp]; rfl, by rw [HBs0.out, hp]⟩
          rw [hp] at HIs
          clear hp
          go_wp2_with fail
          refine HIs.out.mono ?_
          rintro e w4 ⟨rfl, l4⟩
          have HB6 := Lib.hid (HB5.out.trans (l4.mono HB5.out.size))
          have HO6 := Lib.hid (ownz_base (ownz_below HO5.out l4 (Nat.le_refl _)) HBs.out)
          clear l4
          go_wp2_with fail
          go_ret2
          rw [HRn.out.1, HRn.out.2]
          exact ⟨_, rfl, HO6.out, HB6.out⟩
    | false =>
      rw [hf] at HP hput hpl2
      have hq : p ≤ n := hpl
      rw [if_neg (by simp)] at hput
      clear hf hpl2
      have HPut := Lib.hid hput
      clear hput
      obtain ⟨x0, x1, x2⟩ := HT1.out.cells
      go_enter Try.func31, Try.ntmps31
      go_upto_region 1 with fail
      rw [← HW1.out, ← HR.out]
      go_wp2_with fail
      refine HI.out.mono ?_
      rintro e w2 ⟨rfl, l2⟩
      have HB2 := Lib.hid (HB1.out.trans (l2.mono HB1.out.size))
      have HT2 := Lib.hid (HT1.out.below l2 HT1.out.lt)
      obtain ⟨y0, y1, y2⟩ := HT2.out.cells
      clear l2 x0 x1 x2
      go_wp2_with fail
      refine (HP.out _ HB2.out).mono ?_
      rintro e W0 ⟨rfl, l3⟩
      have HB3 := Lib.hid (HB2.out.trans (l3.mono HB2.out.size))
      have HT3 := Lib.hid (HT2.out.below l3 HT2.out.lt)
      obtain ⟨z0, z1, z2⟩ := HT3.out.cells
      have hrw := HRow.out W0 HB3.out
      obtain ⟨h1, _⟩ := rowT_slice (k := p) hrw HN.out hpl
      obtain ⟨_, o2, ho2, h3⟩ := rowT_slice (k := p) hrw HN.out hq
      have HR1 := Lib.hid (fun (W : World) (hb : Below W0.heap.size W0 W) => h1.below hb (Nat.le_refl _))
      have HR3 := Lib.hid (fun (W : World) (hb : Below W0.heap.size W0 W) => h3.below hb (Nat.le_refl _))
      have HF1 : Hid (Fit (.slice (some ⟨b, off, none⟩) p cap) (s.take p).length) := Lib.hid (by
        rw [show (s.take p).length = p by rw [List.length_take, ← HN.out]; exact Nat.min_eq_left hpl]
        exact .inr ⟨_, _, rfl⟩)
      have HF2 : Hid (∀ g, Fit (.slice (some ⟨g, 0, none⟩) 1 1) [t].length) := Lib.hid (fun g => .inr ⟨_, _, rfl⟩)
      have HF3 : Hid (Fit (.slice (some ⟨b, o2, none⟩) (n - p) (cap - p)) (s.drop p).length) := Lib.hid (by
        rw [show (s.drop p).length = n - p by rw [List.length_drop, ← HN.out]]
        exact .inr ⟨_, _, rfl⟩)
      have HL1 : Hid ((s.take p).length ≤ 100) := Lib.hid (by rw [List.length_take, ← HN.out]; omega)
      have HL3 : Hid ((s.drop p).length ≤ 100) := Lib.hid (by rw [List.length_drop, ← HN.out]; omega)
      have HLn : Hid ((s.take p ++ [t] ++ s.drop p) = ps) := Lib.hid HPut.out.symm
      have hx := HT3.out.free 0
      have i1 : (p : Int) ≤ (n : Int) := by omega
      have i2 : (n : Int) ≤ (cap : Int) := by omega
      have i3 : (0 : Int) ≤ (p : Int) := by omega
      have i4 : (p : Int) ≤ (cap : Int) := by omega
      clear l3 y0 y1 y2 h1 h3 hrw hx
      go_upto_region 7 with fail
      go_region_law (first
        | (go_simp; go_at_call 67; refine (concatT3_any _ _ _ (s.take p) [t] (s.drop p) _ _ (HR1.out _ (by repeat (first | assumption | exact Below.refl _ _ | refine Below.drew ?_ | refine below_alloc' ?_))) HF1.out HL1.out (row_one8 (by first | exact heap_first _ _ _ | exact heap_alloc_old _ _ (by simp))) (HF2.out _) (by simp) (HR3.out _ (by repeat (first | assumption | exact Below.refl _ _ | refine Below.drew ?_ | refine below_alloc' ?_))) HF3.out HL3.out (by first | exact heap_second _ _ _ | exact heap_alloc_new _ _ | exact heap_new_drewT _ _)).mono ?_; rintro e W5 ⟨v5, rfl, o5, l5⟩; rw [HLn.out] at o5; obtain ⟨a5, c5, rfl, _, _⟩ := ownz_slice o5; have hb5 : Below W0.heap.size W0 W5 := below_call (by repeat (first | assumption | exact Below.refl _ _ | refine Below.drew ?_ | refine below_alloc' ?_) : Below W0.heap.size W0 _) l5; clear l5; dsimp only))
      all_goals
        have HO5 := Lib.hid (ownz_base o5 (show W0.heap.size ≤ _ by first | (simp; done) | (simp; omega)))
        have HB5 := Lib.hid (HB3.out.trans (hb5.mono HB3.out.size))
        have HBs := Lib.hid HB3.out.size
        have HIs := Lib.hid (implIsT_any _ ps W5 (rowz_own HO5.out))
        clear o5 hb5 z0 z1 z2
        cases hp : tsOk ps with
        | false =>
          have HRn : Hid (rs = [] ∧ bs = false) := Lib.hid ⟨by rw [HRs.out, hp]; rfl, by rw [HBs0.out, hp]⟩
          rw [hp] at HIs
          clear hp
          go_wp2_with fail
          refine HIs.out.mono ?_
          rintro e w4 ⟨rfl, l4⟩
          have HB6 := Lib.hid (HB5.out.trans (l4.mono HB5.out.size))
          clear l4
          go_wp2_with fail
          go_ret2
          rw [HRn.out.1, HRn.out.2]
          exact ⟨_, rfl, ownz_base (none_own w4) HB6.out.size, b_a HB6.out _⟩
        | true =>
          have HRn : Hid (rs = ps ∧ bs = true) := Lib.hid ⟨by rw [HRs.out, hp]; rfl, by rw [HBs0.out, hp]⟩
          rw [hp] at HIs
          clear hp
          go_wp2_with fail
          refine HIs.out.mono ?_
          rintro e w4 ⟨rfl, l4⟩
          have HB6 := Lib.hid (HB5.out.trans (l4.mono HB5.out.size))
          have HO6 := Lib.hid (ownz_base (ownz_below HO5.out l4 (Nat.le_refl _)) HBs.out)
          clear l4
          go_wp2_with fail
          go_ret2
          rw [HRn.out.1, HRn.out.2]
          exact ⟨_, rfl, HO6.out, HB6.out⟩
set_option maxRecDepth 100000 in
set_option maxHeartbeats 1500000 in
theorem implStopT_any (v : Value) (s : List Tm) (x : Int) (w : World) (hrow : Row w v s.length (tmF s)) :
    Calls Try.prog 25 #[v, .int .i64 x] w fun e w' => ∃ v', e = .returned (.tuple #[v', .bool (stopOk s x)]) ∧ w'.ownsRow w.heap.size 42 3 v' (stopV s x).length (tmF (stopV s x)) ∧ Below w.heap.size w w' := by
  have HRow := Lib.hid (fun (W : World) (hb : Below w.heap.size w W) => hrow.below hb (Nat.le_refl _))
  have HFd := Lib.hid (findT_any v s x w hrow)
  obtain ⟨a, cap, rfl, hcn, hcm, hcell⟩ := tm_open hrow
  unfold maxLen at hcm
  cases hs : stopOk s x with
  | false =>
    have e2 : stopV s x = [] := by unfold stopV; rw [hs]; rfl
    rw [e2]
    rw [hs] at HFd
    clear e2 hs hrow hcell
    generalize fpl s x = r at HFd
    go_enter Try.func25, Try.ntmps25
    go_wp2_with fail
    refine HFd.out.mono ?_
    rintro e w2 ⟨rfl, l2⟩
    go_wp2_with fail
    go_ret2
    exact ⟨_, rfl, ownz_base (none_own w2) l2.size, b_a l2 _⟩
  | true =>
    have hv : tsOk s = true := (stopOk_iff.1 hs).1
    have hasc := (tsOk_iff.1 hv).2.1
    have hfd : fnd s x = true := by rw [← stopOk_fnd hv]; exact hs
    obtain ⟨hpl, _⟩ := fnd_yes hfd
    have e2 : stopV s x = s.take (plc s x) ++ s.drop (plc s x + 1) := by unfold stopV; rw [hs, if_pos rfl]; exact wo_at hasc hfd
    have e3 : fpl s x = (plc s x : Int) := by unfold fpl; rw [hv]; rfl
    obtain ⟨b, off, rfl, _, _, _, _⟩ := hcell _ hpl
    have hn10 := tsOk_len hv
    obtain ⟨ps, hps⟩ : ∃ ps, ps = stopV s x := ⟨_, rfl⟩
    rw [← hps] at e2 ⊢
    rw [hs, e3] at HFd
    clear hs hv hasc hfd e3 hps hcell hrow
    generalize plc s x = k at HFd hpl e2
    obtain ⟨n, hN⟩ : ∃ n, n = s.length := ⟨_, rfl⟩
    rw [← hN] at hcn hn10 hpl HFd HRow ⊢
    have HN := Lib.hid hN
    clear hN
    have HLn : Hid ((s.take k ++ s.drop (k + 1)) = ps) := Lib.hid e2.symm
    clear e2
    go_enter Try.func25, Try.ntmps25
    go_wp2_with fail
    refine HFd.out.mono ?_
    rintro e W0 ⟨rfl, l2⟩
    have HB0 := Lib.hid l2
    have hrw := HRow.out W0 l2
    obtain ⟨h1, _⟩ := rowT_slice (k := k) hrw HN.out (by omega)
    obtain ⟨_, o2, ho2, h3⟩ := rowT_slice (k := k + 1) hrw HN.out (by omega)
    have HR1 := Lib.hid (fun (W : World) (hb : Below W0.heap.size W0 W) => h1.below hb (Nat.le_refl _))
    have HR3 := Lib.hid (fun (W : World) (hb : Below W0.heap.size W0 W) => h3.below hb (Nat.le_refl _))
    have HF1 : Hid (Fit (.slice (some ⟨b, off, none⟩) k cap) (s.take k).length) := Lib.hid (by
      rw [show (s.take k).length = k by rw [List.length_take, ← HN.out]; exact Nat.min_eq_left (by omega)]
      exact .inr ⟨_, _, rfl⟩)
    have HF3 : Hid (Fit (.slice (some ⟨b, o2, none⟩) (n - (k + 1)) (cap - (k + 1))) (s.drop (k + 1)).length) := Lib.hid (by
      rw [show (s.drop (k + 1)).length = n - (k + 1) by rw [List.length_drop, ← HN.out]]
      exact .inr ⟨_, _, rfl⟩)
    have HL1 : Hid ((s.take k).length ≤ 100) := Lib.hid (by rw [List.length_take, ← HN.out]; omega)
    have HL3 : Hid ((s.drop (k + 1)).length ≤ 100) := Lib.hid (by rw [List.length_drop, ← HN.out]; omega)
    have i1 : (k : Int) ≤ (n : Int) := by omega
    have i2 : (n : Int) ≤ (cap : Int) := by omega
    have i3 : (0 : Int) ≤ (k : Int) := by omega
    have i4 : IntKind.i64.wrap ((k : Int) + 1) = (k : Int) + 1 := IntWalk.i64_in _ (by omega)
    have i5 : (0 : Int) ≤ (k : Int) + 1 := by omega
    have i6 : (k : Int) + 1 ≤ (n : Int) := by omega
    have i7 : ((k : Int) + 1).toNat = k + 1 := by omega
    have i8 : (k : Int) ≤ (cap : Int) := by omega
    have i9 : k ≤ cap := by omega
    clear h1 h3 hrw l2
    go_upto_region 4 with fail
    go_region_law (first
      | (go_simp; go_at_call 67; refine (concatT2_any _ _ (s.take k) (s.drop (k + 1)) _ _ (HR1.out _ (by repeat (first | assumption | exact Below.refl _ _ | refine Below.drew ?_ | refine below_alloc' ?_))) HF1.out HL1.out (HR3.out _ (by repeat (first | assumption | exact Below.refl _ _ | refine Below.drew ?_ | refine below_alloc' ?_))) HF3.out HL3.out (by first | exact heap_alloc_new _ _ | exact heap_new_drewT _ _)).mono ?_; rintro e W5 ⟨v5, rfl, o5, l5⟩; rw [HLn.out] at o5; obtain ⟨a5, c5, rfl, _, _⟩ := ownz_slice o5; have hb5 : Below W0.heap.size W0 W5 := below_call (by repeat (first | assumption | exact Below.refl _ _ | refine Below.drew ?_ | refine below_alloc' ?_) : Below W0.heap.size W0 _) l5; clear l5; dsimp only))
    all_goals
      have HO5 := Lib.hid (ownz_base (ownz_base o5 (show W0.heap.size ≤ _ by first | (simp; done) | (simp; omega))) HB0.out.size)
      have HB5 := Lib.hid (HB0.out.trans (hb5.mono HB0.out.size))
      clear o5 hb5
      go_wp2_with fail
      go_ret2
      exact ⟨_, rfl, HO5.out, HB5.out⟩
end Go.Proofs.Ytoehedogdbafpaa
