/-
  Timers: what the specification's functions that put, stop, fire and look return.
-/
import Derived.Test.YtoehedogdbafpaaTim4
import Derived.Test.YtoehedogdbafpaaMinMax
import Derived.Test.YtoehedogdbafpaaTimS
import Derived.Test.YtoehedogdbafpaaTimMath2
import Derived.WalkLawsBesides
namespace Go.Proofs.Ytoehedogdbafpaa
open Go.RowKit Go.Lib Go.Joins
set_option linter.unusedVariables false

theorem tsOk_len {s : List Tm} (h : tsOk s = true) : s.length ≤ 10 := (tsOk_iff.1 h).2.2
theorem below_1000 {s : List Tm} (h : tsOk s = true) : s.length ≤ 1000 := by have := tsOk_len h; omega
theorem getD_at {s : List Tm} {k : Nat} (h : k < s.length) : s.getD k tm0 = s[k] := by rw [List.getD_eq_getElem?_getD, List.getElem?_eq_getElem h]; rfl
/-- The empty list, laid by a literal. -/
theorem none_own (w : World) : (w.alloc (.cells #[] 42)).ownsRow w.heap.size 42 3 (.slice (some ⟨w.heap.size, 0, none⟩) 0 0) ([] : List Tm).length (tmF []) := by
  simpa [tmF_nil] using litz w w.heap.size 42 3 (Nat.le_refl _)
set_option maxRecDepth 100000 in
set_option maxHeartbeats 2000000 in
theorem l8Fire_any (v : Value) (s : List Tm) (k : Nat) (w : World) (hrow : Row w v s.length (tmF s)) (hk : k < s.length) (hv : tsOk s = true) :
    Calls Try.prog 59 #[v, .int .i64 k] w fun e w' => ∃ g c, e = .returned (.slice (some ⟨g, 0, none⟩) (fireT s s[k]).length c) ∧ w'.ownsRow w.heap.size 42 3 (.slice (some ⟨g, 0, none⟩) (fireT s s[k]).length c) (fireT s s[k]).length (tmF (fireT s s[k])) ∧ Below w.heap.size w w' := by
  have hn := below_1000 hv
  have hto := tmOk_iff.1 ((tsOk_iff.1 hv).1 _ (List.getElem_mem hk))
  have HR := Lib.hid hrow
  obtain ⟨a, cap, rfl, hc1, hm1, hcell⟩ := tm_open hrow
  obtain ⟨b, off, rfl, hb, q0, q1, q2⟩ := hcell k hk
  unfold maxLen at hm1
  obtain ⟨n, hN⟩ : ∃ n, n = s.length := ⟨_, rfl⟩
  have hkn : k < n := by rw [hN]; exact hk
  have hkI : (k : Int) < (n : Int) := by omega
  have hnn : n ≤ 1000 := by rw [hN]; exact hn
  generalize ht : s[k] = t at q0 q1 q2 hto ⊢
  rw [← hN] at hc1 HR ⊢
  have HWo := Lib.hid (fun (W : World) (hb : Below w.heap.size w W) => l8Without_any (.slice (some ⟨b, off, none⟩) s.length cap) s t.i W (by rw [← hN]; exact HR.out.below hb (Nat.le_refl _)) hn)
  have HPu := Lib.hid (fun (W : World) (hb : Below w.heap.size w W) (u : Tm) => l8Put_any (.slice (some ⟨b, off, none⟩) s.length cap) s u W (by rw [← hN]; exact HR.out.below hb (Nat.le_refl _)) hn)
  have hw1 : IntKind.i64.wrap (t.d + t.p) = t.d + t.p := IntWalk.i64_in _ (by omega)
  have HBl : Hid (Below w.heap.size w (w.alloc (.cells #[.int .i64 t.i, .int .i64 t.d, .int .i64 t.p] 42))) := Lib.hid ((Below.refl w.heap.size w).alloc (Nat.le_refl _) _)
  rw [← hN] at HWo HPu
  have HF1 : Hid ((t.p = 0 ∨ 10000 < t.d + t.p) → fireT s t = wo s t.i) := Lib.hid (fun h => if_pos h)
  have HF2 : Hid (¬ (t.p = 0 ∨ 10000 < t.d + t.p) → fireT s t = putT s ⟨t.i, t.d + t.p, t.p⟩) := Lib.hid (fun h => if_neg h)
  clear hrow hcell ht hN hto hv hk hn HR
  by_cases hp : t.p = 0
  · have hp' : (t.p == 0) = true := by simp [hp]
    rw [HF1.out (.inl hp)]
    clear HF1 HF2 hp
    go_enter Try.func59, Try.ntmps59
    go_wp2_with fail
    refine (HWo.out _ HBl.out).mono ?_
    rintro e w1 ⟨g, c, rfl, o1, l1⟩
    have HO := Lib.hid (ownz_base o1 HBl.out.size)
    have HB := Lib.hid (HBl.out.trans (l1.mono HBl.out.size))
    clear o1 l1
    go_wp2_with fail
    go_ret
    exact ⟨g, c, rfl, HO.out, HB.out⟩
  · have hp' : (t.p == 0) = false := by simp [hp]
    by_cases hg : 10000 < t.d + t.p
    · have hg' : decide (10000 < t.d + t.p) = true := decide_eq_true hg
      rw [HF1.out (.inr hg)]
      clear HF1 HF2 hp
      go_enter Try.func59, Try.ntmps59
      go_wp2_with fail
      refine (HWo.out _ HBl.out).mono ?_
      rintro e w1 ⟨g, c, rfl, o1, l1⟩
      have HO := Lib.hid (ownz_base o1 HBl.out.size)
      have HB := Lib.hid (HBl.out.trans (l1.mono HBl.out.size))
      clear o1 l1
      go_wp2_with fail
      go_ret
      exact ⟨g, c, rfl, HO.out, HB.out⟩
    · have hg' : decide (10000 < t.d + t.p) = false := decide_eq_false hg
      rw [HF2.out (fun h => h.elim hp hg)]
      clear HF1 HF2 hp
      go_enter Try.func59, Try.ntmps59
      go_wp2_with fail
      refine (HPu.out _ HBl.out ⟨t.i, t.d + t.p, t.p⟩).mono ?_
      rintro e w1 ⟨g, c, rfl, o1, l1⟩
      have HO := Lib.hid (ownz_base o1 HBl.out.size)
      have HB := Lib.hid (HBl.out.trans (l1.mono HBl.out.size))
      clear o1 l1
      go_wp2_with fail
      go_ret
      exact ⟨g, c, rfl, HO.out, HB.out⟩
set_option maxRecDepth 100000 in
theorem specIsT_any (v : Value) (s : List Tm) (w : World) (hrow : Row w v s.length (tmF s)) :
    Calls Try.prog 43 #[v] w fun e w' => e = .returned (.bool (tsOk s)) ∧ Below w.heap.size w w' := by
  have HG := Lib.hid (l8Good_any v s w hrow)
  clear hrow
  go_enter Try.func43, Try.ntmps43
  go_wp2_with fail
  refine HG.out.mono ?_
  rintro e w1 ⟨rfl, l1⟩
  go_wp2_with fail
  go_ret
  exact ⟨rfl, l1⟩
set_option maxRecDepth 100000 in
set_option maxHeartbeats 2000000 in
theorem specSetT_any (v : Value) (s : List Tm) (t : Tm) (w : World) (hrow : Row w v s.length (tmF s)) :
    Calls Try.prog 32 #[v, .agg #[.int .i64 t.i, .int .i64 t.d, .int .i64 t.p]] w fun e w' => ∃ v', e = .returned (.tuple #[v', .bool (setOk s t)]) ∧ w'.ownsRow w.heap.size 42 3 v' (setV s t).length (tmF (setV s t)) ∧ Below w.heap.size w w' := by
  obtain ⟨W1, hW1⟩ : ∃ W1, W1 = w.alloc (.cells #[.int .i64 t.i, .int .i64 t.d, .int .i64 t.p] 42) := ⟨_, rfl⟩
  have HB1 : Hid (Below w.heap.size w W1) := Lib.hid (by rw [hW1]; exact (Below.refl w.heap.size w).alloc (Nat.le_refl _) _)
  obtain ⟨R, hR⟩ : ∃ R, R = w.heap.size := ⟨_, rfl⟩
  have HT1 : Hid (Tb W1 R t) := Lib.hid (by rw [hW1, hR]; exact Tb.new w t)
  have HW1 := Lib.hid hW1
  have HR := Lib.hid hR
  have HRow := Lib.hid (fun (W : World) (hb : Below w.heap.size w W) => hrow.below hb (Nat.le_refl _))
  obtain ⟨a, cap, rfl, _, _, _⟩ := tm_open hrow
  clear hW1 hR hrow
  have HGd := Lib.hid (l8Good_any (.slice a s.length cap) s W1 (HRow.out _ HB1.out))
  cases hs : tsOk s with
  | false =>
    have e1 : setOk s t = false := by unfold setOk; rw [hs]; rfl
    have e2 : setV s t = [] := by unfold setV; rw [e1]; rfl
    rw [e1, e2]
    rw [hs] at HGd
    clear e1 e2 hs
    go_enter Try.func32, Try.ntmps32
    go_upto_region 1 with fail
    rw [← HW1.out, ← HR.out]
    go_wp2_with fail
    refine HGd.out.mono ?_
    rintro e w2 ⟨rfl, l2⟩
    have HB2 := Lib.hid (HB1.out.trans (l2.mono HB1.out.size))
    clear l2
    go_wp2_with fail
    go_ret2
    exact ⟨_, rfl, ownz_base (none_own w2) HB2.out.size, b_a HB2.out _⟩
  | true =>
    rw [hs] at HGd
    have hn := below_1000 hs
    have HPu := Lib.hid (fun (W : World) (hb : Below w.heap.size w W) => l8Put_any (.slice a s.length cap) s t W (HRow.out _ hb) hn)
    have e1 : setOk s t = tsOk (putT s t) := by unfold setOk; rw [hs]; rfl
    have e2 : setV s t = if tsOk (putT s t) = true then putT s t else [] := by unfold setV; rw [e1]
    rw [e1, e2]
    clear e1 e2 hs hn
    generalize putT s t = ps at HPu ⊢
    obtain ⟨rs, hrs⟩ : ∃ rs, rs = if tsOk ps = true then ps else [] := ⟨_, rfl⟩
    rw [← hrs]
    have HRs := Lib.hid hrs
    clear hrs
    obtain ⟨bs, hbs⟩ : ∃ bs, bs = tsOk ps := ⟨_, rfl⟩
    rw [← hbs]
    have HBs := Lib.hid hbs
    clear hbs
    obtain ⟨x0, x1, x2⟩ := HT1.out.cells
    go_enter Try.func32, Try.ntmps32
    go_upto_region 1 with fail
    rw [← HW1.out, ← HR.out]
    go_wp2_with fail
    refine HGd.out.mono ?_
    rintro e w2 ⟨rfl, l2⟩
    have HB2 := Lib.hid (HB1.out.trans (l2.mono HB1.out.size))
    have HT2 := Lib.hid (HT1.out.below l2 HT1.out.lt)
    obtain ⟨y0, y1, y2⟩ := HT2.out.cells
    clear l2 x0 x1 x2
    go_wp2_with fail
    refine (HPu.out _ HB2.out).mono ?_
    rintro e w3 ⟨g, c, rfl, o3, l3⟩
    have HB3 := Lib.hid (HB2.out.trans (l3.mono HB2.out.size))
    have HT3 := Lib.hid (HT2.out.below l3 HT2.out.lt)
    have HGp := Lib.hid (l8Good_any _ ps w3 (rowz_own o3))
    clear l3 y0 y1 y2 o3
    cases hp : tsOk ps with
    | false =>
      have HRn : Hid (rs = [] ∧ bs = false) := Lib.hid ⟨by rw [HRs.out, hp]; rfl, by rw [HBs.out, hp]⟩
      rw [hp] at HGp
      clear hp
      go_wp2_with fail
      refine HGp.out.mono ?_
      rintro e w4 ⟨rfl, l4⟩
      have HB4 := Lib.hid (HB3.out.trans (l4.mono HB3.out.size))
      clear l4
      go_wp2_with fail
      go_ret2
      rw [HRn.out.1, HRn.out.2]
      exact ⟨_, rfl, ownz_base (none_own w4) HB4.out.size, b_a HB4.out _⟩
    | true =>
      have HRn : Hid (rs = ps ∧ bs = true) := Lib.hid ⟨by rw [HRs.out, hp]; rfl, by rw [HBs.out, hp]⟩
      rw [hp] at HGp
      clear hp
      go_wp2_with fail
      refine HGp.out.mono ?_
      rintro e w4 ⟨rfl, l4⟩
      have HB4 := Lib.hid (HB3.out.trans (l4.mono HB3.out.size))
      have HT4 := Lib.hid (HT3.out.below l4 HT3.out.lt)
      obtain ⟨z0, z1, z2⟩ := HT4.out.cells
      clear l4
      go_wp2_with fail
      refine (HPu.out _ HB4.out).mono ?_
      rintro e w5 ⟨g5, c5, rfl, o5, l5⟩
      have HO := Lib.hid (ownz_base o5 HB4.out.size)
      have HB5 := Lib.hid (HB4.out.trans (l5.mono HB4.out.size))
      clear l5 o5 z0 z1 z2
      go_wp2_with fail
      go_ret2
      rw [HRn.out.1, HRn.out.2]
      exact ⟨_, rfl, HO.out, HB5.out⟩
set_option maxRecDepth 100000 in
set_option maxHeartbeats 2000000 in
theorem specStopT_any (v : Value) (s : List Tm) (x : Int) (w : World) (hrow : Row w v s.length (tmF s)) :
    Calls Try.prog 26 #[v, .int .i64 x] w fun e w' => ∃ v', e = .returned (.tuple #[v', .bool (stopOk s x)]) ∧ w'.ownsRow w.heap.size 42 3 v' (stopV s x).length (tmF (stopV s x)) ∧ Below w.heap.size w w' := by
  have HRow := Lib.hid (fun (W : World) (hb : Below w.heap.size w W) => hrow.below hb (Nat.le_refl _))
  obtain ⟨a, cap, rfl, _, _, _⟩ := tm_open hrow
  have HGd := Lib.hid (l8Good_any (.slice a s.length cap) s w hrow)
  clear hrow
  cases hs : tsOk s with
  | false =>
    have e1 : stopOk s x = false := by unfold stopOk; rw [hs]; rfl
    have e2 : stopV s x = [] := by unfold stopV; rw [e1]; rfl
    rw [e1, e2]
    rw [hs] at HGd
    clear e1 e2 hs
    go_enter Try.func26, Try.ntmps26
    go_wp2_with fail
    refine HGd.out.mono ?_
    rintro e w2 ⟨rfl, l2⟩
    go_wp2_with fail
    go_ret2
    exact ⟨_, rfl, ownz_base (none_own w2) l2.size, b_a l2 _⟩
  | true =>
    rw [hs] at HGd
    have hn := below_1000 hs
    have HFi := Lib.hid (fun (W : World) (hb : Below w.heap.size w W) => l8Find_any (.slice a s.length cap) s x W (HRow.out _ hb))
    have HWo := Lib.hid (fun (W : World) (hb : Below w.heap.size w W) => l8Without_any (.slice a s.length cap) s x W (HRow.out _ hb) hn)
    by_cases hf : fndN s x < 0
    · have hf' : decide (fndN s x < 0) = true := decide_eq_true hf
      have e1 : stopOk s x = false := by unfold stopOk; rw [hs, decide_eq_false (by omega)]; rfl
      have e2 : stopV s x = [] := by unfold stopV; rw [e1]; rfl
      rw [e1, e2]
      clear e1 e2 hs
      generalize fndN s x = r at HFi hf hf'
      go_enter Try.func26, Try.ntmps26
      go_wp2_with fail
      refine HGd.out.mono ?_
      rintro e w2 ⟨rfl, l2⟩
      have HB2 := Lib.hid l2
      clear l2
      go_wp2_with fail
      refine (HFi.out _ HB2.out).mono ?_
      rintro e w3 ⟨rfl, rfl⟩
      go_wp2_with fail
      go_ret2
      exact ⟨_, rfl, ownz_base (none_own w2) HB2.out.size, b_a HB2.out _⟩
    · have hf' : decide (fndN s x < 0) = false := decide_eq_false hf
      have e1 : stopOk s x = true := by unfold stopOk; rw [hs, decide_eq_true (by omega)]; rfl
      have e2 : stopV s x = wo s x := by unfold stopV; rw [e1]; rfl
      rw [e1, e2]
      clear e1 e2 hs hn
      generalize fndN s x = r at HFi hf hf'
      generalize wo s x = ps at HWo ⊢
      go_enter Try.func26, Try.ntmps26
      go_wp2_with fail
      refine HGd.out.mono ?_
      rintro e w2 ⟨rfl, l2⟩
      have HB2 := Lib.hid l2
      clear l2
      go_wp2_with fail
      refine (HFi.out _ HB2.out).mono ?_
      rintro e w3 ⟨rfl, rfl⟩
      go_wp2_with fail
      refine (HWo.out _ HB2.out).mono ?_
      rintro e w4 ⟨g5, c5, rfl, o5, l5⟩
      have HO := Lib.hid (ownz_base o5 HB2.out.size)
      have HB5 := Lib.hid (HB2.out.trans (l5.mono HB2.out.size))
      clear l5 o5
      go_wp2_with fail
      go_ret2
      exact ⟨_, rfl, HO.out, HB5.out⟩
set_option maxRecDepth 100000 in
set_option maxHeartbeats 2000000 in
theorem specFireT_any (v : Value) (s : List Tm) (x : Int) (w : World) (hrow : Row w v s.length (tmF s)) :
    Calls Try.prog 36 #[v, .int .i64 x] w fun e w' => ∃ v', e = .returned (.tuple #[v', .bool (stopOk s x)]) ∧ w'.ownsRow w.heap.size 42 3 v' (fireV s x).length (tmF (fireV s x)) ∧ Below w.heap.size w w' := by
  have HRow := Lib.hid (fun (W : World) (hb : Below w.heap.size w W) => hrow.below hb (Nat.le_refl _))
  obtain ⟨a, cap, rfl, _, _, _⟩ := tm_open hrow
  have HGd := Lib.hid (l8Good_any (.slice a s.length cap) s w hrow)
  have HFi := Lib.hid (l8Find_any (.slice a s.length cap) s x w hrow)
  clear hrow
  cases hs : tsOk s with
  | false =>
    have e1 : stopOk s x = false := by unfold stopOk; rw [hs]; rfl
    have e2 : fireV s x = [] := by unfold fireV; rw [e1]; rfl
    rw [e1, e2]
    rw [hs] at HGd
    clear e1 e2 hs
    generalize fndN s x = r at HFi
    go_enter Try.func36, Try.ntmps36
    go_wp2_with fail
    refine HFi.out.mono ?_
    rintro e w3 ⟨rfl, rfl⟩
    go_wp2_with fail
    refine HGd.out.mono ?_
    rintro e w2 ⟨rfl, l2⟩
    go_wp2_with fail
    go_ret2
    exact ⟨_, rfl, ownz_base (none_own w2) l2.size, b_a l2 _⟩
  | true =>
    rw [hs] at HGd
    by_cases hf : fndN s x < 0
    · have hf' : decide (fndN s x < 0) = true := decide_eq_true hf
      have e1 : stopOk s x = false := by unfold stopOk; rw [hs, decide_eq_false (by omega)]; rfl
      have e2 : fireV s x = [] := by unfold fireV; rw [e1]; rfl
      rw [e1, e2]
      clear e1 e2 hs
      generalize fndN s x = r at HFi hf hf'
      go_enter Try.func36, Try.ntmps36
      go_wp2_with fail
      refine HFi.out.mono ?_
      rintro e w3 ⟨rfl, rfl⟩
      go_wp2_with fail
      refine HGd.out.mono ?_
      rintro e w2 ⟨rfl, l2⟩
      go_wp2_with fail
      go_ret2
      exact ⟨_, rfl, ownz_base (none_own w2) l2.size, b_a l2 _⟩
    · obtain ⟨k, hk⟩ : ∃ k : Nat, fndN s x = k := ⟨(fndN s x).toNat, by omega⟩
      have hkl : k < s.length := by have := (fnd_bd x s).2; omega
      have e1 : stopOk s x = true := by unfold stopOk; rw [hs, decide_eq_true (by omega)]; rfl
      have e2 : fireV s x = fireT s s[k] := by unfold fireV; rw [e1, if_pos rfl, hk, Int.toNat_natCast, getD_at hkl]
      rw [e1, e2]
      have HFr := Lib.hid (fun (W : World) (hb : Below w.heap.size w W) => l8Fire_any (.slice a s.length cap) s k W (HRow.out _ hb) hkl hs)
      have hf' : decide ((k : Int) < 0) = false := decide_eq_false (by omega)
      rw [hk] at HFi
      clear e1 e2 hs hk hf
      generalize fireT s s[k] = ps at HFr ⊢
      go_enter Try.func36, Try.ntmps36
      go_wp2_with fail
      refine HFi.out.mono ?_
      rintro e w3 ⟨rfl, rfl⟩
      go_wp2_with fail
      refine HGd.out.mono ?_
      rintro e w2 ⟨rfl, l2⟩
      have HB2 := Lib.hid l2
      clear l2
      go_wp2_with fail
      refine (HFr.out _ HB2.out).mono ?_
      rintro e w4 ⟨g5, c5, rfl, o5, l5⟩
      have HO := Lib.hid (ownz_base o5 HB2.out.size)
      have HB5 := Lib.hid (HB2.out.trans (l5.mono HB2.out.size))
      clear l5 o5
      go_wp2_with fail
      go_ret2
      exact ⟨_, rfl, HO.out, HB5.out⟩
set_option maxRecDepth 100000 in
set_option maxHeartbeats 2000000 in
theorem specTicks_any (v : Value) (s : List Tm) (x now : Int) (w : World) (hrow : Row w v s.length (tmF s)) :
    Calls Try.prog 41 #[v, .int .i64 x, .int .i64 now] w fun e w' => e = .returned (.tuple #[.int .i64 (tickV s x now), .bool (tickOk s x now)]) ∧ Below w.heap.size w w' := by
  have HGd := Lib.hid (l8Good_any v s w hrow)
  have HFi := Lib.hid (l8Find_any v s x w hrow)
  have HTk := Lib.hid (l8Tick_any now)
  obtain ⟨a, cap, rfl, hc1, hm1, hcell⟩ := tm_open hrow
  unfold maxLen at hm1
  have key : ∀ (b : Bool), tickOk s x now = b → b = false → tickV s x now = 0 := fun b h1 h2 => by unfold tickV; rw [h1, h2]; rfl
  cases hs : tsOk s with
  | false =>
    have e1 : tickOk s x now = false := by unfold tickOk stopOk; rw [hs]; rfl
    rw [key _ e1 rfl, e1]
    rw [hs] at HGd
    clear e1 hs key hrow hcell
    generalize fndN s x = r at HFi
    go_enter Try.func41, Try.ntmps41
    go_wp2_with fail
    refine HFi.out.mono ?_
    rintro e w3 ⟨rfl, rfl⟩
    go_wp2_with fail
    refine HGd.out.mono ?_
    rintro e w2 ⟨rfl, l2⟩
    go_wp2_with fail
    go_ret2
    exact ⟨rfl, l2⟩
  | true =>
    rw [hs] at HGd
    by_cases hf : fndN s x < 0
    · have hf' : decide (fndN s x < 0) = true := decide_eq_true hf
      have e1 : tickOk s x now = false := by unfold tickOk stopOk; rw [hs, decide_eq_false (by omega)]; rfl
      rw [key _ e1 rfl, e1]
      clear e1 hs key hrow hcell
      generalize fndN s x = r at HFi hf hf'
      go_enter Try.func41, Try.ntmps41
      go_wp2_with fail
      refine HFi.out.mono ?_
      rintro e w3 ⟨rfl, rfl⟩
      go_wp2_with fail
      refine HGd.out.mono ?_
      rintro e w2 ⟨rfl, l2⟩
      go_wp2_with fail
      go_ret2
      exact ⟨rfl, l2⟩
    · obtain ⟨k, hk⟩ : ∃ k : Nat, fndN s x = k := ⟨(fndN s x).toNat, by omega⟩
      have hkl : k < s.length := by have := (fnd_bd x s).2; omega
      have hf' : decide ((k : Int) < 0) = false := decide_eq_false (by omega)
      have hst : stopOk s x = true := by unfold stopOk; rw [hs, decide_eq_true (by omega)]; rfl
      cases hn : tk now with
      | false =>
        have e1 : tickOk s x now = false := by unfold tickOk; rw [hst, hn]; rfl
        rw [key _ e1 rfl, e1]
        rw [hk] at HFi
        rw [hn] at HTk
        clear e1 hs key hrow hcell hk hf hst hn
        go_enter Try.func41, Try.ntmps41
        go_wp2_with fail
        refine HFi.out.mono ?_
        rintro e w3 ⟨rfl, rfl⟩
        go_wp2_with fail
        refine HGd.out.mono ?_
        rintro e w2 ⟨rfl, l2⟩
        have HB2 := Lib.hid l2
        clear l2
        go_wp2_with fail
        refine (HTk.out _).mono ?_
        rintro e w4 ⟨rfl, rfl⟩
        go_wp2_with fail
        go_ret2
        exact ⟨rfl, HB2.out⟩
      | true =>
        have e1 : tickOk s x now = true := by unfold tickOk; rw [hst, hn]; rfl
        have e2 : tickV s x now = max 0 (s[k].d - now) := by unfold tickV; rw [e1, if_pos rfl, hk, Int.toNat_natCast, getD_at hkl]
        rw [e1, e2]
        obtain ⟨b, off, rfl, hb, q0, q1, q2⟩ := hcell k hkl
        have hnb := tk_iff.1 hn
        have hdb := (tmOk_iff.1 ((tsOk_iff.1 hs).1 _ (List.getElem_mem hkl))).2.1
        generalize s[k].d = d at q1 hdb ⊢
        have hw : IntKind.i64.wrap (d - now) = d - now := IntWalk.i64_in _ (by omega)
        have HMx := Lib.hid (l1Most_any 0 (d - now))
        rw [hk] at HFi
        rw [hn] at HTk
        have hkI : (k : Int) < (s.length : Int) := by omega
        have HQ := Lib.hid (fun (W : World) (h : Below w.heap.size w W) => (h.cell (p := ⟨b, off + k * 3 + 1, none⟩) hb).trans q1)
        clear e1 e2 hs key hrow hcell hk hf hst hn q0 q1 q2 hnb hdb
        go_enter Try.func41, Try.ntmps41
        go_wp2_with fail
        refine HFi.out.mono ?_
        rintro e w3 ⟨rfl, rfl⟩
        go_wp2_with fail
        refine HGd.out.mono ?_
        rintro e w2 ⟨rfl, l2⟩
        have HB2 := Lib.hid l2
        have q3 := HQ.out _ l2
        clear l2
        go_wp2_with fail
        refine (HTk.out _).mono ?_
        rintro e w4 ⟨rfl, rfl⟩
        go_wp2_with fail
        refine (HMx.out _).mono ?_
        rintro e w5 ⟨rfl, rfl⟩
        go_wp2_with fail
        go_ret2
        exact ⟨rfl, HB2.out⟩
set_option maxRecDepth 100000 in
set_option maxHeartbeats 2000000 in
theorem specNext_any (v : Value) (s : List Tm) (w : World) (hrow : Row w v s.length (tmF s)) :
    Calls Try.prog 29 #[v] w fun e w' => e = .returned (.tuple #[.int .i64 (nextT s).d, .int .i64 (nextT s).i, .bool (nextOk s)]) ∧ Below w.heap.size w w' := by
  have HGd := Lib.hid (l8Good_any v s w hrow)
  have HRow := Lib.hid (fun (W : World) (hb : Below w.heap.size w W) => hrow.below hb (Nat.le_refl _))
  obtain ⟨a, cap, rfl, hc1, hm1, hcell⟩ := tm_open hrow
  unfold maxLen at hm1
  have key : nextOk s = false → nextT s = tm0 := fun h => by unfold nextT; rw [h]; rfl
  cases hs : tsOk s with
  | false =>
    have e1 : nextOk s = false := by unfold nextOk; rw [hs]; rfl
    rw [key e1, e1]
    rw [hs] at HGd
    clear e1 hs key hrow hcell
    go_enter Try.func29, Try.ntmps29
    go_wp2_with fail
    refine HGd.out.mono ?_
    rintro e w2 ⟨rfl, l2⟩
    go_wp2_with fail
    go_ret3
    exact ⟨rfl, l2⟩
  | true =>
    rw [hs] at HGd
    by_cases hne : s = []
    · have e1 : nextOk s = false := by unfold nextOk; rw [hs, hne]; rfl
      rw [key e1, e1]
      subst hne
      clear e1 hs key hrow hcell
      go_enter Try.func29, Try.ntmps29
      go_wp2_with fail
      refine HGd.out.mono ?_
      rintro e w2 ⟨rfl, l2⟩
      go_wp2_with fail
      go_ret3
      exact ⟨rfl, l2⟩
    · have e0 : (!s.isEmpty) = true := by cases s with | nil => exact absurd rfl hne | cons _ _ => rfl
      have e1 : nextOk s = true := by unfold nextOk; rw [hs, e0]; rfl
      have hlt := fst_lt hne
      have e2 : nextT s = s[fstI s] := by unfold nextT; rw [e1, if_pos rfl]; unfold fstT; rw [getD_at hlt]
      have HFs := Lib.hid (fun (W : World) (hb : Below w.heap.size w W) => l8First_any (.slice a s.length cap) s W (HRow.out _ hb) hne)
      obtain ⟨k, hkl, hkF, e3⟩ : ∃ k, ∃ h : k < s.length, fstI s = k ∧ nextT s = s[k] := ⟨_, hlt, rfl, e2⟩
      rw [e1, e3]
      rw [hkF] at HFs
      obtain ⟨b, off, rfl, hb, q0, q1, q2⟩ := hcell _ hkl
      have hlen : ((s.length : Int) == 0) = false := by
        have : 0 < s.length := List.length_pos_iff.2 hne
        simp; omega
      obtain ⟨n, hN⟩ : ∃ n, n = s.length := ⟨_, rfl⟩
      have hkn : k < n := by rw [hN]; exact hkl
      have hkI : (k : Int) < (n : Int) := by omega
      generalize s[k] = t at q0 q1 q2 ⊢
      have HQ := Lib.hid (fun (W : World) (h : Below w.heap.size w W) => And.intro ((h.cell (p := ⟨b, off + k * 3, none⟩) hb).trans q0) (And.intro ((h.cell (p := ⟨b, off + k * 3 + 1, none⟩) hb).trans q1) ((h.cell (p := ⟨b, off + k * 3 + 2, none⟩) hb).trans q2)))
      rw [← hN] at hlen HFs HGd ⊢
      clear e0 e1 e2 e3 hkF hs key hrow hcell hne q0 q1 q2 hlt hkl hN HRow hc1
      go_enter Try.func29, Try.ntmps29
      go_wp2_with fail
      refine HGd.out.mono ?_
      rintro e w2 ⟨rfl, l2⟩
      have HB2 := Lib.hid l2
      clear l2
      go_wp2_with fail
      refine (HFs.out _ HB2.out).mono ?_
      rintro e w3 ⟨rfl, hd3⟩
      have HB3 : Hid (Below w.heap.size w w3) := Lib.hid (by obtain ⟨d, hd⟩ := hd3; rw [hd]; exact b_d HB2.out d)
      obtain ⟨y0, y1, y2⟩ := HQ.out _ HB3.out
      clear hd3
      go_wp2_with fail
      go_quiet (fail)
      go_wp2_with fail
      go_ret3
      exact ⟨rfl, b_d (b_a HB3.out _) _⟩
end Go.Proofs.Ytoehedogdbafpaa
