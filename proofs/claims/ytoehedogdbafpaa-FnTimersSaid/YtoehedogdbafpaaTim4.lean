/-
  Timers: the specification's l8Without, l8Put.
-/
import Derived.Test.YtoehedogdbafpaaTim3
import Derived.Test.YtoehedogdbafpaaTimR
namespace Go.Proofs.Ytoehedogdbafpaa
open Go.RowKit Go.Lib Go.Joins
set_option linter.unusedVariables false

theorem wo_take {s : List Tm} {k : Nat} (hk : k < s.length) (a : Int) : wo (s.take (k + 1)) a = if s[k].i = a then wo (s.take k) a else wo (s.take k) a ++ [s[k]] := by
  rw [List.take_succ_eq_append_getElem hk, wo_snoc]
theorem wo_take_eq {s : List Tm} {k : Nat} {a : Int} {t : Tm} (hk : k < s.length) (ht : t = s[k]) (h : t.i = a) : wo (s.take (k + 1)) a = wo (s.take k) a := by
  rw [wo_take hk, ← ht, if_pos h]
theorem wo_take_ne {s : List Tm} {k : Nat} {a : Int} {t : Tm} (hk : k < s.length) (ht : t = s[k]) (h : ¬ t.i = a) : wo (s.take (k + 1)) a = wo (s.take k) a ++ [t] := by
  rw [wo_take hk, ← ht, if_neg h]
theorem tw_at (a : Int) : ∀ (xs : List Tm) (k : Nat), (∀ j (h : j < xs.length), j < k → xs[j].i < a) → (∀ (h : k < xs.length), ¬ xs[k].i < a) → k ≤ xs.length →
    xs.takeWhile (fun x => decide (x.i < a)) = xs.take k ∧ xs.dropWhile (fun x => decide (x.i < a)) = xs.drop k
  | [], k, _, _, hk => by
    have : k = 0 := by simpa using hk
    subst this; exact ⟨rfl, rfl⟩
  | x :: xs, 0, _, h, _ => by
    have hx : ¬ x.i < a := h (by simp)
    rw [List.takeWhile_cons, List.dropWhile_cons, decide_eq_false hx]; exact ⟨rfl, rfl⟩
  | x :: xs, k + 1, h1, h2, hk => by
    have hx : x.i < a := h1 0 (by simp) (by omega)
    have ih := tw_at a xs k (fun j hj hjk => by have := h1 (j + 1) (by simpa using hj) (by omega); simpa using this) (fun h => by have := h2 (by simpa using h); simpa using this) (by simpa using hk)
    rw [List.takeWhile_cons, List.dropWhile_cons, decide_eq_true hx, List.take_succ_cons, List.drop_succ_cons]
    exact ⟨by simpa using ih.1, by simpa using ih.2⟩
theorem put_eq {s : List Tm} {t : Tm} {zs : List Tm} {k : Nat} (hz : zs = wo s t.i) (hk : k ≤ zs.length) (h1 : ∀ j (h : j < zs.length), j < k → zs[j].i < t.i) (h2 : ∀ (h : k < zs.length), ¬ zs[k].i < t.i) : putT s t = zs.take k ++ t :: zs.drop k := by
  subst hz
  obtain ⟨e1, e2⟩ := tw_at t.i _ k h1 h2 hk
  unfold putT
  rw [e1, e2]
theorem ownz_lit {w : World} {g base z : Nat} {t : TypeId} (h : w.heap[g]? = some (.cells #[] t (0, 0))) (hb : base ≤ g) : w.ownsRow base t z (.slice (some ⟨g, 0, none⟩) 0 0) 0 [] :=
  ⟨by simp, .inr ⟨g, 0, #[], rfl, hb, h, Nat.le_refl _, Nat.zero_le _, by simp, by simp⟩⟩
theorem rowz_head {w : World} {b off n cap k z : Nat} {xs : List Value} (h : Row w (.slice (some ⟨b, off, none⟩) n cap) n xs) (hk : k ≤ n) : Row w (.slice (some ⟨b, off, none⟩) k cap) k (xs.take (k * z)) := by
  obtain ⟨a', cap', e, h1, h2, h3⟩ := h
  injection e with e1 _ e2
  subst e1; subst e2
  refine ⟨_, cap, rfl, by omega, h2, fun hx => ?_⟩
  obtain ⟨b', off', e, hb, hc⟩ := h3 (fun e => hx (by rw [e]; simp))
  injection e with e
  injection e with e1 e2
  subst e1; subst e2
  refine ⟨b, off, rfl, hb, fun i hi => ?_⟩
  rw [List.getElem_take]
  exact hc i (by simp at hi; omega)
theorem rowz_tail {w : World} {b off n cap k z : Nat} {xs : List Value} (h : Row w (.slice (some ⟨b, off, none⟩) n cap) n xs) (hk : k ≤ n) : Row w (.slice (some ⟨b, off + k * z, none⟩) (n - k) (cap - k)) (n - k) (xs.drop (k * z)) := by
  obtain ⟨a', cap', e, h1, h2, h3⟩ := h
  injection e with e1 _ e2
  subst e1; subst e2
  refine ⟨_, cap - k, rfl, by omega, by omega, fun hx => ?_⟩
  obtain ⟨b', off', e, hb, hc⟩ := h3 (fun e => hx (by rw [e]; simp))
  injection e with e
  injection e with e1 e2
  subst e1; subst e2
  refine ⟨b, off + k * z, rfl, hb, fun i hi => ?_⟩
  rw [List.getElem_drop, Nat.add_assoc]
  exact hc (k * z + i) (by simp at hi; omega)
theorem ownTm_map {w : World} {B n : Nat} {v : Value} {xs ys : List Value} {e : TypeId} (h : w.ownsRow B e 3 v n xs) (he : xs = ys) : w.ownsRow B e 3 v n ys := he ▸ h
theorem put_own {W : World} {B k n c : Nat} {v : Value} {t : Tm} {zs l : List Tm} {ys : List Value} (hl : l = zs.take k ++ t :: zs.drop k) (hn : zs.length = n) (hk : k ≤ n) (hy : ys = (tmF zs).drop (k * 3)) (hc : c = n + 1)
    (h : W.ownsRow B 42 3 v c ([] ++ (tmF zs).take (k * 3) ++ tmC t ++ ys)) : W.ownsRow B 42 3 v l.length (tmF l) := by
  subst hy; subst hc
  have e : tmF l = [] ++ (tmF zs).take (k * 3) ++ tmC t ++ (tmF zs).drop (k * 3) := by
    rw [hl, tmF_append, tmF_take, tmF_drop, List.nil_append, List.append_assoc]
    congr 1
  have e2 : l.length = n + 1 := by rw [hl]; simp; omega
  rw [e, e2]
  exact h
set_option maxRecDepth 100000 in
set_option maxHeartbeats 2000000 in
theorem l8Without_any (v : Value) (s : List Tm) (a : Int) (w : World) (hrow : Row w v s.length (tmF s)) (hn : s.length ≤ 1000) :
    Calls Try.prog 62 #[v, .int .i64 a] w fun e w' => ∃ g c, e = .returned (.slice (some ⟨g, 0, none⟩) (wo s a).length c) ∧ w'.ownsRow w.heap.size 42 3 (.slice (some ⟨g, 0, none⟩) (wo s a).length c) (wo s a).length (tmF (wo s a)) ∧ Below w.heap.size w w' := by
  obtain ⟨i0, hi, hz0, hz1, hz2⟩ := info_parts infoT
  obtain ⟨ad, cap, rfl, hc1, hm1, hcell⟩ := tm_open hrow
  have HC := Lib.hid hcell
  clear hcell hrow
  unfold maxLen at hm1
  obtain ⟨n, hN⟩ : ∃ n, n = s.length := ⟨_, rfl⟩
  rw [← hN] at hc1 hn ⊢
  have HN := Lib.hid hN
  clear hN
  have HS0 := Lib.hid (OutT.start w w (Below.refl _ _))
  go_enter Try.func62, Try.ntmps62
  go_wp2_with fail
  go_loopw [5, 6] (fun z i wr => ∃ k g c : Nat, k ≤ n ∧ i = .int .i64 k ∧ ∃ zs : List Tm, zs = wo (s.take k) a ∧ z = .slice (some ⟨g, 0, none⟩) zs.length c ∧ Hid (OutT w wr (.slice (some ⟨g, 0, none⟩) zs.length c) zs)) (fun _ i _ => n - (intOf i).toNat)
  case atStart => exact ⟨0, _, 0, Nat.zero_le _, rfl, [], rfl, rfl, HS0⟩
  case round =>
    clear HS0
    obtain ⟨k, g, c, hk, rfl, zs, hzs, rfl, HS⟩ := hrel
    by_cases hkn : k < n
    · have hks : k < s.length := by rw [← HN.out]; exact hkn
      obtain ⟨b, off, rfl, hb, q0, q1, q2⟩ := HC.out k hks
      have r0 := (HS.out.bel.cell hb).trans q0
      have r1 := (HS.out.bel.cell hb).trans q1
      have r2 := (HS.out.bel.cell hb).trans q2
      have HE := Lib.hid (fun (h : s[k].i = a) => @wo_take_eq s k a s[k] hks rfl h)
      have HE2 := Lib.hid (fun (h : ¬ s[k].i = a) => @wo_take_ne s k a s[k] hks rfl h)
      clear q0 q1 q2
      generalize s[k] = t at r0 r1 r2 HE HE2
      have hzl : zs.length ≤ n := by
        rw [hzs]
        exact Nat.le_trans (wo_len _ _) (by rw [List.length_take]; omega)
      have HZ := Lib.hid hzs
      clear hzs hks
      by_cases he : t.i = a
      · have hf : (t.i != a) = false := by simp [he]
        have HZ2 : Hid (zs = wo (s.take (k + 1)) a) := Lib.hid (HZ.out.trans (HE.out he).symm)
        clear HE HE2
        go_wp2_with fail
        go_roundw
        case rel => exact ⟨k + 1, g, c, by omega, by go_num, zs, HZ2.out, rfl, HS⟩
        case measure => (simp [intOf]; omega)
      · have hf : (t.i != a) = true := by simp; exact he
        have HZ2 : Hid (zs ++ [t] = wo (s.take (k + 1)) a) := Lib.hid (by rw [HE2.out he, ← HZ.out])
        have HSA : Hid (OutT w (wr.alloc (.cells #[.int .i64 t.i, .int .i64 t.d, .int .i64 t.p] 42)) (.slice (some ⟨g, 0, none⟩) zs.length c) zs) := Lib.hid (HS.out.alloc _)
        have HL : Hid (Row (wr.alloc (.cells #[.int .i64 t.i, .int .i64 t.d, .int .i64 t.p] 42)) (.slice (some ⟨wr.heap.size, 0, none⟩) 1 1) 1 (tmC t)) := Lib.hid (row_litT (Tb.new wr t))
        clear HE HE2
        go_wp2_with (at_builtin; refine wpList_append_own _ rfl _ _ 24 rfl w.heap.size 42 i0 (.agg #[.int .i64 0, .int .i64 0, .int .i64 0]) 3 24 Try.underlying24 hi hz0 hz1 hz2 rfl (by decide) _ zs.length (tmF zs) rfl HSA.out.own ⟨wr.heap.size, 0, none⟩ 1 1 (tmC t) rfl rfl (row_news HL.out) (tmC_one t) (by unfold maxLen; omega) (by omega) HSA.out.bel.size ?_; intro v' w4 hown' hgrow _; obtain ⟨zs5, hz5⟩ : ∃ z, z = zs ++ [t] := ⟨_, rfl⟩; obtain ⟨g5, c5, rfl, hs5⟩ := HSA.out.app hz5 hown' hgrow; have HS5 := Lib.hid hs5; have HZ5 := Lib.hid hz5; clear hown' hgrow hs5 hz5)
        go_roundw
        case rel => exact ⟨k + 1, g5, c5, by omega, by go_num, zs5, HZ5.out.trans HZ2.out, rfl, HS5⟩
        case measure => (simp [intOf]; omega)
    · obtain rfl : k = n := by omega
      have hfin : zs = wo s a := by rw [hzs, HN.out, List.take_of_length_le (Nat.le_refl _)]
      have HF := Lib.hid hfin
      clear hfin hzs
      go_wp2_with fail
      go_ret
      rw [← HF.out]
      exact ⟨g, c, rfl, HS.out.own, HS.out.bel⟩
theorem keep_box {W0 W : World} {R : Nat} {t : Tm} (h : Tb W0 R t) (hb : Below W0.heap.size W0 W) : W.cell? ⟨R, 0, none⟩ = some (.int .i64 t.i) ∧ W.cell? ⟨R, 1, none⟩ = some (.int .i64 t.d) ∧ W.cell? ⟨R, 2, none⟩ = some (.int .i64 t.p) ∧ Below W0.heap.size W0 W := by
  obtain ⟨a, b, c⟩ := (h.below hb h.lt).cells
  exact ⟨a, b, c, hb⟩
theorem world_tm {w wr : World} (h : ∃ a, wr = w.drewN a) (k : Nat) : ∃ a, wr.drewN k = w.drewN a := by
  obtain ⟨a, rfl⟩ := h
  exact ⟨_, World.drewN_drewN _ _ _⟩
set_option maxRecDepth 100000 in
set_option maxHeartbeats 4000000 in
theorem l8Put_any (v : Value) (s : List Tm) (t : Tm) (w : World) (hrow : Row w v s.length (tmF s)) (hn : s.length ≤ 1000) :
    Calls Try.prog 74 #[v, .agg #[.int .i64 t.i, .int .i64 t.d, .int .i64 t.p]] w fun e w' => ∃ g c, e = .returned (.slice (some ⟨g, 0, none⟩) (putT s t).length c) ∧ w'.ownsRow w.heap.size 42 3 (.slice (some ⟨g, 0, none⟩) (putT s t).length c) (putT s t).length (tmF (putT s t)) ∧ Below w.heap.size w w' := by
  obtain ⟨i0, hi, hz0, hz1, hz2⟩ := info_parts infoT
  obtain ⟨W1, hW1⟩ : ∃ W1, W1 = w.alloc (.cells #[.int .i64 t.i, .int .i64 t.d, .int .i64 t.p] 42) := ⟨_, rfl⟩
  have HB1 : Hid (Below w.heap.size w W1) := Lib.hid (by rw [hW1]; exact (Below.refl w.heap.size w).alloc (Nat.le_refl _) _)
  obtain ⟨R, hR⟩ : ∃ R, R = w.heap.size := ⟨_, rfl⟩
  have hT1 : Tb W1 R t := by rw [hW1, hR]; exact Tb.new w t
  have HWo := Lib.hid (l8Without_any v s t.i W1 (hrow.below HB1.out (Nat.le_refl _)) hn)
  have HRl : Hid (R < W1.heap.size) := Lib.hid hT1.lt
  have HW1 := Lib.hid hW1
  have HR := Lib.hid hR
  have HT1 := Lib.hid hT1
  obtain ⟨x0, x1, x2⟩ := hT1.cells
  have hzl : (wo s t.i).length ≤ 1000 := Nat.le_trans (wo_len _ _) hn
  have HP := Lib.hid (fun k hk h1 h2 => @put_eq s t (wo s t.i) k rfl hk h1 h2)
  obtain ⟨zs, hzs⟩ : ∃ zs, zs = wo s t.i := ⟨_, rfl⟩
  rw [← hzs] at HWo hzl HP
  obtain ⟨a, cap, rfl, _, _, _⟩ := tm_open hrow
  clear hW1 hR hT1 hzs hrow hn
  go_enter Try.func74, Try.ntmps74
  go_upto_region 1 with fail
  rw [← HW1.out, ← HR.out]
  go_wp2_with fail
  refine HWo.out.mono ?_
  rintro e w2 ⟨g, c, rfl, o2, l2⟩
  have HT2 : Hid (Tb w2 R t) := Lib.hid (HT1.out.below l2 HRl.out)
  have HB2 : Hid (Below w.heap.size w w2) := Lib.hid (HB1.out.trans (l2.mono HB1.out.size))
  have HO2 := Lib.hid (ownz_base o2 HB1.out.size)
  have hgR : R < g := Nat.lt_of_lt_of_le HRl.out (o2.lt g rfl).1
  have HGR := Lib.hid hgR
  obtain ⟨m, hm⟩ : ∃ m, m = zs.length := ⟨_, rfl⟩
  have hcm : m ≤ c ∧ c ≤ maxLen := by obtain ⟨a', c', e', h1, h2⟩ := ownz_slice o2; injection e' with _ _ e3; subst e3; rw [hm]; exact ⟨h1, h2⟩
  obtain ⟨hc1, hc2⟩ := hcm
  unfold maxLen at hc2
  rw [← hm] at hzl HO2
  rw [← hm]
  have HM := Lib.hid hm
  clear x0 x1 x2 l2 o2 hm hgR HT1 HRl
  go_wp2_with fail
  go_loopw [6] (fun i wr => ∃ k : Nat, k ≤ m ∧ i = .int .i64 k ∧ Hid (∀ j (h : j < zs.length), j < k → zs[j].i < t.i) ∧ Hid (∃ d, wr = w2.drewN d)) (fun i _ => m - (intOf i).toNat)
  case atStart => exact ⟨0, Nat.zero_le _, rfl, Lib.hid (fun j h hj => absurd hj (Nat.not_lt_zero _)), Lib.hid ⟨0, rfl⟩⟩
  case round =>
    obtain ⟨k, hk, rfl, HA, HD⟩ := hrel
    obtain ⟨y0, -, -⟩ := HT2.out.cells
    have y0' : wr.cell? ⟨R, 0, none⟩ = some (.int .i64 t.i) := by obtain ⟨d, rfl⟩ := HD.out; exact y0
    clear y0
    go_upto_region 3 with fail
    go_cut [24] from 11 to 24 (fun b wx => ∃ bb : Bool, b = .bool bb ∧ Hid (bb = true → ∃ h : k < zs.length, zs[k].i < t.i) ∧ Hid (bb = false → ∀ h : k < zs.length, ¬ zs[k].i < t.i) ∧ Hid (∃ d, wx = w2.drewN d))
    case first =>
      by_cases hkm : k < m
      · have hkz : k < zs.length := by rw [← HM.out]; exact hkm
        obtain ⟨z0, -, -, -, -, -, -⟩ := ownT_facts HO2.out (List.getElem?_eq_getElem hkz)
        obtain ⟨y, hy⟩ : ∃ y, y = zs[k].i := ⟨_, rfl⟩
        have z0' : wr.cell? ⟨g, k * 3, none⟩ = some (.int .i64 y) := by obtain ⟨d, rfl⟩ := HD.out; rw [hy]; exact z0
        have HF1 : Hid (y < t.i → ∃ h : k < zs.length, zs[k].i < t.i) := Lib.hid (fun h => ⟨hkz, by rw [← hy]; exact h⟩)
        have HF2 : Hid (¬ y < t.i → ∀ h : k < zs.length, ¬ zs[k].i < t.i) := Lib.hid (fun h _ => by rw [← hy]; exact h)
        clear z0 hy hkz
        obtain ⟨x, hx⟩ : ∃ x, x = t.i := ⟨_, rfl⟩
        have HF3 : Hid (y < x → ∃ h : k < zs.length, zs[k].i < t.i) := Lib.hid (by rw [hx]; exact HF1.out)
        have HF4 : Hid (¬ y < x → ∀ h : k < zs.length, ¬ zs[k].i < t.i) := Lib.hid (by rw [hx]; exact HF2.out)
        rw [← hx] at y0'
        clear hx HF1 HF2
        have hkm' : decide ((k : Int) < (m : Int)) = true := decide_eq_true (by omega)
        by_cases hlt : y < x
        · have hd : decide (y < x) = true := decide_eq_true hlt
          go_wp2_with fail
          go_quiet (fail)
          go_wp2_with fail
          go_meet
          case rel => exact ⟨true, rfl, Lib.hid (fun _ => HF3.out hlt), Lib.hid (fun h => Bool.noConfusion h), Lib.hid (world_tm HD.out _)⟩
        · have hd : decide (y < x) = false := decide_eq_false hlt
          go_wp2_with fail
          go_quiet (fail)
          go_wp2_with fail
          go_meet
          case rel => exact ⟨false, rfl, Lib.hid (fun h => Bool.noConfusion h), Lib.hid (fun _ => HF4.out hlt), Lib.hid (world_tm HD.out _)⟩
      · have hkm' : decide ((k : Int) < (m : Int)) = false := decide_eq_false (by omega)
        have HF2 : Hid (∀ h : k < zs.length, ¬ zs[k].i < t.i) := Lib.hid (fun h => absurd h (by rw [← HM.out]; exact hkm))
        go_wp2_with fail
        go_quiet (fail)
        go_wp2_with fail
        go_meet
        case rel => exact ⟨false, rfl, Lib.hid (fun h => Bool.noConfusion h), Lib.hid (fun _ => HF2.out), Lib.hid (world_tm HD.out _)⟩
    case rest =>
      obtain ⟨bb, rfl, HF1, HF2, HD2⟩ := hcut
      rename World => W0
      cases bb with
      | true =>
        have hkz : k < m := by obtain ⟨h, _⟩ := HF1.out rfl; rw [HM.out]; exact h
        have HA2 : Hid (∀ j (h : j < zs.length), j < k + 1 → zs[j].i < t.i) := Lib.hid (fun j h hj => by
          by_cases e : j < k
          · exact HA.out j h e
          · have e2 : j = k := by omega
            subst e2
            exact (HF1.out rfl).2)
        clear HF1 HF2 HD y0'
        go_wp2_with fail
        go_roundw
        case rel => exact ⟨k + 1, by omega, by go_num, HA2, HD2⟩
        case measure => (simp [intOf]; omega)
      | false =>
        have HPt := Lib.hid (HP.out k (by rw [← HM.out]; exact hk) HA.out (by first | exact HF2.out rfl | exact fun h => Int.not_lt.1 (HF2.out rfl h)))
        have HB0 : Hid (Below w.heap.size w W0) := Lib.hid (by obtain ⟨d, hd⟩ := HD2.out; rw [hd]; exact b_d HB2.out d)
        have HO0 : Hid (W0.ownsRow w.heap.size 42 3 (.slice (some ⟨g, 0, none⟩) m c) m (tmF zs)) := Lib.hid (by obtain ⟨d, hd⟩ := HD2.out; rw [hd]; exact ownz_below HO2.out (bdrew _ d) (Nat.le_refl _))
        have HT0b : Hid (Tb W0 R t) := Lib.hid (by obtain ⟨d, hd⟩ := HD2.out; rw [hd]; exact HT2.out)
        have HL0 : Hid (zs.length = m) := Lib.hid HM.out.symm
        have hRl : R < W0.heap.size := HT0b.out.lt
        obtain ⟨y0, y1, y2⟩ := HT0b.out.cells
        have HKp := Lib.hid (fun (w' : World) (hb : Below W0.heap.size W0 w') => keep_box HT0b.out hb)
        clear HF1 HF2 HD HD2 y0' HA HP HO2 HT2 HB2
        obtain ⟨ti, td, tp⟩ := t
        dsimp only at y0 y1 y2 HKp
        go_wp2_with fail
        have tokB : True := trivial
        have k0 : (0 : Int) ≤ (k : Int) := by omega
        have k1 : (k : Int) ≤ (c : Int) := by omega
        have k2 : (k : Int) ≤ (m : Int) := by omega
        by_cases hck : c = k
        · have hkc : k = c := hck.symm
          subst hkc
          have HH0 := Lib.hid (rowz_head (z := 3) (rowz_own HO0.out) hk)
          have HT0 : Hid (Row W0 (.slice (some ⟨g, 0, none⟩) 0 0) 0 []) := Lib.hid (row_none _ _ _ (Nat.zero_le _))
          have HZ0 : Hid ([] = (tmF zs).drop (k * 3)) := Lib.hid (by rw [List.drop_of_length_le (by rw [tmF_len, HL0.out]; omega)])
          have tail_one : ∀ q ∈ ([] : List Value), q.oneCell' = true := fun q hq => by cases hq
          go_region_held3 (fun w' => w'.cell? ⟨R, 0, none⟩ = some (.int .i64 ti) ∧ w'.cell? ⟨R, 1, none⟩ = some (.int .i64 td) ∧ w'.cell? ⟨R, 2, none⟩ = some (.int .i64 tp) ∧ Below W0.heap.size W0 w')
            ((refine HKp.out _ ?_; repeat (first | assumption | exact Below.refl _ _ | refine Below.drew ?_ | refine below_alloc' ?_)))
            (first
              | (have _t := tokB; refine step_append_rowz (by rfl) _ _ _ (by rfl) W0.heap.size 42 i0 (.agg #[.int .i64 0, .int .i64 0, .int .i64 0]) 3 24 Try.underlying24 hi hz0 hz1 hz2 rfl (by decide) _ 0 [] (by rfl) (ownz_lit (by first | exact heap_alloc_new _ _ | exact heap_first _ _ _ | exact heap_second _ _ _) (by omega)) ⟨g, 0, none⟩ k k ((tmF zs).take (k * 3)) (by rfl) (HH0.out.below (by repeat (first | assumption | exact Below.refl _ _ | refine Below.drew ?_ | refine below_alloc' ?_)) (Nat.le_refl _)) (by rw [List.length_take, tmF_len, HL0.out]; omega) (fun q hq => tmF_one zs q (List.mem_of_mem_take hq)) (by unfold maxLen; omega) (by omega) (below_size' (by repeat (first | assumption | exact Below.refl _ _ | refine Below.drew ?_ | refine below_alloc' ?_))) ?_; intro v1 w1 hown1 hgrow1 hat1; have hb1 : Below W0.heap.size W0 w1 := below_grown (by repeat (first | assumption | exact Below.refl _ _ | refine Below.drew ?_ | refine below_alloc' ?_)) hgrow1 (fun q hq => lit_block (by omega) hq); clear tokB _t; have tokD : True := trivial)
              | (have _t := tokD; refine step_append_rowz (by rfl) _ _ _ (by rfl) W0.heap.size 42 i0 (.agg #[.int .i64 0, .int .i64 0, .int .i64 0]) 3 24 Try.underlying24 hi hz0 hz1 hz2 rfl (by decide) v1 (0 + k) ([] ++ ((tmF zs).take (k * 3))) (by rfl) (by first | exact hown1 | exact hown1.alloc _ | exact (hown1.alloc _).drew) _ 1 1 (tmC ⟨ti, td, tp⟩) (by rfl) (by first | exact row_litT (heap_alloc_new _ _) | exact row_litT (heap_grown hgrow1 (heap_second _ _ _) (by simp [Value.ownBlock])) | exact row_litT (heap_grown hgrow1 (heap_first _ _ _) (by simp [Value.ownBlock]))) rfl (tmC_one _) (by unfold maxLen; omega) (by omega) (below_size' (by repeat (first | assumption | exact Below.refl _ _ | refine Below.drew ?_ | refine below_alloc' ?_))) ?_; intro v2 w2 hown2 hgrow2 hat2; have hb2 : Below W0.heap.size W0 w2 := below_grown (by repeat (first | assumption | exact Below.refl _ _ | refine Below.drew ?_ | refine below_alloc' ?_)) hgrow2 (fun q hq => (hown1.lt q hq).1); clear tokD _t; have tokE : True := trivial)
              | (have _t := tokE; refine step_append_rowz (by rfl) _ _ _ (by rfl) W0.heap.size 42 i0 (.agg #[.int .i64 0, .int .i64 0, .int .i64 0]) 3 24 Try.underlying24 hi hz0 hz1 hz2 rfl (by decide) v2 (0 + k + 1) ([] ++ ((tmF zs).take (k * 3)) ++ (tmC ⟨ti, td, tp⟩)) (by rfl) (by first | exact hown2 | exact hown2.alloc _ | exact (hown2.alloc _).drew) ⟨g, 0, none⟩ 0 0 ([]) (by rfl) (HT0.out.below (by repeat (first | assumption | exact Below.refl _ _ | refine Below.drew ?_ | refine below_alloc' ?_)) (Nat.le_refl _)) rfl (fun q hq => tail_one q hq) (by unfold maxLen; omega) (by omega) (below_size' (by repeat (first | assumption | exact Below.refl _ _ | refine Below.drew ?_ | refine below_alloc' ?_))) ?_; intro v3 w3 hown3 hgrow3 hat3; have hb3 : Below W0.heap.size W0 w3 := below_grown (by repeat (first | assumption | exact Below.refl _ _ | refine Below.drew ?_ | refine below_alloc' ?_)) hgrow3 (fun q hq => (hown2.lt q hq).1); clear tokE _t; have tokF : True := trivial))
          all_goals go_wp2_with fail
          all_goals
            have hv3 := ownz_form hown3 (by omega)
            have ho3 := put_own HPt.out HL0.out hk HZ0.out (by omega) (ownz_base hown3 HB0.out.size)
            have hq3 := HB0.out.trans (hb3.mono HB0.out.size)
            obtain ⟨g3, c3, rfl⟩ := hv3
            have HO3 := Lib.hid ho3
            have HQ3 := Lib.hid hq3
            clear ho3 hq3 hown1 hown2 hown3 hgrow1 hgrow2 hgrow3 hat1 hat2 hat3 hb1 hb2 hb3
            go_ret
            have he : (putT s ⟨ti, td, tp⟩).length = 0 + k + 1 + 0 := by rw [HPt.out]; simp only [List.length_append, List.length_cons, List.length_take, List.length_drop, HL0.out]; omega
            rw [he] at HO3 ⊢
            exact ⟨g3, c3, rfl, HO3.out, HQ3.out⟩
        · have HH0 := Lib.hid (rowz_head (z := 3) (rowz_own HO0.out) hk)
          have HT0 := Lib.hid (rowz_tail (z := 3) (rowz_own HO0.out) hk)
          rw [Nat.zero_add] at HT0
          have tail_one : ∀ q ∈ (tmF zs).drop (k * 3), q.oneCell' = true := fun q hq => tmF_one zs q (List.mem_of_mem_drop hq)
          go_region_held3 (fun w' => w'.cell? ⟨R, 0, none⟩ = some (.int .i64 ti) ∧ w'.cell? ⟨R, 1, none⟩ = some (.int .i64 td) ∧ w'.cell? ⟨R, 2, none⟩ = some (.int .i64 tp) ∧ Below W0.heap.size W0 w')
            ((refine HKp.out _ ?_; repeat (first | assumption | exact Below.refl _ _ | refine Below.drew ?_ | refine below_alloc' ?_)))
            (first
              | (have _t := tokB; refine step_append_rowz (by rfl) _ _ _ (by rfl) W0.heap.size 42 i0 (.agg #[.int .i64 0, .int .i64 0, .int .i64 0]) 3 24 Try.underlying24 hi hz0 hz1 hz2 rfl (by decide) _ 0 [] (by rfl) (ownz_lit (by first | exact heap_alloc_new _ _ | exact heap_first _ _ _ | exact heap_second _ _ _) (by omega)) ⟨g, 0, none⟩ k c ((tmF zs).take (k * 3)) (by rfl) (HH0.out.below (by repeat (first | assumption | exact Below.refl _ _ | refine Below.drew ?_ | refine below_alloc' ?_)) (Nat.le_refl _)) (by rw [List.length_take, tmF_len, HL0.out]; omega) (fun q hq => tmF_one zs q (List.mem_of_mem_take hq)) (by unfold maxLen; omega) (by omega) (below_size' (by repeat (first | assumption | exact Below.refl _ _ | refine Below.drew ?_ | refine below_alloc' ?_))) ?_; intro v1 w1 hown1 hgrow1 hat1; have hb1 : Below W0.heap.size W0 w1 := below_grown (by repeat (first | assumption | exact Below.refl _ _ | refine Below.drew ?_ | refine below_alloc' ?_)) hgrow1 (fun q hq => lit_block (by omega) hq); clear tokB _t; have tokD : True := trivial)
              | (have _t := tokD; refine step_append_rowz (by rfl) _ _ _ (by rfl) W0.heap.size 42 i0 (.agg #[.int .i64 0, .int .i64 0, .int .i64 0]) 3 24 Try.underlying24 hi hz0 hz1 hz2 rfl (by decide) v1 (0 + k) ([] ++ ((tmF zs).take (k * 3))) (by rfl) (by first | exact hown1 | exact hown1.alloc _ | exact (hown1.alloc _).drew) _ 1 1 (tmC ⟨ti, td, tp⟩) (by rfl) (by first | exact row_litT (heap_alloc_new _ _) | exact row_litT (heap_grown hgrow1 (heap_second _ _ _) (by simp [Value.ownBlock])) | exact row_litT (heap_grown hgrow1 (heap_first _ _ _) (by simp [Value.ownBlock]))) rfl (tmC_one _) (by unfold maxLen; omega) (by omega) (below_size' (by repeat (first | assumption | exact Below.refl _ _ | refine Below.drew ?_ | refine below_alloc' ?_))) ?_; intro v2 w2 hown2 hgrow2 hat2; have hb2 : Below W0.heap.size W0 w2 := below_grown (by repeat (first | assumption | exact Below.refl _ _ | refine Below.drew ?_ | refine below_alloc' ?_)) hgrow2 (fun q hq => (hown1.lt q hq).1); clear tokD _t; have tokE : True := trivial)
              | (have _t := tokE; refine step_append_rowz (by rfl) _ _ _ (by rfl) W0.heap.size 42 i0 (.agg #[.int .i64 0, .int .i64 0, .int .i64 0]) 3 24 Try.underlying24 hi hz0 hz1 hz2 rfl (by decide) v2 (0 + k + 1) ([] ++ ((tmF zs).take (k * 3)) ++ (tmC ⟨ti, td, tp⟩)) (by rfl) (by first | exact hown2 | exact hown2.alloc _ | exact (hown2.alloc _).drew) ⟨g, k * 3, none⟩ (m - k) (c - k) ((tmF zs).drop (k * 3)) (by rfl) (HT0.out.below (by repeat (first | assumption | exact Below.refl _ _ | refine Below.drew ?_ | refine below_alloc' ?_)) (Nat.le_refl _)) (by rw [List.length_drop, tmF_len, HL0.out]; omega) (fun q hq => tail_one q hq) (by unfold maxLen; omega) (by omega) (below_size' (by repeat (first | assumption | exact Below.refl _ _ | refine Below.drew ?_ | refine below_alloc' ?_))) ?_; intro v3 w3 hown3 hgrow3 hat3; have hb3 : Below W0.heap.size W0 w3 := below_grown (by repeat (first | assumption | exact Below.refl _ _ | refine Below.drew ?_ | refine below_alloc' ?_)) hgrow3 (fun q hq => (hown2.lt q hq).1); clear tokE _t; have tokF : True := trivial))
          all_goals go_wp2_with fail
          all_goals
            have hv3 := ownz_form hown3 (by omega)
            have ho3 := put_own HPt.out HL0.out hk rfl (by omega) (ownz_base hown3 HB0.out.size)
            have hq3 := HB0.out.trans (hb3.mono HB0.out.size)
            obtain ⟨g3, c3, rfl⟩ := hv3
            have HO3 := Lib.hid ho3
            have HQ3 := Lib.hid hq3
            clear ho3 hq3 hown1 hown2 hown3 hgrow1 hgrow2 hgrow3 hat1 hat2 hat3 hb1 hb2 hb3
            go_ret
            have he : (putT s ⟨ti, td, tp⟩).length = 0 + k + 1 + (m - k) := by rw [HPt.out]; simp only [List.length_append, List.length_cons, List.length_take, List.length_drop, HL0.out]; omega
            rw [he] at HO3 ⊢
            exact ⟨g3, c3, rfl, HO3.out, HQ3.out⟩
end Go.Proofs.Ytoehedogdbafpaa
