/-
  Links: the specification's SendOn.
-/
import Derived.Test.YtbhhmaialilabaaLink4
import Derived.Laws.AppendOwnNone
namespace Go.Proofs.Ytbhhmaialilabaa
open Go.RowKit Go.Lib Go.Joins
set_option linter.unusedVariables false

/-- A slice as a program makes it: nil, or in memory. -/
def FitS (v : Value) (n : Nat) : Prop := (v = .slice none 0 0 ∧ n = 0) ∨ ∃ ad c, v = .slice (some ad) n c
theorem fitS_own {w : World} {B n z : Nat} {e : TypeId} {v : Value} {xs : List Value} (h : w.ownsRow B e z v n xs) : FitS v n := by
  obtain ⟨hl, ⟨rfl, h0⟩ | ⟨g, c, cur, rfl, _⟩⟩ := h
  · exact .inl ⟨rfl, h0⟩
  · exact .inr ⟨_, _, rfl⟩
/-- An append of such a slice to a row of the call's own. -/
theorem wpList_append_fitS {P : Program} (w : World) {ops : Array Oper} {rest : List Oper} {o : Oper} {a : Act} {Q : Exit → Act → World → Prop} (hgd : o.guard = none) (s x : Operand) (t : TypeId)
    (ho : o.op = .call { callee := .builtin .append, args := #[s, x], argTypes := #[t, t] })
    (base : Nat) (e : TypeId) (i : TypeInfo) (z : Value) (size bytes : Nat) (ht : P.underlying t = some (.slice e)) (hi : P.info? e = some i) (hz : i.zero = some z)
    (hsize : i.size = size) (hby : i.bytes = bytes) (hzs : z.cells.size = size) (hsz : 0 < size)
    (v : Value) (n : Nat) (xs : List Value) (hs : a.eval s = v) (hown : w.ownsRow base e size v n xs)
    (vx : Value) (m : Nat) (ys : List Value) (hx : a.eval x = vx) (hfit : FitS vx m) (hl : ys.length = m * size) (hrow : Row w vx m ys) (h1 : ∀ u ∈ ys, u.oneCell' = true)
    (h63 : n + m ≤ maxLen) (hbytes : (n + m) * bytes ≤ 140737488355328) (hbase : base ≤ w.heap.size)
    (h : ∀ v' w', w'.ownsRow base e size v' (n + m) (xs ++ ys) → w.grownBy w' v.ownBlock → wpList P ops Q rest (a.put o.dst v') w') :
    wpList P ops Q (o :: rest) a w := by
  rcases hfit with ⟨rfl, rfl⟩ | ⟨ad, c, rfl⟩
  · have hy : ys = [] := List.eq_nil_of_length_eq_zero (by omega)
    subst hy
    refine wpList_append_own_none hgd s x t ho base e i size ht hi v n xs hs hown hx ?_
    exact h v w (by rw [List.append_nil]; exact hown) (World.grownBy.refl w _)
  · exact wpList_append_own_at w hgd s x t ho base e i z size bytes ht hi hz hsize hby hzs hsz v n xs hs hown ad m c ys hx hl (row_news hrow) h1 h63 hbytes hbase (fun v' w' h2 h3 _ _ => h v' w' h2 h3)
/-- The first elements of a row of the call's own. -/
theorem own_head {w : World} {B k n : Nat} {e : TypeId} {g c : Nat} {xs : List Value} (h : w.ownsRow B e 1 (.slice (some ⟨g, 0, none⟩) n c) n xs) (hk : k ≤ n) : w.ownsRow B e 1 (.slice (some ⟨g, 0, none⟩) k c) k (xs.take k) := by
  obtain ⟨hl, ⟨h0, _⟩ | ⟨g', cap, cur, e1, hb, hg, hn, hm, hs, ht⟩⟩ := h
  · cases h0
  · injection e1 with e1 _ e3
    injection e1 with e1
    injection e1 with e1 _ _
    subst e1; subst e3
    refine ⟨by rw [List.length_take]; omega, .inr ⟨g, c, cur, rfl, hb, hg, by omega, hm, hs, ?_⟩⟩
    rw [← ht, List.take_take, Nat.mul_one, Nat.mul_one, Nat.min_eq_left hk]
theorem sendOk_no {l : Lk} {s : ByteArray} (h : sendOk l s = false) : sendL l s = lk0 := by unfold sendL; rw [h]; rfl
theorem sendOk_yes {l : Lk} {s : ByteArray} (h : sendOk l s = true) : sendL l s = ⟨putQ (fateB l) l.q s, l.f, usedN l⟩ := if_pos h
theorem putQ_108 (q : List ByteArray) (s : ByteArray) : putQ 108 q s = q := if_pos rfl
theorem putQ_107 (q : List ByteArray) (s : ByteArray) : putQ 107 q s = q ++ [s] := rfl
theorem putQ_115 (q : List ByteArray) (s : ByteArray) (h : 0 < q.length) : putQ 115 q s = q.take (q.length - 1) ++ [s] ++ q.drop (q.length - 1) := by
  unfold putQ
  rw [if_neg (by decide), if_pos ⟨rfl, h⟩, List.dropLast_eq_take]
theorem putQ_115n (s : ByteArray) : putQ 115 [] s = [s] := rfl
theorem putQ_100 (q : List ByteArray) (s : ByteArray) (h : q.length + 1 < 8) : putQ 100 q s = q ++ [s, s] := by
  unfold putQ
  rw [if_neg (by decide), if_neg (fun hh => absurd hh.1 (by decide)), if_pos ⟨rfl, h⟩]
theorem putQ_100n (q : List ByteArray) (s : ByteArray) (h : ¬ q.length + 1 < 8) : putQ 100 q s = q ++ [s] := by
  unfold putQ
  rw [if_neg (by decide), if_neg (fun hh => absurd hh.1 (by decide)), if_neg (fun hh => h hh.2)]
set_option maxRecDepth 100000 in
set_option maxHeartbeats 8000000 in
theorem specSend_any (v : Value) (l : Lk) (s : ByteArray) (w : World) (hrow : Row w v l.q.length (l.q.map Value.string)) (hfit : FitS v l.q.length) (hf : l.f.size ≤ 1048576) :
    Calls Try.prog 17 #[.agg #[v, .string l.f, .int .i64 l.u], .string s] w fun e w' => ∃ v', e = .returned (.tuple #[.agg #[v', .string (sendL l s).f, .int .i64 (sendL l s).u], .bool (sendOk l s)]) ∧ w'.ownsRow w.heap.size 9 1 v' (sendL l s).q.length ((sendL l s).q.map Value.string) ∧ Below w.heap.size w w' := by
  obtain ⟨i0, hi, hz0, hz1, hz2⟩ := info_parts infoStr
  obtain ⟨W, hW⟩ : ∃ W, W = (w.alloc (.cells #[v, .string l.f, .int .i64 l.u] 26)).alloc (.cells #[.slice none 0 0, .string ⟨#[]⟩, .int .i64 0] 26) := ⟨_, rfl⟩
  have hB : Below w.heap.size w W := by rw [hW]; exact ((Below.refl w.heap.size w).alloc (Nat.le_refl _) _).alloc (by simp) _
  have hT : Lb W w.heap.size v l := by rw [hW]; exact (Lb.new hrow).below ((Below.refl _ _).alloc (Nat.le_refl _) _)
  have hA : Lq W (w.heap.size + 1) (.slice none 0 0) ⟨#[]⟩ 0 := by
    rw [hW]
    have := Lq.new (w.alloc (.cells #[v, .string l.f, .int .i64 l.u] 26)) (.slice none 0 0) ⟨#[]⟩ 0
    rw [World.size_alloc] at this
    exact this
  have HW := Lib.hid hW
  have HB := Lib.hid hB
  have HA := Lib.hid hA
  have HT := Lib.hid hT
  have HFit := Lib.hid hfit
  have HG := Lib.hid (l7Good_any v l W hT.row hf)
  have HNx := Lib.hid (fun (h : lkOk l = true) (W1 : World) hr => l7Next_any v l W1 hr h)
  obtain ⟨a, cap, rfl, hc1, hm1, _⟩ := row_open hrow
  unfold maxLen at hm1
  obtain ⟨R, hR⟩ : ∃ R, R = w.heap.size := ⟨_, rfl⟩
  obtain ⟨R4, hR4⟩ : ∃ R4, R4 = w.heap.size + 1 := ⟨_, rfl⟩
  rw [← hR] at HT
  rw [← hR4] at HA
  have HR := Lib.hid hR
  have HR4 := Lib.hid hR4
  obtain ⟨n, hN⟩ : ∃ n, n = l.q.length := ⟨_, rfl⟩
  rw [← hN] at hc1 HT HW HG HFit HNx ⊢
  have HN := Lib.hid hN
  clear hW hB hT hA hR hR4 hrow hf hN hfit
  obtain ⟨x0, x1, x2⟩ := HT.out.cells
  have HNo := Lib.hid (@sendOk_no l s)
  have HYes := Lib.hid (@sendOk_yes l s)
  cases ok : lkOk l with
  | false =>
    rw [ok] at HG
    have hk : sendOk l s = false := by unfold sendOk; rw [ok]; rfl
    rw [HNo.out hk, hk]
    clear ok hk HNx HNo HYes
    go_enter Try.func17, Try.ntmps17
    go_upto_region 1 with fail
    rw [← HW.out, ← HR4.out, ← HR.out]
    go_wp2_with fail
    refine HG.out.mono ?_
    rintro e W2 ⟨rfl, l2⟩
    have HB2 := Lib.hid (HB.out.trans (l2.mono HB.out.size))
    have HA2 := Lib.hid (HA.out.below l2 HA.out.lt)
    have HT2 := Lib.hid (HT.out.below l2)
    clear l2 x0 x1 x2
    obtain ⟨x0, x1, x2⟩ := HT2.out.cells
    obtain ⟨y0, y1, y2⟩ := HA2.out.cells
    have f0 := HA2.out.free 0
    have f1 := HA2.out.free 1
    have f2 := HA2.out.free 2
    go_wp2_with fail
    obtain ⟨p1, q1⟩ := HA2.out.store (v' := .slice none 0 0) (f' := ⟨#[]⟩) (u' := 0)
    refine bodyPost_ret (results_lk rfl _ _ R4 rfl rfl p1) rfl ⟨_, rfl, own_nilS _ _, HB2.out.grown q1 HB2.out.size (fun k hk => by have e2 : R4 = k := Option.some.inj hk; have := HR4.out; omega)⟩
  | true =>
    rw [ok] at HG
    have HNx2 := Lib.hid (HNx.out ok)
    obtain ⟨_, _, h8q, h40, u0, u1⟩ := lkOk_parts ok
    have h8 : n ≤ 8 := by have := HN.out; omega
    clear HNx h8q
    by_cases hs : s.size ≤ 60
    rotate_left
    · have hk : sendOk l s = false := by unfold sendOk; rw [ok, decide_eq_false hs]; rfl
      have hs' : (60 : Int) < (s.size : Int) := by omega
      rw [HNo.out hk, hk]
      clear ok hk HNx2 HNo HYes
      go_enter Try.func17, Try.ntmps17
      go_upto_region 1 with fail
      rw [← HW.out, ← HR4.out, ← HR.out]
      go_wp2_with fail
      refine HG.out.mono ?_
      rintro e W2 ⟨rfl, l2⟩
      have HB2 := Lib.hid (HB.out.trans (l2.mono HB.out.size))
      have HA2 := Lib.hid (HA.out.below l2 HA.out.lt)
      have HT2 := Lib.hid (HT.out.below l2)
      clear l2 x0 x1 x2
      obtain ⟨x0, x1, x2⟩ := HT2.out.cells
      obtain ⟨y0, y1, y2⟩ := HA2.out.cells
      have f0 := HA2.out.free 0
      have f1 := HA2.out.free 1
      have f2 := HA2.out.free 2
      go_wp2_with fail
      obtain ⟨p1, q1⟩ := HA2.out.store (v' := .slice none 0 0) (f' := ⟨#[]⟩) (u' := 0)
      refine bodyPost_ret (results_lk rfl _ _ R4 rfl rfl p1) rfl ⟨_, rfl, own_nilS _ _, HB2.out.grown q1 HB2.out.size (fun k hk => by have e2 : R4 = k := Option.some.inj hk; have := HR4.out; omega)⟩
    · have hs' : ¬ (60 : Int) < (s.size : Int) := by omega
      have HUs : Hid (usedN l = if l.u + 1 < (l.f.size : Int) then l.u + 1 else (l.f.size : Int)) := Lib.hid rfl
      have H4 := Lib.hid (fateB_four ok)
      have HOk : Hid (sendOk l s = (decide (fateB l = 108) || decide (l.q.length ≠ 8))) := Lib.hid (by unfold sendOk; rw [ok, decide_eq_true hs]; rfl)
      clear ok hs
      go_enter Try.func17, Try.ntmps17
      go_upto_region 1 with fail
      rw [← HW.out, ← HR4.out, ← HR.out]
      go_wp2_with fail
      refine HG.out.mono ?_
      rintro e W2 ⟨rfl, l2⟩
      have HB2 := Lib.hid (HB.out.trans (l2.mono HB.out.size))
      have HA2 := Lib.hid (HA.out.below l2 HA.out.lt)
      have HT2 := Lib.hid (HT.out.below l2)
      clear l2 x0 x1 x2
      obtain ⟨x0, x1, x2⟩ := HT2.out.cells
      have HLe := Lib.hid (fun W1 => l1Least_any (l.u + 1) (l.f.size : Int) W1)
      rw [← HUs.out] at HLe
      have HK := Lib.hid (fun (w' : World) (hb : Below W2.heap.size W2 w') => (show w'.cell? ⟨R, 0, none⟩ = some (.slice a n cap) ∧ w'.cell? ⟨R, 1, none⟩ = some (.string l.f) ∧ w'.cell? ⟨R, 2, none⟩ = some (.int .i64 l.u) ∧ Below W2.heap.size W2 w' from
        ⟨(hb.cell (p := ⟨R, 0, none⟩) HT2.out.lt).trans x0, (hb.cell (p := ⟨R, 1, none⟩) HT2.out.lt).trans x1, (hb.cell (p := ⟨R, 2, none⟩) HT2.out.lt).trans x2, hb⟩))
      go_upto_region 3 with fail
      go_cut [6, 7, 8] from 19 to 30 (fun x y z wx => x = .int .u8 ((fateB l).toNat : Int) ∧ y = .int .i64 (usedN l) ∧ z = .int .i64 n ∧ Hid (Below W2.heap.size W2 wx))
      case first => as_aux_lemma =>
        have i1 : IntKind.i64.wrap (l.u + 1) = l.u + 1 := IntWalk.i64_in _ (by omega)
        go_region_held3 (fun w' => w'.cell? ⟨R, 0, none⟩ = some (.slice a n cap) ∧ w'.cell? ⟨R, 1, none⟩ = some (.string l.f) ∧ w'.cell? ⟨R, 2, none⟩ = some (.int .i64 l.u) ∧ Below W2.heap.size W2 w')
          ((refine HK.out _ ?_; repeat (first | assumption | exact Below.refl _ _ | refine Below.drew ?_)))
          (first
            | (go_at_call 62; refine (HNx2.out _ (by have h := (HT2.out.below (by repeat (first | assumption | exact Below.refl _ _ | refine Below.drew ?_) : Below W2.heap.size W2 _)).row; rw [← HN.out] at h; exact h)).mono ?_; rintro e w5 ⟨rfl, l5⟩; have hb5 := below_call7 (by repeat (first | assumption | exact Below.refl _ _ | refine Below.drew ?_) : Below W2.heap.size W2 _) l5; clear l5)
            | (go_at_call 63; refine (HLe.out _).mono ?_; rintro e w6 ⟨rfl, rfl⟩))
        all_goals go_wp2_with fail
        all_goals go_meet
        all_goals
          case rel => exact ⟨rfl, rfl, rfl, Lib.hid (by repeat (first | assumption | exact Below.refl _ _ | refine Below.drew ?_))⟩
      case rest => as_aux_lemma =>
        obtain ⟨rfl, rfl, rfl, HC3⟩ := hcut
        rename World => W3
        have HB3 := Lib.hid (HB2.out.trans (HC3.out.mono HB2.out.size))
        have HT3 := Lib.hid (HT2.out.below HC3.out)
        have HA3 := Lib.hid (HA2.out.below HC3.out HA2.out.lt)
        clear HK HLe HNx2 HUs HC3 HB2 HT2 HA2 x0 x1 x2
        have HRow3 : Hid (Row W3 (.slice a n cap) n (l.q.map Value.string)) := Lib.hid (by have h := HT3.out.row; rw [← HN.out] at h; exact h)
        obtain ⟨fb, hfb⟩ : ∃ fb : Int, fb = ((fateB l).toNat : Int) := ⟨_, rfl⟩
        rw [← hfb]
        have HFb := Lib.hid hfb
        clear hfb
        obtain ⟨x0, x1, x2⟩ := (HT3.out.below ((Below.refl _ _).alloc (Nat.le_refl _) (.cells #[] 9))).cells
        go_upto_region 5 with (at_builtin; refine wpList_append_fitS _ rfl _ _ 24 rfl W3.heap.size 9 i0 (.string ⟨#[]⟩) 1 16 Try.underlying24 hi hz0 hz1 hz2 rfl (by decide) _ 0 [] rfl (own_lit (heap_alloc_new W3 _) (Nat.le_refl _)) _ n (l.q.map Value.string) rfl HFit.out (by rw [List.length_map, Nat.mul_one, ← HN.out]) (HRow3.out.below ((Below.refl _ _).alloc (Nat.le_refl _) _) (Nat.le_refl _)) (one_strs _) (by unfold maxLen; omega) (by omega) (by simp) ?_; intro v9 w5 hown9 hgrow9; rw [Nat.zero_add, List.nil_append] at hown9; obtain ⟨a9, c9, rfl, k1, k2⟩ := own_someS hown9; have hb5 : Below W3.heap.size W3 w5 := below_grown (below_alloc' (Below.refl _ _)) hgrow9 (fun q hq => lit_block (Nat.le_refl _) hq); clear hgrow9)
        clear x0 x1 x2
        have HO5 := Lib.hid hown9
        have HBw5 := Lib.hid hb5
        unfold maxLen at k2
        rcases H4.out with e | e | e | e
        · have hfb : fb = 107 := by rw [HFb.out, e]; rfl
          subst hfb
          have hk0 : sendOk l s = decide (l.q.length ≠ 8) := by rw [HOk.out, e]; rfl
          by_cases hn8 : n = 8
          · have hk : sendOk l s = false := by rw [hk0]; exact decide_eq_false (fun hh => hh (by rw [← HN.out]; exact hn8))
            have HE := Lib.hid (HNo.out hk)
            have HKk := Lib.hid hk
            have HA5 := Lib.hid (HA3.out.below HBw5.out HA3.out.lt)
            have HB5 := Lib.hid (HB3.out.trans (HBw5.out.mono HB3.out.size))
            subst hn8
            clear e hk hk0 HOk HYes HNo H4 HFb hown9 hb5
            obtain ⟨y0, y1, y2⟩ := HA5.out.cells
            have f0 := HA5.out.free 0
            have f1 := HA5.out.free 1
            have f2 := HA5.out.free 2
            go_wp2_with fail
            obtain ⟨p1, q1⟩ := HA5.out.store (v' := .slice none 0 0) (f' := ⟨#[]⟩) (u' := 0)
            refine bodyPost_ret (results_lk rfl _ _ R4 rfl rfl p1) rfl ⟨_, by rw [HE.out, HKk.out]; rfl, by rw [HE.out]; exact own_nilS _ _, HB5.out.grown q1 HB5.out.size (fun k hk => by have e2 : R4 = k := Option.some.inj hk; have := HR4.out; omega)⟩
          · have hk : sendOk l s = true := by rw [hk0]; exact decide_eq_true (fun hh => hn8 (by rw [HN.out]; exact hh))
            have HE := Lib.hid (HYes.out hk)
            have HKk := Lib.hid hk
            have hd8 : ((n : Int) == 8) = false := by simp; omega
            have hn7 : n ≤ 7 := by omega
            clear hk hk0 HOk HYes HNo H4 HFb hown9 hb5 hn8
            have HPut : Hid (putQ (fateB l) l.q s = l.q ++ [s]) := Lib.hid (by rw [e]; exact putQ_107 _ _)
            have HLen : Hid ((l.q ++ [s]).length = n + 1) := Lib.hid (by rw [List.length_append, ← HN.out]; rfl)
            clear e
            go_upto_region 14 with (at_builtin; refine wpList_append_own_at _ rfl _ _ 24 rfl W3.heap.size 9 i0 (.string ⟨#[]⟩) 1 16 Try.underlying24 hi hz0 hz1 hz2 rfl (by decide) _ n (l.q.map Value.string) rfl (HO5.out.alloc _) ⟨w5.heap.size, 0, none⟩ 1 1 [.string s] rfl rfl (cell_one_new _ _ _) (by intro u hu; simp at hu; subst hu; rfl) (by unfold maxLen; omega) (by omega) (by have := HBw5.out.size; simp; omega) ?_; intro v8 w8 hown8 hgrow8 _ _; obtain ⟨a8, c8, rfl, j1, j2⟩ := own_someS hown8; have hb8 : Below W3.heap.size W3 w8 := below_grown (below_alloc' HBw5.out) hgrow8 (fun q hq => (HO5.out.lt q hq).1); rw [show l.q.map Value.string ++ [.string s] = (l.q ++ [s]).map Value.string from by rw [List.map_append]; rfl] at hown8; clear hgrow8)
            obtain ⟨x0, x1, x2⟩ := (HT3.out.below hb8).cells
            have HA9 := Lib.hid (HA3.out.below hb8 HA3.out.lt)
            have HO9 := Lib.hid hown8
            have HB9 := Lib.hid (HB3.out.trans (hb8.mono HB3.out.size))
            clear hown8 hb8
            go_wp2_with fail
            refine (l7With_any _ _ _ _ _ _ _ _).mono ?_
            rintro e w7 ⟨rfl, l7⟩
            have HO10 := Lib.hid (own_below HO9.out l7 (Nat.le_refl _))
            have HA10 := Lib.hid (HA9.out.below l7 HA9.out.lt)
            have HB10 := Lib.hid (HB9.out.trans (l7.mono HB9.out.size))
            clear l7 HO9 HA9 HB9 x0 x1 x2
            obtain ⟨y0, y1, y2⟩ := HA10.out.cells
            have f0 := HA10.out.free 0
            have f1 := HA10.out.free 1
            have f2 := HA10.out.free 2
            go_wp2_with fail
            obtain ⟨p1, q1⟩ := HA10.out.store (v' := .slice a8 (n + 1) c8) (f' := l.f) (u' := usedN l)
            refine bodyPost_ret (results_lk rfl _ _ R4 rfl rfl p1) rfl ⟨_, by rw [HE.out, HKk.out], ?_, HB10.out.grown q1 HB10.out.size (fun k hk => by have e2 : R4 = k := Option.some.inj hk; have := HR4.out; omega)⟩
            rw [HE.out]
            show World.ownsRow _ _ _ _ _ (putQ (fateB l) l.q s).length ((putQ (fateB l) l.q s).map Value.string)
            rw [HPut.out, HLen.out]
            refine own_base (HO10.out.kept q1 ?_) HB3.out.size
            cases hv : (.slice a8 (n + 1) c8 : Value).ownBlock with
            | none => exact .inl rfl
            | some k => exact .inr (fun e => by have e3 : k = R4 := Option.some.inj e; have h1 := (HO10.out.lt k hv).1; have h2 := HA3.out.lt; omega)
        · have hfb : fb = 108 := by rw [HFb.out, e]; rfl
          subst hfb
          have hk : sendOk l s = true := by rw [HOk.out, e]; rfl
          have HE := Lib.hid (HYes.out hk)
          have HKk := Lib.hid hk
          have HPut : Hid (putQ (fateB l) l.q s = l.q) := Lib.hid (by rw [e]; exact putQ_108 _ _)
          have HLen : Hid (l.q.length = n) := Lib.hid HN.out.symm
          clear e hk HOk HYes HNo H4 HFb hown9 hb5
          have hown9 := HO5.out
          have hb5 := HBw5.out
          obtain ⟨x0, x1, x2⟩ := (HT3.out.below hb5).cells
          have HA9 := Lib.hid (HA3.out.below hb5 HA3.out.lt)
          have HO9 := Lib.hid hown9
          have HB9 := Lib.hid (HB3.out.trans (hb5.mono HB3.out.size))
          clear hown9 hb5
          go_wp2_with fail
          refine (l7With_any _ _ _ _ _ _ _ _).mono ?_
          rintro e w7 ⟨rfl, l7⟩
          have HO10 := Lib.hid (own_below HO9.out l7 (Nat.le_refl _))
          have HA10 := Lib.hid (HA9.out.below l7 HA9.out.lt)
          have HB10 := Lib.hid (HB9.out.trans (l7.mono HB9.out.size))
          clear l7 HO9 HA9 HB9 x0 x1 x2
          obtain ⟨y0, y1, y2⟩ := HA10.out.cells
          have f0 := HA10.out.free 0
          have f1 := HA10.out.free 1
          have f2 := HA10.out.free 2
          go_wp2_with fail
          obtain ⟨p1, q1⟩ := HA10.out.store (v' := .slice a9 n c9) (f' := l.f) (u' := usedN l)
          refine bodyPost_ret (results_lk rfl _ _ R4 rfl rfl p1) rfl ⟨_, by rw [HE.out, HKk.out], ?_, HB10.out.grown q1 HB10.out.size (fun k hk => by have e2 : R4 = k := Option.some.inj hk; have := HR4.out; omega)⟩
          rw [HE.out]
          show World.ownsRow _ _ _ _ _ (putQ (fateB l) l.q s).length ((putQ (fateB l) l.q s).map Value.string)
          rw [HPut.out, HLen.out]
          refine own_base (HO10.out.kept q1 ?_) HB3.out.size
          cases hv : (.slice a9 n c9 : Value).ownBlock with
          | none => exact .inl rfl
          | some k => exact .inr (fun e => by have e3 : k = R4 := Option.some.inj e; have h1 := (HO10.out.lt k hv).1; have h2 := HA3.out.lt; omega)
        · have hfb : fb = 100 := by rw [HFb.out, e]; rfl
          subst hfb
          have hk0 : sendOk l s = decide (l.q.length ≠ 8) := by rw [HOk.out, e]; rfl
          by_cases hn8 : n = 8
          · have hk : sendOk l s = false := by rw [hk0]; exact decide_eq_false (fun hh => hh (by rw [← HN.out]; exact hn8))
            have HE := Lib.hid (HNo.out hk)
            have HKk := Lib.hid hk
            have HA5 := Lib.hid (HA3.out.below HBw5.out HA3.out.lt)
            have HB5 := Lib.hid (HB3.out.trans (HBw5.out.mono HB3.out.size))
            subst hn8
            clear e hk hk0 HOk HYes HNo H4 HFb hown9 hb5
            obtain ⟨y0, y1, y2⟩ := HA5.out.cells
            have f0 := HA5.out.free 0
            have f1 := HA5.out.free 1
            have f2 := HA5.out.free 2
            go_wp2_with fail
            obtain ⟨p1, q1⟩ := HA5.out.store (v' := .slice none 0 0) (f' := ⟨#[]⟩) (u' := 0)
            refine bodyPost_ret (results_lk rfl _ _ R4 rfl rfl p1) rfl ⟨_, by rw [HE.out, HKk.out]; rfl, by rw [HE.out]; exact own_nilS _ _, HB5.out.grown q1 HB5.out.size (fun k hk => by have e2 : R4 = k := Option.some.inj hk; have := HR4.out; omega)⟩
          · have hk : sendOk l s = true := by rw [hk0]; exact decide_eq_true (fun hh => hn8 (by rw [HN.out]; exact hh))
            have HE := Lib.hid (HYes.out hk)
            have HKk := Lib.hid hk
            have hd8 : ((n : Int) == 8) = false := by simp; omega
            have hn7 : n ≤ 7 := by omega
            clear hk hk0 HOk HYes HNo H4 HFb hown9 hb5 hn8
            by_cases h17 : n + 1 < 8
            · have h17' : (n : Int) + 1 < 8 := by omega
              have HPut : Hid (putQ (fateB l) l.q s = l.q ++ [s, s]) := Lib.hid (by rw [e]; exact putQ_100 _ _ (by rw [← HN.out]; exact h17))
              have HLen : Hid ((l.q ++ [s, s]).length = n + 2) := Lib.hid (by rw [List.length_append, ← HN.out]; rfl)
              clear e
              go_upto_region 14 with (at_builtin; refine wpList_append_own_at _ rfl _ _ 24 rfl W3.heap.size 9 i0 (.string ⟨#[]⟩) 1 16 Try.underlying24 hi hz0 hz1 hz2 rfl (by decide) _ n (l.q.map Value.string) rfl (HO5.out.alloc _) ⟨w5.heap.size, 0, none⟩ 2 2 [.string s, .string s] rfl rfl (cell_two_new _ _ _ _) (by intro u hu; simp at hu; subst hu; rfl) (by unfold maxLen; omega) (by omega) (by have := HBw5.out.size; simp; omega) ?_; intro v8 w8 hown8 hgrow8 _ _; obtain ⟨a8, c8, rfl, j1, j2⟩ := own_someS hown8; have hb8 : Below W3.heap.size W3 w8 := below_grown (below_alloc' HBw5.out) hgrow8 (fun q hq => (HO5.out.lt q hq).1); rw [show l.q.map Value.string ++ [.string s, .string s] = (l.q ++ [s, s]).map Value.string from by rw [List.map_append]; rfl] at hown8; clear hgrow8)
              obtain ⟨x0, x1, x2⟩ := (HT3.out.below hb8).cells
              have HA9 := Lib.hid (HA3.out.below hb8 HA3.out.lt)
              have HO9 := Lib.hid hown8
              have HB9 := Lib.hid (HB3.out.trans (hb8.mono HB3.out.size))
              clear hown8 hb8
              go_wp2_with fail
              refine (l7With_any _ _ _ _ _ _ _ _).mono ?_
              rintro e w7 ⟨rfl, l7⟩
              have HO10 := Lib.hid (own_below HO9.out l7 (Nat.le_refl _))
              have HA10 := Lib.hid (HA9.out.below l7 HA9.out.lt)
              have HB10 := Lib.hid (HB9.out.trans (l7.mono HB9.out.size))
              clear l7 HO9 HA9 HB9 x0 x1 x2
              obtain ⟨y0, y1, y2⟩ := HA10.out.cells
              have f0 := HA10.out.free 0
              have f1 := HA10.out.free 1
              have f2 := HA10.out.free 2
              go_wp2_with fail
              obtain ⟨p1, q1⟩ := HA10.out.store (v' := .slice a8 (n + 2) c8) (f' := l.f) (u' := usedN l)
              refine bodyPost_ret (results_lk rfl _ _ R4 rfl rfl p1) rfl ⟨_, by rw [HE.out, HKk.out], ?_, HB10.out.grown q1 HB10.out.size (fun k hk => by have e2 : R4 = k := Option.some.inj hk; have := HR4.out; omega)⟩
              rw [HE.out]
              show World.ownsRow _ _ _ _ _ (putQ (fateB l) l.q s).length ((putQ (fateB l) l.q s).map Value.string)
              rw [HPut.out, HLen.out]
              refine own_base (HO10.out.kept q1 ?_) HB3.out.size
              cases hv : (.slice a8 (n + 2) c8 : Value).ownBlock with
              | none => exact .inl rfl
              | some k => exact .inr (fun e => by have e3 : k = R4 := Option.some.inj e; have h1 := (HO10.out.lt k hv).1; have h2 := HA3.out.lt; omega)
            · have h17' : ¬ (n : Int) + 1 < 8 := by omega
              have HPut : Hid (putQ (fateB l) l.q s = l.q ++ [s]) := Lib.hid (by rw [e]; exact putQ_100n _ _ (by rw [← HN.out]; exact h17))
              have HLen : Hid ((l.q ++ [s]).length = n + 1) := Lib.hid (by rw [List.length_append, ← HN.out]; rfl)
              clear e
              go_upto_region 14 with (at_builtin; refine wpList_append_own_at _ rfl _ _ 24 rfl W3.heap.size 9 i0 (.string ⟨#[]⟩) 1 16 Try.underlying24 hi hz0 hz1 hz2 rfl (by decide) _ n (l.q.map Value.string) rfl (HO5.out.alloc _) ⟨w5.heap.size, 0, none⟩ 1 1 [.string s] rfl rfl (cell_one_new _ _ _) (by intro u hu; simp at hu; subst hu; rfl) (by unfold maxLen; omega) (by omega) (by have := HBw5.out.size; simp; omega) ?_; intro v8 w8 hown8 hgrow8 _ _; obtain ⟨a8, c8, rfl, j1, j2⟩ := own_someS hown8; have hb8 : Below W3.heap.size W3 w8 := below_grown (below_alloc' HBw5.out) hgrow8 (fun q hq => (HO5.out.lt q hq).1); rw [show l.q.map Value.string ++ [.string s] = (l.q ++ [s]).map Value.string from by rw [List.map_append]; rfl] at hown8; clear hgrow8)
              obtain ⟨x0, x1, x2⟩ := (HT3.out.below hb8).cells
              have HA9 := Lib.hid (HA3.out.below hb8 HA3.out.lt)
              have HO9 := Lib.hid hown8
              have HB9 := Lib.hid (HB3.out.trans (hb8.mono HB3.out.size))
              clear hown8 hb8
              go_wp2_with fail
              refine (l7With_any _ _ _ _ _ _ _ _).mono ?_
              rintro e w7 ⟨rfl, l7⟩
              have HO10 := Lib.hid (own_below HO9.out l7 (Nat.le_refl _))
              have HA10 := Lib.hid (HA9.out.below l7 HA9.out.lt)
              have HB10 := Lib.hid (HB9.out.trans (l7.mono HB9.out.size))
              clear l7 HO9 HA9 HB9 x0 x1 x2
              obtain ⟨y0, y1, y2⟩ := HA10.out.cells
              have f0 := HA10.out.free 0
              have f1 := HA10.out.free 1
              have f2 := HA10.out.free 2
              go_wp2_with fail
              obtain ⟨p1, q1⟩ := HA10.out.store (v' := .slice a8 (n + 1) c8) (f' := l.f) (u' := usedN l)
              refine bodyPost_ret (results_lk rfl _ _ R4 rfl rfl p1) rfl ⟨_, by rw [HE.out, HKk.out], ?_, HB10.out.grown q1 HB10.out.size (fun k hk => by have e2 : R4 = k := Option.some.inj hk; have := HR4.out; omega)⟩
              rw [HE.out]
              show World.ownsRow _ _ _ _ _ (putQ (fateB l) l.q s).length ((putQ (fateB l) l.q s).map Value.string)
              rw [HPut.out, HLen.out]
              refine own_base (HO10.out.kept q1 ?_) HB3.out.size
              cases hv : (.slice a8 (n + 1) c8 : Value).ownBlock with
              | none => exact .inl rfl
              | some k => exact .inr (fun e => by have e3 : k = R4 := Option.some.inj e; have h1 := (HO10.out.lt k hv).1; have h2 := HA3.out.lt; omega)
        · have hfb : fb = 115 := by rw [HFb.out, e]; rfl
          subst hfb
          have hk0 : sendOk l s = decide (l.q.length ≠ 8) := by rw [HOk.out, e]; rfl
          by_cases hn8 : n = 8
          · have hk : sendOk l s = false := by rw [hk0]; exact decide_eq_false (fun hh => hh (by rw [← HN.out]; exact hn8))
            have HE := Lib.hid (HNo.out hk)
            have HKk := Lib.hid hk
            have HA5 := Lib.hid (HA3.out.below HBw5.out HA3.out.lt)
            have HB5 := Lib.hid (HB3.out.trans (HBw5.out.mono HB3.out.size))
            subst hn8
            clear e hk hk0 HOk HYes HNo H4 HFb hown9 hb5
            obtain ⟨y0, y1, y2⟩ := HA5.out.cells
            have f0 := HA5.out.free 0
            have f1 := HA5.out.free 1
            have f2 := HA5.out.free 2
            go_wp2_with fail
            obtain ⟨p1, q1⟩ := HA5.out.store (v' := .slice none 0 0) (f' := ⟨#[]⟩) (u' := 0)
            refine bodyPost_ret (results_lk rfl _ _ R4 rfl rfl p1) rfl ⟨_, by rw [HE.out, HKk.out]; rfl, by rw [HE.out]; exact own_nilS _ _, HB5.out.grown q1 HB5.out.size (fun k hk => by have e2 : R4 = k := Option.some.inj hk; have := HR4.out; omega)⟩
          · have hk : sendOk l s = true := by rw [hk0]; exact decide_eq_true (fun hh => hn8 (by rw [HN.out]; exact hh))
            have HE := Lib.hid (HYes.out hk)
            have HKk := Lib.hid hk
            have hd8 : ((n : Int) == 8) = false := by simp; omega
            have hn7 : n ≤ 7 := by omega
            clear hk hk0 HOk HYes HNo H4 HFb hown9 hb5 hn8
            by_cases hn0 : n = 0
            · have hq0 : l.q = [] := List.eq_nil_of_length_eq_zero (by rw [← HN.out]; exact hn0)
              have HPut : Hid (putQ (fateB l) l.q s = l.q ++ [s]) := Lib.hid (by rw [e]; exact (by rw [hq0]; exact putQ_115n s))
              have HLen : Hid ((l.q ++ [s]).length = n + 1) := Lib.hid (by rw [List.length_append, ← HN.out]; rfl)
              clear e hq0
              subst hn0
              go_upto_region 14 with (at_builtin; refine wpList_append_own_at _ rfl _ _ 24 rfl W3.heap.size 9 i0 (.string ⟨#[]⟩) 1 16 Try.underlying24 hi hz0 hz1 hz2 rfl (by decide) _ 0 (l.q.map Value.string) rfl (HO5.out.alloc _) ⟨w5.heap.size, 0, none⟩ 1 1 [.string s] rfl rfl (cell_one_new _ _ _) (by intro u hu; simp at hu; subst hu; rfl) (by unfold maxLen; omega) (by omega) (by have := HBw5.out.size; simp; omega) ?_; intro v8 w8 hown8 hgrow8 _ _; obtain ⟨a8, c8, rfl, j1, j2⟩ := own_someS hown8; have hb8 : Below W3.heap.size W3 w8 := below_grown (below_alloc' HBw5.out) hgrow8 (fun q hq => (HO5.out.lt q hq).1); rw [show l.q.map Value.string ++ [.string s] = (l.q ++ [s]).map Value.string from by rw [List.map_append]; rfl] at hown8; clear hgrow8)
              obtain ⟨x0, x1, x2⟩ := (HT3.out.below hb8).cells
              have HA9 := Lib.hid (HA3.out.below hb8 HA3.out.lt)
              have HO9 := Lib.hid hown8
              have HB9 := Lib.hid (HB3.out.trans (hb8.mono HB3.out.size))
              clear hown8 hb8
              go_wp2_with fail
              refine (l7With_any _ _ _ _ _ _ _ _).mono ?_
              rintro e w7 ⟨rfl, l7⟩
              have HO10 := Lib.hid (own_below HO9.out l7 (Nat.le_refl _))
              have HA10 := Lib.hid (HA9.out.below l7 HA9.out.lt)
              have HB10 := Lib.hid (HB9.out.trans (l7.mono HB9.out.size))
              clear l7 HO9 HA9 HB9 x0 x1 x2
              obtain ⟨y0, y1, y2⟩ := HA10.out.cells
              have f0 := HA10.out.free 0
              have f1 := HA10.out.free 1
              have f2 := HA10.out.free 2
              go_wp2_with fail
              obtain ⟨p1, q1⟩ := HA10.out.store (v' := .slice a8 (0 + 1) c8) (f' := l.f) (u' := usedN l)
              refine bodyPost_ret (results_lk rfl _ _ R4 rfl rfl p1) rfl ⟨_, by rw [HE.out, HKk.out], ?_, HB10.out.grown q1 HB10.out.size (fun k hk => by have e2 : R4 = k := Option.some.inj hk; have := HR4.out; omega)⟩
              rw [HE.out]
              show World.ownsRow _ _ _ _ _ (putQ (fateB l) l.q s).length ((putQ (fateB l) l.q s).map Value.string)
              rw [HPut.out, HLen.out]
              refine own_base (HO10.out.kept q1 ?_) HB3.out.size
              cases hv : (.slice a8 (0 + 1) c8 : Value).ownBlock with
              | none => exact .inl rfl
              | some k => exact .inr (fun e => by have e3 : k = R4 := Option.some.inj e; have h1 := (HO10.out.lt k hv).1; have h2 := HA3.out.lt; omega)
            · have hq : 0 < l.q.length := by have := HN.out; omega
              obtain ⟨m, hm⟩ : ∃ m, m = n - 1 := ⟨_, rfl⟩
              have hmn : m < n := by omega
              have hnm : n ≤ m + 1 := by omega
              have hmq : m < l.q.length := by have := HN.out; omega
              obtain ⟨xq, hxq⟩ : ∃ x, x = l.q[m] := ⟨_, rfl⟩
              have hdr : l.q.drop m = [xq] := by
                rw [List.drop_eq_getElem_cons hmq, hxq, List.drop_eq_nil_of_le (by have := HN.out; omega)]
              have HPut : Hid (putQ (fateB l) l.q s = l.q.take m ++ [s] ++ [xq]) := Lib.hid (by
                rw [e, putQ_115 l.q s hq, show l.q.length - 1 = m by have := HN.out; omega, hdr])
              have HLen : Hid ((l.q.take m ++ [s] ++ [xq]).length = m + 1 + 1) := Lib.hid (by rw [List.length_append, List.length_append, List.length_take]; simp; omega)
              obtain ⟨ab, ao, rfl, hcx⟩ := HT3.out.get (k := m) hmq
              rw [← hxq] at hcx
              have hab : ab < W3.heap.size := by
                obtain ⟨a7, c7, e7, _, _, hc7⟩ := row_open HT3.out.row
                injection e7 with e7 _ _
                subst e7
                obtain ⟨b, off, e10, hb, _⟩ := hc7 m hmq
                injection e10 with e10
                injection e10 with e10 _ _
                subst e10
                exact hb
              obtain ⟨g9, c7, e7⟩ := own_form HO5.out (by omega)
              injection e7 with e7 _ e8
              subst e7
              subst e8
              have hg9 := (HO5.out.lt g9 rfl).2
              have HH := Lib.hid (own_head HO5.out (show m ≤ n by omega))
              have hlt3 := HT3.out.lt
              have HK := Lib.hid (fun (w' : World) (hb : Below W3.heap.size W3 w') => (show w'.cell? ⟨R, 0, none⟩ = some (.slice (some ⟨ab, ao, none⟩) n cap) ∧ w'.cell? ⟨ab, ao + m, none⟩ = some (.string xq) ∧ Below W3.heap.size W3 w' from
                ⟨(hb.cell (p := ⟨R, 0, none⟩) hlt3).trans HT3.out.cells.1, (hb.cell (p := ⟨ab, ao + m, none⟩) hab).trans hcx, hb⟩))
              have HLt : Hid (((l.q.map Value.string).take m).length = m) := Lib.hid (by rw [List.length_take, List.length_map]; omega)
              obtain ⟨z0, z1, _⟩ := HK.out w5 HBw5.out
              have hb5 := HBw5.out
              have hp0 : (0 : Int) < (n : Int) := by omega
              clear e hxq hdr hq hm hn0 hcx
              go_upto_region 11 with fail
              have i1 : IntKind.i64.wrap ((n : Int) - 1) = (m : Int) := by rw [IntWalk.i64_in _ (by omega)]; omega
              have i2 : (0 : Int) ≤ (m : Int) := by omega
              have i3 : (m : Int) ≤ (n : Int) := by omega
              have i4 : (m : Int) < (n : Int) := by omega
              have i5 : (n : Int) ≤ (cap : Int) := by omega
              have i6 : (n : Int) ≤ (c9 : Int) := by omega
              have i7 : (m : Int) ≤ (c9 : Int) := by omega
              have i8 : m ≤ n := by omega
              have tokA : True := trivial
              have tokC : True := trivial
              go_region_held3 (fun w' => w'.cell? ⟨R, 0, none⟩ = some (.slice (some ⟨ab, ao, none⟩) n cap) ∧ w'.cell? ⟨ab, ao + m, none⟩ = some (.string xq) ∧ Below W3.heap.size W3 w')
                ((refine HK.out _ ?_; repeat (first | assumption | exact Below.refl _ _ | refine Below.drew ?_ | refine below_alloc' ?_)))
                (first
                  | (have _t := tokA; refine step_append_row (by rfl) _ _ _ (by rfl) W3.heap.size 9 i0 (.string ⟨#[]⟩) 16 Try.underlying24 hi hz0 hz1 hz2 rfl (.slice (some ⟨g9, 0, none⟩) m c9) m ((l.q.map Value.string).take m) (by rfl) (by first | exact HH.out | exact HH.out.alloc _ | exact HH.out.drew | exact (HH.out.alloc _).drew | exact (HH.out.alloc _).alloc _ | exact ((HH.out.alloc _).alloc _).drew) _ 1 1 [.string s] (by rfl) (by first | exact row_lit (heap_alloc_new _ _) | exact row_lit (heap_first _ _ _) | exact row_lit (heap_second _ _ _)) rfl (by intro q hq; simp at hq; subst hq; rfl) (by unfold maxLen; omega) (by omega) (below_size' (by repeat (first | assumption | exact Below.refl _ _ | refine Below.drew ?_ | refine below_alloc' ?_))) ?_; intro v1 w1 hown1 hgrow1 hat1; have hb1 : Below W3.heap.size W3 w1 := below_grown (by repeat (first | assumption | exact Below.refl _ _ | refine Below.drew ?_ | refine below_alloc' ?_)) hgrow1 (fun q hq => (HH.out.lt q hq).1); obtain ⟨a1, c1, rfl, j1, j2⟩ := own_someS hown1; clear tokA _t)
                  | (have _t := tokC; refine step_append_row (by rfl) _ _ _ (by rfl) W3.heap.size 9 i0 (.string ⟨#[]⟩) 16 Try.underlying24 hi hz0 hz1 hz2 rfl _ (m + 1) ((l.q.map Value.string).take m ++ [.string s]) (by rfl) (by first | exact hown1 | exact hown1.alloc _ | exact hown1.drew | exact (hown1.alloc _).drew) _ 1 1 [.string xq] (by rfl) (by first | exact row_lit (heap_alloc_new _ _) | exact row_lit (heap_grown hgrow1 (heap_second _ _ _) (by simp [Value.ownBlock]; omega)) | exact row_lit (heap_grown hgrow1 (heap_first _ _ _) (by simp [Value.ownBlock]; omega))) rfl (by intro q hq; simp at hq; subst hq; rfl) (by unfold maxLen; omega) (by omega) (below_size' (by repeat (first | assumption | exact Below.refl _ _ | refine Below.drew ?_ | refine below_alloc' ?_))) ?_; intro v2 w2 hown2 hgrow2 hat2; have hb2 : Below W3.heap.size W3 w2 := below_grown (by repeat (first | assumption | exact Below.refl _ _ | refine Below.drew ?_ | refine below_alloc' ?_)) hgrow2 (fun q hq => (hown1.lt q hq).1); obtain ⟨a2, c2, rfl, j3, j4⟩ := own_someS hown2; clear tokC _t))
              all_goals
                clear i1 i2 i3 i4 i5 i6 i7 i8 hown1 hgrow1 hb1 hgrow2 hat1 hat2 hb5 z0 z1 hp0
                have hown8 : w2.ownsRow W3.heap.size 9 1 (.slice a2 (m + 1 + 1) c2) (m + 1 + 1) ((l.q.take m ++ [s] ++ [xq]).map Value.string) := by rw [List.map_append, List.map_append, List.map_take]; exact hown2
                have hb8 : Below W3.heap.size W3 w2 := hb2
                clear hown2 hb2
                obtain ⟨x0, x1, x2⟩ := (HT3.out.below hb8).cells
                have HA9 := Lib.hid (HA3.out.below hb8 HA3.out.lt)
                have HO9 := Lib.hid hown8
                have HB9 := Lib.hid (HB3.out.trans (hb8.mono HB3.out.size))
                clear hown8 hb8
                go_wp2_with fail
                refine (l7With_any _ _ _ _ _ _ _ _).mono ?_
                rintro e w7 ⟨rfl, l7⟩
                have HO10 := Lib.hid (own_below HO9.out l7 (Nat.le_refl _))
                have HA10 := Lib.hid (HA9.out.below l7 HA9.out.lt)
                have HB10 := Lib.hid (HB9.out.trans (l7.mono HB9.out.size))
                clear l7 HO9 HA9 HB9 x0 x1 x2
                obtain ⟨y0, y1, y2⟩ := HA10.out.cells
                have f0 := HA10.out.free 0
                have f1 := HA10.out.free 1
                have f2 := HA10.out.free 2
                go_wp2_with fail
                obtain ⟨p1, q1⟩ := HA10.out.store (v' := .slice a2 (m + 1 + 1) c2) (f' := l.f) (u' := usedN l)
                refine bodyPost_ret (results_lk rfl _ _ R4 rfl rfl p1) rfl ⟨_, by rw [HE.out, HKk.out], ?_, HB10.out.grown q1 HB10.out.size (fun k hk => by have e2 : R4 = k := Option.some.inj hk; have := HR4.out; omega)⟩
                rw [HE.out]
                show World.ownsRow _ _ _ _ _ (putQ (fateB l) l.q s).length ((putQ (fateB l) l.q s).map Value.string)
                rw [HPut.out, HLen.out]
                refine own_base (HO10.out.kept q1 ?_) HB3.out.size
                cases hv : (.slice a2 (m + 1 + 1) c2 : Value).ownBlock with
                | none => exact .inl rfl
                | some k => exact .inr (fun e => by have e3 : k = R4 := Option.some.inj e; have h1 := (HO10.out.lt k hv).1; have h2 := HA3.out.lt; omega)
end Go.Proofs.Ytbhhmaialilabaa
