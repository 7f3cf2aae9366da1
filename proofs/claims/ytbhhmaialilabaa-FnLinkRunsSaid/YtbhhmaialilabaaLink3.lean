/-
  Links: the specification's TakeFrom.
-/
import Derived.Test.YtbhhmaialilabaaLink2
import Derived.Test.YtbhhmaialilabaaAppRow
import Derived.Test.YtbhhmaialilabaaStrs
import Derived.Deep.RegionHeld3
import Derived.Deep.AppendLies
import Derived.Maps.AppendAt
namespace Go.Proofs.Ytbhhmaialilabaa
open Go.RowKit Go.Lib Go.Joins
set_option linter.unusedVariables false

theorem results_lk2 {fn : Func} {p u q : Tmp} (h : fn.results = #[.cell p 26, .tmp u, .tmp q]) (tmps : Array Value) (w : World) (g : Nat) {v : Value} {f : ByteArray} {n : Int} (hp : tmps.getD p undef = .pointer (some ⟨g, 0, none⟩)) {x : Value} (hu : tmps.getD u undef = x) {b : Bool} (hq : tmps.getD q undef = .bool b) (hg : Lq w g v f n) :
    (results fn tmps).run Try.prog w = .ok (.tuple #[.agg #[v, .string f, .int .i64 n], x, .bool b]) w := by
  have hp' : tmps[p]?.getD undef = .pointer (some ⟨g, 0, none⟩) := by simpa using hp
  have hu' : tmps[u]?.getD undef = x := by simpa using hu
  have hq' : tmps[q]?.getD undef = .bool b := by simpa using hq
  unfold results
  rw [h]
  simp [asAddr, hp', hu', hq', Result.andThen, run_loadVar_row w g 26 26 _ _ _ hg Try.underlying26 (by rfl) (by kernel_rfl)]
theorem own_someS {w : World} {base n : Nat} {e : TypeId} {v : Value} {xs : List Value} (h : w.ownsRow base e 1 v n xs) : ∃ a cap, v = .slice a n cap ∧ n ≤ cap ∧ cap ≤ maxLen := by
  obtain ⟨a, cap, rfl, h1, h2, _⟩ := row_own h
  exact ⟨a, cap, rfl, h1, h2⟩
theorem one_strs (xs : List ByteArray) : ∀ u ∈ xs.map Value.string, u.oneCell' = true := by
  intro u hu
  obtain ⟨x, _, rfl⟩ := List.mem_map.1 hu
  rfl
theorem takeOk_no {l : Lk} (h : takeOk l = false) : takeL l = lk0 ∧ takeS l = ⟨#[]⟩ := by
  unfold takeL takeS
  rw [h]
  exact ⟨rfl, rfl⟩
theorem takeOk_yes {l : Lk} (h : lkOk l = true) (hn : 0 < l.q.length) : takeOk l = true ∧ takeL l = ⟨l.q.drop 1, l.f, l.u⟩ ∧ takeS l = l.q[0] := by
  have := takeN_step h hn
  exact ⟨this.1, this.2.1, this.2.2⟩
theorem below_call7 {W0 W w5 : World} (h : Below W0.heap.size W0 W) (l5 : Below W.heap.size W w5) : Below W0.heap.size W0 w5 := h.trans (l5.mono h.size)
set_option maxRecDepth 100000 in
set_option maxHeartbeats 4000000 in
theorem specTake_any (v : Value) (l : Lk) (w : World) (hrow : Row w v l.q.length (l.q.map Value.string)) (hf : l.f.size ≤ 1048576) :
    Calls Try.prog 24 #[.agg #[v, .string l.f, .int .i64 l.u]] w fun e w' => ∃ v', e = .returned (.tuple #[.agg #[v', .string (takeL l).f, .int .i64 (takeL l).u], .string (takeS l), .bool (takeOk l)]) ∧ w'.ownsRow w.heap.size 9 1 v' (takeL l).q.length ((takeL l).q.map Value.string) ∧ Below w.heap.size w w' := by
  obtain ⟨i0, hi, hz0, hz1, hz2⟩ := info_parts infoStr
  obtain ⟨W, hW⟩ : ∃ W, W = (w.alloc (.cells #[v, .string l.f, .int .i64 l.u] 26)).alloc (.cells #[.slice none 0 0, .string ⟨#[]⟩, .int .i64 0] 26) := ⟨_, rfl⟩
  have hB : Below w.heap.size w W := by rw [hW]; exact ((Below.refl w.heap.size w).alloc (Nat.le_refl _) _).alloc (by simp) _
  have hT : Lb W w.heap.size v l := by rw [hW]; exact (Lb.new hrow).below ((Below.refl _ _).alloc (Nat.le_refl _) _)
  have hA : Lq W (w.heap.size + 1) (.slice none 0 0) ⟨#[]⟩ 0 := by
    rw [hW]
    have := Lq.new (w.alloc (.cells #[v, .string l.f, .int .i64 l.u] 26)) (.slice none 0 0) ⟨#[]⟩ 0
    rw [World.size_alloc] at this
    exact this
  have HW := Lib.hid hW
  have HB := Lib.hid hB
  have HA := Lib.hid hA
  have HT := Lib.hid hT
  have HG := Lib.hid (l7Good_any v l W hT.row hf)
  obtain ⟨a, cap, rfl, hc1, hm1, hcell0⟩ := row_open hrow
  have HCell := Lib.hid hcell0
  clear hcell0
  unfold maxLen at hm1
  obtain ⟨R, hR⟩ : ∃ R, R = w.heap.size := ⟨_, rfl⟩
  obtain ⟨R4, hR4⟩ : ∃ R4, R4 = w.heap.size + 1 := ⟨_, rfl⟩
  rw [← hR] at HT
  rw [← hR4] at HA
  have HR := Lib.hid hR
  have HR4 := Lib.hid hR4
  obtain ⟨n, hN⟩ : ∃ n, n = l.q.length := ⟨_, rfl⟩
  rw [← hN] at hc1 HT HW HG ⊢
  have HN := Lib.hid hN
  clear hW hB hT hA hR hR4 hrow hf hN
  obtain ⟨x0, x1, x2⟩ := HT.out.cells
  cases ok : lkOk l with
  | false =>
    rw [ok] at HG
    have hk : takeOk l = false := by unfold takeOk; rw [ok]; rfl
    obtain ⟨e1, e2⟩ := takeOk_no hk
    rw [e1, e2, hk]
    clear ok e1 e2 hk
    go_enter Try.func24, Try.ntmps24
    go_upto_region 1 with fail
    rw [← HW.out, ← HR4.out, ← HR.out]
    go_wp2_with fail
    refine HG.out.mono ?_
    rintro e W2 ⟨rfl, l2⟩
    have HB2 := Lib.hid (HB.out.trans (l2.mono HB.out.size))
    have HA2 := Lib.hid (HA.out.below l2 HA.out.lt)
    clear l2
    obtain ⟨y0, y1, y2⟩ := HA2.out.cells
    have f0 := HA2.out.free 0
    have f1 := HA2.out.free 1
    have f2 := HA2.out.free 2
    go_wp2_with fail
    obtain ⟨p1, q1⟩ := HA2.out.store (v' := .slice none 0 0) (f' := ⟨#[]⟩) (u' := 0)
    refine bodyPost_ret (results_lk2 rfl _ _ R4 rfl rfl rfl p1) rfl ⟨_, rfl, own_nilS _ _, HB2.out.grown q1 HB2.out.size (fun k hk => by have e2 : R4 = k := Option.some.inj hk; have := HR4.out; omega)⟩
  | true =>
    rw [ok] at HG
    have h8 : n ≤ 8 := by have := (lkOk_parts ok).2.2.1; have := HN.out; omega
    by_cases hn0 : n = 0
    · have hk : takeOk l = false := by
        unfold takeOk
        rw [decide_eq_false (show ¬ (l.q ≠ []) from fun hh => hh (List.eq_nil_of_length_eq_zero (by rw [← HN.out, hn0]))), Bool.and_false]
      obtain ⟨e1, e2⟩ := takeOk_no hk
      rw [e1, e2, hk]
      clear ok e1 e2 hk h8
      subst hn0
      go_enter Try.func24, Try.ntmps24
      go_upto_region 1 with fail
      rw [← HW.out, ← HR4.out, ← HR.out]
      go_wp2_with fail
      refine HG.out.mono ?_
      rintro e W2 ⟨rfl, l2⟩
      have HB2 := Lib.hid (HB.out.trans (l2.mono HB.out.size))
      have HA2 := Lib.hid (HA.out.below l2 HA.out.lt)
      have HT2 := Lib.hid (HT.out.below l2)
      clear l2 x0 x1 x2
      obtain ⟨x0, x1, x2⟩ := HT2.out.cells
      obtain ⟨y0, y1, y2⟩ := HA2.out.cells
      have f0 := HA2.out.free 0
      have f1 := HA2.out.free 1
      have f2 := HA2.out.free 2
      go_wp2_with fail
      obtain ⟨p1, q1⟩ := HA2.out.store (v' := .slice none 0 0) (f' := ⟨#[]⟩) (u' := 0)
      refine bodyPost_ret (results_lk2 rfl _ _ R4 rfl rfl rfl p1) rfl ⟨_, rfl, own_nilS _ _, HB2.out.grown q1 HB2.out.size (fun k hk => by have e2 : R4 = k := Option.some.inj hk; have := HR4.out; omega)⟩
    · have hq : 0 < l.q.length := by have := HN.out; omega
      obtain ⟨e1, e2, e3⟩ := takeOk_yes ok hq
      rw [e1, e2, e3]
      obtain ⟨ab, ao, rfl, hc0⟩ := HT.out.get (k := 0) hq
      rw [Nat.add_zero] at hc0
      have hab : ab < w.heap.size := by
        obtain ⟨b, off, e10, hb, _⟩ := HCell.out 0 hq
        injection e10 with e10
        injection e10 with e10 _ _
        subst e10
        exact hb
      obtain ⟨s0, hs0⟩ : ∃ s, s = l.q[0] := ⟨_, rfl⟩
      rw [← hs0] at hc0 ⊢
      have hd : ((n : Int) == 0) = false := by simp; omega
      have HC0 := Lib.hid hc0
      have HAb := Lib.hid hab
      clear e1 e2 e3 ok hs0 hc0 hab
      go_enter Try.func24, Try.ntmps24
      go_upto_region 1 with fail
      rw [← HW.out, ← HR4.out, ← HR.out]
      go_wp2_with fail
      refine HG.out.mono ?_
      rintro e W2 ⟨rfl, l2⟩
      have HB2 := Lib.hid (HB.out.trans (l2.mono HB.out.size))
      have HA2 := Lib.hid (HA.out.below l2 HA.out.lt)
      have HT2 := Lib.hid (HT.out.below l2)
      have HAbW := Lib.hid (Nat.lt_of_lt_of_le HAb.out HB2.out.size)
      have HC2 := Lib.hid ((l2.cell (Nat.lt_of_lt_of_le HAb.out HB.out.size)).trans HC0.out)
      clear l2 x0 x1 x2
      obtain ⟨x0, x1, x2⟩ := HT2.out.cells
      obtain ⟨o2, ho2, hrt⟩ : ∃ o2, (if cap = 1 then (some ⟨ab, ao, none⟩ : Option Addr) else some ⟨ab, ao + 1, none⟩) = some ⟨ab, o2, none⟩ ∧ Row W2 (.slice (some ⟨ab, o2, none⟩) (n - 1) (cap - 1)) (n - 1) ((l.q.drop 1).map Value.string) := by
        have h := HT2.out.row
        rw [← HN.out] at h
        have h2 := row_tail' h (show 1 ≤ n by omega)
        rw [← List.map_drop] at h2
        by_cases hcap : cap = 1
        · refine ⟨ao, if_pos hcap, ?_⟩
          obtain ⟨a9, c9, e9, k1, k2, _⟩ := h2
          injection e9 with _ _ e9
          have hz : (l.q.drop 1).map Value.string = [] := List.eq_nil_of_length_eq_zero (by rw [List.length_map, List.length_drop, ← HN.out]; omega)
          rw [hz]
          exact ⟨_, _, rfl, by omega, by unfold maxLen; omega, fun hh => absurd rfl hh⟩
        · exact ⟨ao + 1, if_neg hcap, h2⟩
      have HRt := Lib.hid hrt
      clear hrt
      have HLen : Hid (((l.q.drop 1).map Value.string).length = n - 1) := Lib.hid (by rw [List.length_map, List.length_drop, ← HN.out])
      have HK := Lib.hid (fun (w' : World) (hb : Below W2.heap.size W2 w') => (show w'.cell? ⟨R, 0, none⟩ = some (.slice (some ⟨ab, ao, none⟩) n cap) ∧ w'.cell? ⟨R, 1, none⟩ = some (.string l.f) ∧ w'.cell? ⟨R, 2, none⟩ = some (.int .i64 l.u) ∧ w'.cell? ⟨ab, ao, none⟩ = some (.string s0) ∧ Below w.heap.size w w' from
        ⟨(hb.cell (p := ⟨R, 0, none⟩) HT2.out.lt).trans x0, (hb.cell (p := ⟨R, 1, none⟩) HT2.out.lt).trans x1, (hb.cell (p := ⟨R, 2, none⟩) HT2.out.lt).trans x2, (hb.cell (p := ⟨ab, ao, none⟩) HAbW.out).trans HC2.out, HB2.out.trans (hb.mono HB2.out.size)⟩))
      have HK2 := Lib.hid (fun (w' : World) (y : Value) (f' : ByteArray) (u' : Int) (hb : Below W2.heap.size W2 w') => (show (((w'.setCell ⟨R4, 0, none⟩ y).setCell ⟨R4, 1, none⟩ (.string f')).setCell ⟨R4, 2, none⟩ (.int .i64 u')).cell? ⟨R, 0, none⟩ = some (.slice (some ⟨ab, ao, none⟩) n cap) ∧ (((w'.setCell ⟨R4, 0, none⟩ y).setCell ⟨R4, 1, none⟩ (.string f')).setCell ⟨R4, 2, none⟩ (.int .i64 u')).cell? ⟨R, 1, none⟩ = some (.string l.f) ∧ (((w'.setCell ⟨R4, 0, none⟩ y).setCell ⟨R4, 1, none⟩ (.string f')).setCell ⟨R4, 2, none⟩ (.int .i64 u')).cell? ⟨R, 2, none⟩ = some (.int .i64 l.u) ∧ (((w'.setCell ⟨R4, 0, none⟩ y).setCell ⟨R4, 1, none⟩ (.string f')).setCell ⟨R4, 2, none⟩ (.int .i64 u')).cell? ⟨ab, ao, none⟩ = some (.string s0) ∧ Below w.heap.size w (((w'.setCell ⟨R4, 0, none⟩ y).setCell ⟨R4, 1, none⟩ (.string f')).setCell ⟨R4, 2, none⟩ (.int .i64 u')) by
        obtain ⟨c0, c1, c2, c3, c4⟩ := HK.out w' hb
        have ha := HA2.out.below hb HA2.out.lt
        obtain ⟨_, q1⟩ := ha.store (v' := y) (f' := f') (u' := u')
        have hR := HR.out
        have hR4 := HR4.out
        have hab := HAb.out
        exact ⟨q1.cell c0 (by intro e; have e2 : R = R4 := Option.some.inj e; omega), q1.cell c1 (by intro e; have e2 : R = R4 := Option.some.inj e; omega), q1.cell c2 (by intro e; have e2 : R = R4 := Option.some.inj e; omega), q1.cell c3 (by intro e; have e2 : ab = R4 := Option.some.inj e; omega), c4.grown q1 c4.size (fun k hk => by have e2 : R4 = k := Option.some.inj hk; omega)⟩))
      have HA3 := Lib.hid (fun (w' : World) (hb : Below W2.heap.size W2 w') => HA2.out.below hb HA2.out.lt)
      have hxE := HC2.out
      have i1 : (1 : Int) ≤ (n : Int) := by omega
      have i2 : (n : Int) ≤ (cap : Int) := by omega
      have i3 : (0 : Int) < (n : Int) := by omega
      have i4 : 1 ≤ n := by omega
      have i5 : 0 < n := by omega
      go_upto_region 3 with fail
      have tokA : True := trivial
      have tokB : True := trivial
      go_region_held3 (fun w' => w'.cell? ⟨R, 0, none⟩ = some (.slice (some ⟨ab, ao, none⟩) n cap) ∧ w'.cell? ⟨R, 1, none⟩ = some (.string l.f) ∧ w'.cell? ⟨R, 2, none⟩ = some (.int .i64 l.u) ∧ w'.cell? ⟨ab, ao, none⟩ = some (.string s0) ∧ Below w.heap.size w w')
        ((first | (refine HK.out _ ?_; (repeat (first | assumption | exact Below.refl _ _ | refine Below.drew ?_ | refine below_alloc' ?_)); done) | (refine HK2.out _ _ _ _ ?_; (repeat (first | assumption | exact Below.refl _ _ | refine Below.drew ?_ | refine below_alloc' ?_)); done)))
        (first
          | (have _t := tokB; go_at_call 64; refine (l7With_any _ _ _ _ _ _ _ _).mono ?_; rintro e w7 ⟨rfl, l7⟩; have hb7 := below_call7 (by repeat (first | assumption | exact Below.refl _ _ | refine Below.drew ?_ | refine below_alloc' ?_) : Below W2.heap.size W2 _) l7; have ho7 := own_below hown2 (show Below w6.heap.size w6 w7 from by first | exact l7 | exact (Below.drew (Below.refl _ _)).trans l7) (Nat.le_refl _); have hA7 := HA3.out w7 hb7; obtain ⟨y0, y1, y2⟩ := hA7.cells; have f0 := hA7.free 0; have f1 := hA7.free 1; have f2 := hA7.free 2; clear l7 tokB _t; dsimp only)
          | (have _t := tokA; refine step_append_row (by rfl) _ _ _ (by rfl) W2.heap.size 9 i0 (.string ⟨#[]⟩) 16 Try.underlying24 hi hz0 hz1 hz2 rfl _ 0 [] (by rfl) (own_lit (heap_alloc_new _ _) (Nat.le_refl _)) _ (n - 1) (cap - 1) ((l.q.drop 1).map Value.string) (by rfl) (HRt.out.below (by repeat (first | assumption | exact Below.refl _ _ | refine Below.drew ?_ | refine below_alloc' ?_) : Below W2.heap.size W2 _) (Nat.le_refl _)) HLen.out (one_strs _) (by unfold maxLen; omega) (by omega) (below_size' (by repeat (first | assumption | exact Below.refl _ _ | refine Below.drew ?_ | refine below_alloc' ?_))) ?_; intro v2 w6 hown2 hgrow2 hat2; obtain ⟨a2, c2, rfl, hcc2, hcm2⟩ := own_someS hown2; have hb6 : Below W2.heap.size W2 w6 := below_grown (by repeat (first | assumption | exact Below.refl _ _ | refine Below.drew ?_ | refine below_alloc' ?_)) hgrow2 (fun q hq => lit_block (Nat.le_refl _) hq); clear hgrow2 hat2 tokA _t))
      all_goals go_wp2_with fail
      all_goals
        rw [Nat.zero_add, List.nil_append] at ho7
        obtain ⟨p1, q1⟩ := hA7.store (v' := .slice a2 (n - 1) c2) (f' := l.f) (u' := l.u)
        have hlt := HA2.out.lt
        have hR4 := HR4.out
        refine bodyPost_ret (results_lk2 rfl _ _ R4 rfl rfl rfl p1) rfl ⟨_, rfl, ?_, (HB2.out.trans (hb7.mono HB2.out.size)).grown q1 (HB2.out.trans (hb7.mono HB2.out.size)).size (fun k hk => by have e2 : R4 = k := Option.some.inj hk; omega)⟩
        rw [List.length_drop, ← HN.out]
        refine own_base (ho7.kept q1 ?_) HB2.out.size
        cases hv : (Value.slice a2 (n - 1) c2).ownBlock with
        | none => exact .inl rfl
        | some k => exact .inr (fun e => by have e3 : k = R4 := Option.some.inj e; have := (ho7.lt k hv).1; omega)
end Go.Proofs.Ytbhhmaialilabaa
