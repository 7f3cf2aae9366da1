/-
  Timers: the program's IsValidTimers.
-/
import Derived.Test.YtoehedogdbafpaaTimI
import Derived.OrdersHeld
namespace Go.Proofs.Ytoehedogdbafpaa
open Go.RowKit Go.Lib Go.Joins
set_option linter.unusedVariables false

theorem keep_box4 {W0 W : World} {R b o : Nat} {t : Tm} {u : Value} (h : Tb W0 R t) (hu : W0.cell? ⟨b, o, none⟩ = some u) (hbl : b < W0.heap.size) (hb : Below W0.heap.size W0 W) : W.cell? ⟨R, 0, none⟩ = some (.int .i64 t.i) ∧ W.cell? ⟨R, 1, none⟩ = some (.int .i64 t.d) ∧ W.cell? ⟨R, 2, none⟩ = some (.int .i64 t.p) ∧ W.cell? ⟨b, o, none⟩ = some u ∧ Below W0.heap.size W0 W := by
  obtain ⟨x, y, z⟩ := (h.below hb h.lt).cells
  exact ⟨x, y, z, (hb.cell hbl).trans hu, hb⟩
theorem tsOk_long {s : List Tm} (h : 10 < s.length) : tsOk s = false := tsOk_no (fun e => by omega)
set_option maxRecDepth 100000 in
set_option maxHeartbeats 4000000 in
theorem implIsT_any (v : Value) (s : List Tm) (w : World) (hrow : Row w v s.length (tmF s)) :
    Calls Try.prog 22 #[v] w fun e w' => e = .returned (.bool (tsOk s)) ∧ Below w.heap.size w w' := by
  obtain ⟨a, cap, rfl, hc1, hm1, hcell⟩ := tm_open hrow
  have HC := Lib.hid hcell
  clear hcell hrow
  unfold maxLen at hm1
  obtain ⟨n, hN⟩ : ∃ n, n = s.length := ⟨_, rfl⟩
  have HLong : Hid (10 < n → tsOk s = false) := Lib.hid (fun h => tsOk_long (by rw [← hN]; exact h))
  rw [← hN] at hc1 ⊢
  have HN := Lib.hid hN
  clear hN
  by_cases h10 : n ≤ 10
  · have hd10 : decide ((10 : Int) < (n : Int)) = false := decide_eq_false (by omega)
    go_enter Try.func22, Try.ntmps22
    go_wp2_with fail
    go_loopw [10] (fun i wr => ∃ k : Nat, k ≤ n ∧ i = .int .i64 k ∧ Hid (Pre s k) ∧ Hid (Below w.heap.size w wr)) (fun i _ => n - (intOf i).toNat)
    case atStart => exact ⟨0, Nat.zero_le _, rfl, Lib.hid (pre_zero s), Lib.hid (Below.refl _ _)⟩
    case round =>
      obtain ⟨k, hk, rfl, HP, HW⟩ := hrel
      by_cases hkn : k < n
      · have hks : k < s.length := by rw [← HN.out]; exact hkn
        obtain ⟨b, off, rfl, hb, h0, h1, h2⟩ := HC.out k hks
        have x0 : wr.cell? ⟨b, off + k * 3, none⟩ = some (.int .i64 s[k].i) := (HW.out.cell (p := ⟨b, off + k * 3, none⟩) hb).trans h0
        have x1 : wr.cell? ⟨b, off + k * 3 + 1, none⟩ = some (.int .i64 s[k].d) := (HW.out.cell (p := ⟨b, off + k * 3 + 1, none⟩) hb).trans h1
        have x2 : wr.cell? ⟨b, off + k * 3 + 2, none⟩ = some (.int .i64 s[k].p) := (HW.out.cell (p := ⟨b, off + k * 3 + 2, none⟩) hb).trans h2
        have HK := Lib.hid hks
        have hbw := Nat.lt_of_lt_of_le hb HW.out.size
        have HO : Hid (∀ W, Calls Try.prog 63 #[.agg #[.int .i64 s[k].i, .int .i64 s[k].d, .int .i64 s[k].p]] W fun e w' => e = .returned (.bool (tmOk s[k])) ∧ Below W.heap.size W w') := Lib.hid (fun W => isTimer_any s[k] W)
        have HBad : Hid (tmOk s[k] = false → tsOk s = false) := Lib.hid (fun h => pre_bad hks h)
        generalize ht : s[k] = t at x0 x1 x2 HO HBad
        have HTe := Lib.hid ht.symm
        clear h0 h1 h2 ht hks
        obtain ⟨W0, hW0⟩ : ∃ W0, W0 = wr.alloc (.cells #[.int .i64 t.i, .int .i64 t.d, .int .i64 t.p] 42) := ⟨_, rfl⟩
        obtain ⟨X, hX⟩ : ∃ X, X = wr.heap.size := ⟨_, rfl⟩
        have HT0 : Hid (Tb W0 X t) := Lib.hid (by rw [hW0, hX]; exact Tb.new wr t)
        have HB0 : Hid (Below w.heap.size w W0) := Lib.hid (by rw [hW0]; exact b_a HW.out _)
        have HBl : Hid (Below wr.heap.size wr W0) := Lib.hid (by rw [hW0]; exact (Below.refl _ _).alloc (Nat.le_refl _) _)
        have HW0 := Lib.hid hW0
        have HX := Lib.hid hX
        have HRl : Hid (∀ wx, Below W0.heap.size W0 wx → Below w.heap.size w wx) := Lib.hid (fun wx h => HB0.out.trans (h.mono HB0.out.size))
        obtain ⟨c0, c1, c2⟩ := HT0.out.cells
        clear hW0 hX
        cases ho : tmOk t with
        | false =>
          rw [ho] at HO
          have HR := Lib.hid (HBad.out ho)
          clear ho HBad
          go_upto_region 6 with fail
          rw [← HW0.out, ← HX.out]
          go_cut [32] from 15 to 32 (fun b wx => b = .bool true ∧ Hid (Below W0.heap.size W0 wx))
          case first => as_aux_lemma =>
            refine wp_region_held_drew (S := (fun w' => w'.cell? ⟨X, 0, none⟩ = some (.int .i64 t.i) ∧ w'.cell? ⟨X, 1, none⟩ = some (.int .i64 t.d) ∧ w'.cell? ⟨X, 2, none⟩ = some (.int .i64 t.p) ∧ Below W0.heap.size W0 w')) (by kernel_rfl) ?_ (fun hHeld => ?_)
            · exact keep_box HT0.out (Below.drew (Below.refl _ _))
            (refine wpAnyH_take (i := 0) (v := (.agg #[.int .i64 t.i, .int .i64 t.d, .int .i64 t.p])) rfl (by kernel_rfl) (by kernel_rfl) (by kernel_rfl) (fun _ _ _ h => h) (Or.inl ⟨by rfl, ?_⟩) (by assumption) ?_; focus (intro w' hSw; (try dsimp only at hSw); go_simp; (try with_reducible rfl)); (try simp only [Act.put, List.getElem_toArray, List.getElem_cons_succ, List.getElem_cons_zero, List.setIfInBounds_toArray, List.set_cons_zero, List.set_cons_succ]))
            refine wpAnyH_ready (rs := [1]) (by kernel_rfl) (by simp) ?_
            refine AllReadyH.cons rfl (fun K hK => ?_) AllReadyH.nil
            go_simp
            (go_at_call 63; refine (HO.out _).mono ?_; rintro e w5 ⟨rfl, l5⟩; have hb5 := below_call8 (by repeat (first | assumption | exact Below.refl _ _ | refine Below.drew ?_) : Below W0.heap.size W0 _) l5; clear l5)
            refine hK.out _ _ ?S10 (fun hHeld2 => ?rest10)
            case S10 =>
              (try dsimp only)
              exact keep_box HT0.out hb5
            clear hK K hHeld
            (try simp only [Act.put, List.setIfInBounds_toArray, List.set_cons_zero, List.set_cons_succ])
            (refine wpAnyH_take (i := 2) (v := (.bool true)) rfl (by kernel_rfl) (by kernel_rfl) (by kernel_rfl) (fun _ _ _ h => h) (Or.inl ⟨by rfl, ?_⟩) (by assumption) ?_; focus (intro w' hSw; (try dsimp only at hSw); go_simp; (try with_reducible rfl)); (try simp only [Act.put, List.getElem_toArray, List.getElem_cons_succ, List.getElem_cons_zero, List.setIfInBounds_toArray, List.set_cons_zero, List.set_cons_succ]))
            (refine wpAnyH_take (i := 3) (v := (.bool true)) rfl (by kernel_rfl) (by kernel_rfl) (by kernel_rfl) (fun _ _ _ h => h) (Or.inl ⟨by rfl, ?_⟩) (by assumption) ?_; focus (intro w' hSw; (try dsimp only at hSw); go_simp; (try with_reducible rfl)); (try simp only [Act.put, List.getElem_toArray, List.getElem_cons_succ, List.getElem_cons_zero, List.setIfInBounds_toArray, List.set_cons_zero, List.set_cons_succ]))
            (refine wpAnyH_take (i := 4) (v := undef) rfl (by kernel_rfl) (by kernel_rfl) (by kernel_rfl) (fun _ _ _ h => h) (Or.inr ⟨by kernel_rfl, rfl⟩) (by assumption) ?_; (try simp only [Act.put, List.getElem_toArray, List.getElem_cons_succ, List.getElem_cons_zero, List.setIfInBounds_toArray, List.set_cons_zero, List.set_cons_succ]))
            (refine wpAnyH_take (i := 5) (v := undef) rfl (by kernel_rfl) (by kernel_rfl) (by kernel_rfl) (fun _ _ _ h => h) (Or.inr ⟨by kernel_rfl, rfl⟩) (by assumption) ?_; (try simp only [Act.put, List.getElem_toArray, List.getElem_cons_succ, List.getElem_cons_zero, List.setIfInBounds_toArray, List.set_cons_zero, List.set_cons_succ]))
            (refine wpAnyH_take (i := 6) (v := undef) rfl (by kernel_rfl) (by kernel_rfl) (by kernel_rfl) (fun _ _ _ h => h) (Or.inr ⟨by kernel_rfl, rfl⟩) (by assumption) ?_; (try simp only [Act.put, List.getElem_toArray, List.getElem_cons_succ, List.getElem_cons_zero, List.setIfInBounds_toArray, List.set_cons_zero, List.set_cons_succ]))
            (refine wpAnyH_take (i := 7) (v := undef) rfl (by kernel_rfl) (by kernel_rfl) (by kernel_rfl) (fun _ _ _ h => h) (Or.inr ⟨by kernel_rfl, rfl⟩) (by assumption) ?_; (try simp only [Act.put, List.getElem_toArray, List.getElem_cons_succ, List.getElem_cons_zero, List.setIfInBounds_toArray, List.set_cons_zero, List.set_cons_succ]))
            (refine wpAnyH_take (i := 8) (v := undef) rfl (by kernel_rfl) (by kernel_rfl) (by kernel_rfl) (fun _ _ _ h => h) (Or.inr ⟨by kernel_rfl, rfl⟩) (by assumption) ?_; (try simp only [Act.put, List.getElem_toArray, List.getElem_cons_succ, List.getElem_cons_zero, List.setIfInBounds_toArray, List.set_cons_zero, List.set_cons_succ]))
            (refine wpAnyH_take (i := 9) (v := undef) rfl (by kernel_rfl) (by kernel_rfl) (by kernel_rfl) (fun _ _ _ h => h) (Or.inr ⟨by kernel_rfl, rfl⟩) (by assumption) ?_; (try simp only [Act.put, List.getElem_toArray, List.getElem_cons_succ, List.getElem_cons_zero, List.setIfInBounds_toArray, List.set_cons_zero, List.set_cons_succ]))
            (refine wpAnyH_take (i := 10) (v := undef) rfl (by kernel_rfl) (by kernel_rfl) (by kernel_rfl) (fun _ _ _ h => h) (Or.inr ⟨by kernel_rfl, rfl⟩) (by assumption) ?_; (try simp only [Act.put, List.getElem_toArray, List.getElem_cons_succ, List.getElem_cons_zero, List.setIfInBounds_toArray, List.set_cons_zero, List.set_cons_succ]))
            (refine wpAnyH_take (i := 11) (v := undef) rfl (by kernel_rfl) (by kernel_rfl) (by kernel_rfl) (fun _ _ _ h => h) (Or.inr ⟨by kernel_rfl, rfl⟩) (by assumption) ?_; (try simp only [Act.put, List.getElem_toArray, List.getElem_cons_succ, List.getElem_cons_zero, List.setIfInBounds_toArray, List.set_cons_zero, List.set_cons_succ]))
            (refine wpAnyH_take (i := 12) (v := undef) rfl (by kernel_rfl) (by kernel_rfl) (by kernel_rfl) (fun _ _ _ h => h) (Or.inr ⟨by kernel_rfl, rfl⟩) (by assumption) ?_; (try simp only [Act.put, List.getElem_toArray, List.getElem_cons_succ, List.getElem_cons_zero, List.setIfInBounds_toArray, List.set_cons_zero, List.set_cons_succ]))
            (refine wpAnyH_take (i := 13) (v := undef) rfl (by kernel_rfl) (by kernel_rfl) (by kernel_rfl) (fun _ _ _ h => h) (Or.inr ⟨by kernel_rfl, rfl⟩) (by assumption) ?_; (try simp only [Act.put, List.getElem_toArray, List.getElem_cons_succ, List.getElem_cons_zero, List.setIfInBounds_toArray, List.set_cons_zero, List.set_cons_succ]))
            (refine wpAnyH_take (i := 14) (v := undef) rfl (by kernel_rfl) (by kernel_rfl) (by kernel_rfl) (fun _ _ _ h => h) (Or.inr ⟨by kernel_rfl, rfl⟩) (by assumption) ?_; (try simp only [Act.put, List.getElem_toArray, List.getElem_cons_succ, List.getElem_cons_zero, List.setIfInBounds_toArray, List.set_cons_zero, List.set_cons_succ]))
            (refine wpAnyH_take (i := 15) (v := undef) rfl (by kernel_rfl) (by kernel_rfl) (by kernel_rfl) (fun _ _ _ h => h) (Or.inr ⟨by kernel_rfl, rfl⟩) (by assumption) ?_; (try simp only [Act.put, List.getElem_toArray, List.getElem_cons_succ, List.getElem_cons_zero, List.setIfInBounds_toArray, List.set_cons_zero, List.set_cons_succ]))
            (refine wpAnyH_take (i := 16) (v := undef) rfl (by kernel_rfl) (by kernel_rfl) (by kernel_rfl) (fun _ _ _ h => h) (Or.inr ⟨by kernel_rfl, rfl⟩) (by assumption) ?_; (try simp only [Act.put, List.getElem_toArray, List.getElem_cons_succ, List.getElem_cons_zero, List.setIfInBounds_toArray, List.set_cons_zero, List.set_cons_succ]))
            (refine wpAnyH_take (i := 17) (v := (.bool true)) rfl (by kernel_rfl) (by kernel_rfl) (by kernel_rfl) (fun _ _ _ h => h) (Or.inl ⟨by rfl, ?_⟩) (by assumption) ?_; focus (intro w' hSw; (try dsimp only at hSw); go_simp; (try with_reducible rfl)); (try simp only [Act.put, List.getElem_toArray, List.getElem_cons_succ, List.getElem_cons_zero, List.setIfInBounds_toArray, List.set_cons_zero, List.set_cons_succ]))
            refine wpAnyH_done (by kernel_rfl) ?_ _
            all_goals go_wp2_with fail
            all_goals go_meet
            all_goals
              case rel => exact ⟨rfl, Lib.hid (by repeat (first | assumption | exact Below.refl _ _ | refine Below.drew ?_))⟩
          case rest => as_aux_lemma =>
            obtain ⟨rfl, HBw⟩ := hcut
            rename World => W9
            go_wp2_with fail
            go_ret
            exact ⟨ret_bool HR.out.symm, HRl.out _ HBw.out⟩
        | true =>
          rw [ho] at HO
          clear HBad
          by_cases hk0 : 0 < k
          · have hkm : k - 1 < s.length := by have := HK.out; omega
            obtain ⟨jp, hjs, hj1⟩ : ∃ jp, jp < s.length ∧ jp + 1 = k := ⟨k - 1, hkm, by omega⟩
            obtain ⟨b', off', e', hb', hq, -, -⟩ := HC.out jp hjs
            injection e' with e'
            injection e' with e1 e2
            subst e1; subst e2
            have xp : W0.cell? ⟨b, off + jp * 3, none⟩ = some (.int .i64 (s[jp]'hjs).i) := (HB0.out.cell (p := ⟨b, off + jp * 3, none⟩) hb').trans hq
            have hpe : (s[k - 1]'hkm).i = (s[jp]'hjs).i := by congr 1; congr 1; omega
            generalize (s[jp]'hjs).i = p at xp hpe
            have HPe := Lib.hid hpe
            have HXp := Lib.hid xp
            have HLb : Hid (b < W0.heap.size) := Lib.hid (Nat.lt_of_lt_of_le hbw HBl.out.size)
            have hkw : IntKind.i64.wrap ((k : Int) - 1) = (jp : Int) := (IntWalk.i64_in _ (by omega)).trans (by omega)
            have hkq : (jp : Int) < (n : Int) := by omega
            have hd2 : decide ((0 : Int) < (k : Int)) = true := decide_eq_true (by omega)
            clear hq hpe
            clear hj1
            by_cases hg : t.i ≤ p
            · have hd3 : decide (t.i ≤ p) = true := decide_eq_true hg
              have HR := Lib.hid (pre_down' HK.out hk0 HTe.out HPe.out hg)
              clear hb' ho
              go_upto_region 6 with fail
              rw [← HW0.out, ← HX.out]
              go_cut [32] from 15 to 32 (fun b wx => b = .bool true ∧ Hid (Below W0.heap.size W0 wx))
              case first => as_aux_lemma =>
                go_region_held3 (fun w' => w'.cell? ⟨X, 0, none⟩ = some (.int .i64 t.i) ∧ w'.cell? ⟨X, 1, none⟩ = some (.int .i64 t.d) ∧ w'.cell? ⟨X, 2, none⟩ = some (.int .i64 t.p) ∧ w'.cell? ⟨b, off + jp * 3, none⟩ = some (.int .i64 p) ∧ Below W0.heap.size W0 w')
                  ((refine keep_box4 HT0.out HXp.out HLb.out ?_; repeat (first | assumption | exact Below.refl _ _ | refine Below.drew ?_)))
                  (first | (go_at_call 63; refine (HO.out _).mono ?_; rintro e w5 ⟨rfl, l5⟩; have hb5 := below_call8 (by repeat (first | assumption | exact Below.refl _ _ | refine Below.drew ?_) : Below W0.heap.size W0 _) l5; clear l5))
                all_goals go_wp2_with fail
                all_goals go_meet
                all_goals
                  case rel => exact ⟨rfl, Lib.hid (by repeat (first | assumption | exact Below.refl _ _ | refine Below.drew ?_))⟩
              case rest => as_aux_lemma =>
                obtain ⟨rfl, HBw⟩ := hcut
                rename World => W9
                go_wp2_with fail
                go_ret
                exact ⟨ret_bool HR.out.symm, HRl.out _ HBw.out⟩
            · have hd3 : decide (t.i ≤ p) = false := decide_eq_false hg
              have HS := Lib.hid (pre_step' HP.out HK.out HTe.out ho (fun _ => by rw [show (s[k - 1]'(by have := HK.out; omega)).i = p from HPe.out]; omega))
              clear hb' ho
              go_upto_region 6 with fail
              rw [← HW0.out, ← HX.out]
              go_cut [32] from 15 to 32 (fun b wx => b = .bool false ∧ Hid (Below W0.heap.size W0 wx))
              case first => as_aux_lemma =>
                go_region_held3 (fun w' => w'.cell? ⟨X, 0, none⟩ = some (.int .i64 t.i) ∧ w'.cell? ⟨X, 1, none⟩ = some (.int .i64 t.d) ∧ w'.cell? ⟨X, 2, none⟩ = some (.int .i64 t.p) ∧ w'.cell? ⟨b, off + jp * 3, none⟩ = some (.int .i64 p) ∧ Below W0.heap.size W0 w')
                  ((refine keep_box4 HT0.out HXp.out HLb.out ?_; repeat (first | assumption | exact Below.refl _ _ | refine Below.drew ?_)))
                  (first | (go_at_call 63; refine (HO.out _).mono ?_; rintro e w5 ⟨rfl, l5⟩; have hb5 := below_call8 (by repeat (first | assumption | exact Below.refl _ _ | refine Below.drew ?_) : Below W0.heap.size W0 _) l5; clear l5))
                all_goals go_wp2_with fail
                all_goals go_meet
                all_goals
                  case rel => exact ⟨rfl, Lib.hid (by repeat (first | assumption | exact Below.refl _ _ | refine Below.drew ?_))⟩
              case rest => as_aux_lemma =>
                obtain ⟨rfl, HBw⟩ := hcut
                rename World => W9
                go_wp2_with fail
                go_roundw
                case rel => exact ⟨k + 1, by omega, by go_num, HS, Lib.hid (HRl.out _ HBw.out)⟩
                case measure => (simp [intOf]; omega)
          · have hd2 : decide ((0 : Int) < (k : Int)) = false := decide_eq_false (by omega)
            have HS := Lib.hid (pre_step' HP.out HK.out HTe.out ho (fun h0 => absurd h0 hk0))
            clear ho
            go_upto_region 6 with fail
            rw [← HW0.out, ← HX.out]
            go_cut [32] from 15 to 32 (fun b wx => b = .bool false ∧ Hid (Below W0.heap.size W0 wx))
            case first => as_aux_lemma =>
              refine wp_region_held_drew (S := (fun w' => w'.cell? ⟨X, 0, none⟩ = some (.int .i64 t.i) ∧ w'.cell? ⟨X, 1, none⟩ = some (.int .i64 t.d) ∧ w'.cell? ⟨X, 2, none⟩ = some (.int .i64 t.p) ∧ Below W0.heap.size W0 w')) (by kernel_rfl) ?_ (fun hHeld => ?_)
              · exact keep_box HT0.out (Below.drew (Below.refl _ _))
              (refine wpAnyH_take (i := 0) (v := (.agg #[.int .i64 t.i, .int .i64 t.d, .int .i64 t.p])) rfl (by kernel_rfl) (by kernel_rfl) (by kernel_rfl) (fun _ _ _ h => h) (Or.inl ⟨by rfl, ?_⟩) (by assumption) ?_; focus (intro w' hSw; (try dsimp only at hSw); go_simp; (try with_reducible rfl)); (try simp only [Act.put, List.getElem_toArray, List.getElem_cons_succ, List.getElem_cons_zero, List.setIfInBounds_toArray, List.set_cons_zero, List.set_cons_succ]))
              refine wpAnyH_ready (rs := [1]) (by kernel_rfl) (by simp) ?_
              refine AllReadyH.cons rfl (fun K hK => ?_) AllReadyH.nil
              go_simp
              (go_at_call 63; refine (HO.out _).mono ?_; rintro e w5 ⟨rfl, l5⟩; have hb5 := below_call8 (by repeat (first | assumption | exact Below.refl _ _ | refine Below.drew ?_) : Below W0.heap.size W0 _) l5; clear l5)
              refine hK.out _ _ ?S40 (fun hHeld2 => ?rest40)
              case S40 =>
                (try dsimp only)
                exact keep_box HT0.out hb5
              clear hK K hHeld
              (try simp only [Act.put, List.setIfInBounds_toArray, List.set_cons_zero, List.set_cons_succ])
              (refine wpAnyH_take (i := 2) (v := (.bool false)) rfl (by kernel_rfl) (by kernel_rfl) (by kernel_rfl) (fun _ _ _ h => h) (Or.inl ⟨by rfl, ?_⟩) (by assumption) ?_; focus (intro w' hSw; (try dsimp only at hSw); go_simp; (try with_reducible rfl)); (try simp only [Act.put, List.getElem_toArray, List.getElem_cons_succ, List.getElem_cons_zero, List.setIfInBounds_toArray, List.set_cons_zero, List.set_cons_succ]))
              (refine wpAnyH_take (i := 3) (v := (.bool false)) rfl (by kernel_rfl) (by kernel_rfl) (by kernel_rfl) (fun _ _ _ h => h) (Or.inl ⟨by rfl, ?_⟩) (by assumption) ?_; focus (intro w' hSw; (try dsimp only at hSw); go_simp; (try with_reducible rfl)); (try simp only [Act.put, List.getElem_toArray, List.getElem_cons_succ, List.getElem_cons_zero, List.setIfInBounds_toArray, List.set_cons_zero, List.set_cons_succ]))
              (refine wpAnyH_take (i := 4) (v := (.int .i64 (k : Int))) rfl (by kernel_rfl) (by kernel_rfl) (by kernel_rfl) (fun _ _ _ h => h) (Or.inl ⟨by rfl, ?_⟩) (by assumption) ?_; focus (intro w' hSw; (try dsimp only at hSw); go_simp; (try with_reducible rfl)); (try simp only [Act.put, List.getElem_toArray, List.getElem_cons_succ, List.getElem_cons_zero, List.setIfInBounds_toArray, List.set_cons_zero, List.set_cons_succ]))
              (refine wpAnyH_take (i := 5) (v := (.bool false)) rfl (by kernel_rfl) (by kernel_rfl) (by kernel_rfl) (fun _ _ _ h => h) (Or.inl ⟨by rfl, ?_⟩) (by assumption) ?_; focus (intro w' hSw; (try dsimp only at hSw); go_simp; (try with_reducible rfl)); (try simp only [Act.put, List.getElem_toArray, List.getElem_cons_succ, List.getElem_cons_zero, List.setIfInBounds_toArray, List.set_cons_zero, List.set_cons_succ]))
              (refine wpAnyH_take (i := 6) (v := (.bool false)) rfl (by kernel_rfl) (by kernel_rfl) (by kernel_rfl) (fun _ _ _ h => h) (Or.inl ⟨by rfl, ?_⟩) (by assumption) ?_; focus (intro w' hSw; (try dsimp only at hSw); go_simp; (try with_reducible rfl)); (try simp only [Act.put, List.getElem_toArray, List.getElem_cons_succ, List.getElem_cons_zero, List.setIfInBounds_toArray, List.set_cons_zero, List.set_cons_succ]))
              (refine wpAnyH_take (i := 7) (v := undef) rfl (by kernel_rfl) (by kernel_rfl) (by kernel_rfl) (fun _ _ _ h => h) (Or.inr ⟨by kernel_rfl, rfl⟩) (by assumption) ?_; (try simp only [Act.put, List.getElem_toArray, List.getElem_cons_succ, List.getElem_cons_zero, List.setIfInBounds_toArray, List.set_cons_zero, List.set_cons_succ]))
              (refine wpAnyH_take (i := 8) (v := undef) rfl (by kernel_rfl) (by kernel_rfl) (by kernel_rfl) (fun _ _ _ h => h) (Or.inr ⟨by kernel_rfl, rfl⟩) (by assumption) ?_; (try simp only [Act.put, List.getElem_toArray, List.getElem_cons_succ, List.getElem_cons_zero, List.setIfInBounds_toArray, List.set_cons_zero, List.set_cons_succ]))
              (refine wpAnyH_take (i := 9) (v := undef) rfl (by kernel_rfl) (by kernel_rfl) (by kernel_rfl) (fun _ _ _ h => h) (Or.inr ⟨by kernel_rfl, rfl⟩) (by assumption) ?_; (try simp only [Act.put, List.getElem_toArray, List.getElem_cons_succ, List.getElem_cons_zero, List.setIfInBounds_toArray, List.set_cons_zero, List.set_cons_succ]))
              (refine wpAnyH_take (i := 10) (v := undef) rfl (by kernel_rfl) (by kernel_rfl) (by kernel_rfl) (fun _ _ _ h => h) (Or.inr ⟨by kernel_rfl, rfl⟩) (by assumption) ?_; (try simp only [Act.put, List.getElem_toArray, List.getElem_cons_succ, List.getElem_cons_zero, List.setIfInBounds_toArray, List.set_cons_zero, List.set_cons_succ]))
              (refine wpAnyH_take (i := 11) (v := undef) rfl (by kernel_rfl) (by kernel_rfl) (by kernel_rfl) (fun _ _ _ h => h) (Or.inr ⟨by kernel_rfl, rfl⟩) (by assumption) ?_; (try simp only [Act.put, List.getElem_toArray, List.getElem_cons_succ, List.getElem_cons_zero, List.setIfInBounds_toArray, List.set_cons_zero, List.set_cons_succ]))
              (refine wpAnyH_take (i := 12) (v := undef) rfl (by kernel_rfl) (by kernel_rfl) (by kernel_rfl) (fun _ _ _ h => h) (Or.inr ⟨by kernel_rfl, rfl⟩) (by assumption) ?_; (try simp only [Act.put, List.getElem_toArray, List.getElem_cons_succ, List.getElem_cons_zero, List.setIfInBounds_toArray, List.set_cons_zero, List.set_cons_succ]))
              (refine wpAnyH_take (i := 13) (v := undef) rfl (by kernel_rfl) (by kernel_rfl) (by kernel_rfl) (fun _ _ _ h => h) (Or.inr ⟨by kernel_rfl, rfl⟩) (by assumption) ?_; (try simp only [Act.put, List.getElem_toArray, List.getElem_cons_succ, List.getElem_cons_zero, List.setIfInBounds_toArray, List.set_cons_zero, List.set_cons_succ]))
              (refine wpAnyH_take (i := 14) (v := undef) rfl (by kernel_rfl) (by kernel_rfl) (by kernel_rfl) (fun _ _ _ h => h) (Or.inr ⟨by kernel_rfl, rfl⟩) (by assumption) ?_; (try simp only [Act.put, List.getElem_toArray, List.getElem_cons_succ, List.getElem_cons_zero, List.setIfInBounds_toArray, List.set_cons_zero, List.set_cons_succ]))
              (refine wpAnyH_take (i := 15) (v := undef) rfl (by kernel_rfl) (by kernel_rfl) (by kernel_rfl) (fun _ _ _ h => h) (Or.inr ⟨by kernel_rfl, rfl⟩) (by assumption) ?_; (try simp only [Act.put, List.getElem_toArray, List.getElem_cons_succ, List.getElem_cons_zero, List.setIfInBounds_toArray, List.set_cons_zero, List.set_cons_succ]))
              (refine wpAnyH_take (i := 16) (v := (.bool false)) rfl (by kernel_rfl) (by kernel_rfl) (by kernel_rfl) (fun _ _ _ h => h) (Or.inl ⟨by rfl, ?_⟩) (by assumption) ?_; focus (intro w' hSw; (try dsimp only at hSw); go_simp; (try with_reducible rfl)); (try simp only [Act.put, List.getElem_toArray, List.getElem_cons_succ, List.getElem_cons_zero, List.setIfInBounds_toArray, List.set_cons_zero, List.set_cons_succ]))
              (refine wpAnyH_take (i := 17) (v := (.bool false)) rfl (by kernel_rfl) (by kernel_rfl) (by kernel_rfl) (fun _ _ _ h => h) (Or.inl ⟨by rfl, ?_⟩) (by assumption) ?_; focus (intro w' hSw; (try dsimp only at hSw); go_simp; (try with_reducible rfl)); (try simp only [Act.put, List.getElem_toArray, List.getElem_cons_succ, List.getElem_cons_zero, List.setIfInBounds_toArray, List.set_cons_zero, List.set_cons_succ]))
              refine wpAnyH_done (by kernel_rfl) ?_ _
              all_goals go_wp2_with fail
              all_goals go_meet
              all_goals
                case rel => exact ⟨rfl, Lib.hid (by repeat (first | assumption | exact Below.refl _ _ | refine Below.drew ?_))⟩
            case rest => as_aux_lemma =>
              obtain ⟨rfl, HBw⟩ := hcut
              rename World => W9
              go_wp2_with fail
              go_roundw
              case rel => exact ⟨k + 1, by omega, by go_num, HS, Lib.hid (HRl.out _ HBw.out)⟩
              case measure => (simp [intOf]; omega)
      · obtain rfl : k = n := by omega
        have hP := HP.out
        have HE : Hid (tsOk s = true) := Lib.hid (by
          have e : tsOk s = decide ((s.length : Int) ≤ 10) := by rw [HN.out] at hP; exact pre_all hP
          rw [e, ← HN.out]; exact decide_eq_true (by omega))
        clear hP
        go_wp2_with fail
        go_ret
        exact ⟨by rw [HE.out]; rfl, HW.out⟩
  · have hd10 : decide ((10 : Int) < (n : Int)) = true := decide_eq_true (by omega)
    have HE := Lib.hid (HLong.out (by omega))
    go_enter Try.func22, Try.ntmps22
    go_wp2_with fail
    go_ret
    exact ⟨by rw [HE.out]; rfl, Below.refl _ _⟩
end Go.Proofs.Ytoehedogdbafpaa
