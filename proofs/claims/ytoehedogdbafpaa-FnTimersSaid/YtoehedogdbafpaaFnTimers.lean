/-
  The law of timers: what is run is due no more, what is stopped is gone, and the next that is due.
-/
import Derived.Test.YtoehedogdbafpaaDrawTim2
import Derived.Test.YtoehedogdbafpaaTimI6
import Derived.Test.YtoehedogdbafpaaTimL
import Derived.Test.YtoehedogdbafpaaRBig
import Derived.Test.YtoehedogdbafpaaRHas
import Derived.Deep.CutRange
import Derived.Deep.RegionHeld3
import Derived.BigQuiet
import Derived.WalkLawsBesides
namespace Go.Proofs.Ytoehedogdbafpaa
open Go.RowKit Go.Lib Go.Joins
set_option linter.unusedVariables false

theorem below8 {W w1 w2 : World} (h : Below W.heap.size W w1) (l : Below w1.heap.size w1 w2) : Below W.heap.size W w2 := h.trans (l.mono h.size)
theorem keep8 {W w' : World} {g1 g2 : Nat} {x y : Value} (h1 : W.cell? ⟨g1, 0, none⟩ = some x) (l1 : g1 < W.heap.size) (h2 : W.cell? ⟨g2, 0, none⟩ = some y) (l2 : g2 < W.heap.size) (hb : Below W.heap.size W w') :
    w'.cell? ⟨g1, 0, none⟩ = some x ∧ w'.cell? ⟨g2, 0, none⟩ = some y ∧ Below W.heap.size W w' := ⟨(hb.cell (p := ⟨g1, 0, none⟩) l1).trans h1, (hb.cell (p := ⟨g2, 0, none⟩) l2).trans h2, hb⟩
theorem keepT8 {W w' : World} {R : Nat} {t : Tm} (h : Tb W R t) (hb : Below W.heap.size W w') : w'.cell? ⟨R, 1, none⟩ = some (.int .i64 t.d) ∧ Below W.heap.size W w' := ⟨(h.below hb h.lt).cells.2.1, hb⟩
set_option maxRecDepth 100000 in
set_option maxHeartbeats 16000000 in
theorem fnTimers_walk (w : World) (v0 : Value) (z0 : List Int) (w0 : Row w v0 z0.length (z0.map (Value.int .u8))) (b0 : ∀ z ∈ z0, (Lit.int .u8 z).wf = true) (_hsh : w.ShapedOpen Try.prog) :
    Calls Try.prog 3 #[v0] w fun e w' => e = .returned (.bool true) ∧ Below w.heap.size w w' := by
  clear _hsh
  have hz : ∀ x ∈ z0, 0 ≤ x ∧ x < 256 := fun x hx => by have := bounds_u8 (b0 x hx); omega
  by_cases hbig : (65536 : Int) < z0.length
  · have HV := Lib.hid (rBig_row v0 _ _ true w0 (decide_eq_true hbig))
    clear w0 b0 hz
    go_enter Try.func3, Try.ntmps3
    go_wp2_with (go_at_call 14; refine (HV.out _).mono ?_; rintro e w' ⟨rfl, rfl⟩)
    go_ret
    exact ⟨rfl, Below.refl _ _⟩
  have HV := Lib.hid (rBig_row v0 _ _ false w0 (decide_eq_false hbig))
  have HR := Lib.hid w0
  have HD1 := Lib.hid (fun w hr => drawRunT_any v0 z0 w hr hz)
  have HD2 := Lib.hid (fun w hr => drawStopT_any v0 z0 w hr hz)
  have HD3 := Lib.hid (fun w hr => drawNextT_any v0 z0 w hr hz)
  clear w0 b0 hz hbig
  go_enter Try.func3, Try.ntmps3
  go_wp2_with fail
  refine (HV.out _).mono ?_
  rintro e w' ⟨rfl, rfl⟩
  clear HV
  go_wp2_with fail
  refine (HD1.out _ (HR.out.below (Below.refl _ _) (Nat.le_refl _))).mono ?_
  rintro e W2 ⟨g_l, c_l, zs, x, rfl, _, o_l, l2⟩
  have O_l := Lib.hid o_l
  clear o_l
  have HB_3 := Lib.hid l2
  clear l2
  clear HD1
  have HRi := Lib.hid (fun W h => implRun_any ⟨g_l, 0, none⟩ c_l zs x W h)
  have HRs := Lib.hid (fun W h hf => specRun_any (.slice (some ⟨g_l, 0, none⟩) zs.length c_l) zs x W h hf)
  have HDi := Lib.hid (fun W h hf => implDue_any (.slice (some ⟨g_l, 0, none⟩) zs.length c_l) zs x W h hf)
  have HDs := Lib.hid (fun W h hf => specDue_any (.slice (some ⟨g_l, 0, none⟩) zs.length c_l) zs x W h hf)
  have HDa := Lib.hid (fun (v : Value) W h hf => implDue_any v (runV zs x) x W h hf)
  have HIa := Lib.hid (fun (v : Value) W h => implIsT_any v (runV zs x) W h)
  have HF := Lib.hid (@runs_law zs x)
  generalize runV zs x = ya at HRi HRs HDa HIa HF
  generalize runF zs x = fi at HRi HRs HF
  generalize runOk zs x = ok at HRi HRs HF
  generalize dueV zs x = du at HDi HDs HF
  generalize dueOk zs x = fine at HDi HDs HF
  go_wp2_with fail
  refine (HRi.out _ (rowz_own O_l.out)).mono ?_
  rintro e W4 ⟨v_y, v_f, rfl, o_y, o_f, _, l4⟩
  obtain ⟨a_y, c_y, rfl, _, _⟩ := ownz_slice o_y
  have O_y := Lib.hid o_y
  clear o_y
  obtain ⟨a_f, c_f, rfl, _, _⟩ := ownz_slice o_f
  have O_f := Lib.hid o_f
  clear o_f
  have HB_5 := Lib.hid (HB_3.out.trans (l4.mono HB_3.out.size))
  have l_5 := Lib.hid (ownz_below O_l.out l4 (Nat.le_refl _))
  clear O_l
  clear HB_3
  clear l4
  clear HRi
  go_wp2_with fail
  refine (HRs.out _ (rowz_own l_5.out) (fit_own l_5.out)).mono ?_
  rintro e W6 ⟨v_w, v_k, rfl, o_w, o_k, _, l6⟩
  obtain ⟨a_w, c_w, rfl, _, _⟩ := ownz_slice o_w
  have O_w := Lib.hid o_w
  clear o_w
  obtain ⟨a_k, c_k, rfl, _, _⟩ := ownz_slice o_k
  have O_k := Lib.hid o_k
  clear o_k
  have HB_7 := Lib.hid (HB_5.out.trans (l6.mono HB_5.out.size))
  have l_7 := Lib.hid (ownz_below l_5.out l6 (Nat.le_refl _))
  clear l_5
  have y_7 := Lib.hid (ownz_below O_y.out l6 (Nat.le_refl _))
  clear O_y
  have f_7 := Lib.hid (ownz_below O_f.out l6 (Nat.le_refl _))
  clear O_f
  clear HB_5
  clear l6
  clear HRs
  go_wp2_with fail
  refine (rTimers_same _ _ ya _ (rowz_own y_7.out) (rowz_own O_w.out)).mono ?_
  rintro e W8 ⟨rfl, l8⟩
  have HB_9 := Lib.hid (HB_7.out.trans (l8.mono HB_7.out.size))
  have l_9 := Lib.hid (ownz_below l_7.out l8 (Nat.le_refl _))
  clear l_7
  have y_9 := Lib.hid (ownz_below y_7.out l8 (Nat.le_refl _))
  clear y_7
  have f_9 := Lib.hid (ownz_below f_7.out l8 (Nat.le_refl _))
  clear f_7
  have w_9 := Lib.hid (ownz_below O_w.out l8 (Nat.le_refl _))
  clear O_w
  have k_9 := Lib.hid (ownz_below O_k.out l8 (Nat.le_refl _))
  clear O_k
  clear HB_7
  clear l8
  clear w_9
  go_wp2_with fail
  refine (rInts_any _ _ fi fi _ (rowz_own f_9.out) (rowz_own k_9.out)).mono ?_
  rintro e _ ⟨hx, kk, rfl⟩
  rw [decide_eq_true rfl] at hx
  subst hx
  obtain ⟨W10, hW10⟩ : ∃ W, W = W8.drewN kk := ⟨_, rfl⟩
  have l10 : Below W8.heap.size W8 W10 := by rw [hW10]; exact bdrew _ _
  rw [← hW10]
  clear hW10
  have HB_11 := Lib.hid (HB_9.out.trans (l10.mono HB_9.out.size))
  have l_11 := Lib.hid (ownz_below l_9.out l10 (Nat.le_refl _))
  clear l_9
  have y_11 := Lib.hid (ownz_below y_9.out l10 (Nat.le_refl _))
  clear y_9
  have f_11 := Lib.hid (ownz_below f_9.out l10 (Nat.le_refl _))
  clear f_9
  have k_11 := Lib.hid (ownz_below k_9.out l10 (Nat.le_refl _))
  clear k_9
  clear HB_9
  clear l10
  clear k_11
  go_wp2_with fail
  refine (HDi.out _ (rowz_own l_11.out) (fit_own l_11.out)).mono ?_
  rintro e W12 ⟨v_d, rfl, o_d, l12⟩
  obtain ⟨a_d, c_d, rfl, _, _⟩ := ownz_slice o_d
  have O_d := Lib.hid o_d
  clear o_d
  have HB_13 := Lib.hid (HB_11.out.trans (l12.mono HB_11.out.size))
  have l_13 := Lib.hid (ownz_below l_11.out l12 (Nat.le_refl _))
  clear l_11
  have y_13 := Lib.hid (ownz_below y_11.out l12 (Nat.le_refl _))
  clear y_11
  have f_13 := Lib.hid (ownz_below f_11.out l12 (Nat.le_refl _))
  clear f_11
  clear HB_11
  clear l12
  clear HDi
  go_wp2_with fail
  refine (HDs.out _ (rowz_own l_13.out) (fit_own l_13.out)).mono ?_
  rintro e W14 ⟨v_e, rfl, o_e, l14⟩
  obtain ⟨a_e, c_e, rfl, _, _⟩ := ownz_slice o_e
  have O_e := Lib.hid o_e
  clear o_e
  have HB_15 := Lib.hid (HB_13.out.trans (l14.mono HB_13.out.size))
  have l_15 := Lib.hid (ownz_below l_13.out l14 (Nat.le_refl _))
  clear l_13
  have y_15 := Lib.hid (ownz_below y_13.out l14 (Nat.le_refl _))
  clear y_13
  have f_15 := Lib.hid (ownz_below f_13.out l14 (Nat.le_refl _))
  clear f_13
  have d_15 := Lib.hid (ownz_below O_d.out l14 (Nat.le_refl _))
  clear O_d
  clear HB_13
  clear l14
  clear HDs
  go_wp2_with fail
  refine (rInts_any _ _ du du _ (rowz_own d_15.out) (rowz_own O_e.out)).mono ?_
  rintro e _ ⟨hx, kk, rfl⟩
  rw [decide_eq_true rfl] at hx
  subst hx
  obtain ⟨W16, hW16⟩ : ∃ W, W = W14.drewN kk := ⟨_, rfl⟩
  have l16 : Below W14.heap.size W14 W16 := by rw [hW16]; exact bdrew _ _
  rw [← hW16]
  clear hW16
  have HB_17 := Lib.hid (HB_15.out.trans (l16.mono HB_15.out.size))
  have l_17 := Lib.hid (ownz_below l_15.out l16 (Nat.le_refl _))
  clear l_15
  have y_17 := Lib.hid (ownz_below y_15.out l16 (Nat.le_refl _))
  clear y_15
  have f_17 := Lib.hid (ownz_below f_15.out l16 (Nat.le_refl _))
  clear f_15
  have d_17 := Lib.hid (ownz_below d_15.out l16 (Nat.le_refl _))
  clear d_15
  have e_17 := Lib.hid (ownz_below O_e.out l16 (Nat.le_refl _))
  clear O_e
  clear HB_15
  clear l16
  clear e_17
  go_upto_if 90 with fail
  go_cut [] from 15 to 151 (fun wx => Hid (Below W16.heap.size W16 wx))
  case first => as_aux_lemma =>
    cases ok with
    | false =>
      have HZ := Lib.hid (Below.refl W16.heap.size W16)
      clear HF HDa HIa
      go_wp2_with fail
      go_meet
      case rel => exact HZ
    | true =>
      have HZ := Lib.hid (Below.refl W16.heap.size W16)
      obtain ⟨e1, e2, e3, rfl, h5, h6, h7, h8, h9⟩ := HF.out rfl
      clear HF
      have HDx := Lib.hid (HDa.out (.slice a_y ya.length c_y) W16 (rowz_own y_17.out) (fit_own y_17.out))
      rw [e1, e2] at HDx
      have HIb := HIa
      rw [e3] at HIb
      clear HDa HIa e1 e2 e3
      have H5 := Lib.hid h5
      have H6 := Lib.hid h6
      have H7 := Lib.hid h7
      have H8 := Lib.hid h8
      have H9 := Lib.hid h9
      clear h5 h6 h7 h8 h9
      go_wp2_with fail
      refine (HDx.out).mono ?_
      rintro e W18 ⟨v_q, rfl, o_q, l18⟩
      rw [show ([] : List Int).length = 0 from rfl] at o_q
      obtain ⟨a_q, c_q, rfl, _, _⟩ := ownz_slice o_q
      have O_q := Lib.hid o_q
      clear o_q
      have HB_19 := Lib.hid (HZ.out.trans (l18.mono HZ.out.size))
      have l_19 := Lib.hid (ownz_below l_17.out l18 (Nat.le_refl _))
      clear l_17
      have y_19 := Lib.hid (ownz_below y_17.out l18 (Nat.le_refl _))
      clear y_17
      have f_19 := Lib.hid (ownz_below f_17.out l18 (Nat.le_refl _))
      clear f_17
      have d_19 := Lib.hid (ownz_below d_17.out l18 (Nat.le_refl _))
      clear d_17
      clear HZ
      clear l18
      clear HDx
      obtain ⟨n, hN⟩ : ∃ n, n = du.length := ⟨_, rfl⟩
      obtain ⟨m, hM⟩ : ∃ m, m = fi.length := ⟨_, rfl⟩
      have hdn := d_19.out
      rw [← hN] at hdn
      have HDn := Lib.hid hdn
      clear hdn
      have hfn := f_19.out
      rw [← hM] at hfn
      have HFn := Lib.hid hfn
      clear hfn
      clear d_19 f_19
      rw [← hN] at H5 H6 ⊢
      rw [← hM] at H5 H6 H9 ⊢
      have HN := Lib.hid hN
      have HM := Lib.hid hM
      clear hN hM
      go_upto_region 14 with fail
      go_cut [138] from 97 to 138 (fun a wx => a = .bool false ∧ Hid (Below W18.heap.size W18 wx))
      case first => as_aux_lemma =>
        by_cases hn : n = 0
        · subst hn
          obtain rfl : m = 0 := H6.out.1 rfl
          clear H5 H6 H7 H8 H9 HN HM HDn HFn
          refine wp_region_held_drew (S := (fun w' => Below W18.heap.size W18 w')) (by kernel_rfl) ?_ (fun hHeld => ?_)
          · exact (Below.drew (Below.refl _ _))
          (refine wpAnyH_take (i := 0) (oi := { dst := some 97, op := Go.Op.move (Go.Operand.tmp 16), type := 4, pos := "laws.go:1886", after := #[], guard := none }) (v := (.bool true)) rfl (by kernel_rfl) (by kernel_rfl) (by kernel_rfl) (fun _ _ _ h => h) (Or.inl ⟨by rfl, ?_⟩) (by assumption) ?_; (focus (intro w' hSw; (try dsimp only at hSw); go_simp; (try with_reducible rfl))); (try simp only [Act.put, List.setIfInBounds_toArray, List.set_cons_zero, List.set_cons_succ]))
          (refine wpAnyH_take (i := 1) (oi := { dst := some 98, op := Go.Op.unOp Go.UnOp.not 4 (Go.Operand.tmp 97), type := 4, pos := "laws.go:1886", after := #[{ on := 0, ground := Go.Ground.data }], guard := none }) (v := (.bool false)) rfl (by kernel_rfl) (by kernel_rfl) (by kernel_rfl) (fun _ _ _ h => h) (Or.inl ⟨by rfl, ?_⟩) (by assumption) ?_; (focus (intro w' hSw; (try dsimp only at hSw); go_simp; (try with_reducible rfl))); (try simp only [Act.put, List.setIfInBounds_toArray, List.set_cons_zero, List.set_cons_succ]))
          (refine wpAnyH_take (i := 2) (oi := { dst := some 99, op := Go.Op.move (Go.Operand.tmp 98), type := 4, pos := "laws.go:1886", after := #[{ on := 1, ground := Go.Ground.data }], guard := none }) (v := (.bool false)) rfl (by kernel_rfl) (by kernel_rfl) (by kernel_rfl) (fun _ _ _ h => h) (Or.inl ⟨by rfl, ?_⟩) (by assumption) ?_; (focus (intro w' hSw; (try dsimp only at hSw); go_simp; (try with_reducible rfl))); (try simp only [Act.put, List.setIfInBounds_toArray, List.set_cons_zero, List.set_cons_succ]))
          (refine wpAnyH_take (i := 3) (oi := { dst := some 100, op := Go.Op.move (Go.Operand.tmp 15), type := 27, pos := "laws.go:1886", after := #[{ on := 2, ground := Go.Ground.guard }], guard := some (2, false) }) (v := (.slice a_q 0 c_q)) rfl (by kernel_rfl) (by kernel_rfl) (by kernel_rfl) (fun _ _ _ h => h) (Or.inl ⟨by rfl, ?_⟩) (by assumption) ?_; (focus (intro w' hSw; (try dsimp only at hSw); go_simp; (try with_reducible rfl))); (try simp only [Act.put, List.setIfInBounds_toArray, List.set_cons_zero, List.set_cons_succ]))
          (refine wpAnyH_take (i := 4) (oi := { dst := some 101, op := Go.Op.call { callee := Go.Callee.builtin Go.Builtin.len, args := #[Go.Operand.tmp 100], argTypes := #[27] }, type := 3, pos := "laws.go:1886", after := #[{ on := 3, ground := Go.Ground.data }, { on := 2, ground := Go.Ground.guard }], guard := some (2, false) }) (v := (.int .i64 0)) rfl (by kernel_rfl) (by kernel_rfl) (by kernel_rfl) (fun _ _ _ h => h) (Or.inl ⟨by rfl, ?_⟩) (by assumption) ?_; (focus (intro w' hSw; (try dsimp only at hSw); go_simp; (try with_reducible rfl))); (try simp only [Act.put, List.setIfInBounds_toArray, List.set_cons_zero, List.set_cons_succ]))
          (refine wpAnyH_take (i := 5) (oi := { dst := some 102, op := Go.Op.binOp Go.BinOp.neq 3 (Go.Operand.tmp 101) (Go.Operand.const (Go.Value.int Go.IntKind.i64 0)) 3, type := 4, pos := "laws.go:1886", after := #[{ on := 4, ground := Go.Ground.data }, { on := 2, ground := Go.Ground.guard }], guard := some (2, false) }) (v := (.bool false)) rfl (by kernel_rfl) (by kernel_rfl) (by kernel_rfl) (fun _ _ _ h => h) (Or.inl ⟨by rfl, ?_⟩) (by assumption) ?_; (focus (intro w' hSw; (try dsimp only at hSw); go_simp; (try with_reducible rfl))); (try simp only [Act.put, List.setIfInBounds_toArray, List.set_cons_zero, List.set_cons_succ]))
          (refine wpAnyH_take (i := 6) (oi := { dst := some 103, op := Go.Op.pick (Go.Operand.tmp 99) (Go.Operand.const (Go.Value.bool true)) (Go.Operand.tmp 102), type := 4, pos := "laws.go:1886", after := #[{ on := 2, ground := Go.Ground.data }, { on := 5, ground := Go.Ground.data }], guard := none }) (v := (.bool false)) rfl (by kernel_rfl) (by kernel_rfl) (by kernel_rfl) (fun _ _ _ h => h) (Or.inl ⟨by rfl, ?_⟩) (by assumption) ?_; (focus (intro w' hSw; (try dsimp only at hSw); go_simp; (try with_reducible rfl))); (try simp only [Act.put, List.setIfInBounds_toArray, List.set_cons_zero, List.set_cons_succ]))
          (refine wpAnyH_take (i := 7) (oi := { dst := some 104, op := Go.Op.move (Go.Operand.tmp 103), type := 4, pos := "laws.go:1886", after := #[{ on := 6, ground := Go.Ground.data }, { on := 2, ground := Go.Ground.chain }], guard := none }) (v := (.bool false)) rfl (by kernel_rfl) (by kernel_rfl) (by kernel_rfl) (fun _ _ _ h => h) (Or.inl ⟨by rfl, ?_⟩) (by assumption) ?_; (focus (intro w' hSw; (try dsimp only at hSw); go_simp; (try with_reducible rfl))); (try simp only [Act.put, List.setIfInBounds_toArray, List.set_cons_zero, List.set_cons_succ]))
          (refine wpAnyH_take (i := 8) (oi := { dst := some 105, op := Go.Op.move (Go.Operand.tmp 6), type := 27, pos := "laws.go:1886", after := #[{ on := 7, ground := Go.Ground.guard }], guard := some (7, false) }) (v := (.slice a_f 0 c_f)) rfl (by kernel_rfl) (by kernel_rfl) (by kernel_rfl) (fun _ _ _ h => h) (Or.inl ⟨by rfl, ?_⟩) (by assumption) ?_; (focus (intro w' hSw; (try dsimp only at hSw); go_simp; (try with_reducible rfl))); (try simp only [Act.put, List.setIfInBounds_toArray, List.set_cons_zero, List.set_cons_succ]))
          (refine wpAnyH_take (i := 9) (oi := { dst := some 106, op := Go.Op.call { callee := Go.Callee.builtin Go.Builtin.len, args := #[Go.Operand.tmp 105], argTypes := #[27] }, type := 3, pos := "laws.go:1886", after := #[{ on := 8, ground := Go.Ground.data }, { on := 7, ground := Go.Ground.guard }], guard := some (7, false) }) (v := (.int .i64 0)) rfl (by kernel_rfl) (by kernel_rfl) (by kernel_rfl) (fun _ _ _ h => h) (Or.inl ⟨by rfl, ?_⟩) (by assumption) ?_; (focus (intro w' hSw; (try dsimp only at hSw); go_simp; (try with_reducible rfl))); (try simp only [Act.put, List.setIfInBounds_toArray, List.set_cons_zero, List.set_cons_succ]))
          (refine wpAnyH_take (i := 10) (oi := { dst := some 107, op := Go.Op.move (Go.Operand.tmp 11), type := 27, pos := "laws.go:1886", after := #[{ on := 7, ground := Go.Ground.guard }], guard := some (7, false) }) (v := (.slice a_d 0 c_d)) rfl (by kernel_rfl) (by kernel_rfl) (by kernel_rfl) (fun _ _ _ h => h) (Or.inl ⟨by rfl, ?_⟩) (by assumption) ?_; (focus (intro w' hSw; (try dsimp only at hSw); go_simp; (try with_reducible rfl))); (try simp only [Act.put, List.setIfInBounds_toArray, List.set_cons_zero, List.set_cons_succ]))
          (refine wpAnyH_take (i := 11) (oi := { dst := some 108, op := Go.Op.call { callee := Go.Callee.builtin Go.Builtin.len, args := #[Go.Operand.tmp 107], argTypes := #[27] }, type := 3, pos := "laws.go:1886", after := #[{ on := 10, ground := Go.Ground.data }, { on := 7, ground := Go.Ground.guard }], guard := some (7, false) }) (v := (.int .i64 0)) rfl (by kernel_rfl) (by kernel_rfl) (by kernel_rfl) (fun _ _ _ h => h) (Or.inl ⟨by rfl, ?_⟩) (by assumption) ?_; (focus (intro w' hSw; (try dsimp only at hSw); go_simp; (try with_reducible rfl))); (try simp only [Act.put, List.setIfInBounds_toArray, List.set_cons_zero, List.set_cons_succ]))
          (refine wpAnyH_take (i := 12) (oi := { dst := some 109, op := Go.Op.binOp Go.BinOp.lss 3 (Go.Operand.tmp 106) (Go.Operand.tmp 108) 3, type := 4, pos := "laws.go:1886", after := #[{ on := 9, ground := Go.Ground.data }, { on := 11, ground := Go.Ground.data }, { on := 7, ground := Go.Ground.guard }], guard := some (7, false) }) (v := (.bool false)) rfl (by kernel_rfl) (by kernel_rfl) (by kernel_rfl) (fun _ _ _ h => h) (Or.inl ⟨by rfl, ?_⟩) (by assumption) ?_; (focus (intro w' hSw; (try dsimp only at hSw); go_simp; (try with_reducible rfl))); (try simp only [Act.put, List.setIfInBounds_toArray, List.set_cons_zero, List.set_cons_succ]))
          (refine wpAnyH_take (i := 13) (oi := { dst := some 110, op := Go.Op.pick (Go.Operand.tmp 104) (Go.Operand.const (Go.Value.bool true)) (Go.Operand.tmp 109), type := 4, pos := "laws.go:1886", after := #[{ on := 7, ground := Go.Ground.data }, { on := 12, ground := Go.Ground.data }], guard := none }) (v := (.bool false)) rfl (by kernel_rfl) (by kernel_rfl) (by kernel_rfl) (fun _ _ _ h => h) (Or.inl ⟨by rfl, ?_⟩) (by assumption) ?_; (focus (intro w' hSw; (try dsimp only at hSw); go_simp; (try with_reducible rfl))); (try simp only [Act.put, List.setIfInBounds_toArray, List.set_cons_zero, List.set_cons_succ]))
          (refine wpAnyH_take (i := 14) (oi := { dst := some 111, op := Go.Op.move (Go.Operand.tmp 110), type := 4, pos := "laws.go:1886", after := #[{ on := 13, ground := Go.Ground.data }, { on := 7, ground := Go.Ground.chain }], guard := none }) (v := (.bool false)) rfl (by kernel_rfl) (by kernel_rfl) (by kernel_rfl) (fun _ _ _ h => h) (Or.inl ⟨by rfl, ?_⟩) (by assumption) ?_; (focus (intro w' hSw; (try dsimp only at hSw); go_simp; (try with_reducible rfl))); (try simp only [Act.put, List.setIfInBounds_toArray, List.set_cons_zero, List.set_cons_succ]))
          (refine wpAnyH_take (i := 15) (oi := { dst := some 112, op := Go.Op.move (Go.Operand.tmp 11), type := 27, pos := "laws.go:1886", after := #[{ on := 14, ground := Go.Ground.guard }], guard := some (14, false) }) (v := (.slice a_d 0 c_d)) rfl (by kernel_rfl) (by kernel_rfl) (by kernel_rfl) (fun _ _ _ h => h) (Or.inl ⟨by rfl, ?_⟩) (by assumption) ?_; (focus (intro w' hSw; (try dsimp only at hSw); go_simp; (try with_reducible rfl))); (try simp only [Act.put, List.setIfInBounds_toArray, List.set_cons_zero, List.set_cons_succ]))
          (refine wpAnyH_take (i := 16) (oi := { dst := some 113, op := Go.Op.call { callee := Go.Callee.builtin Go.Builtin.len, args := #[Go.Operand.tmp 112], argTypes := #[27] }, type := 3, pos := "laws.go:1886", after := #[{ on := 15, ground := Go.Ground.data }, { on := 14, ground := Go.Ground.guard }], guard := some (14, false) }) (v := (.int .i64 0)) rfl (by kernel_rfl) (by kernel_rfl) (by kernel_rfl) (fun _ _ _ h => h) (Or.inl ⟨by rfl, ?_⟩) (by assumption) ?_; (focus (intro w' hSw; (try dsimp only at hSw); go_simp; (try with_reducible rfl))); (try simp only [Act.put, List.setIfInBounds_toArray, List.set_cons_zero, List.set_cons_succ]))
          (refine wpAnyH_take (i := 17) (oi := { dst := some 114, op := Go.Op.binOp Go.BinOp.eql 3 (Go.Operand.tmp 113) (Go.Operand.const (Go.Value.int Go.IntKind.i64 0)) 3, type := 4, pos := "laws.go:1886", after := #[{ on := 16, ground := Go.Ground.data }, { on := 14, ground := Go.Ground.guard }], guard := some (14, false) }) (v := (.bool true)) rfl (by kernel_rfl) (by kernel_rfl) (by kernel_rfl) (fun _ _ _ h => h) (Or.inl ⟨by rfl, ?_⟩) (by assumption) ?_; (focus (intro w' hSw; (try dsimp only at hSw); go_simp; (try with_reducible rfl))); (try simp only [Act.put, List.setIfInBounds_toArray, List.set_cons_zero, List.set_cons_succ]))
          (refine wpAnyH_take (i := 18) (oi := { dst := some 115, op := Go.Op.move (Go.Operand.tmp 6), type := 27, pos := "laws.go:1886", after := #[{ on := 14, ground := Go.Ground.guard }], guard := some (14, false) }) (v := (.slice a_f 0 c_f)) rfl (by kernel_rfl) (by kernel_rfl) (by kernel_rfl) (fun _ _ _ h => h) (Or.inl ⟨by rfl, ?_⟩) (by assumption) ?_; (focus (intro w' hSw; (try dsimp only at hSw); go_simp; (try with_reducible rfl))); (try simp only [Act.put, List.setIfInBounds_toArray, List.set_cons_zero, List.set_cons_succ]))
          (refine wpAnyH_take (i := 19) (oi := { dst := some 116, op := Go.Op.call { callee := Go.Callee.builtin Go.Builtin.len, args := #[Go.Operand.tmp 115], argTypes := #[27] }, type := 3, pos := "laws.go:1886", after := #[{ on := 18, ground := Go.Ground.data }, { on := 14, ground := Go.Ground.guard }], guard := some (14, false) }) (v := (.int .i64 0)) rfl (by kernel_rfl) (by kernel_rfl) (by kernel_rfl) (fun _ _ _ h => h) (Or.inl ⟨by rfl, ?_⟩) (by assumption) ?_; (focus (intro w' hSw; (try dsimp only at hSw); go_simp; (try with_reducible rfl))); (try simp only [Act.put, List.setIfInBounds_toArray, List.set_cons_zero, List.set_cons_succ]))
          (refine wpAnyH_take (i := 20) (oi := { dst := some 117, op := Go.Op.binOp Go.BinOp.eql 3 (Go.Operand.tmp 116) (Go.Operand.const (Go.Value.int Go.IntKind.i64 0)) 3, type := 4, pos := "laws.go:1886", after := #[{ on := 19, ground := Go.Ground.data }, { on := 14, ground := Go.Ground.guard }], guard := some (14, false) }) (v := (.bool true)) rfl (by kernel_rfl) (by kernel_rfl) (by kernel_rfl) (fun _ _ _ h => h) (Or.inl ⟨by rfl, ?_⟩) (by assumption) ?_; (focus (intro w' hSw; (try dsimp only at hSw); go_simp; (try with_reducible rfl))); (try simp only [Act.put, List.setIfInBounds_toArray, List.set_cons_zero, List.set_cons_succ]))
          (refine wpAnyH_take (i := 21) (oi := { dst := some 118, op := Go.Op.binOp Go.BinOp.neq 4 (Go.Operand.tmp 114) (Go.Operand.tmp 117) 4, type := 4, pos := "laws.go:1886", after := #[{ on := 17, ground := Go.Ground.data }, { on := 20, ground := Go.Ground.data }, { on := 14, ground := Go.Ground.guard }], guard := some (14, false) }) (v := (.bool false)) rfl (by kernel_rfl) (by kernel_rfl) (by kernel_rfl) (fun _ _ _ h => h) (Or.inl ⟨by rfl, ?_⟩) (by assumption) ?_; (focus (intro w' hSw; (try dsimp only at hSw); go_simp; (try with_reducible rfl))); (try simp only [Act.put, List.setIfInBounds_toArray, List.set_cons_zero, List.set_cons_succ]))
          (refine wpAnyH_take (i := 22) (oi := { dst := some 119, op := Go.Op.pick (Go.Operand.tmp 111) (Go.Operand.const (Go.Value.bool true)) (Go.Operand.tmp 118), type := 4, pos := "laws.go:1886", after := #[{ on := 14, ground := Go.Ground.data }, { on := 21, ground := Go.Ground.data }], guard := none }) (v := (.bool false)) rfl (by kernel_rfl) (by kernel_rfl) (by kernel_rfl) (fun _ _ _ h => h) (Or.inl ⟨by rfl, ?_⟩) (by assumption) ?_; (focus (intro w' hSw; (try dsimp only at hSw); go_simp; (try with_reducible rfl))); (try simp only [Act.put, List.setIfInBounds_toArray, List.set_cons_zero, List.set_cons_succ]))
          (refine wpAnyH_take (i := 23) (oi := { dst := some 120, op := Go.Op.move (Go.Operand.tmp 119), type := 4, pos := "laws.go:1886", after := #[{ on := 22, ground := Go.Ground.data }, { on := 14, ground := Go.Ground.chain }], guard := none }) (v := (.bool false)) rfl (by kernel_rfl) (by kernel_rfl) (by kernel_rfl) (fun _ _ _ h => h) (Or.inl ⟨by rfl, ?_⟩) (by assumption) ?_; (focus (intro w' hSw; (try dsimp only at hSw); go_simp; (try with_reducible rfl))); (try simp only [Act.put, List.setIfInBounds_toArray, List.set_cons_zero, List.set_cons_succ]))
          (refine wpAnyH_take (i := 24) (oi := { dst := some 121, op := Go.Op.move (Go.Operand.tmp 11), type := 27, pos := "laws.go:1886", after := #[{ on := 23, ground := Go.Ground.guard }], guard := some (23, false) }) (v := (.slice a_d 0 c_d)) rfl (by kernel_rfl) (by kernel_rfl) (by kernel_rfl) (fun _ _ _ h => h) (Or.inl ⟨by rfl, ?_⟩) (by assumption) ?_; (focus (intro w' hSw; (try dsimp only at hSw); go_simp; (try with_reducible rfl))); (try simp only [Act.put, List.setIfInBounds_toArray, List.set_cons_zero, List.set_cons_succ]))
          (refine wpAnyH_take (i := 25) (oi := { dst := some 122, op := Go.Op.call { callee := Go.Callee.builtin Go.Builtin.len, args := #[Go.Operand.tmp 121], argTypes := #[27] }, type := 3, pos := "laws.go:1886", after := #[{ on := 24, ground := Go.Ground.data }, { on := 23, ground := Go.Ground.guard }], guard := some (23, false) }) (v := (.int .i64 0)) rfl (by kernel_rfl) (by kernel_rfl) (by kernel_rfl) (fun _ _ _ h => h) (Or.inl ⟨by rfl, ?_⟩) (by assumption) ?_; (focus (intro w' hSw; (try dsimp only at hSw); go_simp; (try with_reducible rfl))); (try simp only [Act.put, List.setIfInBounds_toArray, List.set_cons_zero, List.set_cons_succ]))
          (refine wpAnyH_take (i := 26) (oi := { dst := some 123, op := Go.Op.binOp Go.BinOp.gtr 3 (Go.Operand.tmp 122) (Go.Operand.const (Go.Value.int Go.IntKind.i64 0)) 3, type := 4, pos := "laws.go:1886", after := #[{ on := 25, ground := Go.Ground.data }, { on := 23, ground := Go.Ground.guard }], guard := some (23, false) }) (v := (.bool false)) rfl (by kernel_rfl) (by kernel_rfl) (by kernel_rfl) (fun _ _ _ h => h) (Or.inl ⟨by rfl, ?_⟩) (by assumption) ?_; (focus (intro w' hSw; (try dsimp only at hSw); go_simp; (try with_reducible rfl))); (try simp only [Act.put, List.setIfInBounds_toArray, List.set_cons_zero, List.set_cons_succ]))
          (refine wpAnyH_take (i := 27) (oi := { dst := some 124, op := Go.Op.move (Go.Operand.tmp 123), type := 4, pos := "laws.go:1886", after := #[{ on := 26, ground := Go.Ground.data }, { on := 23, ground := Go.Ground.chain }, { on := 23, ground := Go.Ground.guard }], guard := some (23, false) }) (v := (.bool false)) rfl (by kernel_rfl) (by kernel_rfl) (by kernel_rfl) (fun _ _ _ h => h) (Or.inl ⟨by rfl, ?_⟩) (by assumption) ?_; (focus (intro w' hSw; (try dsimp only at hSw); go_simp; (try with_reducible rfl))); (try simp only [Act.put, List.setIfInBounds_toArray, List.set_cons_zero, List.set_cons_succ]))
          (refine wpAnyH_take (i := 28) (oi := { dst := some 125, op := Go.Op.move (Go.Operand.tmp 6), type := 27, pos := "laws.go:1886", after := #[{ on := 27, ground := Go.Ground.guard }], guard := some (27, true) }) (v := undef) rfl (by kernel_rfl) (by kernel_rfl) (by kernel_rfl) (fun _ _ _ h => h) (Or.inr ⟨by kernel_rfl, rfl⟩) (by assumption) ?_; (try simp only [Act.put, List.setIfInBounds_toArray, List.set_cons_zero, List.set_cons_succ]))
          (refine wpAnyH_take (i := 29) (oi := { dst := some 126, op := Go.Op.indexAddr 27 (Go.Operand.tmp 125) (Go.Operand.const (Go.Value.int Go.IntKind.i64 0)), type := 0, pos := "laws.go:1886", after := #[{ on := 28, ground := Go.Ground.data }, { on := 27, ground := Go.Ground.guard }], guard := some (27, true) }) (v := undef) rfl (by kernel_rfl) (by kernel_rfl) (by kernel_rfl) (fun _ _ _ h => h) (Or.inr ⟨by kernel_rfl, rfl⟩) (by assumption) ?_; (try simp only [Act.put, List.setIfInBounds_toArray, List.set_cons_zero, List.set_cons_succ]))
          (refine wpAnyH_take (i := 30) (oi := { dst := some 127, op := Go.Op.load 3 (Go.Operand.tmp 126), type := 3, pos := "laws.go:1886", after := #[{ on := 29, ground := Go.Ground.data }, { on := 27, ground := Go.Ground.guard }], guard := some (27, true) }) (v := undef) rfl (by kernel_rfl) (by kernel_rfl) (by kernel_rfl) (fun _ _ _ h => h) (Or.inr ⟨by kernel_rfl, rfl⟩) (by assumption) ?_; (try simp only [Act.put, List.setIfInBounds_toArray, List.set_cons_zero, List.set_cons_succ]))
          (refine wpAnyH_take (i := 31) (oi := { dst := some 128, op := Go.Op.move (Go.Operand.tmp 11), type := 27, pos := "laws.go:1886", after := #[{ on := 27, ground := Go.Ground.guard }], guard := some (27, true) }) (v := undef) rfl (by kernel_rfl) (by kernel_rfl) (by kernel_rfl) (fun _ _ _ h => h) (Or.inr ⟨by kernel_rfl, rfl⟩) (by assumption) ?_; (try simp only [Act.put, List.setIfInBounds_toArray, List.set_cons_zero, List.set_cons_succ]))
          (refine wpAnyH_take (i := 32) (oi := { dst := some 129, op := Go.Op.indexAddr 27 (Go.Operand.tmp 128) (Go.Operand.const (Go.Value.int Go.IntKind.i64 0)), type := 0, pos := "laws.go:1886", after := #[{ on := 31, ground := Go.Ground.data }, { on := 27, ground := Go.Ground.guard }], guard := some (27, true) }) (v := undef) rfl (by kernel_rfl) (by kernel_rfl) (by kernel_rfl) (fun _ _ _ h => h) (Or.inr ⟨by kernel_rfl, rfl⟩) (by assumption) ?_; (try simp only [Act.put, List.setIfInBounds_toArray, List.set_cons_zero, List.set_cons_succ]))
          (refine wpAnyH_take (i := 33) (oi := { dst := some 130, op := Go.Op.load 3 (Go.Operand.tmp 129), type := 3, pos := "laws.go:1886", after := #[{ on := 32, ground := Go.Ground.data }, { on := 27, ground := Go.Ground.guard }], guard := some (27, true) }) (v := undef) rfl (by kernel_rfl) (by kernel_rfl) (by kernel_rfl) (fun _ _ _ h => h) (Or.inr ⟨by kernel_rfl, rfl⟩) (by assumption) ?_; (try simp only [Act.put, List.setIfInBounds_toArray, List.set_cons_zero, List.set_cons_succ]))
          (refine wpAnyH_take (i := 34) (oi := { dst := some 131, op := Go.Op.binOp Go.BinOp.neq 3 (Go.Operand.tmp 127) (Go.Operand.tmp 130) 3, type := 4, pos := "laws.go:1886", after := #[{ on := 30, ground := Go.Ground.data }, { on := 33, ground := Go.Ground.data }, { on := 27, ground := Go.Ground.guard }], guard := some (27, true) }) (v := undef) rfl (by kernel_rfl) (by kernel_rfl) (by kernel_rfl) (fun _ _ _ h => h) (Or.inr ⟨by kernel_rfl, rfl⟩) (by assumption) ?_; (try simp only [Act.put, List.setIfInBounds_toArray, List.set_cons_zero, List.set_cons_succ]))
          (refine wpAnyH_take (i := 35) (oi := { dst := some 132, op := Go.Op.pick (Go.Operand.tmp 124) (Go.Operand.tmp 131) (Go.Operand.const (Go.Value.bool false)), type := 4, pos := "laws.go:1886", after := #[{ on := 27, ground := Go.Ground.data }, { on := 34, ground := Go.Ground.data }, { on := 23, ground := Go.Ground.guard }], guard := some (23, false) }) (v := (.bool false)) rfl (by kernel_rfl) (by kernel_rfl) (by kernel_rfl) (fun _ _ _ h => h) (Or.inl ⟨by rfl, ?_⟩) (by assumption) ?_; (focus (intro w' hSw; (try dsimp only at hSw); go_simp; (try with_reducible rfl))); (try simp only [Act.put, List.setIfInBounds_toArray, List.set_cons_zero, List.set_cons_succ]))
          (refine wpAnyH_take (i := 36) (oi := { dst := some 133, op := Go.Op.pick (Go.Operand.tmp 120) (Go.Operand.const (Go.Value.bool true)) (Go.Operand.tmp 132), type := 4, pos := "laws.go:1886", after := #[{ on := 23, ground := Go.Ground.data }, { on := 35, ground := Go.Ground.data }], guard := none }) (v := (.bool false)) rfl (by kernel_rfl) (by kernel_rfl) (by kernel_rfl) (fun _ _ _ h => h) (Or.inl ⟨by rfl, ?_⟩) (by assumption) ?_; (focus (intro w' hSw; (try dsimp only at hSw); go_simp; (try with_reducible rfl))); (try simp only [Act.put, List.setIfInBounds_toArray, List.set_cons_zero, List.set_cons_succ]))
          (refine wpAnyH_take (i := 37) (oi := { dst := some 134, op := Go.Op.move (Go.Operand.tmp 133), type := 4, pos := "laws.go:1886", after := #[{ on := 36, ground := Go.Ground.data }, { on := 27, ground := Go.Ground.chain }], guard := none }) (v := (.bool false)) rfl (by kernel_rfl) (by kernel_rfl) (by kernel_rfl) (fun _ _ _ h => h) (Or.inl ⟨by rfl, ?_⟩) (by assumption) ?_; (focus (intro w' hSw; (try dsimp only at hSw); go_simp; (try with_reducible rfl))); (try simp only [Act.put, List.setIfInBounds_toArray, List.set_cons_zero, List.set_cons_succ]))
          (refine wpAnyH_take (i := 38) (oi := { dst := some 135, op := Go.Op.move (Go.Operand.tmp 5), type := 24, pos := "laws.go:1886", after := #[{ on := 37, ground := Go.Ground.guard }], guard := some (37, false) }) (v := (.slice a_y ya.length c_y)) rfl (by kernel_rfl) (by kernel_rfl) (by kernel_rfl) (fun _ _ _ h => h) (Or.inl ⟨by rfl, ?_⟩) (by assumption) ?_; (focus (intro w' hSw; (try dsimp only at hSw); go_simp; (try with_reducible rfl))); (try simp only [Act.put, List.setIfInBounds_toArray, List.set_cons_zero, List.set_cons_succ]))
          refine wpAnyH_ready (rs := [39]) (by kernel_rfl) (by simp) ?_
          refine AllReadyH.cons rfl (fun K hK => ?_) AllReadyH.nil
          go_simp
          (go_at_call 22; refine (HIb.out _ _ ((rowz_own y_19.out).below (by repeat (first | assumption | exact Below.refl _ _ | refine Below.drew ?_) : Below W18.heap.size W18 _) (Nat.le_refl _))).mono ?_; rintro e w5 ⟨rfl, l5⟩; have hb5 := below8 (by repeat (first | assumption | exact Below.refl _ _ | refine Below.drew ?_) : Below W18.heap.size W18 _) l5; clear l5)
          refine hK.out _ _ ?S10 (fun hHeld2 => ?rest10)
          case S10 =>
            (try dsimp only)
            exact hb5
          clear hK K hHeld
          (try simp only [Act.put, List.setIfInBounds_toArray, List.set_cons_zero, List.set_cons_succ])
          (refine wpAnyH_take (i := 40) (oi := { dst := some 137, op := Go.Op.unOp Go.UnOp.not 4 (Go.Operand.tmp 136), type := 4, pos := "laws.go:1886", after := #[{ on := 39, ground := Go.Ground.data }, { on := 37, ground := Go.Ground.guard }], guard := some (37, false) }) (v := (.bool false)) rfl (by kernel_rfl) (by kernel_rfl) (by kernel_rfl) (fun _ _ _ h => h) (Or.inl ⟨by rfl, ?_⟩) (by assumption) ?_; (focus (intro w' hSw; (try dsimp only at hSw); go_simp; (try with_reducible rfl))); (try simp only [Act.put, List.setIfInBounds_toArray, List.set_cons_zero, List.set_cons_succ]))
          (refine wpAnyH_take (i := 41) (oi := { dst := some 138, op := Go.Op.pick (Go.Operand.tmp 134) (Go.Operand.const (Go.Value.bool true)) (Go.Operand.tmp 137), type := 4, pos := "laws.go:1886", after := #[{ on := 37, ground := Go.Ground.data }, { on := 40, ground := Go.Ground.data }], guard := none }) (v := (.bool false)) rfl (by kernel_rfl) (by kernel_rfl) (by kernel_rfl) (fun _ _ _ h => h) (Or.inl ⟨by rfl, ?_⟩) (by assumption) ?_; (focus (intro w' hSw; (try dsimp only at hSw); go_simp; (try with_reducible rfl))); (try simp only [Act.put, List.setIfInBounds_toArray, List.set_cons_zero, List.set_cons_succ]))
          refine wpAnyH_done (by kernel_rfl) ?_ _
          all_goals go_wp2_with fail
          all_goals go_meet
          all_goals
            case rel => exact ⟨rfl, Lib.hid (by repeat (first | assumption | exact Below.refl _ _ | refine Below.drew ?_))⟩
        · have hn0 : 0 < n := by omega
          have hm0 : 0 < m := by have := H5.out; omega
          have hnm : (n : Int) ≤ (m : Int) := by have := H5.out; omega
          obtain ⟨b, hb1, hb2⟩ : ∃ b, du[0]? = some b ∧ fi[0]? = some b := by
            cases e : du with
            | nil => rw [HN.out, e] at hn0; exact absurd hn0 (by simp)
            | cons b bs => obtain ⟨cs, hcs⟩ := H8.out b bs e; exact ⟨b, rfl, by rw [hcs]; rfl⟩
          obtain ⟨gd, cd, hgd⟩ := own_form HDn.out hn0
          injection hgd with hgd hgd2 hgd3
          clear hgd2 hgd3
          subst hgd
          have HLd := Lib.hid (show gd < W18.heap.size from ((HDn.out).lt gd rfl).2)
          have hcell_d : W18.cell? ⟨gd, 0, none⟩ = some (.int .i64 b) := by
            obtain ⟨⟨u, hu, hc⟩, _⟩ := own_facts (j := 0) HDn.out hn0
            rw [List.getElem?_map, hb1] at hu
            rw [hc]
            exact hu.symm
          obtain ⟨gf, cf, hgf⟩ := own_form HFn.out hm0
          injection hgf with hgf hgf2 hgf3
          clear hgf2 hgf3
          subst hgf
          have HLf := Lib.hid (show gf < W18.heap.size from ((HFn.out).lt gf rfl).2)
          have hcell_f : W18.cell? ⟨gf, 0, none⟩ = some (.int .i64 b) := by
            obtain ⟨⟨u, hu, hc⟩, _⟩ := own_facts (j := 0) HFn.out hm0
            rw [List.getElem?_map, hb2] at hu
            rw [hc]
            exact hu.symm
          clear H5 H6 H7 H8 H9 HN HM hb1 hb2
          have hp1 : (0 : Int) < (n : Int) := by omega
          have hp2 : (0 : Int) < (m : Int) := by omega
          have hq1 : ((n : Int) == 0) = false := by simp; omega
          have hq2 : ((m : Int) == 0) = false := by simp; omega
          have hnm2 : n ≤ m := by omega
          have hd1 : decide (m < n) = false := decide_eq_false (by omega)
          have hd2 : ¬ m < n := by omega
          have hd3 : ¬ n = 0 := by omega
          have hd4 : ¬ m = 0 := by omega
          go_region_held3 (fun w' => w'.cell? ⟨gf, 0, none⟩ = some (.int .i64 b) ∧ w'.cell? ⟨gd, 0, none⟩ = some (.int .i64 b) ∧ Below W18.heap.size W18 w')
            ((refine keep8 hcell_f HLf.out hcell_d HLd.out ?_; repeat (first | assumption | exact Below.refl _ _ | refine Below.drew ?_)))
            (first | (go_at_call 22; refine (HIb.out _ _ ((rowz_own y_19.out).below (by repeat (first | assumption | exact Below.refl _ _ | refine Below.drew ?_) : Below W18.heap.size W18 _) (Nat.le_refl _))).mono ?_; rintro e w5 ⟨rfl, l5⟩; have hb5 := below8 (by repeat (first | assumption | exact Below.refl _ _ | refine Below.drew ?_) : Below W18.heap.size W18 _) l5; clear l5))
          all_goals go_wp2_with fail
          all_goals go_meet
          all_goals
            case rel => exact ⟨rfl, Lib.hid (by repeat (first | assumption | exact Below.refl _ _ | refine Below.drew ?_))⟩
      case rest => as_aux_lemma =>
        obtain ⟨rfl, HBc⟩ := hcut
        rename World => W20
        have l20 := HBc.out
        clear HBc
        have HB_21 := Lib.hid (HB_19.out.trans (l20.mono HB_19.out.size))
        have l_21 := Lib.hid (ownz_below l_19.out l20 (Nat.le_refl _))
        clear l_19
        have y_21 := Lib.hid (ownz_below y_19.out l20 (Nat.le_refl _))
        clear y_19
        have f_21 := Lib.hid (ownz_below HFn.out l20 (Nat.le_refl _))
        clear HFn
        have d_21 := Lib.hid (ownz_below HDn.out l20 (Nat.le_refl _))
        clear HDn
        have q_21 := Lib.hid (ownz_below O_q.out l20 (Nat.le_refl _))
        clear O_q
        clear HB_19
        clear l20
        clear HIb
        have hn50 : n ≤ 50 := by have h5 := H5.out; have h9 := H9.out; omega
        clear H5 H6 H8 H9
        go_wp2_with fail
        go_loopw [17] (fun i wr => ∃ k : Nat, k ≤ n ∧ i = .int .i64 k ∧ Hid (Below W20.heap.size W20 wr)) (fun i _ => n - (RowKit.intOf i).toNat)
        case atStart => exact ⟨0, Nat.zero_le _, rfl, Lib.hid (Below.refl _ _)⟩
        case round =>
          obtain ⟨k, hk, rfl, HW⟩ := hrel
          by_cases hkn : k < n
          · have hks : k < du.length := by rw [← HN.out]; exact hkn
            obtain ⟨gd, cd, hgd⟩ := own_form d_21.out (by omega)
            injection hgd with hgd hgd2 hgd3
            clear hgd2 hgd3
            subst hgd
            obtain ⟨⟨u, hu, hc⟩, _⟩ := own_facts (j := k) (own_below d_21.out HW.out (Nat.le_refl _)) hkn
            rw [List.getElem?_map, List.getElem?_eq_getElem hks] at hu
            obtain rfl := Option.some.inj hu
            clear hu
            have hmem := H7.out du[k] (List.getElem_mem hks)
            obtain ⟨u, hu⟩ : ∃ u, u = du[k] := ⟨_, rfl⟩
            rw [← hu] at hc hmem
            clear hu
            have HH := Lib.hid (rHas_any (.slice a_f m c_f) fi u wr (by have h := rowz_own (ownz_below f_21.out HW.out (Nat.le_refl _)); rw [HM.out] at h ⊢; exact h))
            rw [decide_eq_true hmem] at HH
            clear hmem hks
            go_wp2_with fail
            refine HH.out.mono ?_
            rintro e w5 ⟨rfl, rfl⟩
            go_wp2_with fail
            go_roundw
            case rel => exact ⟨k + 1, by omega, by go_num, HW⟩
            case measure => (simp [RowKit.intOf]; omega)
          · obtain rfl : k = n := by omega
            have HB9 := Lib.hid (HB_21.out.trans (HW.out.mono HB_21.out.size))
            clear HW
            go_wp2_with fail
            have hN := HN.out
            have hM := HM.out
            clear HN HM
            subst hN
            subst hM
            go_meet
            case rel => exact HB9
  case rest => as_aux_lemma =>
    rename World => W22
    have l22 := hcut.out
    clear hcut HF HDa HIa
    clear l_17
    clear y_17
    clear f_17
    clear d_17
    have HB_23 := Lib.hid (HB_17.out.trans (l22.mono HB_17.out.size))
    clear HB_17
    clear l22
    go_wp2_with fail
    refine (HD2.out _ (HR.out.below HB_23.out (Nat.le_refl _))).mono ?_
    rintro e W24 ⟨g_s, c_s, ls, i, rfl, hl9, o_s, l24⟩
    have HL9 := Lib.hid hl9
    clear hl9
    have O_s := Lib.hid o_s
    clear o_s
    have HB_25 := Lib.hid (HB_23.out.trans (l24.mono HB_23.out.size))
    clear HB_23
    clear l24
    clear HD2
    have HSi := Lib.hid (fun W h => implStopT_any (.slice (some ⟨g_s, 0, none⟩) ls.length c_s) ls i W h)
    have HSs := Lib.hid (fun W h => specStopT_any (.slice (some ⟨g_s, 0, none⟩) ls.length c_s) ls i W h)
    have HSl := Lib.hid (fun (v : Value) W h => implStopT_any v (stopV ls i) i W h)
    have HF := Lib.hid (@stop_law ls i)
    generalize stopV ls i = le at HSi HSs HSl HF
    generalize stopOk ls i = told at HSi HSs HF
    go_wp2_with fail
    refine (HSi.out _ (rowz_own O_s.out)).mono ?_
    rintro e W26 ⟨v_t, rfl, o_t, l26⟩
    obtain ⟨a_t, c_t, rfl, _, _⟩ := ownz_slice o_t
    have O_t := Lib.hid o_t
    clear o_t
    have HB_27 := Lib.hid (HB_25.out.trans (l26.mono HB_25.out.size))
    have s_27 := Lib.hid (ownz_below O_s.out l26 (Nat.le_refl _))
    clear O_s
    clear HB_25
    clear l26
    clear HSi
    go_wp2_with fail
    refine (HSs.out _ (rowz_own s_27.out)).mono ?_
    rintro e W28 ⟨v_u, rfl, o_u, l28⟩
    obtain ⟨a_u, c_u, rfl, _, _⟩ := ownz_slice o_u
    have O_u := Lib.hid o_u
    clear o_u
    have HB_29 := Lib.hid (HB_27.out.trans (l28.mono HB_27.out.size))
    have s_29 := Lib.hid (ownz_below s_27.out l28 (Nat.le_refl _))
    clear s_27
    have t_29 := Lib.hid (ownz_below O_t.out l28 (Nat.le_refl _))
    clear O_t
    clear HB_27
    clear l28
    clear HSs
    go_wp2_with fail
    refine (rTimers_same _ _ le _ (rowz_own t_29.out) (rowz_own O_u.out)).mono ?_
    rintro e W30 ⟨rfl, l30⟩
    have HB_31 := Lib.hid (HB_29.out.trans (l30.mono HB_29.out.size))
    have s_31 := Lib.hid (ownz_below s_29.out l30 (Nat.le_refl _))
    clear s_29
    have t_31 := Lib.hid (ownz_below t_29.out l30 (Nat.le_refl _))
    clear t_29
    have u_31 := Lib.hid (ownz_below O_u.out l30 (Nat.le_refl _))
    clear O_u
    clear HB_29
    clear l30
    clear u_31
    go_upto_if 178 with fail
    go_cut [] from 24 to 193 (fun wx => Hid (Below W30.heap.size W30 wx))
    case first => as_aux_lemma =>
      cases told with
      | false =>
        have HZ := Lib.hid (Below.refl W30.heap.size W30)
        clear HF HSl
        go_wp2_with fail
        go_meet
        case rel => exact HZ
      | true =>
        have HZ := Lib.hid (Below.refl W30.heap.size W30)
        obtain ⟨-, e2, e3⟩ := HF.out rfl
        have hw0 : (ls.length : Int) - 1 = (le.length : Int) := by omega
        clear HF e3
        have hw : IntKind.i64.wrap ((ls.length : Int) - 1) = (le.length : Int) := by rw [hw0]; exact IntWalk.i64_in _ (by have := HL9.out; omega)
        have HSx := Lib.hid (HSl.out (.slice a_t le.length c_t) W30 (rowz_own t_31.out))
        rw [e2] at HSx
        clear HSl e2 hw0
        go_wp2_with fail
        refine (HSx.out).mono ?_
        rintro e W32 ⟨v_q, rfl, o_q, l32⟩
        obtain ⟨a_q, c_q, rfl, _, _⟩ := ownz_slice o_q
        have O_q := Lib.hid o_q
        clear o_q
        have HB_33 := Lib.hid (HZ.out.trans (l32.mono HZ.out.size))
        have s_33 := Lib.hid (ownz_below s_31.out l32 (Nat.le_refl _))
        clear s_31
        have t_33 := Lib.hid (ownz_below t_31.out l32 (Nat.le_refl _))
        clear t_31
        clear HZ
        clear l32
        clear HSx
        go_wp2_with fail
        go_meet
        case rel => exact HB_33
    case rest => as_aux_lemma =>
      rename World => W34
      have l34 := hcut.out
      clear hcut HF HSl
      clear s_31
      clear t_31
      have HB_35 := Lib.hid (HB_31.out.trans (l34.mono HB_31.out.size))
      clear HB_31
      clear l34
      go_wp2_with fail
      refine (HD3.out _ (HR.out.below HB_35.out (Nat.le_refl _))).mono ?_
      rintro e W36 ⟨g_n, c_n, ns, rfl, _, o_n, l36⟩
      have O_n := Lib.hid o_n
      clear o_n
      have HB_37 := Lib.hid (HB_35.out.trans (l36.mono HB_35.out.size))
      clear HB_35
      clear l36
      clear HD3
      have HNi := Lib.hid (fun W h hf => implNext_any (.slice (some ⟨g_n, 0, none⟩) ns.length c_n) ns W h hf)
      have HNs := Lib.hid (fun W h => specNext_any (.slice (some ⟨g_n, 0, none⟩) ns.length c_n) ns W h)
      generalize nextT ns = nt at HNi HNs
      generalize nextOk ns = known at HNi HNs
      go_wp2_with fail
      refine (HNi.out _ (rowz_own O_n.out) (fit_own O_n.out)).mono ?_
      rintro e W38 ⟨rfl, l38⟩
      have HB_39 := Lib.hid (HB_37.out.trans (l38.mono HB_37.out.size))
      have n_39 := Lib.hid (ownz_below O_n.out l38 (Nat.le_refl _))
      clear O_n
      clear HB_37
      clear l38
      clear HNi
      go_wp2_with fail
      refine (HNs.out _ (rowz_own n_39.out)).mono ?_
      rintro e W40 ⟨rfl, l40⟩
      have HB_41 := Lib.hid (HB_39.out.trans (l40.mono HB_39.out.size))
      have n_41 := Lib.hid (ownz_below n_39.out l40 (Nat.le_refl _))
      clear n_39
      clear HB_39
      clear l40
      clear HNs
      go_wp2_with fail
      go_ret
      exact ⟨by simp, HB_41.out⟩
end Go.Proofs.Ytoehedogdbafpaa
