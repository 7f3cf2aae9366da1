/-
  Branches: the program's branchAt.
-/
import Derived.Test.YtejdphfcogfcmaaBrn
namespace Go.Proofs.Ytejdphfcogfcmaa
open Go.RowKit Go.Lib Go.Joins
set_option linter.unusedVariables false

/-- An append of whatever row of elements of several cells at a step of a region that draws. -/
theorem step_append_rowz6 {P : Program} {w : World} {ops : Array Oper} {o : Oper} {a : Act} {K : Act → World → Prop} {Q : Exit → Act → World → Prop} {E : Prop} (hgd : o.guard = none) (s x : Operand) (t : TypeId)
    (ho : o.op = .call { callee := .builtin .append, args := #[s, x], argTypes := #[t, t] })
    (base : Nat) (e : TypeId) (i : TypeInfo) (z : Value) (sz bytes : Nat) (ht : P.underlying t = some (.slice e)) (hi : P.info? e = some i) (hz : i.zero = some z)
    (hsize : i.size = sz) (hby : i.bytes = bytes) (hzs : z.cells.size = sz) (hsz : 0 < sz)
    (v : Value) (n : Nat) (xs : List Value) (hs : a.eval s = v) (hown : w.ownsRow base e sz v n xs)
    (ad : Addr) (m c : Nat) (ys : List Value) (hx : a.eval x = .slice (some ad) m c) (hrow : Row w (.slice (some ad) m c) m ys) (hl : ys.length = m * sz) (h1 : ∀ u ∈ ys, u.oneCell' = true)
    (h63 : n + m ≤ maxLen) (hbytes : (n + m) * bytes ≤ 140737488355328) (hbase : base ≤ w.heap.size)
    (h : ∀ v' w', w'.ownsRow base e sz v' (n + m) (xs ++ ys) → w.grownBy w' v.ownBlock → (v'.ownBlock = v.ownBlock ∨ v'.ownBlock = some w.heap.size) → K (a.put o.dst v') w') :
    if Region.wanted o (yielded ops a.tmps) = true then Oper.wp P o a w K Q else E := by
  have hw : Region.wanted o (yielded ops a.tmps) = true := by simp [Region.wanted, hgd]
  rw [if_pos hw]
  obtain ⟨v', w', hr, h2, h3, _, h5⟩ := run_append_own_at (P := P) w base t o.type e i z sz bytes ht hi hz hsize hby hzs hsz v n xs hown ad m c ys hl (row_news hrow) h1 h63 hbytes hbase
  unfold Oper.wp execOp
  simp only [ho, resolve, invoke, builtin, Sem.run_bind, Sem.run_pure, Result.andThen_ok, List.map_toArray, List.map_cons, List.map_nil, hs, hx, hr]
  exact h v' w' h2 h3 h5
theorem row_lit26 {w : World} {g : Nat} {t : TypeId} {x y : Value} (h : w.heap[g]? = some (.cells #[x, y] t (0, 0))) : Row w (.slice (some ⟨g, 0, none⟩) 1 1) 1 [x, y] := by
  refine ⟨some ⟨g, 0, none⟩, 1, rfl, Nat.le_refl _, by decide, fun _ => ⟨g, 0, rfl, (Array.getElem?_eq_some_iff.1 h).1, fun i hi => ?_⟩⟩
  match i, hi with
  | 0, _ => simp [World.cell?, h]
  | 1, _ => simp [World.cell?, h]
theorem results_br {fn : Func} {p : Tmp} (h : fn.results = #[.cell p 60]) (tmps : Array Value) (w : World) (g : Nat) {u v : Value} (hp : tmps.getD p undef = .pointer (some ⟨g, 0, none⟩)) (hg : w.heap[g]? = some (.cells #[u, v] 60 (0, 0))) :
    (results fn tmps).run Try.prog w = .ok (.agg #[u, v]) w := by
  have hp' : tmps[p]?.getD undef = .pointer (some ⟨g, 0, none⟩) := by simpa using hp
  unfold results
  rw [h]
  simp [asAddr, hp', run_loadVar_row w g 60 60 _ _ _ hg Try.underlying60 (by rfl) (by kernel_rfl)]
theorem BrI.start {p : List Int} {f : Nat} {W2 : World} {R5 : Nat} {n : Int} (h : W2.heap[R5]? = some (.cells #[.int .i64 n, .slice none 0 0] 60 (0, 0))) : BrI p f W2 W2 R5 n (.slice none 0 0) [] :=
  ⟨⟨rfl, rfl, rfl, Nat.le_refl _, fun _ _ _ => rfl⟩, (Array.getElem?_eq_some_iff.1 h).1, h, World.ownsRow_nil _ _ _ _, fun r hr => by cases hr⟩
theorem BrI.done {p : List Int} {f : Nat} {W2 wr : World} {R5 : Nat} {n : Int} {sv : Value} {zs : List (Int × Value)} (h : BrI p f W2 wr R5 n sv zs) (hz : zs.map Prod.fst = chl p n) : BrS p wr (span W2.heap.size wr.heap.size) (f + 1) n sv := by
  have hl : zs.length = (chl p n).length := by rw [← hz, List.length_map]
  obtain ⟨a, cap, e, h1, h2⟩ := ownz_slice h.own
  refine ⟨a, cap, by rw [← hl]; exact e, by omega, h2, fun i hi => ?_⟩
  have hi' : i < zs.length := by omega
  have hfst : (chl p n)[i] = zs[i].1 := by
    have : (chl p n)[i]? = (zs.map Prod.fst)[i]? := by rw [hz]
    rw [List.getElem?_eq_getElem hi, List.getElem?_map, List.getElem?_eq_getElem hi'] at this
    exact Option.some.inj this
  obtain ⟨lo, hi2, a', n', c', k1, k2, k3, k4, k5⟩ := h.kids zs[i] (List.getElem_mem hi')
  have hown := h.own
  obtain ⟨hlen, ⟨e0, h0⟩ | ⟨g, cap', cur, e1, hb, hg, _⟩⟩ := h.own
  · omega
  · subst e
    cases e1
    have q0 := flat_get brC_len zs i 0 hi' (by omega)
    have q1 := flat_get brC_len zs i 1 hi' (by omega)
    have c0 := hown.cells (g := g) rfl (i * 2 + 0) (.int .i64 zs[i].1) q0
    have c1 := hown.cells (g := g) rfl (i * 2 + 1) zs[i].2 q1
    rw [addr_add] at c0 c1
    rw [hfst]
    refine ⟨g, 0, cur, (0, 0), a', n', c', rfl, ⟨hb, (Array.getElem?_eq_some_iff.1 hg).1⟩, hg, c0, by rw [← k4]; exact c1, ?_⟩
    rw [← k4]
    exact k5.kept (fun k hk => ⟨Nat.le_trans k1 hk.1, Nat.lt_of_lt_of_le hk.2 k2⟩) (fun _ _ _ _ _ => rfl)
theorem set_pair {w : World} {R : Nat} {a b x y : Value} {t : TypeId} (h : w.heap[R]? = some (.cells #[a, b] t (0, 0))) :
    ((w.setCell ⟨R, 0, none⟩ x).setCell ⟨R, 1, none⟩ y).heap[R]? = some (.cells #[x, y] t (0, 0)) ∧ w.grownBy ((w.setCell ⟨R, 0, none⟩ x).setCell ⟨R, 1, none⟩ y) (some R) ∧ (w.setCell ⟨R, 0, none⟩ x).cell? ⟨R, 1, none⟩ = some b ∧ (w.setCell ⟨R, 0, none⟩ x).frozen? ⟨R, 1, none⟩ = false := by
  have e1 := setCell_eq_setRow w R 0 #[a, b] t (0, 0) x h
  have h1 : (w.setCell ⟨R, 0, none⟩ x).heap[R]? = some (.cells #[x, b] t (0, 0)) := by rw [e1]; exact setRow_heap w R _ _ _ _ h
  have e2 := setCell_eq_setRow (w.setCell ⟨R, 0, none⟩ x) R 1 #[x, b] t (0, 0) y h1
  have h2 : ((w.setCell ⟨R, 0, none⟩ x).setCell ⟨R, 1, none⟩ y).heap[R]? = some (.cells #[x, y] t (0, 0)) := by rw [e2]; exact setRow_heap _ R _ _ _ _ h1
  refine ⟨h2, ?_, by simp [World.cell?, h1], by simp [World.frozen?, h1]⟩
  have g1 : w.grownBy (w.setCell ⟨R, 0, none⟩ x) (some R) := ⟨rfl, rfl, rfl, by show w.heap.size ≤ (w.heap.modify _ _).size; rw [Array.size_modify]; exact Nat.le_refl _, fun k _ hk => Below.heap_setCell _ _ _ k (fun e => hk (by rw [e]))⟩
  exact grown_trans g1 ⟨rfl, rfl, rfl, by show (w.setCell ⟨R, 0, none⟩ x).heap.size ≤ ((w.setCell ⟨R, 0, none⟩ x).heap.modify _ _).size; rw [Array.size_modify]; exact Nat.le_refl _, fun k _ hk => Below.heap_setCell _ _ _ k (fun e => hk (by rw [e]))⟩
theorem BrI.old {p : List Int} {f : Nat} {W2 wr : World} {R5 k : Nat} {n : Int} {sv : Value} {zs : List (Int × Value)} (h : BrI p f W2 wr R5 n sv zs) {o : Obj} (hk : W2.heap[k]? = some o) (hne : k ≠ R5) : wr.heap[k]? = some o :=
  (h.grow.block k (Array.getElem?_eq_some_iff.1 hk).1 (fun e => hne (Option.some.inj e))).trans hk
theorem BrI.oldCell {p : List Int} {f : Nat} {W2 wr : World} {R5 : Nat} {n : Int} {sv u : Value} {zs : List (Int × Value)} (h : BrI p f W2 wr R5 n sv zs) {a : Addr} (hk : W2.cell? a = some u) (hne : a.block ≠ R5) : wr.cell? a = some u :=
  (World.cell?_of_block (h.grow.block a.block (World.block_lt_of_cell? W2 a hk) (fun e => hne (Option.some.inj e)))).trans hk
theorem BrI.bel {p : List Int} {f : Nat} {w W2 wr : World} {R5 : Nat} {n : Int} {sv : Value} {zs : List (Int × Value)} (h : BrI p f W2 wr R5 n sv zs) (hb : Below w.heap.size w W2) (hR : w.heap.size ≤ R5) : Below w.heap.size w wr :=
  hb.grown h.grow hb.size (fun k e => by have := Option.some.inj e; omega)
set_option maxRecDepth 100000 in
set_option maxHeartbeats 4000000 in
theorem branchAt_any (p : List Int) (hok : trOk p = true) : ∀ (f n : Nat), n < p.length → p.length ≤ f + n → ∀ (v : Value) (w : World), Row w v p.length (p.map (Value.int .i64)) →
    Calls Try.prog 50 #[.agg #[v], .int .i64 (n : Int)] w fun e w' => ∃ (a' : Option Addr) (n' c' : Nat), e = .returned (.agg #[.int .i64 (n : Int), .slice a' n' c']) ∧ BrS p w' (span w.heap.size w'.heap.size) f (n : Int) (.slice a' n' c') ∧ Below w.heap.size w w' := by
  intro f
  induction f with
  | zero => intro n hn hf; omega
  | succ f ih =>
    intro n hn hf v w hrow
    obtain ⟨i0, hi, hz0, hz1, hz2⟩ := info_parts infoBr
    have HIH := Lib.hid ih
    have HCh := Lib.hid (fun (W1 : World) hr => childrenOk_any v p (n : Int) W1 hr (ndOk_nat hok hn))
    have HNat := Lib.hid (fun (i : Nat) (hi : i < (chl p (n : Int)).length) => chl_nat hok (n := n) (List.getElem_mem hi))
    have hl8 : (chl p (n : Int)).length ≤ 8 := by have := chl_len p (n : Int); have := (trOk_parts hok).2.1; omega
    have HFn := Lib.hid hf
    have HRow0 := Lib.hid hrow
    clear ih hf
    obtain ⟨W, hW⟩ : ∃ W, W = ((w.alloc (.cells #[v] 26)).alloc (.cells #[.int .i64 0, .slice none 0 0] 60)).alloc (.cells #[.int .i64 (n : Int), .slice none 0 0] 60) := ⟨_, rfl⟩
    have hsz : W.heap.size = w.heap.size + 3 := by rw [hW]; simp
    have hB : Below w.heap.size w W := by rw [hW]; exact (((Below.refl _ w).alloc (Nat.le_refl _) _).alloc (by simp) _).alloc (by simp; omega) _
    have hT : Tr W w.heap.size v p := by rw [hW]; exact ((Tr.new hrow).below ((Below.refl _ _).alloc (Nat.le_refl _) _)).below ((Below.refl _ _).alloc (Nat.le_refl _) _)
    have hR4 : W.heap[w.heap.size + 1]? = some (.cells #[.int .i64 0, .slice none 0 0] 60 (0, 0)) := by
      rw [hW]
      have := heap_alloc_new (w.alloc (.cells #[v] 26)) (.cells #[.int .i64 0, .slice none 0 0] 60)
      rw [World.size_alloc] at this
      exact (Below.heap_alloc _ _ _ (by simp)).trans this
    have hR5 : W.heap[w.heap.size + 1 + 1]? = some (.cells #[.int .i64 (n : Int), .slice none 0 0] 60 (0, 0)) := by
      rw [hW]
      have := heap_alloc_new ((w.alloc (.cells #[v] 26)).alloc (.cells #[.int .i64 0, .slice none 0 0] 60)) (.cells #[.int .i64 (n : Int), .slice none 0 0] 60)
      rw [World.size_alloc, World.size_alloc] at this
      exact this
    have HT := Lib.hid hT
    have HB := Lib.hid hB
    have HW := Lib.hid hW
    have HSz := Lib.hid hsz
    obtain ⟨R5, e5⟩ : ∃ R, R = w.heap.size + 1 + 1 := ⟨_, rfl⟩
    obtain ⟨R4, e4⟩ : ∃ R, R = w.heap.size + 1 := ⟨_, rfl⟩
    obtain ⟨R0, e0⟩ : ∃ R, R = w.heap.size := ⟨_, rfl⟩
    rw [← e5] at hR5
    rw [← e4] at hR4
    rw [← e0] at HT
    have HR4 := Lib.hid hR4
    have HR5 := Lib.hid hR5
    have E5 := Lib.hid e5
    have E4 := Lib.hid e4
    have E0 := Lib.hid e0
    have hx := HT.out.cell
    clear hW hsz hB hT hR4 hR5 e5 e4 e0 hrow hok hn
    go_enter Try.func50, Try.ntmps50
    go_upto_region 2 with fail
    rw [← HW.out, ← E5.out, ← E4.out, ← E0.out]
    go_wp2_with fail
    refine (HCh.out _ HT.out.row).mono ?_
    rintro e W2 ⟨gc, cc, rfl, o2⟩
    have hgc := (o2.own.lt gc rfl).1
    have hs := HSz.out
    have r5 := E5.out
    have r4 := E4.out
    have r0 := E0.out
    have hne : gc ≠ R5 ∧ R0 ≠ R5 ∧ R4 ≠ R5 ∧ w.heap.size ≤ R5 ∧ w.heap.size ≤ R4 := by omega
    have HNe := Lib.hid hne
    have HB2 := Lib.hid (HB.out.trans (o2.bel.mono HB.out.size))
    have HI2 : Hid (BrI p f W2 W2 R5 (n : Int) (.slice none 0 0) []) := Lib.hid (BrI.start ((o2.bel.block R5 (Array.getElem?_eq_some_iff.1 HR5.out).1).trans HR5.out))
    have HR42 := Lib.hid ((o2.bel.block R4 (Array.getElem?_eq_some_iff.1 HR4.out).1).trans HR4.out)
    have HT2 := Lib.hid (HT.out.below o2.bel)
    have HC2 := Lib.hid (fun (i : Nat) (x : Value) (h : ((chl p (n : Int)).map (Value.int .i64))[i]? = some x) => (show W2.cell? ⟨gc, 0 + i, none⟩ = some x by
      have := o2.own.cells (g := gc) rfl i x h
      rw [addr_add] at this
      exact this))
    have HTx := Lib.hid HT2.out.cell
    have HTr := Lib.hid HT2.out.row
    have hR4lt : R4 < W2.heap.size := (Array.getElem?_eq_some_iff.1 HR42.out).1
    clear o2 hgc hs r5 r4 r0 hne hx HT HR5 HR4 HB HCh
    obtain ⟨m, hM⟩ : ∃ m, m = (chl p (n : Int)).length := ⟨_, rfl⟩
    rw [← hM] at hl8 ⊢
    have HM := Lib.hid hM
    clear hM
    go_wp2_with fail
    go_loopw [14] (fun i wr => ∃ (k : Nat) (sv : Value) (zs : List (Int × Value)), k ≤ m ∧ i = .int .i64 k ∧ zs.length = k ∧ Hid (zs.map Prod.fst = (chl p (n : Int)).take k) ∧ Hid (BrI p f W2 wr R5 (n : Int) sv zs)) (fun i _ => m - (RowKit.intOf i).toNat)
    case atStart => exact ⟨0, _, [], Nat.zero_le _, rfl, rfl, Lib.hid rfl, HI2⟩
    case round =>
      clear HI2
      obtain ⟨k, sv, zs, hk, rfl, hzl, HZ, HI⟩ := hrel
      by_cases hkm : k < m
      · have hkc : k < (chl p (n : Int)).length := by rw [← HM.out]; exact hkm
        obtain ⟨c, ec, hnc, hcl, hpc⟩ := HNat.out k hkc
        have hcell := HI.out.oldCell (HC2.out k (.int .i64 (c : Int)) (by rw [List.getElem?_map, List.getElem?_eq_getElem hkc, ec]; rfl)) HNe.out.1
        rw [Nat.zero_add] at hcell
        have HTk : Hid ((chl p (n : Int)).take (k + 1) = (chl p (n : Int)).take k ++ [(c : Int)]) := Lib.hid (by rw [List.take_succ_eq_append_getElem hkc, ec])
        obtain ⟨r50, r51, rfz⟩ := HI.out.cells
        have hxr := HI.out.oldCell HTx.out HNe.out.2.1
        have hbw := HI.out.bel HB2.out HNe.out.2.2.2.1
        go_upto_region 5 with fail
        have HDd := Lib.hid (HI.out.below ((Below.refl _ wr).drew))
        obtain ⟨d50, d51, dfz⟩ := HDd.out.cells
        have hxd := HDd.out.oldCell HTx.out HNe.out.2.1
        have HCl := Lib.hid (fun (W1 : World) (hr : Row W1 v p.length (p.map (Value.int .i64))) => HIH.out c hcl (by have := HFn.out; omega) v W1 hr)
        have HRw : Hid (Row wr.drew v p.length (p.map (Value.int .i64))) := Lib.hid (HRow0.out.below hbw.drew (Nat.le_refl _))
        have tokA : True := trivial
        go_region_law (first
          | (go_simp; go_at_call 50; refine (HCl.out _ HRw.out).mono ?_; rintro e w4 ⟨a', n', c', rfl, hs4, l4⟩; have H4 := Lib.hid (HDd.out.below l4); have HS4 := Lib.hid hs4; have HL4 := Lib.hid l4; obtain ⟨q50, q51, qfz⟩ := H4.out.cells; obtain ⟨u50, u51, ufz⟩ := (H4.out.below ((Below.refl _ w4).alloc (Nat.le_refl _) (.cells #[.int .i64 (c : Int), .slice a' n' c'] 60))).cells; clear hs4 l4; dsimp only)
          | (have _t := tokA; refine step_append_rowz6 (by rfl) _ _ _ (by rfl) W2.heap.size 60 i0 (.agg #[.int .i64 0, .slice none 0 0]) 2 32 Try.underlying58 hi hz0 hz1 hz2 rfl (by decide) _ zs.length (brF zs) (by rfl) (ownz_none H4.out.own (World.grownBy_alloc _ _ none)) _ 1 1 [.int .i64 (c : Int), .slice a' n' c'] (by rfl) (row_lit26 (heap_alloc_new _ _)) rfl (by intro q hq; simp at hq; rcases hq with rfl | rfl <;> rfl) (by unfold maxLen; omega) (by omega) (by have := H4.out.grow.size; simp; omega) ?_; intro v2 w6 hown2 hgrow2 hat2; obtain ⟨g6, c6, rfl, hbx, hgw, hI6⟩ := HDd.out.app HL4.out HS4.out hown2 hgrow2 hat2; have HI6 := Lib.hid hI6; have hx6 : w6.cell? ⟨R5, 1, none⟩ = some sv := (by simp [World.cell?, hbx]); have fx6 : w6.frozen? ⟨R5, 1, none⟩ = false := (by simp [World.frozen?, hbx]); clear hI6 hbx hgw hown2 hgrow2 hat2 tokA _t))
        all_goals go_wp2_with fail
        all_goals
          have hI7 := HI6.out
          rw [hzl] at hI7
          have HI7 := Lib.hid hI7
          clear hI7
          go_roundw
          case rel => exact ⟨k + 1, _, zs ++ [((c : Int), .slice a' n' c')], by omega, by go_num, by rw [List.length_append, hzl]; rfl, Lib.hid (by rw [List.map_append, HZ.out, HTk.out]; rfl), HI7⟩
          case measure => (first | (simp [intOf]; done) | (simp [intOf]; omega))
      · obtain rfl : k = m := by omega
        have hz : zs.map Prod.fst = chl p (n : Int) := by rw [HZ.out, List.take_of_length_le (by rw [← HM.out]; exact Nat.le_refl _)]
        obtain ⟨sa, sc, rfl, _, _⟩ := ownz_slice HI.out.own
        have HDone := Lib.hid (HI.out.done hz)
        obtain ⟨r50, r51, rfz⟩ := HI.out.cells
        have q4 := HI.out.old HR42.out HNe.out.2.2.1
        have k40 : wr.cell? ⟨R4, 0, none⟩ = some (.int .i64 0) := by simp [World.cell?, q4]
        have f40 : wr.frozen? ⟨R4, 0, none⟩ = false := by simp [World.frozen?, q4]
        obtain ⟨s1, s2, k41, f41⟩ := set_pair (x := .int .i64 (n : Int)) (y := .slice sa zs.length sc) q4
        have HS1 := Lib.hid s1
        have HS2 := Lib.hid s2
        have hbw := HI.out.bel HB2.out HNe.out.2.2.2.1
        have HBw := Lib.hid hbw
        clear s1 s2 q4 hz hbw
        rw [hzl] at HS1 HS2 HDone r51
        go_wp2_with fail
        refine bodyPost_ret (results_br rfl _ _ R4 rfl HS1.out) rfl ⟨sa, k, sc, rfl, ?_, HBw.out.grown HS2.out HBw.out.size (fun q e => by have := Option.some.inj e; have := HNe.out; omega)⟩
        refine HDone.out.kept (fun q hq => ⟨Nat.le_trans HB2.out.size hq.1, Nat.lt_of_lt_of_le hq.2 HS2.out.size⟩) (fun q cur fz hq _ => HS2.out.block q hq.2 (fun e => by have := Option.some.inj e; have := hq.1; omega))
end Go.Proofs.Ytejdphfcogfcmaa
