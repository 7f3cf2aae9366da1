/-
  Trees: the specification's AddLeaf.
-/
import Derived.Test.YtejdphfcogfcmaaGreatDoorTreeS
import Derived.Test.YtejdphfcogfcmaaGreatDoorTreeMath2
import Derived.Deep.RegionHeld3
namespace Go.Proofs.YtejdphfcogfcmaaGreatDoor
open Go.RowKit Go.Lib Go.Joins
set_option linter.unusedVariables false

theorem below_lit6 {w w1 : World} {o : Obj} {n c : Nat} (hg : (w.alloc o).grownBy w1 (Value.slice (some ⟨w.heap.size, 0, none⟩) n c).ownBlock) : Below w.heap.size w w1 :=
  ((Below.refl w.heap.size w).alloc (Nat.le_refl _) o).grown hg (by simp) (fun k hk => by have e : w.heap.size = k := Option.some.inj hk; omega)
theorem own_nil8 (w : World) (B : Nat) : w.ownsRow B 3 1 (.slice none 0 0) ([] : List Int).length (([] : List Int).map (Value.int .i64)) := ⟨by simp, .inl ⟨rfl, rfl⟩⟩
theorem below_callS {W0 W w5 : World} (h : Below W0.heap.size W0 W) (l5 : Below W.heap.size W w5) : Below W0.heap.size W0 w5 := h.trans (l5.mono h.size)
def leafL (p : List Int) (x : Int) : List Int := okL (leafOk p x) (p ++ [x])
def leafN (p : List Int) (x : Int) : Int := if leafOk p x = true then (p.length : Int) else 0
theorem results_tr3 {fn : Func} {p u q : Tmp} (h : fn.results = #[.cell p 26, .tmp u, .tmp q]) (tmps : Array Value) (w : World) (g : Nat) {v : Value} (hp : tmps.getD p undef = .pointer (some ⟨g, 0, none⟩)) {n : Int} (hu : tmps.getD u undef = .int .i64 n) {b : Bool} (hq : tmps.getD q undef = .bool b) (hg : Bx w g v 26) :
    (results fn tmps).run Tryz.prog w = .ok (.tuple #[.agg #[v], .int .i64 n, .bool b]) w := by
  have hp' : tmps[p]?.getD undef = .pointer (some ⟨g, 0, none⟩) := by simpa using hp
  have hu' : tmps[u]?.getD undef = .int .i64 n := by simpa using hu
  have hq' : tmps[q]?.getD undef = .bool b := by simpa using hq
  unfold results
  rw [h]
  simp [asAddr, hp', hu', hq', Result.andThen, run_loadVar_row w g 26 26 _ _ _ hg Tryz.underlying26 (by rfl) (by kernel_rfl)]
set_option maxHeartbeats 1000000 in
theorem l1Own_any (ad : Addr) (cap : Nat) (xs : List Int) (w : World) (hrow : Row w (.slice (some ad) xs.length cap) xs.length (xs.map (Value.int .i64))) (hl : xs.length ≤ 1000) (h0 : 0 < xs.length) :
    Calls Tryz.prog 35 #[.slice (some ad) xs.length cap] w fun e w' => ∃ g c, e = .returned (.slice (some ⟨g, 0, none⟩) xs.length c) ∧ OutI w w' g c xs := by
  obtain ⟨i0, hi, hz0, hz1, hz2⟩ := info_parts infoInt
  have HR := Lib.hid (hrow.below ((Below.refl w.heap.size w).alloc (Nat.le_refl _) (.cells #[] 3)) (Nat.le_refl _))
  clear hrow
  go_enter Tryz.func35, Tryz.ntmps35
  go_wp2_with (at_builtin; refine wpList_append_own_at _ rfl _ _ 24 rfl w.heap.size 3 i0 (.int .i64 0) 1 8 Tryz.underlying24 hi hz0 hz1 hz2 rfl (by decide) _ 0 [] rfl (own_lit (heap_alloc_new w _) (Nat.le_refl _)) ad xs.length cap (xs.map (Value.int .i64)) rfl (by rw [List.length_map, Nat.mul_one]) (row_news HR.out) (one_ints xs) (by unfold maxLen; omega) (by omega) (by simp) ?_; intro v1 w1 hown hgrow hnil hat; rw [Nat.zero_add, List.nil_append] at hown; obtain ⟨g1, c1, rfl⟩ := own_form hown h0; have HO := Lib.hid hown; have HB := Lib.hid (below_lit6 hgrow); clear hown hgrow hnil hat)
  go_ret
  exact ⟨g1, c1, rfl, HO.out, HB.out⟩
set_option maxRecDepth 100000 in
set_option maxHeartbeats 2000000 in
theorem specLeaf_any (v : Value) (p : List Int) (x : Int) (w : World) (hrow : Row w v p.length (p.map (Value.int .i64))) :
    Calls Tryz.prog 15 #[.agg #[v], .int .i64 x] w fun e w' => ∃ v', e = .returned (.tuple #[.agg #[v'], .int .i64 (leafN p x), .bool (leafOk p x)]) ∧ w'.ownsRow w.heap.size 3 1 v' (leafL p x).length ((leafL p x).map (Value.int .i64)) ∧ Below w.heap.size w w' := by
  obtain ⟨i0, hi, hz0, hz1, hz2⟩ := info_parts infoInt
  obtain ⟨W, hW⟩ : ∃ W, W = (w.alloc (.cells #[v] 26)).alloc (.cells #[.slice none 0 0] 26) := ⟨_, rfl⟩
  have HA : Hid (Bx W (w.heap.size + 1) (.slice none 0 0) 26) := Lib.hid (by
    rw [hW]
    have := Bx.new (w.alloc (.cells #[v] 26)) (.slice none 0 0) 26
    rw [World.size_alloc] at this
    exact this)
  have HT : Hid (Tr W w.heap.size v p) := Lib.hid (by rw [hW]; exact (Tr.new hrow).below ((Below.refl _ _).alloc (Nat.le_refl _) _))
  have HB : Hid (Below w.heap.size w W) := Lib.hid (by rw [hW]; exact ((Below.refl w.heap.size w).alloc (Nat.le_refl _) _).alloc (by simp) _)
  have HW := Lib.hid hW
  have HG := Lib.hid (l6Node_any v p x W HT.out.row)
  obtain ⟨a, cap, rfl, hc1, hm1, _⟩ := row_open hrow
  unfold maxLen at hm1
  have hx := HT.out.cell
  obtain ⟨R, hR⟩ : ∃ R, R = w.heap.size := ⟨_, rfl⟩
  obtain ⟨R4, hR4⟩ : ∃ R4, R4 = w.heap.size + 1 := ⟨_, rfl⟩
  rw [← hR] at HT hx
  rw [← hR4] at HA
  have HR := Lib.hid hR
  have HR4 := Lib.hid hR4
  clear hW hrow hR hR4
  have HNo := Lib.hid (fun (h : leafOk p x = false) => (show leafN p x = 0 ∧ leafL p x = [] from ⟨by unfold leafN; rw [h]; rfl, by unfold leafL; rw [h]; rfl⟩))
  have HYes := Lib.hid (fun (h : leafOk p x = true) => (show leafN p x = p.length ∧ leafL p x = p ++ [x] from ⟨by unfold leafN; rw [if_pos h], by unfold leafL; rw [h]; rfl⟩))
  have HLf : Hid (leafOk p x = (ndOk p x && decide (p.length ≠ 8))) := Lib.hid rfl
  have HOk := Lib.hid (fun (h : ndOk p x = true) => (trOk_parts (ndOk_parts h).1).2.1)
  have HOk2 := Lib.hid (fun (h : ndOk p x = true) => (trOk_parts (ndOk_parts h).1).1)
  generalize leafN p x = ln at HNo HYes ⊢
  generalize leafL p x = ll at HNo HYes ⊢
  generalize leafOk p x = lo at HNo HYes HLf ⊢
  cases ok : ndOk p x with
  | false =>
    rw [ok] at HG HLf
    have e0 : lo = false := by rw [HLf.out]; rfl
    subst e0
    obtain ⟨e1, e2⟩ := HNo.out rfl
    have HE1 := Lib.hid e1
    have HE2 := Lib.hid e2
    clear HNo HYes HLf HOk HOk2 ok e1 e2
    go_enter Tryz.func15, Tryz.ntmps15
    go_upto_region 1 with fail
    rw [← HW.out, ← HR4.out, ← HR.out]
    go_wp2_with fail
    refine HG.out.mono ?_
    rintro e W2 ⟨rfl, l2⟩
    have HB2 := Lib.hid (HB.out.trans (l2.mono HB.out.size))
    have HA2 := Lib.hid (HA.out.below l2 HA.out.lt)
    clear l2
    have hy := HA2.out.cell
    have fy := HA2.out.free
    go_wp2_with fail
    obtain ⟨p1, q1⟩ := HA2.out.put (.slice none 0 0)
    refine bodyPost_ret (results_tr3 rfl _ _ R4 rfl rfl rfl p1) rfl ⟨_, by rw [HE1.out], by rw [HE2.out]; exact own_nil8 _ _, HB2.out.grown q1 HB2.out.size (fun k hk => by have e2 : R4 = k := Option.some.inj hk; have := HR4.out; omega)⟩
  | true =>
    rw [ok] at HG HLf
    have h8 := HOk.out ok
    have h2 := HOk2.out ok
    clear HOk HOk2 ok
    by_cases hp8 : p.length = 8
    · have e0 : lo = false := by rw [HLf.out, hp8]; rfl
      subst e0
      obtain ⟨e1, e2⟩ := HNo.out rfl
      have HE1 := Lib.hid e1
      have HE2 := Lib.hid e2
      have hd : ((p.length : Int) == 8) = true := by simp; omega
      clear HNo HYes HLf e1 e2 hp8
      go_enter Tryz.func15, Tryz.ntmps15
      go_upto_region 1 with fail
      rw [← HW.out, ← HR4.out, ← HR.out]
      go_wp2_with fail
      refine HG.out.mono ?_
      rintro e W2 ⟨rfl, l2⟩
      have HB2 := Lib.hid (HB.out.trans (l2.mono HB.out.size))
      have HA2 := Lib.hid (HA.out.below l2 HA.out.lt)
      have HT2 := Lib.hid (HT.out.below l2)
      clear l2 hx
      have hx := HT2.out.cell
      have hy := HA2.out.cell
      have fy := HA2.out.free
      go_wp2_with fail
      obtain ⟨p1, q1⟩ := HA2.out.put (.slice none 0 0)
      refine bodyPost_ret (results_tr3 rfl _ _ R4 rfl rfl rfl p1) rfl ⟨_, by rw [HE1.out], by rw [HE2.out]; exact own_nil8 _ _, HB2.out.grown q1 HB2.out.size (fun k hk => by have e2 : R4 = k := Option.some.inj hk; have := HR4.out; omega)⟩
    · have e0 : lo = true := by rw [HLf.out, decide_eq_true hp8]; rfl
      subst e0
      obtain ⟨e1, e2⟩ := HYes.out rfl
      have HE1 := Lib.hid e1
      have HE2 := Lib.hid e2
      have hd : ((p.length : Int) == 8) = false := by simp; omega
      clear HNo HYes HLf e1 e2 hp8
      obtain ⟨ab, ao, rfl, _⟩ := HT.out.get (k := 0) (by omega)
      have HOwn := Lib.hid (fun (W1 : World) hr => l1Own_any ⟨ab, ao, none⟩ cap p W1 hr (by omega) (by omega))
      go_enter Tryz.func15, Tryz.ntmps15
      go_upto_region 1 with fail
      rw [← HW.out, ← HR4.out, ← HR.out]
      go_wp2_with fail
      refine HG.out.mono ?_
      rintro e W2 ⟨rfl, l2⟩
      have HB2 := Lib.hid (HB.out.trans (l2.mono HB.out.size))
      have HA2 := Lib.hid (HA.out.below l2 HA.out.lt)
      have HT2 := Lib.hid (HT.out.below l2)
      clear l2 hx
      have hx := HT2.out.cell
      have HRw := Lib.hid HT2.out.row
      have HK := Lib.hid (fun (w' : World) (hb : Below W2.heap.size W2 w') => (show w'.cell? ⟨R, 0, none⟩ = some (.slice (some ⟨ab, ao, none⟩) p.length cap) ∧ Below w.heap.size w w' from ⟨(hb.cell (p := ⟨R, 0, none⟩) HT2.out.lt).trans hx, HB2.out.trans (hb.mono HB2.out.size)⟩))
      have HK2 := Lib.hid (fun (w' : World) (u : Value) (hb : Below W2.heap.size W2 w') => (show (w'.setCell ⟨R4, 0, none⟩ u).cell? ⟨R, 0, none⟩ = some (.slice (some ⟨ab, ao, none⟩) p.length cap) ∧ Below w.heap.size w (w'.setCell ⟨R4, 0, none⟩ u) by
        have ha := HA2.out.below hb HA2.out.lt
        obtain ⟨_, q1⟩ := ha.put u
        have hbw := HB2.out.trans (hb.mono HB2.out.size)
        have hc := (hb.cell (p := ⟨R, 0, none⟩) HT2.out.lt).trans hx
        have hR := HR.out
        have hR4 := HR4.out
        exact ⟨q1.cell hc (by intro e; have e2 : R = R4 := Option.some.inj e; omega), hbw.grown q1 hbw.size (fun k hk => by have e2 : R4 = k := Option.some.inj hk; omega)⟩))
      have HA3 := Lib.hid (fun (w' : World) (hb : Below W2.heap.size W2 w') => HA2.out.below hb HA2.out.lt)
      go_upto_region 3 with fail
      have tokA : True := trivial
      go_region_held3 (fun w' => w'.cell? ⟨R, 0, none⟩ = some (.slice (some ⟨ab, ao, none⟩) p.length cap) ∧ Below w.heap.size w w')
        ((first | (refine HK.out _ ?_; (repeat (first | assumption | exact Below.refl _ _ | refine Below.drew ?_ | refine below_alloc' ?_)); done) | (refine HK2.out _ _ ?_; (repeat (first | assumption | exact Below.refl _ _ | refine Below.drew ?_ | refine below_alloc' ?_)); done)))
        (first
          | (go_at_call 35; refine (HOwn.out _ (HRw.out.below (by repeat (first | assumption | exact Below.refl _ _ | refine Below.drew ?_ | refine below_alloc' ?_) : Below W2.heap.size W2 _) (Nat.le_refl _))).mono ?_; rintro e w5 ⟨g5, c5, rfl, o5⟩; have HO5 := Lib.hid (o5.base (by repeat (first | assumption | exact Below.refl _ _ | refine Below.drew ?_ | refine below_alloc' ?_) : Below W2.heap.size W2 _)); have hb5 := HO5.out.bel; have hbc5 := o5.bel; clear o5; dsimp only)
          | (have _t := tokA; refine step_append_row (by rfl) _ _ _ (by rfl) W2.heap.size 3 i0 (.int .i64 0) 8 Tryz.underlying24 hi hz0 hz1 hz2 rfl _ p.length (p.map (Value.int .i64)) (by rfl) (by first | exact HO5.out.own | exact HO5.out.own.alloc _ | exact (HO5.out.own.alloc _).drew) _ 1 1 [.int .i64 x] (by rfl) (by first | exact row_lit (heap_alloc_new _ _) | (refine Row.below ?_ hbc5 (Nat.le_refl _); exact row_lit (heap_alloc_new _ _))) rfl (by intro q hq; simp at hq; subst hq; rfl) (by unfold maxLen; omega) (by omega) (below_size' (by repeat (first | assumption | exact Below.refl _ _ | refine Below.drew ?_ | refine below_alloc' ?_))) ?_; intro v2 w6 hown2 hgrow2 hat2; obtain ⟨g2, c2, rfl⟩ := own_form hown2 (by omega); have hb6 : Below W2.heap.size W2 w6 := below_grown (by repeat (first | assumption | exact Below.refl _ _ | refine Below.drew ?_ | refine below_alloc' ?_)) hgrow2 (fun q hq => (HO5.out.own.lt q hq).1); have hA6 := HA3.out w6 hb6; have hy6 := hA6.cell; have fy6 := hA6.free; clear hA6 tokA _t))
      all_goals go_wp2_with fail
      all_goals
        obtain ⟨p1, q1⟩ := (HA3.out w6 hb6).put (.slice (some ⟨g2, 0, none⟩) (p.length + 1) c2)
        have hlt := HA2.out.lt
        have hR4 := HR4.out
        have hne : (Value.slice (some ⟨g2, 0, none⟩) (p.length + 1) c2).ownBlock ≠ some R4 := fun e => by have := (hown2.lt _ e).1; omega
        have ho := own_base (hown2.kept q1 (.inr hne)) HB2.out.size
        refine bodyPost_ret (results_tr3 rfl _ _ R4 rfl rfl rfl p1) rfl ⟨_, by rw [HE1.out], ?_, (HB2.out.trans (hb6.mono HB2.out.size)).grown q1 (HB2.out.trans (hb6.mono HB2.out.size)).size (fun k hk => by have e2 : R4 = k := Option.some.inj hk; omega)⟩
        rw [HE2.out, List.length_append, List.map_append]
        exact ho
end Go.Proofs.YtejdphfcogfcmaaGreatDoor
