/-
  The walk of the law FnWordSums.
-/
import Derived.Test.YtofpajbfajcjgaaDrawWord2
import Derived.Test.YtofpajbfajcjgaaRHas
import Derived.Test.YtofpajbfajcjgaaRBig
namespace Go.Proofs.Ytofpajbfajcjgaa
open Go.RowKit Go.Lib
set_option linter.unusedVariables false

theorem own_cellr {w : World} {base n c k : Nat} {e : TypeId} {a : Option Addr} {xs : List Int} (h : w.ownsRow base e 1 (.slice a n c) n (xs.map (Value.int .i64))) (hk : k < n) (hx : k < xs.length) :
    ∃ g, a = some ⟨g, 0, none⟩ ∧ w.cell? ⟨g, k, none⟩ = some (.int .i64 xs[k]) := by
  obtain ⟨g, c', e'⟩ := own_form h (by omega)
  injection e' with e1 _ e3
  subst e1; subst e3
  obtain ⟨⟨u, hu, hc⟩, _⟩ := own_facts h hk
  rw [List.getElem?_map, List.getElem?_eq_getElem hx] at hu
  exact ⟨g, rfl, by rw [hc, ← Option.some.inj hu]⟩
theorem drop_rev {zs : List Int} {k : Nat} (h : k < zs.length) : (zs.drop k).reverse = (zs.drop (k + 1)).reverse ++ [zs[k]] := by
  rw [List.drop_eq_getElem_cons h, List.reverse_cons]
theorem drop_swp {zs : List Int} {k : Nat} (h : k < zs.length) : ((zs.drop k).map swp).reverse = ((zs.drop (k + 1)).map swp).reverse ++ [swp zs[k]] := by
  rw [List.drop_eq_getElem_cons h, List.map_cons, List.reverse_cons]
theorem own_drop {W : World} {B n k : Nat} {v : Value} {xs ys : List Int} {u : Int} (he : ys = xs ++ [u]) (hn : k < n) (h : W.ownsRow B 3 1 v (n - (k + 1) + 1) (xs.map (Value.int .i64) ++ [.int .i64 u])) : W.ownsRow B 3 1 v (n - k) (ys.map (Value.int .i64)) := by
  subst he
  rw [List.map_append, List.map_singleton, show n - k = n - (k + 1) + 1 by omega]
  exact h
theorem ne_one {w : World} {o : Obj} {vb vs v6 : Value} (P : ∀ q, vs.ownBlock = some q → q < w.heap.size) (h : ∀ q, vs.ownBlock = some q → vb.ownBlock ≠ some q) (ha : v6.ownBlock = vb.ownBlock ∨ v6.ownBlock = some (w.alloc o).heap.size) :
    ∀ q, vs.ownBlock = some q → v6.ownBlock ≠ some q := by
  intro q hq e
  rcases ha with ha | ha
  · exact h q hq (ha.symm.trans e)
  · have := P q hq
    have e2 : (w.alloc o).heap.size = q := Option.some.inj (ha.symm.trans e)
    simp at e2
    omega
theorem ne_two {w : World} {o : Obj} {vs v6 v7 : Value} (P : ∀ q, v6.ownBlock = some q → q < w.heap.size) (h : ∀ q, vs.ownBlock = some q → v6.ownBlock ≠ some q) (ha : v7.ownBlock = vs.ownBlock ∨ v7.ownBlock = some (w.alloc o).heap.size) :
    ∀ q, v7.ownBlock = some q → v6.ownBlock ≠ some q := by
  intro q hq e
  rcases ha with ha | ha
  · exact h q (ha.symm.trans hq) e
  · have := P q e
    have e2 : (w.alloc o).heap.size = q := Option.some.inj (ha.symm.trans hq)
    simp at e2
    omega

set_option maxRecDepth 100000 in
set_option maxHeartbeats 4000000 in
theorem fnWordSums_walk (w : World) (v0 : Value) (z0 : List Int) (w0 : Row w v0 z0.length (z0.map (Value.int .u8))) (b0 : ∀ z ∈ z0, (Lit.int .u8 z).wf = true) (_hsh : w.ShapedOpen Try.prog) :
    Calls Try.prog 3 #[v0] w fun e w' => e = .returned (.bool true) ∧ Below w.heap.size w w' := by
  obtain ⟨i0, hi, hz0, hz1, hz2⟩ := info_parts infoInt
  have hz : ∀ x ∈ z0, 0 ≤ x ∧ x < 256 := fun x hx => by have := bounds_u8 (b0 x hx); omega
  by_cases hbig : (65536 : Int) < z0.length
  · have HV := Lib.hid (rBig_row v0 _ _ true w0 (decide_eq_true hbig))
    clear w0 b0 hz
    go_enter Try.func3, Try.ntmps3
    go_wp2_with (go_at_call 14; refine (HV.out _).mono ?_; rintro e w' ⟨rfl, rfl⟩)
    go_ret
    exact ⟨rfl, Below.refl _ _⟩
  · have HV := Lib.hid (rBig_row v0 _ _ false w0 (decide_eq_false hbig))
    have HR := Lib.hid w0
    have HD1 := Lib.hid (fun w hr => drawSealWords_any v0 z0 w hr hz)
    have HD2 := Lib.hid (fun w hr => drawSound_any v0 z0 w hr hz)
    clear w0 b0 hz
    go_enter Try.func3, Try.ntmps3
    go_wp2_with fail
    refine (HV.out _).mono ?_
    rintro e w' ⟨rfl, rfl⟩
    go_wp2_with fail
    refine (HD1.out _ HR.out).mono ?_
    rintro e W1 ⟨g, c, zs, rfl, hzl, ol1, l1⟩
    have HB1 := Lib.hid l1
    have HL1 := Lib.hid ol1
    have HI := Lib.hid (fun w h => implSeal_any ⟨g, 0, none⟩ c zs w h)
    have HS := Lib.hid (fun w h => specSeal_any ⟨g, 0, none⟩ c zs w h)
    have HIs := Lib.hid (fun w h => implSum_any (.slice (some ⟨g, 0, none⟩) zs.length c) zs w h)
    have HSs := Lib.hid (fun w h => specSum_any (.slice (some ⟨g, 0, none⟩) zs.length c) zs w h)
    have HIc := Lib.hid (fun w h => implChk_any (.slice (some ⟨g, 0, none⟩) zs.length c) zs w h)
    have HSc := Lib.hid (fun w h => specChk_any (.slice (some ⟨g, 0, none⟩) zs.length c) zs w h)
    have hfq : slOk zs = true → sndV (slL zs) = true ∧ wOk (slL zs) = true := seal_sound
    have hfw : slOk zs = true → wOk zs = true := fun h => by unfold slOk at h; rw [Bool.and_eq_true] at h; exact h.1
    have hfc : wOk zs = true → chkV zs = 65535 - sumV zs := chk_sum
    have hfr : wOk zs = true → wOk zs.reverse = true ∧ sumV zs.reverse = sumV zs := rev_facts
    have hfs : wOk zs = true → wOk (zs.map swp).reverse = true ∧ sumV (zs.map swp).reverse = swp (sumV zs) ∧ serB (sumV zs) = true ∧ swpV (sumV zs) = swp (sumV zs) := swp_facts
    have hf1 : wOk zs = true → ∀ (i : Nat) (hi : i < zs.length), serB zs[i] = true ∧ swpV zs[i] = swp zs[i] := one_facts
    obtain ⟨s0, s1⟩ := sumV_bd zs
    generalize slL zs = qs at HI HS hfq
    generalize slOk zs = ok at HI HS hfq hfw
    generalize wOk zs = fine at HIs HSs HIc HSc hfw hfc hfr hfs hf1
    generalize sumV zs = s at HIs HSs hfc hfr hfs s0 s1
    generalize chkV zs = ck at HIc HSc hfc
    have HFQ := Lib.hid hfq
    have HFR := Lib.hid hfr
    have HFS := Lib.hid hfs
    have HFO := Lib.hid hf1
    clear l1 ol1 hfq hfr hfs hf1
    go_wp2_with fail
    refine (HI.out _ (row_own HL1.out)).mono ?_
    rintro e W2 ⟨vg, rfl, og2, l2⟩
    have HB2 := Lib.hid (HB1.out.trans (l2.mono HB1.out.size))
    have HL2 := Lib.hid (own_below HL1.out l2 (Nat.le_refl _))
    have HG2 := Lib.hid og2
    clear l2 og2 HL1 HB1
    go_wp2_with fail
    refine (HS.out _ (row_own HL2.out)).mono ?_
    rintro e W3 ⟨vs, rfl, os3, l3⟩
    have HB3 := Lib.hid (HB2.out.trans (l3.mono HB2.out.size))
    have HL3 := Lib.hid (own_below HL2.out l3 (Nat.le_refl _))
    have HG3 := Lib.hid (own_below HG2.out l3 (Nat.le_refl _))
    have HO3 := Lib.hid os3
    clear l3 os3 HL2 HG2 HB2
    go_wp2_with fail
    refine (rInts_any _ _ qs qs _ (row_own HG3.out) (row_own HO3.out)).mono ?_
    rintro e W4 ⟨rfl, k4, hw4⟩
    have l4 : Below W3.heap.size W3 W4 := by rw [hw4]; exact bdrew _ _
    have HB4 := Lib.hid (HB3.out.trans (l4.mono HB3.out.size))
    have HL4 := Lib.hid (own_below HL3.out l4 (Nat.le_refl _))
    have HG4 := Lib.hid (own_below HG3.out l4 (Nat.le_refl _))
    clear l4 hw4 HB3 HL3 HG3 HO3
    have I1 := Lib.hid (HIs.out W4 (row_own HL4.out))
    have I2 := Lib.hid (HIc.out W4 (row_own HL4.out))
    have I3 := Lib.hid (HSs.out W4 (row_own HL4.out))
    have I4 := Lib.hid (HSc.out W4 (row_own HL4.out))
    have I5 := Lib.hid (implSnd_any vg qs W4 (row_own HG4.out))
    clear HIs HIc HSs HSc HI HS HG4
    go_wp2_with fail
    refine I1.out.mono ?_
    rintro e w' ⟨rfl, rfl⟩
    go_wp2_with fail
    refine I2.out.mono ?_
    rintro e w' ⟨rfl, rfl⟩
    go_wp2_with fail
    refine I3.out.mono ?_
    rintro e w' ⟨rfl, rfl⟩
    cases fine with
    | false =>
      have hok : ok = false := by
        cases ok with
        | false => rfl
        | true => exact absurd (hfw rfl) (by simp)
      subst hok
      clear hfc hfw HFQ HFR HFS HFO
      go_wp2_with fail
      refine I4.out.mono ?_
      rintro e w' ⟨rfl, rfl⟩
      have HBt := HB4
      go_wp2_with fail
      refine (HD2.out _ (HR.out.below HBt.out (Nat.le_refl _))).mono ?_
      rintro e T1 ⟨vx, xs, rfl, hxl, ox, lx⟩
      have HT1 := Lib.hid (HBt.out.trans (lx.mono HBt.out.size))
      have HJ := Lib.hid (implSnd_any vx xs T1 (row_own ox))
      have HK := Lib.hid (specSnd_any vx xs T1 (row_own ox))
      generalize sndV xs = sx at HJ HK
      generalize wOk xs = kx at HJ HK
      clear ox lx HBt
      go_wp2_with fail
      refine HJ.out.mono ?_
      rintro e T2 ⟨rfl, rfl⟩
      go_wp2_with fail
      refine HK.out.mono ?_
      rintro e T3 ⟨rfl, rfl⟩
      cases sx <;> cases kx
      all_goals
        go_wp2_with fail
        go_ret
        exact ⟨rfl, HT1.out⟩
    | true =>
      have hck : ck = 65535 - s := hfc rfl
      have hck2 : (ck + s != 65535) = false := by
        have : ck + s = 65535 := by omega
        rw [this]; rfl
      have hck3 : 0 ≤ ck ∧ ck ≤ 65535 := by omega
      obtain ⟨ck0, ck1⟩ := hck3
      have HG1 := Lib.hid (HFR.out rfl)
      have HG2 := Lib.hid (HFS.out rfl)
      have HF1 := Lib.hid (HFO.out rfl)
      clear hfc hfw HFR HFS HFO hck
      cases ok with
      | false =>
        clear HFQ I5
        go_wp2_with fail
        refine I4.out.mono ?_
        rintro e w' ⟨rfl, rfl⟩
        obtain ⟨n, hn⟩ : ∃ n, n = zs.length := ⟨_, rfl⟩
        rw [← hn] at HL4 hzl ⊢
        have HN := Lib.hid hn
        have HLB := HL4
        have HBW := HB4
        obtain ⟨WB, rfl⟩ : ∃ W : World, W = W4 := ⟨_, rfl⟩
        clear hn HL4 HB4 I1 I2 I3 I4
        go_wp2_with fail
        clear hck2
        go_loopw [18, 19, 20] (fun b s i wr => ∃ k : Nat, k ≤ n ∧ i = .int .i64 ((k : Int) - 1) ∧ Hid (wr.ownsRow WB.heap.size 3 1 b (n - k) ((zs.drop k).reverse.map (Value.int .i64))) ∧ Hid (wr.ownsRow WB.heap.size 3 1 s (n - k) (((zs.drop k).map swp).reverse.map (Value.int .i64))) ∧ Hid (∀ q, s.ownBlock = some q → b.ownBlock ≠ some q) ∧ Hid (Below WB.heap.size WB wr)) (fun _ _ i _ => (intOf i + 1).toNat)
        case atStart =>
          refine ⟨n, Nat.le_refl _, rfl, Lib.hid ?_, Lib.hid ?_, Lib.hid ?_, Lib.hid (((Below.refl _ _).alloc (Nat.le_refl _) _).alloc (by simp) _)⟩
          · rw [Nat.sub_self, List.drop_of_length_le (by rw [← HN.out]; exact Nat.le_refl _)]
            exact own_lit (heap_first _ _ _) (Nat.le_refl _)
          · rw [Nat.sub_self, List.drop_of_length_le (by rw [← HN.out]; exact Nat.le_refl _)]
            exact own_lit (heap_second _ _ _) (by omega)
          · intro q h1 h2
            have e1 : WB.heap.size + 1 = q := Option.some.inj h1
            have e2 : WB.heap.size = q := Option.some.inj h2
            omega
        case round =>
          obtain ⟨k, hk, rfl, HO1, HO2, HNE, HW⟩ := hrel
          have hsz := HW.out.size
          by_cases hk0 : 0 < k
          · obtain ⟨k, rfl⟩ : ∃ q, k = q + 1 := ⟨k - 1, by omega⟩
            rw [show (((k + 1 : Nat) : Int) - 1) = (k : Int) by omega]
            have hks : k < zs.length := by rw [← HN.out]; omega
            obtain ⟨g', eg, hc⟩ := own_cellr (own_below HLB.out HW.out (Nat.le_refl _)) (show k < n by omega) hks
            obtain rfl : g = g' := by injection eg with eg; injection eg
            obtain ⟨f1, f2⟩ := HF1.out k hks
            have HU1 := Lib.hid (drop_rev hks)
            have HU2 := Lib.hid (drop_swp hks)
            obtain ⟨u, hu⟩ : ∃ u, u = zs[k] := ⟨_, rfl⟩
            rw [← hu] at hc f1 f2 HU1 HU2
            have hgl : g < wr.heap.size := World.block_lt_of_cell? wr _ hc
            have HJ := Lib.hid (implSwap_any u wr)
            rw [f1, f2] at HJ
            have HC := Lib.hid hc
            have hkn : k < n := by omega
            clear f1 f2 hu eg
            go_wp2_with fail
            refine HJ.out.mono ?_
            rintro e W5 ⟨rfl, l5⟩
            have hc5 : W5.cell? ⟨g, k, none⟩ = some (.int .i64 u) := (l5.cell (p := ⟨g, k, none⟩) hgl).trans HC.out
            have HW5 := Lib.hid (HW.out.trans (l5.mono HW.out.size))
            have hs5 := HW5.out.size
            have P1 := Lib.hid (own_below HO1.out l5 (Nat.le_refl _))
            have P2 := Lib.hid (own_below HO2.out l5 (Nat.le_refl _))
            generalize swp u = su at HU2
            clear l5 hc HJ
            go_wp2_with (first | (at_builtin; refine wpList_append_own_at _ rfl _ _ 24 rfl WB.heap.size 3 i0 (.int .i64 0) 1 8 Try.underlying24 hi hz0 hz1 hz2 rfl (by decide) _ _ _ rfl ((own_apart (P2.out.alloc _) hg6 HNE.out).alloc _) ⟨W6.heap.size, 0, none⟩ 1 1 [.int .i64 su] rfl rfl (cell_one_new _ _ _) (by intro u hu; simp at hu; subst hu; rfl) (by unfold maxLen; omega) (by omega) (by have := hg6.size; simp at this; simp; omega) ?_; intro v7 W7 h7 hg7 hn7 ha7) | (at_builtin; refine wpList_append_own_at _ rfl _ _ 24 rfl WB.heap.size 3 i0 (.int .i64 0) 1 8 Try.underlying24 hi hz0 hz1 hz2 rfl (by decide) _ _ _ rfl (P1.out.alloc _) ⟨W5.heap.size, 0, none⟩ 1 1 [.int .i64 u] rfl rfl (cell_one_new _ _ _) (by intro u hu; simp at hu; subst hu; rfl) (by unfold maxLen; omega) (by omega) (by simp; omega) ?_; intro v6 W6 h6 hg6 hn6 ha6))
            have HB6 := below_app HW5.out hs5 P1.out hg6
            have P26 := own_apart (P2.out.alloc _) hg6 HNE.out
            have HB7 := Lib.hid (below_app HB6 HB6.size P26 hg7)
            have HN6 := ne_one (P := fun q h => (P2.out.lt q h).2) HNE.out ha6
            have HN7 := Lib.hid (ne_two (fun q h => (h6.lt q h).2) HN6 ha7)
            have Q1 := Lib.hid (own_drop HU1.out hkn (own_apart (h6.alloc _) hg7 (fun q h1 h2 => HN6 q h2 h1)))
            have Q2 := Lib.hid (own_drop HU2.out hkn h7)
            clear h6 hg6 hn6 ha6 h7 hg7 hn7 ha7 HB6 P26 HN6 P1 P2
            go_roundw
            case rel => exact ⟨k, by omega, rfl, Q1, Q2, HN7, HB7⟩
            case measure => (first | (simp [intOf]; done) | (simp [intOf]; omega))
          · obtain rfl : k = 0 := by omega
            have HBl := Lib.hid (HBW.out.trans (HW.out.mono HBW.out.size))
            have HS1 := Lib.hid (implSum_any _ zs.reverse wr (by rw [List.length_reverse, ← HN.out]; exact row_own HO1.out))
            have HS2 := Lib.hid (implSum_any _ (zs.map swp).reverse wr (by rw [List.length_reverse, List.length_map, ← HN.out]; exact row_own HO2.out))
            have HS3 := Lib.hid (implSwap_any s wr)
            rw [HG1.out.1, HG1.out.2] at HS1
            rw [HG2.out.1, HG2.out.2.1] at HS2
            rw [HG2.out.2.2.1, HG2.out.2.2.2] at HS3
            generalize swp s = ss at HS2 HS3
            clear HO1 HO2 HNE HF1 HG1 HG2 HLB
            go_wp2_with fail
            refine HS1.out.mono ?_
            rintro e T4 ⟨rfl, rfl⟩
            go_wp2_with fail
            refine HS2.out.mono ?_
            rintro e T5 ⟨rfl, rfl⟩
            go_wp2_with fail
            refine HS3.out.mono ?_
            rintro e T6 ⟨rfl, l6⟩
            have HBt := Lib.hid (HBl.out.trans (l6.mono HBl.out.size))
            clear HBl l6 HS1 HS2 HS3
            go_wp2_with fail
            refine (HD2.out _ (HR.out.below HBt.out (Nat.le_refl _))).mono ?_
            rintro e T1 ⟨vx, xs, rfl, hxl, ox, lx⟩
            have HT1 := Lib.hid (HBt.out.trans (lx.mono HBt.out.size))
            have HJ := Lib.hid (implSnd_any vx xs T1 (row_own ox))
            have HK := Lib.hid (specSnd_any vx xs T1 (row_own ox))
            generalize sndV xs = sx at HJ HK
            generalize wOk xs = kx at HJ HK
            clear ox lx HBt
            go_wp2_with fail
            refine HJ.out.mono ?_
            rintro e T2 ⟨rfl, rfl⟩
            go_wp2_with fail
            refine HK.out.mono ?_
            rintro e T3 ⟨rfl, rfl⟩
            cases sx <;> cases kx
            all_goals
              go_wp2_with fail
              go_ret
              exact ⟨rfl, HT1.out⟩
      | true =>
        obtain ⟨q1, q2⟩ := HFQ.out rfl
        rw [q1, q2] at I5
        clear HFQ q1 q2
        go_wp2_with fail
        refine I4.out.mono ?_
        rintro e w' ⟨rfl, rfl⟩
        go_wp2_with fail
        refine I5.out.mono ?_
        rintro e w' ⟨rfl, rfl⟩
        obtain ⟨n, hn⟩ : ∃ n, n = zs.length := ⟨_, rfl⟩
        rw [← hn] at HL4 hzl ⊢
        have HN := Lib.hid hn
        have HLB := HL4
        have HBW := HB4
        obtain ⟨WB, rfl⟩ : ∃ W : World, W = W4 := ⟨_, rfl⟩
        clear hn HL4 HB4 I1 I2 I3 I4 I5
        go_wp2_with fail
        clear hck2
        go_loopw [18, 19, 20] (fun b s i wr => ∃ k : Nat, k ≤ n ∧ i = .int .i64 ((k : Int) - 1) ∧ Hid (wr.ownsRow WB.heap.size 3 1 b (n - k) ((zs.drop k).reverse.map (Value.int .i64))) ∧ Hid (wr.ownsRow WB.heap.size 3 1 s (n - k) (((zs.drop k).map swp).reverse.map (Value.int .i64))) ∧ Hid (∀ q, s.ownBlock = some q → b.ownBlock ≠ some q) ∧ Hid (Below WB.heap.size WB wr)) (fun _ _ i _ => (intOf i + 1).toNat)
        case atStart =>
          refine ⟨n, Nat.le_refl _, rfl, Lib.hid ?_, Lib.hid ?_, Lib.hid ?_, Lib.hid (((Below.refl _ _).alloc (Nat.le_refl _) _).alloc (by simp) _)⟩
          · rw [Nat.sub_self, List.drop_of_length_le (by rw [← HN.out]; exact Nat.le_refl _)]
            exact own_lit (heap_first _ _ _) (Nat.le_refl _)
          · rw [Nat.sub_self, List.drop_of_length_le (by rw [← HN.out]; exact Nat.le_refl _)]
            exact own_lit (heap_second _ _ _) (by omega)
          · intro q h1 h2
            have e1 : WB.heap.size + 1 = q := Option.some.inj h1
            have e2 : WB.heap.size = q := Option.some.inj h2
            omega
        case round =>
          obtain ⟨k, hk, rfl, HO1, HO2, HNE, HW⟩ := hrel
          have hsz := HW.out.size
          by_cases hk0 : 0 < k
          · obtain ⟨k, rfl⟩ : ∃ q, k = q + 1 := ⟨k - 1, by omega⟩
            rw [show (((k + 1 : Nat) : Int) - 1) = (k : Int) by omega]
            have hks : k < zs.length := by rw [← HN.out]; omega
            obtain ⟨g', eg, hc⟩ := own_cellr (own_below HLB.out HW.out (Nat.le_refl _)) (show k < n by omega) hks
            obtain rfl : g = g' := by injection eg with eg; injection eg
            obtain ⟨f1, f2⟩ := HF1.out k hks
            have HU1 := Lib.hid (drop_rev hks)
            have HU2 := Lib.hid (drop_swp hks)
            obtain ⟨u, hu⟩ : ∃ u, u = zs[k] := ⟨_, rfl⟩
            rw [← hu] at hc f1 f2 HU1 HU2
            have hgl : g < wr.heap.size := World.block_lt_of_cell? wr _ hc
            have HJ := Lib.hid (implSwap_any u wr)
            rw [f1, f2] at HJ
            have HC := Lib.hid hc
            have hkn : k < n := by omega
            clear f1 f2 hu eg
            go_wp2_with fail
            refine HJ.out.mono ?_
            rintro e W5 ⟨rfl, l5⟩
            have hc5 : W5.cell? ⟨g, k, none⟩ = some (.int .i64 u) := (l5.cell (p := ⟨g, k, none⟩) hgl).trans HC.out
            have HW5 := Lib.hid (HW.out.trans (l5.mono HW.out.size))
            have hs5 := HW5.out.size
            have P1 := Lib.hid (own_below HO1.out l5 (Nat.le_refl _))
            have P2 := Lib.hid (own_below HO2.out l5 (Nat.le_refl _))
            generalize swp u = su at HU2
            clear l5 hc HJ
            go_wp2_with (first | (at_builtin; refine wpList_append_own_at _ rfl _ _ 24 rfl WB.heap.size 3 i0 (.int .i64 0) 1 8 Try.underlying24 hi hz0 hz1 hz2 rfl (by decide) _ _ _ rfl ((own_apart (P2.out.alloc _) hg6 HNE.out).alloc _) ⟨W6.heap.size, 0, none⟩ 1 1 [.int .i64 su] rfl rfl (cell_one_new _ _ _) (by intro u hu; simp at hu; subst hu; rfl) (by unfold maxLen; omega) (by omega) (by have := hg6.size; simp at this; simp; omega) ?_; intro v7 W7 h7 hg7 hn7 ha7) | (at_builtin; refine wpList_append_own_at _ rfl _ _ 24 rfl WB.heap.size 3 i0 (.int .i64 0) 1 8 Try.underlying24 hi hz0 hz1 hz2 rfl (by decide) _ _ _ rfl (P1.out.alloc _) ⟨W5.heap.size, 0, none⟩ 1 1 [.int .i64 u] rfl rfl (cell_one_new _ _ _) (by intro u hu; simp at hu; subst hu; rfl) (by unfold maxLen; omega) (by omega) (by simp; omega) ?_; intro v6 W6 h6 hg6 hn6 ha6))
            have HB6 := below_app HW5.out hs5 P1.out hg6
            have P26 := own_apart (P2.out.alloc _) hg6 HNE.out
            have HB7 := Lib.hid (below_app HB6 HB6.size P26 hg7)
            have HN6 := ne_one (P := fun q h => (P2.out.lt q h).2) HNE.out ha6
            have HN7 := Lib.hid (ne_two (fun q h => (h6.lt q h).2) HN6 ha7)
            have Q1 := Lib.hid (own_drop HU1.out hkn (own_apart (h6.alloc _) hg7 (fun q h1 h2 => HN6 q h2 h1)))
            have Q2 := Lib.hid (own_drop HU2.out hkn h7)
            clear h6 hg6 hn6 ha6 h7 hg7 hn7 ha7 HB6 P26 HN6 P1 P2
            go_roundw
            case rel => exact ⟨k, by omega, rfl, Q1, Q2, HN7, HB7⟩
            case measure => (first | (simp [intOf]; done) | (simp [intOf]; omega))
          · obtain rfl : k = 0 := by omega
            have HBl := Lib.hid (HBW.out.trans (HW.out.mono HBW.out.size))
            have HS1 := Lib.hid (implSum_any _ zs.reverse wr (by rw [List.length_reverse, ← HN.out]; exact row_own HO1.out))
            have HS2 := Lib.hid (implSum_any _ (zs.map swp).reverse wr (by rw [List.length_reverse, List.length_map, ← HN.out]; exact row_own HO2.out))
            have HS3 := Lib.hid (implSwap_any s wr)
            rw [HG1.out.1, HG1.out.2] at HS1
            rw [HG2.out.1, HG2.out.2.1] at HS2
            rw [HG2.out.2.2.1, HG2.out.2.2.2] at HS3
            generalize swp s = ss at HS2 HS3
            clear HO1 HO2 HNE HF1 HG1 HG2 HLB
            go_wp2_with fail
            refine HS1.out.mono ?_
            rintro e T4 ⟨rfl, rfl⟩
            go_wp2_with fail
            refine HS2.out.mono ?_
            rintro e T5 ⟨rfl, rfl⟩
            go_wp2_with fail
            refine HS3.out.mono ?_
            rintro e T6 ⟨rfl, l6⟩
            have HBt := Lib.hid (HBl.out.trans (l6.mono HBl.out.size))
            clear HBl l6 HS1 HS2 HS3
            go_wp2_with fail
            refine (HD2.out _ (HR.out.below HBt.out (Nat.le_refl _))).mono ?_
            rintro e T1 ⟨vx, xs, rfl, hxl, ox, lx⟩
            have HT1 := Lib.hid (HBt.out.trans (lx.mono HBt.out.size))
            have HJ := Lib.hid (implSnd_any vx xs T1 (row_own ox))
            have HK := Lib.hid (specSnd_any vx xs T1 (row_own ox))
            generalize sndV xs = sx at HJ HK
            generalize wOk xs = kx at HJ HK
            clear ox lx HBt
            go_wp2_with fail
            refine HJ.out.mono ?_
            rintro e T2 ⟨rfl, rfl⟩
            go_wp2_with fail
            refine HK.out.mono ?_
            rintro e T3 ⟨rfl, rfl⟩
            cases sx <;> cases kx
            all_goals
              go_wp2_with fail
              go_ret
              exact ⟨rfl, HT1.out⟩
end Go.Proofs.Ytofpajbfajcjgaa
