/-
  Timers, the program's way: RunTimers.
-/
import Derived.Test.YtoehedogdbafpaaTimI4
namespace Go.Proofs.Ytoehedogdbafpaa
open Go.RowKit Go.Lib Go.Joins
set_option linter.unusedVariables false

set_option maxRecDepth 100000 in
set_option maxHeartbeats 2000000 in
theorem implRun_any (ad : Addr) (cap : Nat) (s : List Tm) (now : Int) (w : World) (hrow : Row w (.slice (some ad) s.length cap) s.length (tmF s)) :
    Calls Try.prog 16 #[.slice (some ad) s.length cap, .int .i64 now] w fun e w' => ∃ v1 v2, e = .returned (.tuple #[v1, v2, .bool (runOk s now)]) ∧ w'.ownsRow w.heap.size 42 3 v1 (runV s now).length (tmF (runV s now)) ∧ w'.ownsRow w.heap.size 3 1 v2 (runF s now).length ((runF s now).map (Value.int .i64)) ∧ (∀ k, v1.ownBlock = some k → v2.ownBlock ≠ some k) ∧ Below w.heap.size w w' := by
  obtain ⟨j0, hj, hy0, hy1, hy2⟩ := info_parts infoInt
  have HI := Lib.hid (implIsT_any (.slice (some ad) s.length cap) s w hrow)
  have HRow := Lib.hid (fun (W : World) (hb : Below w.heap.size w W) => hrow.below hb (Nat.le_refl _))
  have HTk := Lib.hid (isTick_any now)
  clear hrow
  by_cases hok : dueOk s now = true
  · have hv : tsOk s = true ∧ tk now = true := by unfold dueOk at hok; exact Bool.and_eq_true_iff.1 hok
    have HI0 := Lib.hid (runI_start hok)
    have HCl := Lib.hid (fun (W : World) (hb : Below w.heap.size w W) => cloneT_any ad cap s W (HRow.out _ hb) (below_1000 hv.1))
    obtain ⟨gb, hgb⟩ : ∃ g, g = runOk s now := ⟨_, rfl⟩
    obtain ⟨gv, hgv⟩ : ∃ g, g = runV s now := ⟨_, rfl⟩
    obtain ⟨gf, hgf⟩ : ∃ g, g = runF s now := ⟨_, rfl⟩
    rw [← hgb, ← hgv, ← hgf]
    have HEnd : Hid (∀ ys fs, RunI s now ys fs → isDue ys now = false → gb = true ∧ gv = ys ∧ gf = fs) := Lib.hid (fun ys fs h hd => by rw [hgb, hgv, hgf]; exact runI_end h hd)
    have HBad : Hid (∀ ys fs, RunI s now ys fs → isDue ys now = true → fs.length = 50 → gb = false ∧ gv = [] ∧ gf = []) := Lib.hid (fun ys fs h hd hl => by rw [hgb, hgv, hgf]; exact runI_fail h hd hl)
    clear hgb hgv hgf
    rw [hv.1] at HI
    rw [hv.2] at HTk
    clear hok hv
    go_enter Try.func16, Try.ntmps16
    go_wp2_with fail
    refine HI.out.mono ?_
    rintro e w2 ⟨rfl, l2⟩
    have HB2 := Lib.hid l2
    clear l2
    go_wp2_with fail
    refine (HTk.out _).mono ?_
    rintro e w3 ⟨rfl, rfl⟩
    go_wp2_with fail
    refine (HCl.out _ HB2.out).mono ?_
    rintro e w4 ⟨v4, rfl, o4, l4⟩
    obtain ⟨a4, c4, rfl, _, _⟩ := ownz_slice o4
    have HB4 := Lib.hid (HB2.out.trans (l4.mono HB2.out.size))
    have HO4 := Lib.hid o4
    have HD0 : Hid (DuT w (w4.alloc (.cells #[] 3)) (.slice (some ⟨w4.heap.size, 0, none⟩) 0 0) [] (.slice a4 s.length c4) s) := Lib.hid
      ⟨litz w4 w.heap.size 3 1 HB4.out.size, ownz_base (ownz_below o4 ((Below.refl _ _).alloc (Nat.le_refl _) _) (Nat.le_refl _)) HB2.out.size, fun k h1 h2 => by
        have e1 : w4.heap.size = k := Option.some.inj h1
        have := (o4.lt k h2).2
        omega, b_a HB4.out _⟩
    clear o4 l4
    go_wp2_with fail
    go_loopw [7, 8] (fun u z wr => ∃ ai ci at5 ct5, ∃ ids : List Int, ∃ zs : List Tm, z = .slice ai ids.length ci ∧ u = .slice at5 zs.length ct5 ∧ Hid (DuT w wr (.slice ai ids.length ci) ids (.slice at5 zs.length ct5) zs) ∧ Hid (RunI s now zs ids)) (fun _ z _ => 50 - lenV z)
    case atStart => exact ⟨_, _, _, _, [], s, rfl, rfl, HD0, HI0⟩
    case round =>
      clear HD0 HO4
      obtain ⟨ai, ci, at5, ct5, ids, zs, rfl, rfl, HD, HI⟩ := hrel
      have hl50 := runI_len HI.out
      have hvz := HI.out.1
      have HNx := Lib.hid (implNext_any (.slice at5 zs.length ct5) zs wr (rowz_own HD.out.ot) (fit_own HD.out.ot))
      by_cases hne : zs = []
      · have HF := Lib.hid (HEnd.out zs ids HI.out (by rw [hne]; rfl))
        subst hne
        have e1 : nextOk ([] : List Tm) = false := by unfold nextOk; simp
        have e2 : nextT ([] : List Tm) = tm0 := by unfold nextT; rw [e1]; rfl
        rw [e1, e2] at HNx
        clear e1 e2 hvz
        go_wp2_with fail
        refine HNx.out.mono ?_
        rintro e w5 ⟨rfl, l5⟩
        have HD5 := Lib.hid (HD.out.below l5)
        clear l5
        go_wp2_with fail
        go_ret3
        rw [HF.out.1, HF.out.2.1, HF.out.2.2]
        exact ⟨_, _, rfl, HD5.out.ot, HD5.out.oi, fun k h1 h2 => HD5.out.ap k h2 h1, HD5.out.bel⟩
      · have e0 : (!zs.isEmpty) = true := by cases zs with | nil => exact absurd rfl hne | cons _ _ => rfl
        have e1 : nextOk zs = true := by unfold nextOk; rw [hvz, e0]; rfl
        have e2 : nextT zs = fstT zs := by unfold nextT; rw [e1, if_pos rfl]
        rw [e1, e2] at HNx
        have HDb := Lib.hid (fun (h : isDue zs now = true) => HBad.out zs ids HI.out h)
        have HDs := Lib.hid (fun (h : isDue zs now = true) => runI_step HI.out h)
        have HDn := Lib.hid (fun (h : isDue zs now = false) => HEnd.out zs ids HI.out h)
        have hid : isDue zs now = decide ((fstT zs).d ≤ now) := by
          unfold isDue; cases zs with | nil => exact absurd rfl hne | cons _ _ => rfl
        rw [hid] at HDs HDn HDb
        obtain ⟨f1, f2⟩ := fire_at hvz (fst_mem hne)
        have HFr := Lib.hid (fun (W : World) (hr : Row W (.slice at5 zs.length ct5) zs.length (tmF zs)) => implFireT_any (.slice at5 zs.length ct5) zs (fstT zs).i W hr)
        rw [f1, f2] at HFr
        have hz10 := tsOk_len hvz
        generalize fireT zs (fstT zs) = ps at HDs HFr
        generalize fstT zs = t at HDs HDn HDb HNx HFr
        clear e0 e1 e2 f1 f2 hid hne hvz
        by_cases hd : t.d ≤ now
        · have hd' : decide (t.d ≤ now) = true := decide_eq_true hd
          have hd2 : decide (now < t.d) = false := decide_eq_false (by omega)
          obtain ⟨nf, hnf⟩ : ∃ nf, nf = ids.length := ⟨_, rfl⟩
          by_cases h50 : nf = 50
          · have HF := Lib.hid (HDb.out hd' (hnf.symm.trans h50))
            have hIl : ids.length = 50 := hnf.symm.trans h50
            clear HDs HDn HDb HI hd HFr hnf h50 nf
            rw [hIl] at HD ⊢
            clear hIl
            go_wp2_with fail
            refine HNx.out.mono ?_
            rintro e w5 ⟨rfl, l5⟩
            have HB5 := Lib.hid (HD.out.bel.trans (l5.mono HD.out.bel.size))
            clear l5
            go_wp2_with fail
            go_ret3
            rw [HF.out.1, HF.out.2.1, HF.out.2.2]
            have hb := HB5.out
            refine ⟨_, _, rfl, ownz_below (ownz_base (none_own w5) hb.size) ((Below.refl _ _).alloc (Nat.le_refl _) _) (Nat.le_refl _), ?_, ?_, b_a (b_a hb _) _⟩
            · have h := litz (w5.alloc (.cells #[] 42)) w.heap.size 3 1 (by have := hb.size; simp; omega)
              simpa using h
            · intro k h1 h2
              have e1 : w5.heap.size = k := Option.some.inj h1
              have e2 : w5.heap.size + 1 = k := Option.some.inj h2
              omega
          · have h50' : ((nf : Int) == 50) = false := by simp; omega
            have HI2 := Lib.hid (HDs.out hd' (fun e => h50 (hnf.trans e)))
            have HNf := Lib.hid hnf
            clear HDs HDn HDb HI hd
            rw [← hnf] at HD hl50 ⊢
            clear hnf
            have HD1 : Hid (DuT w wr (.slice ai ids.length ci) ids (.slice at5 zs.length ct5) zs) := Lib.hid (by have h := HD.out; rw [HNf.out] at h; exact h)
            clear HD
            go_wp2_with fail
            refine HNx.out.mono ?_
            rintro e w5 ⟨rfl, l5⟩
            have HD5 := Lib.hid (HD1.out.below l5)
            clear l5 HD1
            go_wp2_with fail
            refine (HFr.out _ (rowz_own HD5.out.ot)).mono ?_
            rintro e w6 ⟨v6, rfl, o6, l6⟩
            have hd6 := HD5.out.newT o6 l6
            obtain ⟨a6, c6, rfl, _, _⟩ := ownz_slice o6
            have HD6 := Lib.hid (hd6.alloc (.cells #[.int .i64 t.i] 3))
            have HLi := Lib.hid (row_int1 w6 t.i)
            clear o6 l6 hd6
            go_wp2_with (at_builtin; refine wpList_append_own_at _ rfl _ _ 27 rfl w.heap.size 3 j0 (.int .i64 0) 1 8 Try.underlying27 hj hy0 hy1 hy2 rfl (by decide) _ nf (ids.map (Value.int .i64)) rfl (by have h := HD6.out.oi; rw [← HNf.out] at h; exact h) ⟨w6.heap.size, 0, none⟩ 1 1 [.int .i64 t.i] rfl rfl (row_news HLi.out) (one_int _) (by unfold maxLen; omega) (by omega) HD6.out.bel.size ?_; intro v' w7 hown' hgrow _ hblk; obtain ⟨ids5, hz5⟩ : ∃ z, z = ids ++ [t.i] := ⟨_, rfl⟩; have hs7 := HD6.out.app (by rw [← HNf.out]; exact hown') (by rw [← HNf.out]; exact hgrow) (by rw [← HNf.out]; exact hblk); rw [← hz5] at hs7; obtain ⟨a7, c7, rfl, hs7⟩ := hs7; have HS7 := Lib.hid hs7; have HZ5 := Lib.hid hz5; clear hown' hgrow hs7 hz5 hblk)
            go_roundw
            case rel => exact ⟨_, _, _, _, ids5, ps, rfl, rfl, HS7, Lib.hid (by rw [HZ5.out]; exact HI2.out)⟩
            case measure => (have := HNf.out; rw [HZ5.out]; simp [lenV]; omega)
        · have hd' : decide (t.d ≤ now) = false := decide_eq_false hd
          have hd2 : decide (now < t.d) = true := decide_eq_true (by omega)
          have HF := Lib.hid (HDn.out hd')
          clear HDs HDn HDb HI hd HFr
          go_wp2_with fail
          refine HNx.out.mono ?_
          rintro e w5 ⟨rfl, l5⟩
          have HD5 := Lib.hid (HD.out.below l5)
          clear l5
          go_wp2_with fail
          go_ret3
          rw [HF.out.1, HF.out.2.1, HF.out.2.2]
          exact ⟨_, _, rfl, HD5.out.ot, HD5.out.oi, fun k h1 h2 => HD5.out.ap k h2 h1, HD5.out.bel⟩
  · have hok' : dueOk s now = false := by cases h : dueOk s now with | true => exact absurd h hok | false => rfl
    obtain ⟨e1, e2, e3⟩ := run_none hok'
    rw [e1, e2, e3]
    cases hs : tsOk s with
    | false =>
      rw [hs] at HI
      clear hok hok' e1 e2 e3 hs
      go_enter Try.func16, Try.ntmps16
      go_wp2_with fail
      refine HI.out.mono ?_
      rintro e w5 ⟨rfl, l2⟩
      have HB5 := Lib.hid l2
      clear l2
      go_wp2_with fail
      go_ret3
      have hb := HB5.out
      refine ⟨_, _, rfl, ownz_below (ownz_base (none_own w5) hb.size) ((Below.refl _ _).alloc (Nat.le_refl _) _) (Nat.le_refl _), ?_, ?_, b_a (b_a hb _) _⟩
      · have h := litz (w5.alloc (.cells #[] 42)) w.heap.size 3 1 (by have := hb.size; simp; omega)
        simpa using h
      · intro k h1 h2
        have e1 : w5.heap.size = k := Option.some.inj h1
        have e2 : w5.heap.size + 1 = k := Option.some.inj h2
        omega
    | true =>
      have ht : tk now = false := by
        cases h : tk now with
        | false => rfl
        | true => exact absurd (by unfold dueOk; rw [hs, h]; rfl) hok
      rw [hs] at HI
      rw [ht] at HTk
      clear hok hok' e1 e2 e3 hs ht
      go_enter Try.func16, Try.ntmps16
      go_wp2_with fail
      refine HI.out.mono ?_
      rintro e w5 ⟨rfl, l2⟩
      have HB5 := Lib.hid l2
      clear l2
      go_wp2_with fail
      refine (HTk.out _).mono ?_
      rintro e w3 ⟨rfl, rfl⟩
      go_wp2_with fail
      go_ret3
      have hb := HB5.out
      refine ⟨_, _, rfl, ownz_below (ownz_base (none_own w5) hb.size) ((Below.refl _ _).alloc (Nat.le_refl _) _) (Nat.le_refl _), ?_, ?_, b_a (b_a hb _) _⟩
      · have h := litz (w5.alloc (.cells #[] 42)) w.heap.size 3 1 (by have := hb.size; simp; omega)
        simpa using h
      · intro k h1 h2
        have e1 : w5.heap.size = k := Option.some.inj h1
        have e2 : w5.heap.size + 1 = k := Option.some.inj h2
        omega
end Go.Proofs.Ytoehedogdbafpaa
