/-
  Timers: the specification's DueTimers and RunTimers.
-/
import Derived.Test.YtoehedogdbafpaaTim5
import Derived.Test.YtoehedogdbafpaaInts
namespace Go.Proofs.Ytoehedogdbafpaa
open Go.RowKit Go.Lib Go.Joins
set_option linter.unusedVariables false

/-- Numbers that are drawn up, and timers that are left, each in memory of the call's own. -/
structure DuT (W0 wr : World) (vi : Value) (ids : List Int) (vt : Value) (zs : List Tm) : Prop where
  oi : wr.ownsRow W0.heap.size 3 1 vi ids.length (ids.map (Value.int .i64))
  ot : wr.ownsRow W0.heap.size 42 3 vt zs.length (tmF zs)
  ap : ∀ k, vi.ownBlock = some k → vt.ownBlock ≠ some k
  bel : Below W0.heap.size W0 wr
theorem DuT.below {W0 wr w1 : World} {vi vt : Value} {ids : List Int} {zs : List Tm} (h : DuT W0 wr vi ids vt zs) (l : Below wr.heap.size wr w1) : DuT W0 w1 vi ids vt zs :=
  ⟨ownz_below h.oi l (Nat.le_refl _), ownz_below h.ot l (Nat.le_refl _), h.ap, h.bel.trans (l.mono h.bel.size)⟩
theorem DuT.alloc {W0 wr : World} {vi vt : Value} {ids : List Int} {zs : List Tm} (h : DuT W0 wr vi ids vt zs) (o : Obj) : DuT W0 (wr.alloc o) vi ids vt zs := h.below ((Below.refl _ _).alloc (Nat.le_refl _) o)
theorem DuT.app {W0 wr w1 : World} {vi vt v' : Value} {ids : List Int} {zs : List Tm} {x : Int} (h : DuT W0 wr vi ids vt zs)
    (ho : w1.ownsRow W0.heap.size 3 1 v' (ids.length + 1) (ids.map (Value.int .i64) ++ [.int .i64 x])) (hg : wr.grownBy w1 vi.ownBlock) (hb : v'.ownBlock = vi.ownBlock ∨ v'.ownBlock = some wr.heap.size) :
    ∃ a c, v' = .slice a (ids ++ [x]).length c ∧ DuT W0 w1 (.slice a (ids ++ [x]).length c) (ids ++ [x]) vt zs := by
  obtain ⟨a, c, rfl, _, _⟩ := ownz_slice ho
  have e : (ids ++ [x]).length = ids.length + 1 := by simp
  refine ⟨a, c, by rw [e], ⟨?_, ownz_apart h.ot hg (fun k h1 h2 => h.ap k h2 h1), ?_, h.bel.grown hg h.bel.size (fun k hk => (h.oi.lt k hk).1)⟩⟩
  · rw [e, List.map_append]; exact ho
  · intro k h1 h2
    rw [e] at h1
    rcases hb with hb | hb
    · exact h.ap k (hb ▸ h1) h2
    · rw [hb] at h1
      have := (h.ot.lt k h2).2
      have e2 : wr.heap.size = k := Option.some.inj h1
      omega
theorem DuT.newT {W0 wr w1 : World} {vi vt v' : Value} {ids : List Int} {zs zs' : List Tm} (h : DuT W0 wr vi ids vt zs) (ho : w1.ownsRow wr.heap.size 42 3 v' zs'.length (tmF zs')) (l : Below wr.heap.size wr w1) : DuT W0 w1 vi ids v' zs' :=
  ⟨ownz_below h.oi l (Nat.le_refl _), ownz_base ho h.bel.size, fun k h1 h2 => by have := (h.oi.lt k h1).2; have := (ho.lt k h2).1; omega, h.bel.trans (l.mono h.bel.size)⟩
theorem DuT.start {W0 wr : World} {vi v' : Value} {w1 : World} {zs : List Tm} (hi : wr.ownsRow W0.heap.size 3 1 vi 0 []) (hb : Below W0.heap.size W0 wr) (ho : w1.ownsRow wr.heap.size 42 3 v' zs.length (tmF zs)) (l : Below wr.heap.size wr w1) : DuT W0 w1 vi [] v' zs :=
  ⟨ownz_below hi l (Nat.le_refl _), ownz_base ho hb.size, fun k h1 h2 => by have := (hi.lt k h1).2; have := (ho.lt k h2).1; omega, hb.trans (l.mono hb.size)⟩
theorem row_int1 (w : World) (x : Int) : Row (w.alloc (.cells #[.int .i64 x] 3)) (.slice (some ⟨w.heap.size, 0, none⟩) 1 1) 1 [.int .i64 x] := row_lit (heap_alloc_new w _)
theorem one_int (x : Int) : ∀ u ∈ [Value.int .i64 x], u.oneCell' = true := by intro u hu; simp at hu; subst hu; rfl
def lenV : Value → Nat | .slice _ n _ => n | _ => 0
/-- The cells of the timer that fires first. -/
theorem DuT.first {W0 wr : World} {vi : Value} {a : Option Addr} {c : Nat} {ids : List Int} {zs : List Tm} (h : DuT W0 wr vi ids (.slice a zs.length c) zs) {k : Nat} (hk : k < zs.length) : ∃ b off, a = some ⟨b, off, none⟩ ∧ ∀ W, Below wr.heap.size wr W → W.cell? ⟨b, off + k * 3, none⟩ = some (.int .i64 zs[k].i) ∧ W.cell? ⟨b, off + k * 3 + 1, none⟩ = some (.int .i64 zs[k].d) ∧ W.cell? ⟨b, off + k * 3 + 2, none⟩ = some (.int .i64 zs[k].p) := by
  obtain ⟨a', c', e, _, _, hc⟩ := tm_open (rowz_own h.ot)
  injection e with e1 _ e2
  subst e1; subst e2
  obtain ⟨b, off, rfl, hb, q0, q1, q2⟩ := hc k hk
  exact ⟨b, off, rfl, fun W hW => ⟨(hW.cell (p := ⟨b, off + k * 3, none⟩) hb).trans q0, (hW.cell (p := ⟨b, off + k * 3 + 1, none⟩) hb).trans q1, (hW.cell (p := ⟨b, off + k * 3 + 2, none⟩) hb).trans q2⟩⟩
theorem due_step {zs : List Tm} {ids : List Int} {now : Int} {goal : List Int} (h : ids ++ dueL zs now = goal) (hd : isDue zs now = true) : (ids ++ [(fstT zs).i]) ++ dueL (wo zs (fstT zs).i) now = goal := by
  rw [← h, due_yes hd]; simp
theorem due_done {zs : List Tm} {ids : List Int} {now : Int} {goal : List Int} (h : ids ++ dueL zs now = goal) (hd : isDue zs now = false) : ids = goal := by
  rw [← h, due_no hd]; simp
set_option maxRecDepth 100000 in
set_option maxHeartbeats 4000000 in
theorem specDue_any (v : Value) (s : List Tm) (now : Int) (w : World) (hrow : Row w v s.length (tmF s)) (hfit : Fit v s.length) :
    Calls Try.prog 21 #[v, .int .i64 now] w fun e w' => ∃ v', e = .returned (.tuple #[v', .bool (dueOk s now)]) ∧ w'.ownsRow w.heap.size 3 1 v' (dueV s now).length ((dueV s now).map (Value.int .i64)) ∧ Below w.heap.size w w' := by
  obtain ⟨i0, hi, hz0, hz1, hz2⟩ := info_parts infoT
  obtain ⟨j0, hj, hy0, hy1, hy2⟩ := info_parts infoInt
  have HRow := Lib.hid (fun (W : World) (hb : Below w.heap.size w W) => hrow.below hb (Nat.le_refl _))
  obtain ⟨W1, hW1⟩ : ∃ W1, W1 = w.alloc (.cells #[] 3) := ⟨_, rfl⟩
  have HB1 : Hid (Below w.heap.size w W1) := Lib.hid (by rw [hW1]; exact (Below.refl w.heap.size w).alloc (Nat.le_refl _) _)
  obtain ⟨R, hR⟩ : ∃ R, R = w.heap.size := ⟨_, rfl⟩
  have HO1 : Hid (W1.ownsRow w.heap.size 3 1 (.slice (some ⟨R, 0, none⟩) 0 0) 0 []) := Lib.hid (by rw [hW1, hR]; exact litz w w.heap.size 3 1 (Nat.le_refl _))
  have HW1 := Lib.hid hW1
  have HR := Lib.hid hR
  have HTk := Lib.hid (l8Tick_any now)
  obtain ⟨a, cap, rfl, _, _, _⟩ := tm_open hrow
  have HFit := Lib.hid hfit
  clear hW1 hR hrow hfit
  have HGd := Lib.hid (l8Good_any (.slice a s.length cap) s W1 (HRow.out _ HB1.out))
  by_cases hok : dueOk s now = true
  · have hv : tsOk s = true ∧ tk now = true := by unfold dueOk at hok; exact Bool.and_eq_true_iff.1 hok
    have e2 : dueV s now = dueL s now := if_pos hok
    rw [hok, e2]
    obtain ⟨goal, hgoal⟩ : ∃ g, g = dueL s now := ⟨_, rfl⟩
    rw [← hgoal]
    have HGoal := Lib.hid hgoal
    rw [hv.1] at HGd
    rw [hv.2] at HTk
    have HV := Lib.hid hv.1
    have hn10 := tsOk_len hv.1
    have HL := Lib.hid (tmF_len s)
    clear hok hv e2 hgoal
    go_enter Try.func21, Try.ntmps21
    go_upto_region 2 with fail
    rw [← HW1.out, ← HR.out]
    go_wp2_with fail
    refine HGd.out.mono ?_
    rintro e w2 ⟨rfl, l2⟩
    have HB2 := Lib.hid (HB1.out.trans (l2.mono HB1.out.size))
    have HO2 := Lib.hid (ownz_below HO1.out l2 (Nat.le_refl _))
    clear l2
    go_wp2_with fail
    refine (HTk.out _).mono ?_
    rintro e w3 ⟨rfl, rfl⟩
    have HOt := Lib.hid (litz w2 w2.heap.size 42 3 (Nat.le_refl _))
    have HRs := Lib.hid (HRow.out (w2.alloc (.cells #[] 42)) (b_a HB2.out _))
    go_wp2_with (at_builtin; refine wpList_append_fit _ rfl _ _ 24 rfl w2.heap.size 42 i0 (.agg #[.int .i64 0, .int .i64 0, .int .i64 0]) 3 24 Try.underlying24 hi hz0 hz1 hz2 rfl (by decide) _ 0 [] rfl HOt.out _ s.length (tmF s) rfl HFit.out HL.out HRs.out (tmF_one s) (by unfold maxLen; omega) (by omega) (by simp) ?_; intro v1 w4 hown1 hgrow1; have hb4 : Below w2.heap.size w2 w4 := ((Below.refl w2.heap.size w2).alloc (Nat.le_refl _) _).grown hgrow1 (by simp) (fun k hk => by have e : w2.heap.size = k := Option.some.inj hk; omega); rw [Nat.zero_add, List.nil_append] at hown1; obtain ⟨at1, ct1, rfl, _, _⟩ := ownz_slice hown1; have HD := Lib.hid (DuT.start HO2.out HB2.out hown1 hb4); clear hown1 hgrow1 hb4)
    go_loopw [6, 7] (fun z u wr => ∃ ai ci at5 ct5, ∃ ids : List Int, ∃ zs : List Tm, z = .slice ai ids.length ci ∧ u = .slice at5 zs.length ct5 ∧ Hid (DuT w wr (.slice ai ids.length ci) ids (.slice at5 zs.length ct5) zs) ∧ Hid (Asc zs ∧ ids ++ dueL zs now = goal) ∧ ids.length + zs.length ≤ 10) (fun _ u _ => lenV u)
    case atStart => exact ⟨_, _, _, _, [], s, rfl, rfl, HD, Lib.hid ⟨(tsOk_iff.1 HV.out).2.1, HGoal.out.symm⟩, by simp; omega⟩
    case round =>
      clear HD HO2 HOt HRs
      obtain ⟨ai, ci, at5, ct5, ids, zs, rfl, rfl, HD, HI, hlen⟩ := hrel
      by_cases hne : zs = []
      · have HF : Hid (ids = goal) := Lib.hid (due_done HI.out.2 (by rw [hne]; rfl))
        subst hne
        go_wp2_with fail
        go_ret2
        rw [← HF.out]
        exact ⟨_, rfl, HD.out.oi, HD.out.bel⟩
      · have hpos : 0 < zs.length := List.length_pos_iff.2 hne
        have hlt := fst_lt hne
        have e1 : fstT zs = zs[fstI zs] := by unfold fstT; rw [getD_at hlt]
        obtain ⟨k, hkl, hkF, e3⟩ : ∃ k, ∃ h : k < zs.length, fstI zs = k ∧ fstT zs = zs[k] := ⟨_, hlt, rfl, e1⟩
        obtain ⟨b, off, rfl, hq⟩ := HD.out.first hkl
        have HFs := Lib.hid (fun (W : World) (hb : Below wr.heap.size wr W) => l8First_any (.slice (some ⟨b, off, none⟩) zs.length ct5) zs W ((rowz_own HD.out.ot).below hb (Nat.le_refl _)) hne)
        rw [hkF] at HFs
        have HDs := Lib.hid (fun (h : isDue zs now = true) => due_step HI.out.2 h)
        have HDn := Lib.hid (fun (h : isDue zs now = false) => due_done HI.out.2 h)
        have hid : isDue zs now = decide (zs[k].d ≤ now) := by
          unfold isDue; rw [e3]; cases zs with | nil => exact absurd rfl hne | cons _ _ => rfl
        rw [hid] at HDs HDn
        rw [e3] at HDs
        have HWl : Hid ((wo zs zs[k].i).length < zs.length) := Lib.hid (wo_lt (List.getElem_mem hkl))
        have HWa : Hid (Asc (wo zs zs[k].i)) := Lib.hid (wo_asc HI.out.1 _)
        have HWo := Lib.hid (fun (W : World) (x : Int) (hr : Row W (.slice (some ⟨b, off, none⟩) zs.length ct5) zs.length (tmF zs)) => l8Without_any (.slice (some ⟨b, off, none⟩) zs.length ct5) zs x W hr (by omega))
        generalize zs[k] = t at hq HDs HDn HWl HWa
        obtain ⟨m, hm⟩ : ∃ m, m = zs.length := ⟨_, rfl⟩
        have hkm : (k : Int) < (m : Int) := by omega
        have hpm : (0 : Int) < (m : Int) := by omega
        have HQ := Lib.hid hq
        have HM := Lib.hid hm
        rw [← hm] at hlen HFs HWo HD HWl ⊢
        clear hq hne hpos hlt e1 hkl hkF e3 hid hm
        by_cases hd : t.d ≤ now
        · have hd' : decide (t.d ≤ now) = true := decide_eq_true hd
          have HI2 := Lib.hid (HDs.out hd')
          clear HDs HDn HI hd
          obtain ⟨y0, y1, y2⟩ := HQ.out wr (Below.refl _ _)
          go_wp2_with fail
          refine (HFs.out _ (Below.refl _ _)).mono ?_
          rintro e w5 ⟨rfl, hd5⟩
          have HB5 : Hid (Below wr.heap.size wr w5) := Lib.hid (by obtain ⟨d, hd⟩ := hd5; rw [hd]; exact bdrew _ _)
          obtain ⟨z0, z1, z2⟩ := HQ.out w5 HB5.out
          clear hd5 y0 y1 y2
          go_wp2_with fail
          refine (HFs.out _ HB5.out).mono ?_
          rintro e w6 ⟨rfl, hd6⟩
          have HB6 : Hid (Below wr.heap.size wr w6) := Lib.hid (by obtain ⟨d, hd⟩ := hd6; rw [hd]; exact b_d HB5.out d)
          obtain ⟨y0, y1, y2⟩ := HQ.out w6 HB6.out
          have HD6 := Lib.hid ((HM.out ▸ HD.out.below HB6.out : DuT w w6 (.slice ai ids.length ci) ids (.slice (some ⟨b, off, none⟩) zs.length ct5) zs).alloc (.cells #[.int .i64 t.i] 3))
          have HLi := Lib.hid (row_int1 w6 t.i)
          clear hd6 z0 z1 z2 HB5
          go_wp2_with (at_builtin; refine wpList_append_own_at _ rfl _ _ 27 rfl w.heap.size 3 j0 (.int .i64 0) 1 8 Try.underlying27 hj hy0 hy1 hy2 rfl (by decide) _ ids.length (ids.map (Value.int .i64)) rfl HD6.out.oi ⟨w6.heap.size, 0, none⟩ 1 1 [.int .i64 t.i] rfl rfl (row_news HLi.out) (one_int _) (by unfold maxLen; omega) (by omega) HD6.out.bel.size ?_; intro v' w7 hown' hgrow _ hblk; obtain ⟨ids5, hz5⟩ : ∃ z, z = ids ++ [t.i] := ⟨_, rfl⟩; have hs7 := HD6.out.app hown' hgrow hblk; rw [← hz5] at hs7; obtain ⟨a7, c7, rfl, hs7⟩ := hs7; have HS7 := Lib.hid hs7; have HZ5 := Lib.hid hz5; clear hown' hgrow hs7 hz5 hblk)
          refine (HWo.out _ t.i (by rw [HM.out]; exact rowz_own HS7.out.ot)).mono ?_
          rintro e w8 ⟨g8, c8, rfl, o8, l8⟩
          have HS8 := Lib.hid (HS7.out.newT o8 l8)
          clear o8 l8
          go_wp2_with fail
          go_roundw
          case rel => exact ⟨_, _, _, _, ids5, _, rfl, rfl, HS8, Lib.hid ⟨HWa.out, by rw [HZ5.out]; exact HI2.out⟩, by have := HWl.out; rw [HZ5.out]; simp; omega⟩
          case measure => (have := HWl.out; simp [lenV]; omega)
        · have hd' : decide (t.d ≤ now) = false := decide_eq_false hd
          have HF := Lib.hid (HDn.out hd')
          clear HDs HDn HI hd
          obtain ⟨y0, y1, y2⟩ := HQ.out wr (Below.refl _ _)
          go_wp2_with fail
          refine (HFs.out _ (Below.refl _ _)).mono ?_
          rintro e w5 ⟨rfl, hd5⟩
          have HB5 : Hid (Below wr.heap.size wr w5) := Lib.hid (by obtain ⟨d, hd⟩ := hd5; rw [hd]; exact bdrew _ _)
          obtain ⟨z0, z1, z2⟩ := HQ.out w5 HB5.out
          clear hd5 y0 y1 y2
          go_wp2_with fail
          go_ret2
          rw [← HF.out]
          exact ⟨_, rfl, ownz_below HD.out.oi HB5.out (Nat.le_refl _), HD.out.bel.trans (HB5.out.mono HD.out.bel.size)⟩
  · have hok' : dueOk s now = false := by cases h : dueOk s now with | true => exact absurd h hok | false => rfl
    have e2 : dueV s now = [] := by unfold dueV; rw [hok']; rfl
    rw [hok', e2]
    cases hs : tsOk s with
    | false =>
      rw [hs] at HGd
      clear hok hok' e2 hs
      go_enter Try.func21, Try.ntmps21
      go_upto_region 2 with fail
      rw [← HW1.out, ← HR.out]
      go_wp2_with fail
      refine HGd.out.mono ?_
      rintro e w2 ⟨rfl, l2⟩
      have HB2 := Lib.hid (HB1.out.trans (l2.mono HB1.out.size))
      have HO2 := Lib.hid (ownz_below HO1.out l2 (Nat.le_refl _))
      clear l2
      go_wp2_with fail
      go_ret2
      exact ⟨_, rfl, HO2.out, HB2.out⟩
    | true =>
      have ht : tk now = false := by
        cases h : tk now with
        | false => rfl
        | true => exact absurd (by unfold dueOk; rw [hs, h]; rfl) hok
      rw [hs] at HGd
      rw [ht] at HTk
      clear hok hok' e2 hs ht
      go_enter Try.func21, Try.ntmps21
      go_upto_region 2 with fail
      rw [← HW1.out, ← HR.out]
      go_wp2_with fail
      refine HGd.out.mono ?_
      rintro e w2 ⟨rfl, l2⟩
      have HB2 := Lib.hid (HB1.out.trans (l2.mono HB1.out.size))
      have HO2 := Lib.hid (ownz_below HO1.out l2 (Nat.le_refl _))
      clear l2
      go_wp2_with fail
      refine (HTk.out _).mono ?_
      rintro e w3 ⟨rfl, rfl⟩
      go_wp2_with fail
      go_ret2
      exact ⟨_, rfl, HO2.out, HB2.out⟩
set_option maxRecDepth 100000 in
set_option maxHeartbeats 4000000 in
theorem specRun_any (v : Value) (s : List Tm) (now : Int) (w : World) (hrow : Row w v s.length (tmF s)) (hfit : Fit v s.length) :
    Calls Try.prog 17 #[v, .int .i64 now] w fun e w' => ∃ v1 v2, e = .returned (.tuple #[v1, v2, .bool (runOk s now)]) ∧ w'.ownsRow w.heap.size 42 3 v1 (runV s now).length (tmF (runV s now)) ∧ w'.ownsRow w.heap.size 3 1 v2 (runF s now).length ((runF s now).map (Value.int .i64)) ∧ (∀ k, v1.ownBlock = some k → v2.ownBlock ≠ some k) ∧ Below w.heap.size w w' := by
  obtain ⟨i0, hi, hz0, hz1, hz2⟩ := info_parts infoT
  obtain ⟨j0, hj, hy0, hy1, hy2⟩ := info_parts infoInt
  have HRow := Lib.hid (fun (W : World) (hb : Below w.heap.size w W) => hrow.below hb (Nat.le_refl _))
  obtain ⟨W1, hW1⟩ : ∃ W1, W1 = w.alloc (.cells #[] 3) := ⟨_, rfl⟩
  have HB1 : Hid (Below w.heap.size w W1) := Lib.hid (by rw [hW1]; exact (Below.refl w.heap.size w).alloc (Nat.le_refl _) _)
  obtain ⟨R, hR⟩ : ∃ R, R = w.heap.size := ⟨_, rfl⟩
  have HO1 : Hid (W1.ownsRow w.heap.size 3 1 (.slice (some ⟨R, 0, none⟩) 0 0) 0 []) := Lib.hid (by rw [hW1, hR]; exact litz w w.heap.size 3 1 (Nat.le_refl _))
  have HW1 := Lib.hid hW1
  have HR := Lib.hid hR
  have HTk := Lib.hid (l8Tick_any now)
  obtain ⟨a, cap, rfl, _, _, _⟩ := tm_open hrow
  have HFit := Lib.hid hfit
  clear hW1 hR hrow hfit
  have HGd := Lib.hid (l8Good_any (.slice a s.length cap) s W1 (HRow.out _ HB1.out))
  by_cases hok : dueOk s now = true
  · have hv : tsOk s = true ∧ tk now = true := by unfold dueOk at hok; exact Bool.and_eq_true_iff.1 hok
    have HI0 := Lib.hid (runI_start hok)
    obtain ⟨gb, hgb⟩ : ∃ g, g = runOk s now := ⟨_, rfl⟩
    obtain ⟨gv, hgv⟩ : ∃ g, g = runV s now := ⟨_, rfl⟩
    obtain ⟨gf, hgf⟩ : ∃ g, g = runF s now := ⟨_, rfl⟩
    rw [← hgb, ← hgv, ← hgf]
    have HEnd : Hid (∀ ys fs, RunI s now ys fs → isDue ys now = false → gb = true ∧ gv = ys ∧ gf = fs) := Lib.hid (fun ys fs h hd => by rw [hgb, hgv, hgf]; exact runI_end h hd)
    have HBad : Hid (∀ ys fs, RunI s now ys fs → isDue ys now = true → fs.length = 50 → gb = false ∧ gv = [] ∧ gf = []) := Lib.hid (fun ys fs h hd hl => by rw [hgb, hgv, hgf]; exact runI_fail h hd hl)
    clear hgb hgv hgf
    rw [hv.1] at HGd
    rw [hv.2] at HTk
    have HV := Lib.hid hv.1
    have hn10 := tsOk_len hv.1
    have HL := Lib.hid (tmF_len s)
    clear hok hv
    go_enter Try.func17, Try.ntmps17
    go_upto_region 2 with fail
    rw [← HW1.out, ← HR.out]
    go_wp2_with fail
    refine HGd.out.mono ?_
    rintro e w2 ⟨rfl, l2⟩
    have HB2 := Lib.hid (HB1.out.trans (l2.mono HB1.out.size))
    have HO2 := Lib.hid (ownz_below HO1.out l2 (Nat.le_refl _))
    clear l2
    go_wp2_with fail
    refine (HTk.out _).mono ?_
    rintro e w3 ⟨rfl, rfl⟩
    have HOt := Lib.hid (litz w2 w2.heap.size 42 3 (Nat.le_refl _))
    have HRs := Lib.hid (HRow.out (w2.alloc (.cells #[] 42)) (b_a HB2.out _))
    go_wp2_with (at_builtin; refine wpList_append_fit _ rfl _ _ 24 rfl w2.heap.size 42 i0 (.agg #[.int .i64 0, .int .i64 0, .int .i64 0]) 3 24 Try.underlying24 hi hz0 hz1 hz2 rfl (by decide) _ 0 [] rfl HOt.out _ s.length (tmF s) rfl HFit.out HL.out HRs.out (tmF_one s) (by unfold maxLen; omega) (by omega) (by simp) ?_; intro v1 w4 hown1 hgrow1; have hb4 : Below w2.heap.size w2 w4 := ((Below.refl w2.heap.size w2).alloc (Nat.le_refl _) _).grown hgrow1 (by simp) (fun k hk => by have e : w2.heap.size = k := Option.some.inj hk; omega); rw [Nat.zero_add, List.nil_append] at hown1; obtain ⟨at1, ct1, rfl, _, _⟩ := ownz_slice hown1; have HD := Lib.hid (DuT.start HO2.out HB2.out hown1 hb4); clear hown1 hgrow1 hb4)
    go_loopw [7, 8] (fun z u wr => ∃ ai ci at5 ct5, ∃ ids : List Int, ∃ zs : List Tm, z = .slice ai ids.length ci ∧ u = .slice at5 zs.length ct5 ∧ Hid (DuT w wr (.slice ai ids.length ci) ids (.slice at5 zs.length ct5) zs) ∧ Hid (RunI s now zs ids)) (fun z _ _ => 50 - lenV z)
    case atStart => exact ⟨_, _, _, _, [], s, rfl, rfl, HD, HI0⟩
    case round =>
      clear HD HO2 HOt HRs
      obtain ⟨ai, ci, at5, ct5, ids, zs, rfl, rfl, HD, HI⟩ := hrel
      have hl50 := runI_len HI.out
      by_cases hne : zs = []
      · have HF := Lib.hid (HEnd.out zs ids HI.out (by rw [hne]; rfl))
        subst hne
        go_wp2_with fail
        go_ret3
        rw [HF.out.1, HF.out.2.1, HF.out.2.2]
        exact ⟨_, _, rfl, HD.out.ot, HD.out.oi, fun k h1 h2 => HD.out.ap k h2 h1, HD.out.bel⟩
      · have hpos : 0 < zs.length := List.length_pos_iff.2 hne
        have hlt := fst_lt hne
        have e1 : fstT zs = zs[fstI zs] := by unfold fstT; rw [getD_at hlt]
        obtain ⟨k, hkl, hkF, e3⟩ : ∃ k, ∃ h : k < zs.length, fstI zs = k ∧ fstT zs = zs[k] := ⟨_, hlt, rfl, e1⟩
        obtain ⟨b, off, rfl, hq⟩ := HD.out.first hkl
        have HFs := Lib.hid (fun (W : World) (hb : Below wr.heap.size wr W) => l8First_any (.slice (some ⟨b, off, none⟩) zs.length ct5) zs W ((rowz_own HD.out.ot).below hb (Nat.le_refl _)) hne)
        rw [hkF] at HFs
        have HDb := Lib.hid (fun (h : isDue zs now = true) => HBad.out zs ids HI.out h)
        have HDs := Lib.hid (fun (h : isDue zs now = true) => runI_step HI.out h)
        have HDn := Lib.hid (fun (h : isDue zs now = false) => HEnd.out zs ids HI.out h)
        have hid : isDue zs now = decide (zs[k].d ≤ now) := by
          unfold isDue; rw [e3]; cases zs with | nil => exact absurd rfl hne | cons _ _ => rfl
        rw [hid] at HDs HDn HDb
        rw [e3] at HDs
        have hvz := HI.out.1
        have hz10 := tsOk_len hvz
        have HFi := Lib.hid (fun (W : World) (hr : Row W (.slice (some ⟨b, off, none⟩) zs.length ct5) zs.length (tmF zs)) => l8Fire_any (.slice (some ⟨b, off, none⟩) zs.length ct5) zs k W hr hkl hvz)
        generalize fireT zs zs[k] = ps at HDs HFi
        generalize zs[k] = t at hq HDs HDn HDb
        clear hvz
        obtain ⟨m, hm⟩ : ∃ m, m = zs.length := ⟨_, rfl⟩
        have hkm : (k : Int) < (m : Int) := by omega
        have hpm : (0 : Int) < (m : Int) := by omega
        have HQ := Lib.hid hq
        have HM := Lib.hid hm
        rw [← hm] at hz10 HFs HFi HD ⊢
        clear hq hne hpos hlt e1 hkl hkF e3 hid hm
        by_cases hd : t.d ≤ now
        · have hd' : decide (t.d ≤ now) = true := decide_eq_true hd
          obtain ⟨nf, hnf⟩ : ∃ nf, nf = ids.length := ⟨_, rfl⟩
          by_cases h50 : nf = 50
          · have HF := Lib.hid (HDb.out hd' (hnf.symm.trans h50))
            clear HDs HDn HDb HI hd HFi
            obtain ⟨y0, y1, y2⟩ := HQ.out wr (Below.refl _ _)
            have hIl : ids.length = 50 := hnf.symm.trans h50
            rw [hIl] at HD ⊢
            clear hnf h50 hIl nf
            go_wp2_with fail
            refine (HFs.out _ (Below.refl _ _)).mono ?_
            rintro e w5 ⟨rfl, hd5⟩
            have HB5 : Hid (Below wr.heap.size wr w5) := Lib.hid (by obtain ⟨d, hd⟩ := hd5; rw [hd]; exact bdrew _ _)
            obtain ⟨z0, z1, z2⟩ := HQ.out w5 HB5.out
            clear hd5 y0 y1 y2
            go_wp2_with fail
            go_ret3
            rw [HF.out.1, HF.out.2.1, HF.out.2.2]
            have hb := HD.out.bel.trans (HB5.out.mono HD.out.bel.size)
            refine ⟨_, _, rfl, ownz_below (ownz_base (none_own w5) hb.size) ((Below.refl _ _).alloc (Nat.le_refl _) _) (Nat.le_refl _), ?_, ?_, b_a (b_a hb _) _⟩
            · have h := litz (w5.alloc (.cells #[] 42)) w.heap.size 3 1 (by have := hb.size; simp; omega)
              simpa using h
            · intro k h1 h2
              have e1 : w5.heap.size = k := Option.some.inj h1
              have e2 : w5.heap.size + 1 = k := Option.some.inj h2
              omega
          · have h50' : ((nf : Int) == 50) = false := by simp; omega
            have HI2 := Lib.hid (HDs.out hd' (fun e => h50 (hnf.trans e)))
            have HNf := Lib.hid hnf
            clear HDs HDn HDb HI hd
            obtain ⟨y0, y1, y2⟩ := HQ.out wr (Below.refl _ _)
            rw [← hnf] at HD hl50 ⊢
            clear hnf
            go_wp2_with fail
            refine (HFs.out _ (Below.refl _ _)).mono ?_
            rintro e w5 ⟨rfl, hd5⟩
            have HB5 : Hid (Below wr.heap.size wr w5) := Lib.hid (by obtain ⟨d, hd⟩ := hd5; rw [hd]; exact bdrew _ _)
            obtain ⟨z0, z1, z2⟩ := HQ.out w5 HB5.out
            clear hd5 y0 y1 y2
            go_wp2_with fail
            refine (HFs.out _ HB5.out).mono ?_
            rintro e w6 ⟨rfl, hd6⟩
            have HB6 : Hid (Below wr.heap.size wr w6) := Lib.hid (by obtain ⟨d, hd⟩ := hd6; rw [hd]; exact b_d HB5.out d)
            obtain ⟨y0, y1, y2⟩ := HQ.out w6 HB6.out
            have HD6 := Lib.hid ((DuT.below (ids := ids) (zs := zs) (by have h := HD.out; rw [HM.out, HNf.out] at h; exact h) HB6.out : DuT w w6 (.slice ai ids.length ci) ids (.slice (some ⟨b, off, none⟩) zs.length ct5) zs).alloc (.cells #[.int .i64 t.i] 3))
            rw [← HNf.out] at HD6
            have HLi := Lib.hid (row_int1 w6 t.i)
            have HLn : Hid ((ids.map (Value.int .i64)).length = nf * 1) := Lib.hid (by rw [List.length_map, Nat.mul_one, HNf.out])
            clear hd6 z0 z1 z2 HB5
            go_wp2_with (at_builtin; refine wpList_append_own_at _ rfl _ _ 27 rfl w.heap.size 3 j0 (.int .i64 0) 1 8 Try.underlying27 hj hy0 hy1 hy2 rfl (by decide) _ nf (ids.map (Value.int .i64)) rfl (by have h := HD6.out.oi; rw [← HNf.out] at h; exact h) ⟨w6.heap.size, 0, none⟩ 1 1 [.int .i64 t.i] rfl rfl (row_news HLi.out) (one_int _) (by unfold maxLen; omega) (by omega) HD6.out.bel.size ?_; intro v' w7 hown' hgrow _ hblk; obtain ⟨ids5, hz5⟩ : ∃ z, z = ids ++ [t.i] := ⟨_, rfl⟩; have hs7 := HD6.out.app (by rw [← HNf.out]; exact hown') hgrow hblk; rw [← hz5] at hs7; obtain ⟨a7, c7, rfl, hs7⟩ := hs7; have HS7 := Lib.hid hs7; have HZ5 := Lib.hid hz5; clear hown' hgrow hs7 hz5 hblk)
            refine (HFi.out _ (by rw [HM.out]; exact rowz_own HS7.out.ot)).mono ?_
            rintro e w8 ⟨g8, c8, rfl, o8, l8⟩
            have HS8 := Lib.hid (HS7.out.newT o8 l8)
            clear o8 l8
            go_wp2_with fail
            go_roundw
            case rel => exact ⟨_, _, _, _, ids5, _, rfl, rfl, HS8, Lib.hid (by rw [HZ5.out]; exact HI2.out)⟩
            case measure => (have := HNf.out; rw [HZ5.out]; simp [lenV]; omega)
        · have hd' : decide (t.d ≤ now) = false := decide_eq_false hd
          have HF := Lib.hid (HDn.out hd')
          clear HDs HDn HDb HI hd
          obtain ⟨y0, y1, y2⟩ := HQ.out wr (Below.refl _ _)
          go_wp2_with fail
          refine (HFs.out _ (Below.refl _ _)).mono ?_
          rintro e w5 ⟨rfl, hd5⟩
          have HB5 : Hid (Below wr.heap.size wr w5) := Lib.hid (by obtain ⟨d, hd⟩ := hd5; rw [hd]; exact bdrew _ _)
          obtain ⟨z0, z1, z2⟩ := HQ.out w5 HB5.out
          clear hd5 y0 y1 y2
          go_wp2_with fail
          go_ret3
          rw [HF.out.1, HF.out.2.1, HF.out.2.2]
          have h9 : DuT w w5 (.slice ai ids.length ci) ids (.slice (some ⟨b, off, none⟩) m ct5) zs := HD.out.below HB5.out
          exact ⟨_, _, rfl, by have h := h9.ot; rw [← HM.out] at h ⊢; exact h, h9.oi, fun k h1 h2 => h9.ap k h2 h1, h9.bel⟩
  · have hok' : dueOk s now = false := by cases h : dueOk s now with | true => exact absurd h hok | false => rfl
    obtain ⟨e1, e2, e3⟩ := run_none hok'
    rw [e1, e2, e3]
    cases hs : tsOk s with
    | false =>
      rw [hs] at HGd
      clear hok hok' e1 e2 e3 hs
      go_enter Try.func17, Try.ntmps17
      go_upto_region 2 with fail
      rw [← HW1.out, ← HR.out]
      go_wp2_with fail
      refine HGd.out.mono ?_
      rintro e w2 ⟨rfl, l2⟩
      have HB2 := Lib.hid (HB1.out.trans (l2.mono HB1.out.size))
      have HO2 := Lib.hid (ownz_below HO1.out l2 (Nat.le_refl _))
      clear l2
      go_wp2_with fail
      go_ret3
      refine ⟨_, _, rfl, ownz_base (none_own w2) HB2.out.size, ownz_below HO2.out ((Below.refl _ _).alloc (Nat.le_refl _) _) (Nat.le_refl _), fun k h1 h2 => ?_, b_a HB2.out _⟩
      have e1 : w2.heap.size = k := Option.some.inj h1
      have := (HO2.out.lt k h2).2
      omega
    | true =>
      have ht : tk now = false := by
        cases h : tk now with
        | false => rfl
        | true => exact absurd (by unfold dueOk; rw [hs, h]; rfl) hok
      rw [hs] at HGd
      rw [ht] at HTk
      clear hok hok' e1 e2 e3 hs ht
      go_enter Try.func17, Try.ntmps17
      go_upto_region 2 with fail
      rw [← HW1.out, ← HR.out]
      go_wp2_with fail
      refine HGd.out.mono ?_
      rintro e w2 ⟨rfl, l2⟩
      have HB2 := Lib.hid (HB1.out.trans (l2.mono HB1.out.size))
      have HO2 := Lib.hid (ownz_below HO1.out l2 (Nat.le_refl _))
      clear l2
      go_wp2_with fail
      refine (HTk.out _).mono ?_
      rintro e w3 ⟨rfl, rfl⟩
      go_wp2_with fail
      go_ret3
      refine ⟨_, _, rfl, ownz_base (none_own w2) HB2.out.size, ownz_below HO2.out ((Below.refl _ _).alloc (Nat.le_refl _) _) (Nat.le_refl _), fun k h1 h2 => ?_, b_a HB2.out _⟩
      have e1 : w2.heap.size = k := Option.some.inj h1
      have := (HO2.out.lt k h2).2
      omega
end Go.Proofs.Ytoehedogdbafpaa
