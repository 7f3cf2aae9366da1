/-
  Timers, the program's way: FireTimer, TicksUntil.
-/
import Derived.Test.YtoehedogdbafpaaTimI3
namespace Go.Proofs.Ytoehedogdbafpaa
open Go.RowKit Go.Lib Go.Joins
set_option linter.unusedVariables false

theorem fire_stop {s : List Tm} {x : Int} {t : Tm} (h : stopOk s x = true) (ht : s.getD (fndN s x).toNat tm0 = t) (hi : t.i = x) (hc : t.p = 0 ∨ 10000 < t.d + t.p) : fireV s x = stopV s x := by
  unfold fireV stopV
  rw [h, if_pos rfl, if_pos rfl, ht]
  unfold fireT
  rw [if_pos hc, hi]
theorem fire_set {s : List Tm} {x : Int} {t : Tm} (h : stopOk s x = true) (ht : s.getD (fndN s x).toNat tm0 = t) (hi : t.i = x) (hc : ¬ (t.p = 0 ∨ 10000 < t.d + t.p)) : fireV s x = setV s ⟨t.i, t.d + t.p, t.p⟩ ∧ setOk s ⟨t.i, t.d + t.p, t.p⟩ = true := by
  obtain ⟨h1, h2⟩ := stopOk_iff.1 h
  obtain ⟨g1, g2⟩ := fnd_get s h2
  rw [ht] at g1 g2
  have htv := tmOk_iff.1 ((tsOk_iff.1 h1).1 t g1)
  have hp := put_ok h1 (t := ⟨t.i, t.d + t.p, t.p⟩) (tmOk_iff.2 ⟨htv.1, by dsimp only; omega, htv.2.2⟩) g1 rfl
  have hs : setOk s ⟨t.i, t.d + t.p, t.p⟩ = true := by unfold setOk; rw [h1, hp]; rfl
  refine ⟨?_, hs⟩
  unfold fireV setV
  rw [h, if_pos rfl, hs, if_pos rfl, ht]
  unfold fireT
  rw [if_neg hc]
set_option maxRecDepth 100000 in
set_option maxHeartbeats 1500000 in
theorem implFireT_any (v : Value) (s : List Tm) (x : Int) (w : World) (hrow : Row w v s.length (tmF s)) :
    Calls Try.prog 35 #[v, .int .i64 x] w fun e w' => ∃ v', e = .returned (.tuple #[v', .bool (stopOk s x)]) ∧ w'.ownsRow w.heap.size 42 3 v' (fireV s x).length (tmF (fireV s x)) ∧ Below w.heap.size w w' := by
  have HRow := Lib.hid (fun (W : World) (hb : Below w.heap.size w W) => hrow.below hb (Nat.le_refl _))
  have HFd := Lib.hid (findT_any v s x w hrow)
  obtain ⟨a, cap, rfl, hcn, hcm, hcell⟩ := tm_open hrow
  unfold maxLen at hcm
  cases hs : stopOk s x with
  | false =>
    have e2 : fireV s x = [] := by unfold fireV; rw [hs]; rfl
    rw [e2]
    rw [hs] at HFd
    clear e2 hs hrow hcell
    generalize fpl s x = r at HFd
    go_enter Try.func35, Try.ntmps35
    go_wp2_with fail
    refine HFd.out.mono ?_
    rintro e w2 ⟨rfl, l2⟩
    go_wp2_with fail
    go_ret2
    exact ⟨_, rfl, ownz_base (none_own w2) l2.size, b_a l2 _⟩
  | true =>
    have hv : tsOk s = true := (stopOk_iff.1 hs).1
    have hfd : fnd s x = true := by rw [← stopOk_fnd hv]; exact hs
    obtain ⟨hpl, hpe⟩ := fnd_yes hfd
    have e3 : fpl s x = (plc s x : Int) := by unfold fpl; rw [hv]; rfl
    obtain ⟨b, off, rfl, hb, q0, q1, q2⟩ := hcell _ hpl
    have ht : s.getD (fndN s x).toNat tm0 = s[plc s x] := by rw [fnd_fndN (tsOk_iff.1 hv).2.1 x, hfd, if_pos rfl, Int.toNat_natCast, getD_at hpl]
    have hto := tmOk_iff.1 ((tsOk_iff.1 hv).1 _ (List.getElem_mem hpl))
    have HStop := Lib.hid (fun (W : World) (hb : Below w.heap.size w W) => implStopT_any (.slice (some ⟨b, off, none⟩) s.length cap) s x W (HRow.out _ hb))
    have HSet := Lib.hid (fun (W : World) (hb : Below w.heap.size w W) (u : Tm) => implSetT_any b off cap s u W (HRow.out _ hb))
    have HFs := Lib.hid (fun h => @fire_stop s x _ hs ht hpe h)
    have HFt := Lib.hid (fun h => @fire_set s x _ hs ht hpe h)
    obtain ⟨k, hk⟩ : ∃ k, k = plc s x := ⟨_, rfl⟩
    have hkl : k < s.length := by rw [hk]; exact hpl
    have hkI : (k : Int) < (s.length : Int) := by omega
    rw [hs] at HStop
    generalize s[plc s x] = t at q0 q1 q2 hpe ht hto HFs HFt
    rw [← hk] at q0 q1 q2 e3
    rw [hs, e3] at HFd
    have HQ := Lib.hid (fun (W : World) (h : Below w.heap.size w W) => And.intro ((h.cell (p := ⟨b, off + k * 3, none⟩) hb).trans q0) (And.intro ((h.cell (p := ⟨b, off + k * 3 + 1, none⟩) hb).trans q1) ((h.cell (p := ⟨b, off + k * 3 + 2, none⟩) hb).trans q2)))
    obtain ⟨n, hN⟩ : ∃ n, n = s.length := ⟨_, rfl⟩
    rw [← hN] at hcn hkI HFd HStop HSet ⊢
    have hw1 : IntKind.i64.wrap (t.d + t.p) = t.d + t.p := IntWalk.i64_in _ (by omega)
    have HTk := Lib.hid (isTick_any (t.d + t.p))
    have htk : tk (t.d + t.p) = !decide (10000 < t.d + t.p) := by
      by_cases hg : 10000 < t.d + t.p
      · rw [decide_eq_true hg, tk_no (fun h => by omega)]; rfl
      · rw [decide_eq_false hg, tk_iff.2 ⟨by omega, by omega⟩]; rfl
    rw [htk] at HTk
    obtain ⟨fv, hfv⟩ : ∃ f, f = fireV s x := ⟨_, rfl⟩
    rw [← hfv] at HFs HFt ⊢
    clear hs hv hfd e3 ht hcell hrow hk hkl hpl hpe hto htk hfv hN q0 q1 q2
    by_cases hp : t.p = 0
    · have hp' : (t.p == 0) = true := by simp [hp]
      have HF := Lib.hid (HFs.out (.inl hp))
      clear HFs HFt hp
      go_enter Try.func35, Try.ntmps35
      go_wp2_with fail
      refine HFd.out.mono ?_
      rintro e w2 ⟨rfl, l2⟩
      have HB2 := Lib.hid l2
      obtain ⟨y0, y1, y2⟩ := HQ.out w2 l2
      clear l2
      go_wp2_with fail
      refine (HStop.out _ (by first | exact b_a HB2.out _ | exact (HB2.out.alloc HB2.out.size _))).mono ?_
      rintro e w3 ⟨v3, rfl, o3, l3⟩
      have hb3 := HB2.out.alloc HB2.out.size (.cells #[.int .i64 t.i, .int .i64 (t.d + t.p), .int .i64 t.p] 42)
      have HO := Lib.hid (ownz_base o3 hb3.size)
      have HB3 := Lib.hid (hb3.trans (l3.mono hb3.size))
      clear o3 l3 hb3 y0 y1 y2
      go_wp2_with fail
      go_ret2
      rw [HF.out]
      exact ⟨_, rfl, HO.out, HB3.out⟩
    · have hp' : (t.p == 0) = false := by simp [hp]
      by_cases hg : 10000 < t.d + t.p
      · have HF := Lib.hid (HFs.out (.inr hg))
        rw [decide_eq_true hg] at HTk
        clear HFs HFt hp
        go_enter Try.func35, Try.ntmps35
        go_wp2_with fail
        refine HFd.out.mono ?_
        rintro e w2 ⟨rfl, l2⟩
        have HB2 := Lib.hid l2
        obtain ⟨y0, y1, y2⟩ := HQ.out w2 l2
        clear l2
        go_wp2_with fail
        refine (HTk.out _).mono ?_
        rintro e w4 ⟨rfl, rfl⟩
        go_wp2_with fail
        refine (HStop.out _ (by first | exact b_a HB2.out _ | exact (HB2.out.alloc HB2.out.size _))).mono ?_
        rintro e w3 ⟨v3, rfl, o3, l3⟩
        have hb3 := HB2.out.alloc HB2.out.size (.cells #[.int .i64 t.i, .int .i64 (t.d + t.p), .int .i64 t.p] 42)
        have HO := Lib.hid (ownz_base o3 hb3.size)
        have HB3 := Lib.hid (hb3.trans (l3.mono hb3.size))
        clear o3 l3 hb3 y0 y1 y2
        go_wp2_with fail
        go_ret2
        rw [HF.out]
        exact ⟨_, rfl, HO.out, HB3.out⟩
      · obtain ⟨hF1, hF2⟩ := HFt.out (fun h => h.elim hp hg)
        have HF := Lib.hid hF1
        have HSt := Lib.hid (fun (W : World) (hb : Below w.heap.size w W) => HSet.out W hb ⟨t.i, t.d + t.p, t.p⟩)
        rw [hF2] at HSt
        rw [decide_eq_false hg] at HTk
        clear HFs HFt hp hF1 hF2 HSet
        go_enter Try.func35, Try.ntmps35
        go_wp2_with fail
        refine HFd.out.mono ?_
        rintro e w2 ⟨rfl, l2⟩
        have HB2 := Lib.hid l2
        obtain ⟨y0, y1, y2⟩ := HQ.out w2 l2
        clear l2
        go_wp2_with fail
        refine (HTk.out _).mono ?_
        rintro e w4 ⟨rfl, rfl⟩
        go_wp2_with fail
        refine (HSt.out _ (by first | exact b_a HB2.out _ | exact (HB2.out.alloc HB2.out.size _))).mono ?_
        rintro e w3 ⟨v3, rfl, o3, l3⟩
        have hb3 := HB2.out.alloc HB2.out.size (.cells #[.int .i64 t.i, .int .i64 (t.d + t.p), .int .i64 t.p] 42)
        have HO := Lib.hid (ownz_base o3 hb3.size)
        have HB3 := Lib.hid (hb3.trans (l3.mono hb3.size))
        clear o3 l3 hb3 y0 y1 y2
        go_wp2_with fail
        go_ret2
        rw [HF.out]
        exact ⟨_, rfl, HO.out, HB3.out⟩
set_option maxRecDepth 100000 in
set_option maxHeartbeats 1500000 in
theorem implTicks_any (v : Value) (s : List Tm) (x now : Int) (w : World) (hrow : Row w v s.length (tmF s)) :
    Calls Try.prog 33 #[v, .int .i64 x, .int .i64 now] w fun e w' => e = .returned (.tuple #[.int .i64 (tickV s x now), .bool (tickOk s x now)]) ∧ Below w.heap.size w w' := by
  have HFd := Lib.hid (findT_any v s x w hrow)
  have HTk := Lib.hid (isTick_any now)
  obtain ⟨a, cap, rfl, hcn, hcm, hcell⟩ := tm_open hrow
  unfold maxLen at hcm
  have key : ∀ (b : Bool), tickOk s x now = b → b = false → tickV s x now = 0 := fun b h1 h2 => by unfold tickV; rw [h1, h2]; rfl
  cases hs : stopOk s x with
  | false =>
    have e1 : tickOk s x now = false := by unfold tickOk; rw [hs]; rfl
    rw [key _ e1 rfl, e1]
    rw [hs] at HFd
    clear e1 hs key hrow hcell
    generalize fpl s x = r at HFd
    go_enter Try.func33, Try.ntmps33
    go_wp2_with fail
    refine HFd.out.mono ?_
    rintro e w2 ⟨rfl, l2⟩
    go_wp2_with fail
    go_ret2
    exact ⟨rfl, l2⟩
  | true =>
    have hv : tsOk s = true := (stopOk_iff.1 hs).1
    have hfd : fnd s x = true := by rw [← stopOk_fnd hv]; exact hs
    obtain ⟨hpl, hpe⟩ := fnd_yes hfd
    have e3 : fpl s x = (plc s x : Int) := by unfold fpl; rw [hv]; rfl
    cases hn : tk now with
    | false =>
      have e1 : tickOk s x now = false := by unfold tickOk; rw [hs, hn]; rfl
      rw [key _ e1 rfl, e1]
      rw [hs] at HFd
      rw [hn] at HTk
      clear e1 hs key hrow hcell hv hfd hpl hpe e3 hn
      generalize fpl s x = r at HFd
      go_enter Try.func33, Try.ntmps33
      go_wp2_with fail
      refine HFd.out.mono ?_
      rintro e w2 ⟨rfl, l2⟩
      have HB2 := Lib.hid l2
      clear l2
      go_wp2_with fail
      refine (HTk.out _).mono ?_
      rintro e w3 ⟨rfl, rfl⟩
      go_wp2_with fail
      go_ret2
      exact ⟨rfl, HB2.out⟩
    | true =>
      have e1 : tickOk s x now = true := by unfold tickOk; rw [hs, hn]; rfl
      have ht : s.getD (fndN s x).toNat tm0 = s[plc s x] := by rw [fnd_fndN (tsOk_iff.1 hv).2.1 x, hfd, if_pos rfl, Int.toNat_natCast, getD_at hpl]
      have e2 : tickV s x now = max 0 (s[plc s x].d - now) := by unfold tickV; rw [e1, if_pos rfl, ht]
      obtain ⟨b, off, rfl, hb, q0, q1, q2⟩ := hcell _ hpl
      have hnb := tk_iff.1 hn
      have hdb := (tmOk_iff.1 ((tsOk_iff.1 hv).1 _ (List.getElem_mem hpl))).2.1
      rw [e1, e2]
      generalize s[plc s x].d = d at q1 hdb ⊢
      obtain ⟨k, hk⟩ : ∃ k, k = plc s x := ⟨_, rfl⟩
      have hkI : (k : Int) < (s.length : Int) := by omega
      rw [← hk] at e3 q1
      rw [hs, e3] at HFd
      rw [hn] at HTk
      have hw : IntKind.i64.wrap (d - now) = d - now := IntWalk.i64_in _ (by omega)
      have hmx : max (d - now) 0 = max 0 (d - now) := by omega
      have HQ := Lib.hid (fun (W : World) (h : Below w.heap.size w W) => (h.cell (p := ⟨b, off + k * 3 + 1, none⟩) hb).trans q1)
      have HMx := Lib.hid hmx
      clear e1 e2 hs key hrow hcell hv hfd hpl hpe e3 hn ht q0 q1 q2 hk hmx
      go_enter Try.func33, Try.ntmps33
      go_wp2_with fail
      refine HFd.out.mono ?_
      rintro e w2 ⟨rfl, l2⟩
      have HB2 := Lib.hid l2
      have y1 := HQ.out _ l2
      clear l2
      go_wp2_with fail
      refine (HTk.out _).mono ?_
      rintro e w3 ⟨rfl, rfl⟩
      go_wp2_with fail
      go_ret2
      exact ⟨by rw [← HMx.out]; rfl, HB2.out⟩
end Go.Proofs.Ytoehedogdbafpaa
