/-
  Packets of the program: 'ParsePacketLine'.
-/
import Derived.Test.YtncjplcefdeckaaGreatDoorParseL
import Derived.Test.YtncjplcefdeckaaGreatDoorDec2
import Derived.Test.YtncjplcefdeckaaGreatDoorPLine
namespace Go.Proofs.YtncjplcefdeckaaGreatDoor
open Go.RowKit Go.Lib Go.Joins
set_option linter.unusedVariables false

theorem parV_no {s : ByteArray} (h : parB s = false) : parV s = pv 0 0 0 0 ⟨#[]⟩ := by
  have hp : parP s = (0, 0, 0, 0, ⟨#[]⟩) := (par_no (fun p hp => by
    obtain ⟨k, n, t, l, d⟩ := p
    rw [(par_yes hp).1] at h
    cases h)).2
  unfold parV
  rw [hp]
theorem parV_kind (s : ByteArray) (h : parB s = true) : ∃ k n t l d, parV s = pv k n t l d ∧ 1 ≤ k := ⟨_, _, _, _, _, rfl, (pktOk_bd (par_is h).1).1.1⟩
/-- What the line's reader keeps. -/
theorem keep_line {s d : ByteArray} {k n t l : Int} (hf : fldsL s k n t l d) : keepV k n t l d s (lineV k n t l d) (pktOk k n t l d) = parV s := by
  cases h : parB s with
  | true =>
    have hi := par_is h
    unfold parV
    generalize parP s = P at hi ⊢
    obtain ⟨k', n', t', l', d'⟩ := P
    obtain ⟨rfl, rfl, rfl, rfl, rfl⟩ := hf _ _ _ _ _ hi
    exact keepV_yes hi.1 (by rw [lineV_yes hi.1]; exact hi.2)
  | false =>
    rw [parV_no h]
    cases hp : pktOk k n t l d with
    | false => exact keepV_no rfl
    | true =>
      refine keepV_ne (fun e => ?_)
      rw [lineV_yes hp] at e
      have := (par_yes (s := s) (k := k) (n := n) (t := t) (l := l) (d := d) ⟨hp, e⟩).1
      rw [h] at this
      cases this
set_option maxHeartbeats 1000000 in
theorem keepLine_any (k n t l : Int) (d s tx : ByteArray) (ok : Bool) (w : World)
    (HW : ∀ wx, Below w.heap.size w wx → Calls Tryz.prog 6 #[pv k n t l d] wx fun e w' => e = .returned (.tuple #[.string tx, .bool ok]) ∧ Below wx.heap.size wx w') :
    Calls Tryz.prog 20 #[pv k n t l d, .string s, .func (.func 6) #[] #[]] w fun e w' => e = .returned (keepV k n t l d s tx ok) ∧ Below w.heap.size w w' := by
  obtain ⟨W0, hW0⟩ : ∃ W0, W0 = (w.alloc (.cells #[.int .i64 k, .int .i64 n, .int .i64 t, .int .i64 l, .string d] 25)).alloc (.cells #[.int .i64 0, .int .i64 0, .int .i64 0, .int .i64 0, .string ⟨#[]⟩] 25) := ⟨_, rfl⟩
  have HA0 : Hid (Pb W0 w.heap.size k n t l d) := Lib.hid (by rw [hW0]; exact heap_alloc2_old w _ _)
  have HR0 : Hid (Pb W0 (w.heap.size + 1) 0 0 0 0 ⟨#[]⟩) := Lib.hid (by rw [hW0]; exact heap_alloc2_new w _ _)
  have HB0 : Hid (Below w.heap.size w W0) := Lib.hid (by rw [hW0]; exact ((Below.refl _ _).alloc (Nat.le_refl _) _).alloc (by simp) _)
  have HC := Lib.hid (HW W0 HB0.out)
  have HW0 := Lib.hid hW0
  clear hW0 HW
  unfold pv at HC ⊢
  go_enter Tryz.func20, Tryz.ntmps20
  go_wp2_with fail
  rw [← HW0.out]
  refine HC.out.mono ?_
  rintro e W1 ⟨rfl, lW⟩
  have HB1 := Lib.hid (HB0.out.trans (lW.mono HB0.out.size))
  have HR1 := Lib.hid (HR0.out.below lW HR0.out.lt)
  have HA1 := Lib.hid (HA0.out.below lW HA0.out.lt)
  clear lW HA0 HR0 HB0 HW0 HC
  have f0 := HR1.out.free 0
  have f1 := HR1.out.free 1
  have f2 := HR1.out.free 2
  have f3 := HR1.out.free 3
  have f4 := HR1.out.free 4
  obtain ⟨r0, r1, r2, r3, r4⟩ := HR1.out.cells
  obtain ⟨a0, a1, a2, a3, a4⟩ := HA1.out.cells
  cases ok with
  | false =>
    go_wp2_with fail
    obtain ⟨hp1, hg1⟩ := HR1.out.store (k' := 0) (n' := 0) (t' := 0) (l' := 0) (d' := ⟨#[]⟩)
    refine bodyPost_ret (results_pkt1 rfl _ _ (w.heap.size + 1) rfl hp1) rfl ⟨by rw [keepV_no rfl], ?_⟩
    exact HB1.out.grown hg1 HB1.out.size (fun k hk => by have e : w.heap.size + 1 = k := Option.some.inj hk; omega)
  | true =>
    by_cases hes : tx = s
    · subst hes
      go_wp2_with fail
      obtain ⟨hp1, hg1⟩ := HR1.out.store (k' := k) (n' := n) (t' := t) (l' := l) (d' := d)
      refine bodyPost_ret (results_pkt1 rfl _ _ (w.heap.size + 1) rfl hp1) rfl ⟨by rw [keepV_yes rfl rfl], ?_⟩
      exact HB1.out.grown hg1 HB1.out.size (fun k hk => by have e : w.heap.size + 1 = k := Option.some.inj hk; omega)
    · have hne : (tx.toList == s.toList) = false := list_ne hes
      have HNe := Lib.hid hes
      clear hes
      go_wp2_with fail
      obtain ⟨hp1, hg1⟩ := HR1.out.store (k' := 0) (n' := 0) (t' := 0) (l' := 0) (d' := ⟨#[]⟩)
      refine bodyPost_ret (results_pkt1 rfl _ _ (w.heap.size + 1) rfl hp1) rfl ⟨by rw [keepV_ne HNe.out], ?_⟩
      exact HB1.out.grown hg1 HB1.out.size (fun k hk => by have e : w.heap.size + 1 = k := Option.some.inj hk; omega)
set_option maxRecDepth 100000 in
set_option maxHeartbeats 2000000 in
theorem implParseLine_any (s : ByteArray) (w : World) (hs : s.size ≤ 1048576) (hm : MLOk w) (ht : Tab w) (he : Errs w) (hw : Kw w) :
    Calls Tryz.prog 7 #[.string s] w fun e w' => e = .returned (.tuple #[parV s, .bool (parB s)]) ∧ Below w.heap.size w w' := by
  have HA := Lib.hid ((Below.refl w.heap.size w).alloc (Nat.le_refl _) (.cells #[.int .i64 0, .int .i64 0, .int .i64 0, .int .i64 0, .string ⟨#[]⟩] 25))
  have HC := Lib.hid (packetInLine_any s _ hs (hm.below HA.out) (ht.below HA.out) (he.below HA.out) (hw.below HA.out))
  have HR0 := Lib.hid (heap_new1 w 0 0 0 0 ⟨#[]⟩)
  have HT := Lib.hid ht
  have HW := Lib.hid hw
  have HKp := Lib.hid (fun (k n t l : Int) (d : ByteArray) (hd : d.size ≤ 1048576) (hf : fldsL s k n t l d) (W1 : World) (hb1 : Below w.heap.size w W1) => by
    have HK := keepLine_any k n t l d s (lineV k n t l d) (pktOk k n t l d) W1 (fun wx hx => implLine_any k n t l d wx (by unfold maxLen; omega) ((HT.out.below hb1).below hx) ((HW.out.below hb1).below hx))
    rw [keep_line hf] at HK
    exact HK)
  clear he hm ht hw HT HW
  cases hok : parB s with
  | true =>
    obtain ⟨k2, n2, t2, l2, d2, hv, hk2⟩ := parV_kind s hok
    rw [hv] at HKp ⊢
    have hk0 : (k2 == 0) = false := by simp; omega
    unfold pv at HKp ⊢
    clear hv hok
    go_enter Tryz.func7, Tryz.ntmps7
    go_wp2_with fail
    refine HC.out.mono ?_
    rintro e W1 ⟨k, n, t, l, d, rfl, hd, hf, l1⟩
    have HR1 := Lib.hid (HR0.out.below l1 HR0.out.lt)
    have HB1 := Lib.hid (HA.out.trans (l1.mono HA.out.size))
    have HK1 := Lib.hid (HKp.out k n t l d hd hf W1 HB1.out)
    clear hf hd l1 HC HA HR0 HKp
    unfold pv
    go_wp2_with fail
    refine HK1.out.mono ?_
    rintro e W2 ⟨rfl, lB⟩
    have HR2 := Lib.hid (HR1.out.below lB HR1.out.lt)
    have HB2 := Lib.hid (HB1.out.trans (lB.mono HB1.out.size))
    have hlt := HR2.out.lt
    clear lB HR1 HB1 HK1
    go_wp2_with fail
    obtain ⟨W3, hW3⟩ : ∃ W3, W3 = W2.alloc (.cells #[.int .i64 k2, .int .i64 n2, .int .i64 t2, .int .i64 l2, .string d2] 25) := ⟨_, rfl⟩
    have hb3 : Below W2.heap.size W2 W3 := by rw [hW3]; exact (Below.refl _ _).alloc (Nat.le_refl _) _
    have HQ3 : Hid (Pb W3 W2.heap.size k2 n2 t2 l2 d2) := Lib.hid (by rw [hW3]; exact heap_alloc_new W2 _)
    rw [← hW3]
    clear hW3
    have HR3 := Lib.hid (HR2.out.below hb3 HR2.out.lt)
    have HB3 := Lib.hid (HB2.out.trans (hb3.mono HB2.out.size))
    clear hb3 HR2 HB2
    obtain ⟨q, hq⟩ : ∃ q, q = W2.heap.size := ⟨_, rfl⟩
    rw [← hq] at HQ3 hlt ⊢
    clear hq
    have hqn : w.heap.size ≠ q := by omega
    have hqn2 : q ≠ w.heap.size := by omega
    obtain ⟨c0, c1, c2, c3, c4⟩ := HQ3.out.cells
    obtain ⟨r0, r1, r2, r3, r4⟩ := HR3.out.cells
    have f0 := HR3.out.free 0
    have f1 := HR3.out.free 1
    have f2 := HR3.out.free 2
    have f3 := HR3.out.free 3
    have f4 := HR3.out.free 4
    go_region_held3 (fun w' => w'.cell? ⟨q, 0, none⟩ = some (.int .i64 k2) ∧ w'.cell? ⟨q, 1, none⟩ = some (.int .i64 n2) ∧ w'.cell? ⟨q, 2, none⟩ = some (.int .i64 t2) ∧ w'.cell? ⟨q, 3, none⟩ = some (.int .i64 l2) ∧ w'.cell? ⟨q, 4, none⟩ = some (.string d2)) (go_keep) (fail)
    go_wp2_with fail
    obtain ⟨hp1, hg1⟩ := HR3.out.store (k' := k2) (n' := n2) (t' := t2) (l' := l2) (d' := d2)
    refine bodyPost_ret (results_pkt rfl _ _ w.heap.size rfl rfl (show Pb (World.drew _) _ _ _ _ _ _ from hp1)) rfl ⟨rfl, ?_⟩
    exact (HB3.out.grown hg1 HB3.out.size (fun k hk => by have e : w.heap.size = k := Option.some.inj hk; omega)).drew
  | false =>
    rw [parV_no hok] at HKp ⊢
    unfold pv at HKp ⊢
    clear hok
    go_enter Tryz.func7, Tryz.ntmps7
    go_wp2_with fail
    refine HC.out.mono ?_
    rintro e W1 ⟨k, n, t, l, d, rfl, hd, hf, l1⟩
    have HR1 := Lib.hid (HR0.out.below l1 HR0.out.lt)
    have HB1 := Lib.hid (HA.out.trans (l1.mono HA.out.size))
    have HK1 := Lib.hid (HKp.out k n t l d hd hf W1 HB1.out)
    clear hf hd l1 HC HA HR0 HKp
    unfold pv
    go_wp2_with fail
    refine HK1.out.mono ?_
    rintro e W2 ⟨rfl, lB⟩
    have HR2 := Lib.hid (HR1.out.below lB HR1.out.lt)
    have HB2 := Lib.hid (HB1.out.trans (lB.mono HB1.out.size))
    have hlt := HR2.out.lt
    clear lB HR1 HB1 HK1
    go_wp2_with fail
    obtain ⟨W3, hW3⟩ : ∃ W3, W3 = W2.alloc (.cells #[.int .i64 0, .int .i64 0, .int .i64 0, .int .i64 0, .string ⟨#[]⟩] 25) := ⟨_, rfl⟩
    have hb3 : Below W2.heap.size W2 W3 := by rw [hW3]; exact (Below.refl _ _).alloc (Nat.le_refl _) _
    have HQ3 : Hid (Pb W3 W2.heap.size 0 0 0 0 ⟨#[]⟩) := Lib.hid (by rw [hW3]; exact heap_alloc_new W2 _)
    rw [← hW3]
    clear hW3
    have HR3 := Lib.hid (HR2.out.below hb3 HR2.out.lt)
    have HB3 := Lib.hid (HB2.out.trans (hb3.mono HB2.out.size))
    clear hb3 HR2 HB2
    obtain ⟨q, hq⟩ : ∃ q, q = W2.heap.size := ⟨_, rfl⟩
    rw [← hq] at HQ3 hlt ⊢
    clear hq
    have hqn : w.heap.size ≠ q := by omega
    have hqn2 : q ≠ w.heap.size := by omega
    obtain ⟨c0, c1, c2, c3, c4⟩ := HQ3.out.cells
    obtain ⟨r0, r1, r2, r3, r4⟩ := HR3.out.cells
    have f0 := HR3.out.free 0
    have f1 := HR3.out.free 1
    have f2 := HR3.out.free 2
    have f3 := HR3.out.free 3
    have f4 := HR3.out.free 4
    go_region_held3 (fun w' => w'.cell? ⟨q, 0, none⟩ = some (.int .i64 0) ∧ w'.cell? ⟨q, 1, none⟩ = some (.int .i64 0) ∧ w'.cell? ⟨q, 2, none⟩ = some (.int .i64 0) ∧ w'.cell? ⟨q, 3, none⟩ = some (.int .i64 0) ∧ w'.cell? ⟨q, 4, none⟩ = some (.string ⟨#[]⟩)) (go_keep) (fail)
    go_wp2_with fail
    obtain ⟨hp1, hg1⟩ := HR3.out.store (k' := 0) (n' := 0) (t' := 0) (l' := 0) (d' := ⟨#[]⟩)
    refine bodyPost_ret (results_pkt rfl _ _ w.heap.size rfl rfl (show Pb (World.drew _) _ _ _ _ _ _ from hp1)) rfl ⟨rfl, ?_⟩
    exact (HB3.out.grown hg1 HB3.out.size (fun k hk => by have e : w.heap.size = k := Option.some.inj hk; omega)).drew
end Go.Proofs.YtncjplcefdeckaaGreatDoor
