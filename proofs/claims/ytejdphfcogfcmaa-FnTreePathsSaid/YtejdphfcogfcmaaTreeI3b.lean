/-
  Trees: the program's FaceTo.
-/
import Derived.Test.YtejdphfcogfcmaaTreeI3
import Derived.Shelf.RegionOpen
import Derived.Sort.CutIn
import Derived.Sort.BigQuietIn
namespace Go.Proofs.Ytejdphfcogfcmaa
open Go.RowKit Go.Shelf
set_option linter.unusedVariables false

attribute [local go_sem] Oper.semAt_some

theorem KeepL.drew (t : TypeId → Prop) (n₀ B : Nat) (W : World) : KeepL t n₀ B W W.drew := ⟨(Below.refl _ _).drew, fun k o h _ => h⟩
theorem bdrew1 (w : World) : Below w.heap.size w w.drew := (Below.refl _ _).drew
theorem boxed_from {β : Type} (B0 R : Nat) (t : TypeId) (f : β → Value) : OwnFrom B0 (fun (s : β) W => Boxed W R t (f s)) := (boxed_own R t f).from B0
/-- The values of FaceTo, where its nodes occur. -/
theorem face_vals {p : List Int} {x y : Int} (h : (ndOk p x && ndOk p y) = true) : faceOk p x y = (nextOf x (pth p y)).isSome ∧ faceV p x y = (nextOf x (pth p y)).getD 0 := by
  have e : faceOk p x y = (nextOf x (pth p y)).isSome := by rw [faceOk_plain, h, Bool.true_and]
  refine ⟨e, ?_⟩
  unfold faceV
  rw [e]
  cases nextOf x (pth p y) with
  | none => rfl
  | some q => rfl
theorem face_none {p : List Int} {x y : Int} (h : (ndOk p x && ndOk p y) = false) : faceOk p x y = false ∧ faceV p x y = 0 := by
  have e : faceOk p x y = false := by rw [faceOk_plain, h, Bool.false_and]
  exact ⟨e, by unfold faceV; rw [e]; rfl⟩
theorem results_face {fn : Func} {p q : Tmp} (h : fn.results = #[.cell p 3, .cell q 4]) (tmps : Array Value) (w : World) (R2 R3 : Nat) (hp : tmps.getD p undef = .pointer (some ⟨R2, 0, none⟩)) (hq : tmps.getD q undef = .pointer (some ⟨R3, 0, none⟩)) {a : Int} {b : Bool}
    (c2 : w.cell? ⟨R2, 0, none⟩ = some (.int .i64 a)) (c3 : w.cell? ⟨R3, 0, none⟩ = some (.bool b)) : (results fn tmps).run Try.prog w = .ok (.tuple #[.int .i64 a, .bool b]) w := by
  have hp' : tmps[p]?.getD undef = .pointer (some ⟨R2, 0, none⟩) := by simpa using hp
  have hq' : tmps[q]?.getD undef = .pointer (some ⟨R3, 0, none⟩) := by simpa using hq
  unfold results
  rw [h]
  simp [asAddr, hp', hq', go_sem, c2, c3]
/-- What the law's boxes hold. -/
structure FcB (W : World) (R0 R1 R2 R3 : Nat) (v : Value) (x a : Int) (b : Bool) : Prop where
  b0 : Boxed W R0 26 v
  b1 : Boxed W R1 3 (.int .i64 x)
  b2 : Boxed W R2 3 (.int .i64 a)
  b3 : Boxed W R3 4 (.bool b)
theorem FcB.below {W W' : World} {R0 R1 R2 R3 : Nat} {v : Value} {x a : Int} {b : Bool} (h : FcB W R0 R1 R2 R3 v x a b) (l : Below W.heap.size W W') : FcB W' R0 R1 R2 R3 v x a b :=
  ⟨(l.block _ h.b0.lt).trans h.b0, (l.block _ h.b1.lt).trans h.b1, (l.block _ h.b2.lt).trans h.b2, (l.block _ h.b3.lt).trans h.b3⟩
theorem FcB.own {β : Type} (B0 R0 R1 R2 R3 : Nat) (v : Value) (x a : Int) (b : Bool) : OwnFrom B0 (fun (_ : β) W => FcB W R0 R1 R2 R3 v x a b) := fun s A B row hs hg hr =>
  have f := fun (R : Nat) (t : TypeId) (u : Value) (h : Boxed A R t u) => (boxed_own (β := Unit) R t (fun _ => u)) () A B row h hg (fun r e => (hr r e).2)
  ⟨f _ _ _ hs.b0, f _ _ _ hs.b1, f _ _ _ hs.b2, f _ _ _ hs.b3⟩
/-- Both results are stored. -/
theorem FcB.store {W : World} {R0 R1 R2 R3 : Nat} {v : Value} {x a : Int} {b : Bool} (h : FcB W R0 R1 R2 R3 v x a b) (n1 : R0 < R1) (n2 : R1 < R2) (n3 : R2 < R3) (a' : Int) (b' : Bool) :
    (W.setCell ⟨R2, 0, none⟩ (.int .i64 a')).cell? ⟨R3, 0, none⟩ = some (.bool b) ∧ FcB ((W.setCell ⟨R2, 0, none⟩ (.int .i64 a')).setCell ⟨R3, 0, none⟩ (.bool b')) R0 R1 R2 R3 v x a' b' := by
  have c1 := h.b3.other (B' := R2) (by omega) (.int .i64 a')
  refine ⟨c1.cell, ((h.b0.other (by omega) _).other (by omega) _), ((h.b1.other (by omega) _).other (by omega) _), (h.b2.set _).other (by omega) _, c1.set _⟩
theorem below_store2 {B : Nat} {A W : World} (h : Below B A W) {R2 R3 : Nat} (h2 : B ≤ R2) (h3 : B ≤ R3) (u1 u2 : Value) : Below B A ((W.setCell ⟨R2, 0, none⟩ u1).setCell ⟨R3, 0, none⟩ u2) := (h.setCell (p := ⟨R2, 0, none⟩) h2 u1).setCell (p := ⟨R3, 0, none⟩) h3 u2
theorem keepL_store2 {B : Nat} {W : World} {R0 R1 R2 R3 : Nat} {v : Value} {x a : Int} {b : Bool} (h : FcB W R0 R1 R2 R3 v x a b) (n3 : R2 < R3) (u1 u2 : Value) : KeepL noT 0 B W ((W.setCell ⟨R2, 0, none⟩ u1).setCell ⟨R3, 0, none⟩ u2) := by
  refine (KeepL.grown (grownBy_setCell' W R2 u1) (Nat.zero_le _) (fun _ _ => Nat.zero_le _) (fun q o e hq => ?_)).trans (KeepL.grown (grownBy_setCell' _ R3 u2) (Nat.zero_le _) (fun _ _ => Nat.zero_le _) (fun q o e hq => ?_))
  · cases e
    rw [show W.heap[R2]? = _ from h.b2] at hq; cases hq
    exact ⟨_, _, _, rfl, fun h => h⟩
  · cases e
    rw [show (W.setCell ⟨R2, 0, none⟩ u1).heap[R3]? = _ from h.b3.other (by omega) u1] at hq; cases hq
    exact ⟨_, _, _, rfl, fun h => h⟩
set_option maxRecDepth 100000 in
set_option maxHeartbeats 4000000 in
theorem implFace_any (v : Value) (p : List Int) (x y : Int) (w : World) (hrow : Row w v p.length (p.map (Value.int .i64))) :
    Calls Try.prog 19 #[.agg #[v], .int .i64 x, .int .i64 y] w fun e w' => e = .returned (.tuple #[.int .i64 (faceV p x y), .bool (faceOk p x y)]) ∧ Below w.heap.size w w' := by
  obtain ⟨a, cap, rfl, hc1', hm1, _⟩ := row_open hrow
  obtain ⟨v, hv⟩ : ∃ v, v = Value.slice a p.length cap := ⟨_, rfl⟩
  rw [← hv] at hrow ⊢
  have HVv := Lib.hid hv
  clear hv
  unfold maxLen at hm1
  obtain ⟨W, hW⟩ : ∃ W, W = (((w.alloc (.cells #[v] 26)).alloc (.cells #[.int .i64 x] 3)).alloc (.cells #[.int .i64 0] 3)).alloc (.cells #[.bool false] 4) := ⟨_, rfl⟩
  obtain ⟨R3, hR3⟩ : ∃ R, R = w.heap.size + 1 + 1 + 1 := ⟨_, rfl⟩
  obtain ⟨R2, hR2⟩ : ∃ R, R = w.heap.size + 1 + 1 := ⟨_, rfl⟩
  obtain ⟨R1, hR1⟩ : ∃ R, R = w.heap.size + 1 := ⟨_, rfl⟩
  obtain ⟨R0, hR0⟩ : ∃ R, R = w.heap.size := ⟨_, rfl⟩
  have hsz : W.heap.size = w.heap.size + 4 := by rw [hW]; simp
  have hB : Below w.heap.size w W := by rw [hW]; exact ((((Below.refl _ w).alloc (Nat.le_refl _) _).alloc (by simp) _).alloc (by simp; omega) _).alloc (by simp; omega) _
  have HF : Hid (FcB W R0 R1 R2 R3 v x 0 false) := Lib.hid (by
    have q1 := Boxed.new (w.alloc (.cells #[v] 26)) 3 (.int .i64 x)
    have q2 := Boxed.new ((w.alloc (.cells #[v] 26)).alloc (.cells #[.int .i64 x] 3)) 3 (.int .i64 0)
    have q3 := Boxed.new (((w.alloc (.cells #[v] 26)).alloc (.cells #[.int .i64 x] 3)).alloc (.cells #[.int .i64 0] 3)) 4 (.bool false)
    simp only [World.size_alloc] at q1 q2 q3
    rw [hW, hR0, hR1, hR2, hR3]
    exact ⟨(((Boxed.new w _ _).alloc _).alloc _).alloc _, (q1.alloc _).alloc _, q2.alloc _, q3⟩)
  have HG := Lib.hid (hasNode2_any v p x y W (hrow.below hB (Nat.le_refl _)))
  have HV1 := Lib.hid (@face_none p x y)
  have HV2 := Lib.hid (@face_vals p x y)
  have HOx := Lib.hid (@ndOk_parts p x)
  have HOy := Lib.hid (@ndOk_parts p y)
  have hc0 := HF.out.b0.cell
  have hc1 := HF.out.b1.cell
  have hlt : R0 < R1 ∧ R1 < R2 ∧ R2 < R3 ∧ w.heap.size ≤ R2 := by omega
  obtain ⟨n1, n2, n3, n4⟩ := hlt
  have HRow := Lib.hid hrow
  have HB := Lib.hid hB
  have HW := Lib.hid hW
  have H3 := Lib.hid hR3
  have H2 := Lib.hid hR2
  have H1 := Lib.hid hR1
  have H0 := Lib.hid hR0
  have HSZ := Lib.hid hsz
  clear hW hR3 hR2 hR1 hR0 hB hrow hsz
  cases ok : (ndOk p x && ndOk p y) with
  | false =>
    rw [ok] at HG
    obtain ⟨e1, e2⟩ := HV1.out ok
    rw [e1, e2]
    clear HV1 HV2 HOx HOy ok e1 e2 HRow
    go_enter Try.func19, Try.ntmps19
    go_upto_region 1 with fail
    rw [← HW.out, ← H3.out, ← H2.out, ← H1.out, ← H0.out]
    go_wp2_with fail
    refine HG.out.mono ?_
    rintro e W2 ⟨rfl, l2⟩
    have HB2 := Lib.hid (HB.out.trans (l2.mono HB.out.size))
    have HF2 := Lib.hid (HF.out.below l2)
    clear l2 hc0 hc1
    have k2 := HF2.out.b2.cell
    have k3 := HF2.out.b3.cell
    have f2 := HF2.out.b2.frozen
    have f3 := HF2.out.b3.frozen
    obtain ⟨k4, fs⟩ := HF2.out.store n1 n2 n3 0 false
    have HFs := Lib.hid fs
    clear fs
    go_wp2_with fail
    refine bodyPost_ret (results_face rfl _ _ R2 R3 rfl rfl HFs.out.b2.cell HFs.out.b3.cell) rfl ?_
    exact ⟨rfl, below_store2 HB2.out n4 (by omega) _ _⟩
  | true =>
    rw [ok] at HG
    obtain ⟨e1, e2⟩ := HV2.out ok
    rw [Bool.and_eq_true] at ok
    obtain ⟨ht, x0, x1⟩ := HOx.out ok.1
    obtain ⟨_, y0, y1⟩ := HOy.out ok.2
    obtain ⟨k, rfl⟩ : ∃ k : Nat, y = (k : Int) := ⟨y.toNat, by omega⟩
    have hk : k < p.length := by omega
    have h8 := (trOk_parts ht).2.1
    have HE := Lib.hid (⟨e1, e2⟩ : faceOk p x (k : Int) = (nextOf x (pth p (k : Int))).isSome ∧ faceV p x (k : Int) = (nextOf x (pth p (k : Int))).getD 0)
    generalize faceOk p x (k : Int) = fo at HE ⊢
    generalize faceV p x (k : Int) = fv at HE ⊢
    have HU := Lib.hid (fun (W1 : World) hr => upFrom_any noT k v p W1 ht hk hr)
    have HHit := Lib.hid (fun (pre rest : List Int) (z : Int) e hp hz => face_hit (y := z) ht x0 hk (pre := pre) (rest := rest) e hp hz)
    have HMiss := Lib.hid (face_miss ht x0 hk)
    have HMem := Lib.hid (upL_mem ht hk)
    have HUl := Lib.hid (upL_len ht hk)
    have HOk := Lib.hid ht
    clear HV1 HV2 HOx HOy ok e1 e2 y0 y1
    refine callsIn_wide.1 (?_ : CallsIn Fence.wide 5 _ _ _ _ _)
    refine callsIn_of_wp_marks Try.func19 rfl trivial ?_ rfl
    simp only [Try.ntmps19, List.size_toArray, List.length_cons, List.length_nil, Nat.reduceAdd, Nat.reduceSub, Array.replicate_succ, Array.replicate_zero, List.push_toArray, List.append_toArray, List.nil_append, List.cons_append]
    gi_upto_region 1 with fail
    rw [← HW.out, ← H3.out, ← H2.out, ← H1.out, ← H0.out]
    have ff1 : Fence.wide.fn 43 := trivial
    have ff2 : Fence.wide.fn 45 := trivial
    gi_upto_region 3 with (gi_at_call 43; refine (callsIn_wide.2 HG.out).mono ?_; rintro e W2 ⟨rfl, l2⟩; have HB2 := Lib.hid (HB.out.trans (l2.mono HB.out.size)); have HF2 := Lib.hid (HF.out.below l2); clear l2 hc0 hc1; have hc0 := HF2.out.b0.cell; have hc1 := HF2.out.b1.cell)
    gi_wp2_with (gi_at_call 45; refine (callsIn_wide.2 (HU.out _ (HRow.out.below HB2.out (Nat.le_refl _)))).mono ?_; rintro e W3 ⟨Bn, Bt, rfl, hs3, l3⟩; have HB3 := Lib.hid (HB2.out.trans (l3.mono HB2.out.size)); have HF3 := Lib.hid (HF2.out.below l3); have HS3 := Lib.hid hs3; clear l3 hs3)
    refine range_L (gf := 66) (lb := #[.pointer (some ⟨Bn, 0, none⟩), .pointer (some ⟨Bt, 0, none⟩)]) (by first | rfl | simp [go_sem]) (enters_of Try.func66 (by kernel_rfl) rfl) HS3.out (Below.refl _ _) (Nat.le_refl _) (fun _ => rfl)
      (fun pre W' => (FcB W' R0 R1 R2 R3 v x 0 false ∧ Below w.heap.size w W') ∧ (∀ z ∈ pre, par6 p z.toNat ≠ x))
      (fun c pre W' => (c = .ret ∧ ∃ pre0 z, pre = pre0 ++ [z] ∧ (∀ q ∈ pre0, par6 p q.toNat ≠ x) ∧ par6 p z.toNat = x ∧ FcB W' R0 R1 R2 R3 v x z true) ∧ Below w.heap.size w W')
      ?hI ?hIx ⟨⟨HF3.out, HB3.out⟩, by simp⟩ ?a1 ?assign ?body ?done ?stop
    case hI => exact OwnFrom.and (OwnFrom.and (FcB.own _ R0 R1 R2 R3 v x 0 false) (ownFrom_below (Nat.le_refl _) HB3.out.size)) (ownFrom_pure _ _)
    case hIx =>
      intro c
      refine OwnFrom.and (fun s A B row hs hg hr => ?_) (ownFrom_below (Nat.le_refl _) HB3.out.size)
      obtain ⟨e, pre0, z, e1, e2, e3, h⟩ := hs
      exact ⟨e, pre0, z, e1, e2, e3, FcB.own (β := List Int) W3.heap.size R0 R1 R2 R3 v x z true s A B row h hg hr⟩
    case assign =>
      intro m l z W' K hK
      gi_wp2
      exact hK
    case body =>
      have hmix : Try.prog.follows .mixedOrders = true := by kernel_rfl
      rintro m l pre z W' ⟨⟨hf, hb⟩, hp⟩ hpre
      obtain ⟨z0, z1⟩ := HMem.out z (hpre.subset (by simp))
      obtain ⟨j, rfl⟩ : ∃ j : Nat, z = (j : Int) := ⟨z.toNat, by omega⟩
      have hj : j < p.length := by omega
      have ht' : Tr W' R0 v p := ⟨hf.b0, HRow.out.below hb (Nat.le_refl _)⟩
      have q0 := hf.b0.cell
      have q1 := hf.b1.cell
      rw [HVv.out] at ht' q0
      obtain ⟨b, off, rfl, hck⟩ := ht'.get hj
      have HFb := Lib.hid hf
      have HBb := Lib.hid hb
      have HPb := Lib.hid hp
      have HPn : Hid (par6 p j = x → par6 p ((j : Int)).toNat = x) := Lib.hid (fun h => by rw [Int.toNat_natCast]; exact h)
      have HPm : Hid (par6 p j ≠ x → par6 p ((j : Int)).toNat ≠ x) := Lib.hid (fun h => by rw [Int.toNat_natCast]; exact h)
      clear ht' hf hb hp hpre
      generalize par6 p j = u at hck HPn HPm
      by_cases hu : u = x
      · have HN := Lib.hid (HPn.out hu)
        rw [hu] at hck
        have hq : (x == x) = true := by simp
        clear hu HPn HPm
        gi_upto_region 5 with fail
        gi_cut [25] from 19 (fun b wx => b = .bool true ∧ wx = W'.drew)
        case first =>
          gi_region_with_o (fail)
          all_goals gi_wp2
          all_goals gi_meet
          all_goals
            case rel => exact ⟨by first | rfl | simp, rfl⟩
        case rest =>
        obtain ⟨rfl, rfl⟩ := hcut
        have hbd := bdrew1 W'
        have hkd := KeepL.drew noT 0 W3.heap.size W'
        obtain ⟨W5, hW5⟩ : ∃ W5, W5 = W'.drew := ⟨_, rfl⟩
        rw [← hW5] at hbd hkd ⊢
        have HKd := Lib.hid hkd
        have hf5 := HFb.out.below hbd
        have hb5 := HBb.out.trans (hbd.mono HBb.out.size)
        have k2 := hf5.b2.cell
        have k3 := hf5.b3.cell
        have f2 := hf5.b2.frozen
        have f3 := hf5.b3.frozen
        obtain ⟨k4, fs⟩ := hf5.store n1 n2 n3 (j : Int) true
        have HFs := Lib.hid fs
        have HF5 := Lib.hid hf5
        have HB5 := Lib.hid hb5
        have HD := Lib.hid hbd
        clear hf5 hb5 fs hW5 hbd hkd hck q0 q1
        gi_wp2
        exact ⟨HKd.out.trans (keepL_store2 HF5.out n3 _ _), ⟨rfl, pre, (j : Int), rfl, HPb.out, HN.out, HFs.out⟩, below_store2 HB5.out n4 (by omega) _ _⟩
      · have HN := Lib.hid (HPm.out hu)
        have hq : (u == x) = false := by simp; exact hu
        clear hu HPn HPm
        gi_upto_region 5 with fail
        gi_cut [25] from 19 (fun b wx => b = .bool false ∧ wx = W'.drew)
        case first =>
          gi_region_with_o (fail)
          all_goals gi_wp2
          all_goals gi_meet
          all_goals
            case rel => exact ⟨by first | rfl | simp, rfl⟩
        case rest =>
        obtain ⟨rfl, rfl⟩ := hcut
        gi_wp2
        exact ⟨KeepL.drew _ _ _ _, ⟨HFb.out.below (bdrew1 _), HBb.out.trans ((bdrew1 _).mono HBb.out.size)⟩, fun z hz => (List.mem_append.1 hz).elim (HPb.out z) (fun h => by rw [List.mem_singleton.1 h]; exact HN.out)⟩
    case done =>
      rintro D W' hD ⟨⟨hf, hb⟩, hp⟩ hK
      have k2 := hf.b2.cell
      have k3 := hf.b3.cell
      have f2 := hf.b2.frozen
      have f3 := hf.b3.frozen
      obtain ⟨k4, fs⟩ := hf.store n1 n2 n3 0 false
      have HFs := Lib.hid fs
      have HKs := Lib.hid (((KeepsOthers.setCell W' ⟨R2, 0, none⟩ (.int .i64 0)).trans (KeepsOthers.setCell _ ⟨R3, 0, none⟩ (.bool false))).same D _ hK rfl)
      have HBs := Lib.hid (below_store2 hb n4 (by omega) (.int .i64 0) (.bool false) (R3 := R3))
      have HP := Lib.hid hp
      clear hf fs hp hK hb
      gi_wp2
      refine ⟨by simp, .inl ⟨_, _, rfl, run_takeDeferred HKs.out, ?_⟩⟩
      have h9 := FcB.own (β := Unit) 0 R0 R1 R2 R3 v x 0 false () _ _ (some D) HFs.out (grownBy_putObj' _ D (.deferred none)) (fun r e => by cases e; exact ⟨Nat.zero_le _, _, HKs.out, rfl⟩)
      have hDw : w.heap.size ≤ D := Nat.le_trans HB3.out.size hD
      refine ⟨_, results_face rfl _ _ R2 R3 rfl rfl h9.b2.cell h9.b3.cell, ?_, HBs.out.trans (belowK_b (w := w) (Nat.le_refl _) _ D _ _ hDw HKs.out rfl rfl)⟩
      have hm := HMiss.out HP.out
      rw [HE.out.1, HE.out.2, hm]
      rfl
    case stop =>
      rintro D c pre W' hD hpre ⟨⟨rfl, pre0, z, e1, e2, e3, hf⟩, hb⟩ hK
      gi_wp2
      refine ⟨by simp, .inl ⟨_, _, rfl, run_takeDeferred hK, ?_⟩⟩
      have h9 := FcB.own (β := Unit) 0 R0 R1 R2 R3 v x z true () _ _ (some D) hf (grownBy_putObj' _ D (.deferred none)) (fun r e => by cases e; exact ⟨Nat.zero_le _, _, hK, rfl⟩)
      have hDw : w.heap.size ≤ D := Nat.le_trans HB3.out.size hD
      refine ⟨_, results_face rfl _ _ R2 R3 rfl rfl h9.b2.cell h9.b3.cell, ?_, hb.trans (belowK_b (w := w) (Nat.le_refl _) _ D _ _ hDw hK rfl rfl)⟩
      obtain ⟨rest, hrest⟩ := hpre
      have hm := HHit.out pre0 rest z (by rw [← hrest, e1]; simp) e2 e3
      rw [HE.out.1, HE.out.2, hm]
      rfl
end Go.Proofs.Ytejdphfcogfcmaa
