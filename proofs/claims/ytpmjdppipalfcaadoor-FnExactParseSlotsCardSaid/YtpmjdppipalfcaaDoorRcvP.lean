/-
  Receive windows: a text is read (the specification's).
-/
import Derived.Test.YtpmjdppipalfcaaDoorRcvT
import Derived.Test.YtpmjdppipalfcaaDoorRcvTxP
import Derived.Test.YtpmjdppipalfcaaDoorSplit
import Derived.Deep.QuietTactic
import Derived.BigQuiet
import Derived.IntWalk
import Derived.Deep.CutRange
import Derived.WalkLawsBesides
import Derived.Lib.SmallJoins
import Derived.Deep.RegionHeld3
namespace Go.Proofs.YtpmjdppipalfcaaDoor
open Go.RowKit Go.Lib Go.Joins
set_option linter.unusedVariables false

theorem tl_ne {s : ByteArray} {l : List UInt8} (h : s.data.toList ≠ l) : (s.toList == l) = false := by
  rw [beq_eq_false_iff_ne, ByteArray.toList_eq]
  exact h
theorem bytes_neq {a b : ByteArray} (h : a ≠ b) : (a.toList == b.toList) = false := by
  rw [beq_eq_false_iff_ne, ByteArray.toList_eq, ByteArray.toList_eq]
  exact fun e => h (ByteArray.ext (Array.toList_inj.1 e))
theorem slot_else {s : ByteArray} (h63 : s ≠ ⟨#[63]⟩) (h46 : s ≠ ⟨#[46]⟩) : slotL s.data.toList = ⟨true, s⟩ := by
  unfold slotL
  rw [if_neg (fun e => h63 (ByteArray.ext (Array.toList_inj.1 e))), if_neg (fun e => h46 (ByteArray.ext (Array.toList_inj.1 e)))]
theorem pw_form (s : ByteArray) : ∃ p0 tl, pw s = p0 :: tl := by
  cases h : pw s with
  | nil => exact absurd h (M.parts_ne 32 _)
  | cons a b => exact ⟨a, b, rfl⟩
theorem ext_last {p : List UInt8} {j : Nat} (h : p.length = j + 1) : (txt p).extract 0 j = txt p.dropLast := by
  unfold txt
  apply ByteArray.ext
  rw [ByteArray.data_extract]
  simp [List.dropLast_eq_take, h]
/-- A window that is being read: its slots are the call's own. -/
structure BoxR (W0 wr : World) (R B : Nat) (x : Int) (xs : List Sl) (n : Nat) (aS : Option Addr) (cS : Nat) : Prop where
  bx : Bx wr R #[.int .i64 x, .slice aS n cS] 26
  own : wr.ownsRow B 75 2 (.slice aS n cS) n (slF xs)
  apart : ∀ k, (Value.slice aS n cS).ownBlock = some k → k ≠ R
  bel : Below W0.heap.size W0 wr
theorem boxr_new (W : World) (x : Int) : BoxR W ((W.alloc (.cells #[] 75)).alloc (.cells #[.int .i64 x, .slice (some ⟨W.heap.size, 0, none⟩) 0 0] 26)) (W.heap.size + 1) W.heap.size x [] 0 (some ⟨W.heap.size, 0, none⟩) 0 := by
  refine ⟨?_, ?_, ?_, ?_⟩
  · have := Bx.new (W.alloc (.cells #[] 75)) #[.int .i64 x, .slice (some ⟨W.heap.size, 0, none⟩) 0 0] 26
    rw [World.size_alloc] at this
    exact this
  · exact ownz_none (litz W W.heap.size 75 2 (Nat.le_refl _)) (World.grownBy_alloc _ _ none)
  · intro k hk
    have e : W.heap.size = k := Option.some.inj hk
    omega
  · exact ((Below.refl _ _).alloc (Nat.le_refl _) _).alloc (by simp) _
theorem boxr_step {W0 wr w1 w3 : World} {R B n : Nat} {x : Int} {xs : List Sl} {t : Sl} {aS a3 : Option Addr} {cS c3 : Nat} (HI : BoxR W0 wr R B x xs n aS cS) (hR : W0.heap.size ≤ R) (hB : W0.heap.size ≤ B) (hl : Below wr.heap.size wr w1)
    (hown : w3.ownsRow B 75 2 (.slice a3 (n + 1) c3) (n + 1) (slF xs ++ slC t)) (hgr : w1.grownBy w3 (Value.slice aS n cS).ownBlock)
    (hat : (Value.slice a3 (n + 1) c3).ownBlock = (Value.slice aS n cS).ownBlock ∨ (Value.slice a3 (n + 1) c3).ownBlock = some w1.heap.size) :
    BoxR W0 (w3.setCell ⟨R, 1, none⟩ (.slice a3 (n + 1) c3)) R B x (xs ++ [t]) (n + 1) a3 c3 := by
  have hbx := (HI.bx.below hl HI.bx.lt).grown hgr (fun e => HI.apart R e.symm rfl)
  obtain ⟨p1, q1⟩ := hbx.set 1 (.slice a3 (n + 1) c3)
  have hap : ∀ k, (Value.slice a3 (n + 1) c3).ownBlock = some k → k ≠ R := by
    intro k hk
    rcases hat with e | e
    · exact HI.apart k (e.symm.trans hk)
    · rw [e] at hk
      have e2 := Option.some.inj hk
      have h1 := HI.bx.lt
      have h2 := hl.size
      omega
  have hb1 : Below W0.heap.size W0 w1 := HI.bel.trans (hl.mono HI.bel.size)
  have hbel : Below W0.heap.size W0 w3 := hb1.grown hgr hb1.size (fun k hk => Nat.le_trans hB (HI.own.lt k hk).1)
  refine ⟨p1, ?_, hap, hbel.grown q1 hbel.size (fun k hk => by have e2 : R = k := Option.some.inj hk; omega)⟩
  rw [slF_snoc]
  refine hown.kept q1 ?_
  cases hv : (Value.slice a3 (n + 1) c3).ownBlock with
  | none => exact .inl rfl
  | some k => exact .inr (fun e => hap k hv (Option.some.inj e))
set_option maxRecDepth 100000 in
set_option maxHeartbeats 16000000 in
theorem specParse_any (s : ByteArray) (w : World) (hs : s.size ≤ 1048576) :
    Calls Tryd.prog 28 #[.string s] w fun e w' => ∃ v', e = .returned (.tuple #[.agg #[.int .i64 (psV s).x, v'], .bool (psB s)]) ∧ w'.ownsRow w.heap.size 75 2 v' (psV s).q.length (slF (psV s).q) ∧ Below w.heap.size w w' := by
  obtain ⟨i0, hi, hz0, hz1, hz2⟩ := info_parts infoSl
  obtain ⟨p0, tl, hP⟩ := pw_form s
  have HSp := Lib.hid (fun (W : World) => (l1Split_any s 32 hs W))
  have hP2 : M.parts (32 : UInt8) s.data.toList = p0 :: tl := hP
  rw [hP2] at HSp
  have HB1 : Hid (psB s = (decide (s.size ≤ 100) && (decide (2 ≤ p0.length) && (rdB (txt p0.dropLast) && (rwOk ⟨rdN (txt p0.dropLast), tl.map slotL⟩ && decide (txB (rdN (txt p0.dropLast)) (tl.map slotL) = s)))))) := Lib.hid (by unfold psB psW pw0; rw [hP]; rfl)
  have HW1 : Hid (psB s = true → psV s = ⟨rdN (txt p0.dropLast), tl.map slotL⟩) := Lib.hid (fun h => by unfold psV; rw [if_pos h]; unfold psW pw0; rw [hP]; rfl)
  have HNo : Hid (psB s = false → psV s = rw0) := Lib.hid (fun h => by unfold psV; rw [h]; rfl)
  have HTl : Hid (∀ t ∈ tl.map slotL, t.s.size ≤ maxLen) := Lib.hid (fun t ht => by have := pw_sized s t (by rw [hP]; exact ht); unfold maxLen; omega)
  have hlen := M.parts_len 32 s.data.toList
  rw [hP2, List.length_cons] at hlen
  have hsl : s.data.toList.length = s.size := by simp
  rw [hsl] at hlen
  have hp0 : p0.length ≤ s.size := by
    have h9 := parts_size 32 s.data.toList 0
    rw [hP2, hsl] at h9
    exact h9
  clear hP hP2 hsl
  have hmx : s.size ≤ maxLen := by unfold maxLen; omega
  obtain ⟨n, hn⟩ : ∃ n, n = tl.length + 1 := ⟨_, rfl⟩
  have HN := Lib.hid hn
  have hn9 : n ≤ s.size + 1 := by omega
  have HSp2 : Hid (∀ W : World, Calls Tryd.prog 60 #[.string s, .int .u8 32] W fun e w' => ∃ v, e = .returned v ∧ w'.ownsRow W.heap.size 9 1 v n ((p0 :: tl).map strV) ∧ Below W.heap.size W w') := Lib.hid (fun W => by have h := HSp.out W; rw [List.length_cons, ← hn] at h; exact h)
  clear HSp hn hlen
  obtain ⟨W0, R_A, hW0, hR_A, hX_A, hB0⟩ := entry1 w #[.int .i64 0, .slice none 0 0] 26
  have HW0 := Lib.hid hW0
  have HB0 := Lib.hid hB0
  have HR_A := Lib.hid hR_A
  have HX_A := Lib.hid hX_A
  clear hW0 hB0 hR_A hX_A
  have c1_A_0 := HX_A.out.at 0 (v := .int .i64 0) rfl
  have c1_A_1 := HX_A.out.at 1 (v := .slice none 0 0) rfl
  go_enter Tryd.func28, Tryd.ntmps28
  go_upto_region 1 with fail
  rw [← HW0.out, ← HR_A.out]
  go_upto_region 2 with fail
  obtain ⟨W2, hW2⟩ : ∃ W2, W2 = W0.alloc (.cells #[.int .i64 0, .slice none 0 0] 26) := ⟨_, rfl⟩
  have l2 : Below W0.heap.size W0 W2 := by rw [hW2]; exact (Below.refl _ _).alloc (Nat.le_refl _) _
  have X2_N : Hid (Bx W2 W0.heap.size #[.int .i64 0, .slice none 0 0] 26) := Lib.hid (by rw [hW2]; exact Bx.new _ _ _)
  rw [← hW2]
  clear hW2
  have HG_N : Hid (w.heap.size ≤ W0.heap.size) := Lib.hid HB0.out.size
  have HN_N_A : Hid (R_A < W0.heap.size) := Lib.hid HX_A.out.lt
  obtain ⟨R_N, hR_N⟩ : ∃ X, X = W0.heap.size := ⟨_, rfl⟩
  rw [← hR_N] at X2_N HG_N HN_N_A ⊢
  clear hR_N
  clear c1_A_0 c1_A_1
  have HB_3 := Lib.hid (HB0.out.trans (l2.mono HB0.out.size))
  have A_3 := Lib.hid (HX_A.out.below l2 HX_A.out.lt)
  clear l2
  have c4_A_0 := A_3.out.at 0 (v := .int .i64 0) rfl
  have c4_A_1 := A_3.out.at 1 (v := .slice none 0 0) rfl
  have c5_N_0 := X2_N.out.at 0 (v := .int .i64 0) rfl
  have c5_N_1 := X2_N.out.at 1 (v := .slice none 0 0) rfl
  go_wp2_with fail
  refine (HSp2.out _).mono ?_
  rintro e W6 ⟨v_p, rfl, o_p, l6⟩
  obtain ⟨a_p, c_p, rfl, _, _⟩ := ownz_slice o_p
  have O_p := Lib.hid (ownz_base o_p HB_3.out.size)
  have BX_A_p : Hid (∀ k, (.slice a_p n c_p : Value).ownBlock = some k → k ≠ R_A) := Lib.hid (fun k h1 h2 => absurd A_3.out.lt (Nat.not_lt.2 (by rw [← h2]; exact (o_p.lt k h1).1)))
  have BX_N_p : Hid (∀ k, (.slice a_p n c_p : Value).ownBlock = some k → k ≠ R_N) := Lib.hid (fun k h1 h2 => absurd X2_N.out.lt (Nat.not_lt.2 (by rw [← h2]; exact (o_p.lt k h1).1)))
  clear o_p
  clear c4_A_0 c4_A_1
  clear c5_N_0 c5_N_1
  have HB_7 := Lib.hid (HB_3.out.trans (l6.mono HB_3.out.size))
  have A_7 := Lib.hid (A_3.out.below l6 A_3.out.lt)
  clear A_3
  have N_7 := Lib.hid (X2_N.out.below l6 X2_N.out.lt)
  clear X2_N
  clear l6
  have c8_A_0 := A_7.out.at 0 (v := .int .i64 0) rfl
  have c8_A_1 := A_7.out.at 1 (v := .slice none 0 0) rfl
  have c9_N_0 := N_7.out.at 0 (v := .int .i64 0) rfl
  have c9_N_1 := N_7.out.at 1 (v := .slice none 0 0) rfl
  have hn1 : 1 ≤ n := by have := HN.out; omega
  obtain ⟨gp, cp, e9⟩ := ownz_form O_p.out (by omega)
  injection e9 with e9 _ e11
  subst e9 e11
  have HPc := Lib.hid (fun (i : Nat) (hi : i < n) => strs_cell O_p.out hi)
  have HPlt := Lib.hid ((O_p.out.lt gp rfl).2)
  obtain ⟨t0, ht0⟩ : ∃ t0, t0 = txt p0 := ⟨_, rfl⟩
  have hc0 : W6.cell? ⟨gp, 0, none⟩ = some (.string t0) := by rw [ht0]; exact HPc.out 0 (by omega)
  have hts : t0.size = p0.length := by rw [ht0]; exact txt_size p0
  have HT0 := Lib.hid ht0
  clear ht0
  have i31 : (0 : Int) ≤ (0 : Int) := by omega
  have i32 : (0 : Int) < (n : Int) := by omega
  by_cases h100 : s.size ≤ 100
  rotate_left
  · have h100' : (100 : Int) < (s.size : Int) := by omega
    have HB9 : Hid (psB s = false) := Lib.hid (by rw [HB1.out, decide_eq_false h100]; rfl)
    have fr10_A_0 := A_7.out.free 0
    have fr10_A_1 := A_7.out.free 1
    go_wp2_with fail
    obtain ⟨p1, q1⟩ := A_7.out.store2 (.int .i64 0) (.slice none 0 0)
    refine bodyPost_ret (results_bx1 rfl isRw _ _ R_A rfl rfl rfl p1) rfl ?_
    rw [HB9.out, HNo.out HB9.out]
    exact ⟨_, rfl, ⟨rfl, .inl ⟨rfl, rfl⟩⟩, (HB_7.out.grown q1 HB_7.out.size (fun k hk => by have e2 : R_A = k := Option.some.inj hk; have := HR_A.out; omega))⟩
  have h100' : ¬ (100 : Int) < (s.size : Int) := by omega
  by_cases h2 : 2 ≤ p0.length
  rotate_left
  · have h2' : (t0.size : Int) < 2 := by omega
    have HB9 : Hid (psB s = false) := Lib.hid (by rw [HB1.out, decide_eq_false h2, Bool.false_and, Bool.and_false])
    have fr11_A_0 := A_7.out.free 0
    have fr11_A_1 := A_7.out.free 1
    go_wp2_with fail
    obtain ⟨p1, q1⟩ := A_7.out.store2 (.int .i64 0) (.slice none 0 0)
    refine bodyPost_ret (results_bx1 rfl isRw _ _ R_A rfl rfl rfl p1) rfl ?_
    rw [HB9.out, HNo.out HB9.out]
    exact ⟨_, rfl, ⟨rfl, .inl ⟨rfl, rfl⟩⟩, (HB_7.out.grown q1 HB_7.out.size (fun k hk => by have e2 : R_A = k := Option.some.inj hk; have := HR_A.out; omega))⟩
  have h2' : ¬ (t0.size : Int) < 2 := by omega
  rw [decide_eq_true h100, decide_eq_true h2, Bool.true_and, Bool.true_and] at HB1
  obtain ⟨j0, hj0⟩ : ∃ j0, t0.size = j0 + 1 := ⟨t0.size - 1, by omega⟩
  obtain ⟨t1, ht1⟩ : ∃ t1, t0.extract 0 j0 = t1 := ⟨_, rfl⟩
  have hd1 : t1 = txt p0.dropLast := by rw [← ht1, HT0.out]; exact ext_last (by rw [← hts]; exact hj0)
  have ht1z : t1.size ≤ maxLen := by rw [hd1, txt_size, List.length_dropLast]; unfold maxLen; omega
  rw [← hd1] at HB1 HW1
  have HRd := Lib.hid (fun (W : World) => l1ReadV_any t1 ht1z W)
  generalize rdN t1 = nx at HRd HB1 HW1
  generalize rdB t1 = ob at HRd HB1
  have hw1 : IntKind.i64.wrap ((t0.size : Int) - 1) = (j0 : Int) := (IntWalk.i64_in _ (by omega)).trans (by omega)
  have HJ0 := Lib.hid hj0
  clear hd1 ht1z h2 h100
  have j1 : (0 : Int) ≤ (j0 : Int) := by omega
  have j2 : (j0 : Int) ≤ (t0.size : Int) := by omega
  have HTs := Lib.hid hts
  clear hj0 hts
  have HK1 := Lib.hid (fun (w' : World) (hb : Below W6.heap.size W6 w') => (show w'.cell? ⟨gp, 0, none⟩ = some (.string t0) ∧ Below w.heap.size w w' from ⟨(hb.cell (p := ⟨gp, 0, none⟩) HPlt.out).trans hc0, HB_7.out.trans (hb.mono HB_7.out.size)⟩))
  go_upto_region 5 with fail
  go_region_held3 (fun w' => w'.cell? ⟨gp, 0, none⟩ = some (.string t0) ∧ Below w.heap.size w w')
    ((first | (with_reducible refine HK1.out _ ?_; (repeat (first | with_reducible assumption | with_reducible exact Below.refl _ _ | with_reducible refine Below.drew ?_ | with_reducible refine below_alloc' ?_)); done)))
    (first
      | (go_at_call 61; refine (HRd.out _).mono ?_; rintro e w7 ⟨rfl, k7, hk7⟩; have hb7 : Below W6.heap.size W6 w7 := hk7.symm ▸ below_drewN4 (by repeat (first | with_reducible assumption | with_reducible exact Below.refl _ _ | with_reducible refine Below.drew ?_ | with_reducible refine below_alloc' ?_) : Below W6.heap.size W6 _); clear hk7))
  clear c8_A_0 c8_A_1
  clear c9_N_0 c9_N_1
  have l12 := hb7
  clear hb7 hc0
  have HB_13 := Lib.hid (HB_7.out.trans (l12.mono HB_7.out.size))
  have p_13 := Lib.hid (ownz_below O_p.out l12 (Nat.le_refl _))
  clear O_p
  have A_13 := Lib.hid (A_7.out.below l12 A_7.out.lt)
  clear A_7
  have N_13 := Lib.hid (N_7.out.below l12 N_7.out.lt)
  clear N_7
  clear l12
  have c14_A_0 := A_13.out.at 0 (v := .int .i64 0) rfl
  have c14_A_1 := A_13.out.at 1 (v := .slice none 0 0) rfl
  have c15_N_0 := N_13.out.at 0 (v := .int .i64 0) rfl
  have c15_N_1 := N_13.out.at 1 (v := .slice none 0 0) rfl
  go_upto_region 7 with fail
  obtain ⟨WO, hWO⟩ : ∃ WO, WO = (w7.alloc (.cells #[] 75)).alloc (.cells #[.int .i64 nx, .slice (some ⟨w7.heap.size, 0, none⟩) 0 0] 26) := ⟨_, rfl⟩
  have HI0 : Hid (BoxR w7 WO (w7.heap.size + 1) w7.heap.size nx [] 0 (some ⟨w7.heap.size, 0, none⟩) 0) := Lib.hid (by rw [hWO]; exact boxr_new w7 nx)
  rw [← hWO]
  clear hWO
  obtain ⟨R_O, hRO⟩ : ∃ X, X = w7.heap.size + 1 := ⟨_, rfl⟩
  rw [← hRO] at HI0 ⊢
  have HRO := Lib.hid hRO
  clear hRO
  obtain ⟨B5, hB5⟩ : ∃ B5, B5 = w7.heap.size := ⟨_, rfl⟩
  have HB5 := Lib.hid hB5
  rw [← hB5] at HI0 ⊢
  clear hB5
  clear c14_A_0 c14_A_1
  clear c15_N_0 c15_N_1
  go_wp2_with fail
  go_loopw [9] (fun i wr => ∃ (j k : Nat) (aS : Option Addr) (cS : Nat), k ≤ n ∧ i = .int .i64 k ∧ Hid (k = j + 1) ∧ Hid (BoxR w7 wr R_O B5 nx ((tl.take j).map slotL) j aS cS)) (fun i _ => n - (RowKit.intOf i).toNat)
  case atStart => exact ⟨0, 1, _, 0, hn1, rfl, Lib.hid rfl, HI0⟩
  case round =>
    obtain ⟨j, k, aS, cS, hk, rfl, HKJ, HI⟩ := hrel
    have hj1 : j ≤ 101 := by have := HKJ.out; omega
    have HBr := Lib.hid (HB_13.out.trans (HI.out.bel.mono HB_13.out.size))
    have A_r := Lib.hid (A_13.out.below HI.out.bel A_13.out.lt)
    have N_r := Lib.hid (N_13.out.below HI.out.bel N_13.out.lt)
    have O_r := Lib.hid HI.out.bx
    have HGO : Hid (w.heap.size ≤ R_O) := Lib.hid (by rw [HRO.out]; exact Nat.le_succ_of_le HB_13.out.size)
    have HN_O_A : Hid (R_A < R_O) := Lib.hid (by rw [HRO.out]; exact Nat.lt_succ_of_lt A_13.out.lt)
    have HN_O_N : Hid (R_N < R_O) := Lib.hid (by rw [HRO.out]; exact Nat.lt_succ_of_lt N_13.out.lt)
    have c16_A_0 := A_r.out.at 0 (v := .int .i64 0) rfl
    have c16_A_1 := A_r.out.at 1 (v := .slice none 0 0) rfl
    have c17_N_0 := N_r.out.at 0 (v := .int .i64 0) rfl
    have c17_N_1 := N_r.out.at 1 (v := .slice none 0 0) rfl
    have c18_O_0 := O_r.out.at 0 (v := .int .i64 nx) rfl
    have c18_O_1 := O_r.out.at 1 (v := .slice aS j cS) rfl
    by_cases hkn : k < n
    · have hkn2 : (k : Int) < (n : Int) := by omega
      have hk0 : (0 : Int) ≤ (k : Int) := by omega
      have htl : j < tl.length := by have := HKJ.out; have := HN.out; omega
      obtain ⟨tp, htp⟩ : ∃ tp, tp = txt tl[j] := ⟨_, rfl⟩
      have hck : wr.cell? ⟨gp, k, none⟩ = some (.string tp) := by
        rw [HI.out.bel.cell (p := ⟨gp, k, none⟩) ((p_13.out.lt gp rfl).2), strs_cell p_13.out hkn, htp, HKJ.out]
        rw [List.getD_eq_getElem?_getD, List.getElem?_cons_succ, List.getElem?_eq_getElem htl]
        rfl
      have HXs : Hid ((tl.take (j + 1)).map slotL = (tl.take j).map slotL ++ [slotL tp.data.toList]) := Lib.hid (by rw [List.take_succ_eq_append_getElem htl, List.map_append, List.map_singleton, htp, txt_data])
      have hgpl : gp < wr.heap.size := Nat.lt_of_lt_of_le ((p_13.out.lt gp rfl).2) HI.out.bel.size
      have Hgpl := Lib.hid hgpl
      clear htp hgpl htl
      have hszr : B5 ≤ wr.heap.size := by rw [HB5.out]; exact HI.out.bel.size
      by_cases h63 : tp = ⟨#[63]⟩
      · subst h63
        clear c16_A_0 c16_A_1
        clear c17_N_0 c17_N_1
        clear c18_O_0 c18_O_1
        have c19_A_0 := A_r.out.at 0 (v := .int .i64 0) rfl
        have c19_A_1 := A_r.out.at 1 (v := .slice none 0 0) rfl
        have c20_N_0 := N_r.out.at 0 (v := .int .i64 0) rfl
        have c20_N_1 := N_r.out.at 1 (v := .slice none 0 0) rfl
        have c21_O_0 := O_r.out.at 0 (v := .int .i64 nx) rfl
        have c21_O_1 := O_r.out.at 1 (v := .slice aS j cS) rfl
        go_upto_region 10 with fail
        go_cut [10] from 47 to 56 (fun p wx => ∃ X, p = .pointer (some ⟨X, 0, none⟩) ∧ Hid (Bx wx X #[.bool false, .string ⟨#[63]⟩] 75) ∧ Hid (Below wr.heap.size wr wx) ∧ Hid (wr.heap.size ≤ X))
        case first => as_aux_lemma =>
          have HK2 := Lib.hid (fun (w' : World) (hb : Below wr.heap.size wr w') => (show w'.cell? ⟨gp, k, none⟩ = some (.string ⟨#[63]⟩) ∧ Below w.heap.size w w' from ⟨(hb.cell (p := ⟨gp, k, none⟩) Hgpl.out).trans hck, HBr.out.trans (hb.mono HBr.out.size)⟩))
          go_region_held3 (fun w' => w'.cell? ⟨gp, k, none⟩ = some (.string ⟨#[63]⟩) ∧ Below w.heap.size w w')
            ((first | (with_reducible refine HK2.out _ ?_; (repeat (first | with_reducible assumption | with_reducible exact Below.refl _ _ | with_reducible refine Below.drew ?_ | with_reducible refine below_alloc' ?_)); done)))
            (fail)
          all_goals go_wp2_with fail
          all_goals go_meet
          all_goals
            case rel => exact ⟨_, rfl, Lib.hid (Bx.new wr _ _).drew, Lib.hid (((Below.refl _ _).alloc (Nat.le_refl _) _).drew), Lib.hid (Nat.le_refl _)⟩
        case rest =>
          obtain ⟨R_X, rfl, HX_X, HCut, HG0⟩ := hcut
          rename World => W22
          have l22 := HCut.out
          have HCk := Lib.hid ((HCut.out.cell (p := ⟨gp, k, none⟩) Hgpl.out).trans hck)
          have hck9 := HCk.out
          clear hck
          have HN_X_A : Hid (R_A < R_X) := Lib.hid (Nat.lt_of_lt_of_le A_r.out.lt HG0.out)
          have HN_X_N : Hid (R_N < R_X) := Lib.hid (Nat.lt_of_lt_of_le N_r.out.lt HG0.out)
          have HN_X_O : Hid (R_O < R_X) := Lib.hid (Nat.lt_of_lt_of_le O_r.out.lt HG0.out)
          have HGX : Hid (w.heap.size ≤ R_X) := Lib.hid (Nat.le_trans HBr.out.size HG0.out)
          clear c19_A_0 c19_A_1
          clear c20_N_0 c20_N_1
          clear c21_O_0 c21_O_1
          have HB_23 := Lib.hid (HBr.out.trans (l22.mono HBr.out.size))
          have A_23 := Lib.hid (A_r.out.below l22 A_r.out.lt)
          have N_23 := Lib.hid (N_r.out.below l22 N_r.out.lt)
          have O_23 := Lib.hid (O_r.out.below l22 O_r.out.lt)
          clear O_r
          clear l22
          have c24_A_0 := A_23.out.at 0 (v := .int .i64 0) rfl
          have c24_A_1 := A_23.out.at 1 (v := .slice none 0 0) rfl
          have c25_N_0 := N_23.out.at 0 (v := .int .i64 0) rfl
          have c25_N_1 := N_23.out.at 1 (v := .slice none 0 0) rfl
          have c26_O_0 := O_23.out.at 0 (v := .int .i64 nx) rfl
          have c26_O_1 := O_23.out.at 1 (v := .slice aS j cS) rfl
          have c27_X_0 := HX_X.out.at 0 (v := .bool false) rfl
          have c27_X_1 := HX_X.out.at 1 (v := .string ⟨#[63]⟩) rfl
          have HOw := Lib.hid (ownz_below HI.out.own HCut.out (Nat.le_refl _))
          have hszw : B5 ≤ W22.heap.size := Nat.le_trans hszr HCut.out.size
          have fr28_X_0 := HX_X.out.free 0
          have fr28_X_1 := HX_X.out.free 1
          go_upto_region 13 with fail
          obtain ⟨pX, qX⟩ := HX_X.out.set 1 (.string ⟨#[]⟩)
          obtain ⟨WB, hWB⟩ : ∃ W9, W9 = W22.setCell ⟨R_X, 1, none⟩ (.string ⟨#[]⟩) := ⟨_, rfl⟩
          rw [← hWB] at pX qX ⊢
          clear hWB
          have X_b : Hid (Bx WB R_X #[.bool false, .string ⟨#[]⟩] 75) := Lib.hid pX
          have HCb : Hid (Below wr.heap.size wr WB) := Lib.hid (HCut.out.grown qX HCut.out.size (fun k hk => by have e2 : R_X = k := Option.some.inj hk; have := HG0.out; omega))
          have HOb := Lib.hid (HOw.out.kept qX (by
            cases hv : (Value.slice aS j cS).ownBlock with
            | none => exact .inl rfl
            | some k0 => exact .inr (fun e => by have e2 : k0 = R_X := Option.some.inj e; have h1 := (HI.out.own.lt k0 hv).2; have h2 := HG0.out; omega)))
          have O_b := Lib.hid (O_23.out.grown qX (fun e => by have e2 : R_O = R_X := Option.some.inj e; have := HN_X_O.out; omega))
          clear c24_A_0 c24_A_1
          clear c25_N_0 c25_N_1
          clear c26_O_0 c26_O_1
          clear c27_X_0 c27_X_1
          clear fr28_X_0 fr28_X_1
          clear pX qX
          have c29_X_0 := X_b.out.at 0 (v := .bool false) rfl
          have c29_X_1 := X_b.out.at 1 (v := .string ⟨#[]⟩) rfl
          have c30_O_0 := O_b.out.at 0 (v := .int .i64 nx) rfl
          have c30_O_1 := O_b.out.at 1 (v := .slice aS j cS) rfl
          have hszb : B5 ≤ WB.heap.size := Nat.le_trans hszr HCb.out.size
          have fr31_O_0 := O_b.out.free 0
          have fr31_O_1 := O_b.out.free 1
          go_wp2_with (at_builtin; refine wpList_append_own_at _ rfl _ _ 24 rfl B5 75 i0 (.agg #[.bool false, .string ⟨#[]⟩]) 2 24 Tryd.underlying24 hi hz0 hz1 hz2 rfl (by decide) _ j (slF ((tl.take j).map slotL)) rfl (ownz_none HOb.out (World.grownBy_alloc _ _ none)) ⟨WB.heap.size, 0, none⟩ 1 1 (slC (⟨false, ⟨#[]⟩⟩ : Sl)) rfl rfl (row_news (row_litSl (t := (⟨false, ⟨#[]⟩⟩ : Sl)) (Bx.new WB _ _))) (slC_one _) (by unfold maxLen; omega) (by omega) (by simp; omega) ?_; intro v3 w3 hown3 hgrow3 hnil3 hat3; obtain ⟨a3, c3, rfl, _, _⟩ := ownz_slice hown3; have hBx := (O_b.out.alloc (.cells #[.bool false, .string ⟨#[]⟩] 75)).grown hgrow3 (fun e => HI.out.apart R_O e.symm rfl); have o0 := hBx.at 0 (v := .int .i64 nx) rfl; have o1 := hBx.at 1 (v := .slice aS j cS) rfl; have fo0 := hBx.free 0; have fo1 := hBx.free 1; have HSt := Lib.hid (boxr_step HI.out (by rw [HRO.out]; exact Nat.le_succ _) (by rw [HB5.out]; exact Nat.le_refl _) (below_alloc' HCb.out) hown3 hgrow3 hat3); clear hBx; clear hnil3 hown3 hgrow3 hat3)
          go_roundw
          case rel => exact ⟨j + 1, k + 1, a3, c3, by omega, by go_num, Lib.hid (by rw [HKJ.out]), Lib.hid (by rw [HXs.out]; exact HSt.out)⟩
          case measure => (simp [RowKit.intOf]; omega)
      by_cases h46 : tp = ⟨#[46]⟩
      · subst h46
        clear c16_A_0 c16_A_1
        clear c17_N_0 c17_N_1
        clear c18_O_0 c18_O_1
        have c32_A_0 := A_r.out.at 0 (v := .int .i64 0) rfl
        have c32_A_1 := A_r.out.at 1 (v := .slice none 0 0) rfl
        have c33_N_0 := N_r.out.at 0 (v := .int .i64 0) rfl
        have c33_N_1 := N_r.out.at 1 (v := .slice none 0 0) rfl
        have c34_O_0 := O_r.out.at 0 (v := .int .i64 nx) rfl
        have c34_O_1 := O_r.out.at 1 (v := .slice aS j cS) rfl
        go_upto_region 10 with fail
        go_cut [10] from 47 to 56 (fun p wx => ∃ X, p = .pointer (some ⟨X, 0, none⟩) ∧ Hid (Bx wx X #[.bool true, .string ⟨#[46]⟩] 75) ∧ Hid (Below wr.heap.size wr wx) ∧ Hid (wr.heap.size ≤ X))
        case first => as_aux_lemma =>
          have HK3 := Lib.hid (fun (w' : World) (hb : Below wr.heap.size wr w') => (show w'.cell? ⟨gp, k, none⟩ = some (.string ⟨#[46]⟩) ∧ Below w.heap.size w w' from ⟨(hb.cell (p := ⟨gp, k, none⟩) Hgpl.out).trans hck, HBr.out.trans (hb.mono HBr.out.size)⟩))
          go_region_held3 (fun w' => w'.cell? ⟨gp, k, none⟩ = some (.string ⟨#[46]⟩) ∧ Below w.heap.size w w')
            ((first | (with_reducible refine HK3.out _ ?_; (repeat (first | with_reducible assumption | with_reducible exact Below.refl _ _ | with_reducible refine Below.drew ?_ | with_reducible refine below_alloc' ?_)); done)))
            (fail)
          all_goals go_wp2_with fail
          all_goals go_meet
          all_goals
            case rel => exact ⟨_, rfl, Lib.hid (Bx.new wr _ _).drew, Lib.hid (((Below.refl _ _).alloc (Nat.le_refl _) _).drew), Lib.hid (Nat.le_refl _)⟩
        case rest =>
          obtain ⟨R_X, rfl, HX_X, HCut, HG0⟩ := hcut
          rename World => W35
          have l35 := HCut.out
          have HCk := Lib.hid ((HCut.out.cell (p := ⟨gp, k, none⟩) Hgpl.out).trans hck)
          have hck9 := HCk.out
          clear hck
          have HN_X_A : Hid (R_A < R_X) := Lib.hid (Nat.lt_of_lt_of_le A_r.out.lt HG0.out)
          have HN_X_N : Hid (R_N < R_X) := Lib.hid (Nat.lt_of_lt_of_le N_r.out.lt HG0.out)
          have HN_X_O : Hid (R_O < R_X) := Lib.hid (Nat.lt_of_lt_of_le O_r.out.lt HG0.out)
          have HGX : Hid (w.heap.size ≤ R_X) := Lib.hid (Nat.le_trans HBr.out.size HG0.out)
          clear c32_A_0 c32_A_1
          clear c33_N_0 c33_N_1
          clear c34_O_0 c34_O_1
          have HB_36 := Lib.hid (HBr.out.trans (l35.mono HBr.out.size))
          have A_36 := Lib.hid (A_r.out.below l35 A_r.out.lt)
          have N_36 := Lib.hid (N_r.out.below l35 N_r.out.lt)
          have O_36 := Lib.hid (O_r.out.below l35 O_r.out.lt)
          clear O_r
          clear l35
          have c37_A_0 := A_36.out.at 0 (v := .int .i64 0) rfl
          have c37_A_1 := A_36.out.at 1 (v := .slice none 0 0) rfl
          have c38_N_0 := N_36.out.at 0 (v := .int .i64 0) rfl
          have c38_N_1 := N_36.out.at 1 (v := .slice none 0 0) rfl
          have c39_O_0 := O_36.out.at 0 (v := .int .i64 nx) rfl
          have c39_O_1 := O_36.out.at 1 (v := .slice aS j cS) rfl
          have c40_X_0 := HX_X.out.at 0 (v := .bool true) rfl
          have c40_X_1 := HX_X.out.at 1 (v := .string ⟨#[46]⟩) rfl
          have HOw := Lib.hid (ownz_below HI.out.own HCut.out (Nat.le_refl _))
          have hszw : B5 ≤ W35.heap.size := Nat.le_trans hszr HCut.out.size
          have fr41_X_0 := HX_X.out.free 0
          have fr41_X_1 := HX_X.out.free 1
          go_upto_region 13 with fail
          obtain ⟨pX, qX⟩ := HX_X.out.set 1 (.string ⟨#[]⟩)
          obtain ⟨WB, hWB⟩ : ∃ W9, W9 = W35.setCell ⟨R_X, 1, none⟩ (.string ⟨#[]⟩) := ⟨_, rfl⟩
          rw [← hWB] at pX qX ⊢
          clear hWB
          have X_b : Hid (Bx WB R_X #[.bool true, .string ⟨#[]⟩] 75) := Lib.hid pX
          have HCb : Hid (Below wr.heap.size wr WB) := Lib.hid (HCut.out.grown qX HCut.out.size (fun k hk => by have e2 : R_X = k := Option.some.inj hk; have := HG0.out; omega))
          have HOb := Lib.hid (HOw.out.kept qX (by
            cases hv : (Value.slice aS j cS).ownBlock with
            | none => exact .inl rfl
            | some k0 => exact .inr (fun e => by have e2 : k0 = R_X := Option.some.inj e; have h1 := (HI.out.own.lt k0 hv).2; have h2 := HG0.out; omega)))
          have O_b := Lib.hid (O_36.out.grown qX (fun e => by have e2 : R_O = R_X := Option.some.inj e; have := HN_X_O.out; omega))
          clear c37_A_0 c37_A_1
          clear c38_N_0 c38_N_1
          clear c39_O_0 c39_O_1
          clear c40_X_0 c40_X_1
          clear fr41_X_0 fr41_X_1
          clear pX qX
          have c42_X_0 := X_b.out.at 0 (v := .bool true) rfl
          have c42_X_1 := X_b.out.at 1 (v := .string ⟨#[]⟩) rfl
          have c43_O_0 := O_b.out.at 0 (v := .int .i64 nx) rfl
          have c43_O_1 := O_b.out.at 1 (v := .slice aS j cS) rfl
          have hszb : B5 ≤ WB.heap.size := Nat.le_trans hszr HCb.out.size
          have fr44_O_0 := O_b.out.free 0
          have fr44_O_1 := O_b.out.free 1
          go_wp2_with (at_builtin; refine wpList_append_own_at _ rfl _ _ 24 rfl B5 75 i0 (.agg #[.bool false, .string ⟨#[]⟩]) 2 24 Tryd.underlying24 hi hz0 hz1 hz2 rfl (by decide) _ j (slF ((tl.take j).map slotL)) rfl (ownz_none HOb.out (World.grownBy_alloc _ _ none)) ⟨WB.heap.size, 0, none⟩ 1 1 (slC (⟨true, ⟨#[]⟩⟩ : Sl)) rfl rfl (row_news (row_litSl (t := (⟨true, ⟨#[]⟩⟩ : Sl)) (Bx.new WB _ _))) (slC_one _) (by unfold maxLen; omega) (by omega) (by simp; omega) ?_; intro v3 w3 hown3 hgrow3 hnil3 hat3; obtain ⟨a3, c3, rfl, _, _⟩ := ownz_slice hown3; have hBx := (O_b.out.alloc (.cells #[.bool true, .string ⟨#[]⟩] 75)).grown hgrow3 (fun e => HI.out.apart R_O e.symm rfl); have o0 := hBx.at 0 (v := .int .i64 nx) rfl; have o1 := hBx.at 1 (v := .slice aS j cS) rfl; have fo0 := hBx.free 0; have fo1 := hBx.free 1; have HSt := Lib.hid (boxr_step HI.out (by rw [HRO.out]; exact Nat.le_succ _) (by rw [HB5.out]; exact Nat.le_refl _) (below_alloc' HCb.out) hown3 hgrow3 hat3); clear hBx; clear hnil3 hown3 hgrow3 hat3)
          go_roundw
          case rel => exact ⟨j + 1, k + 1, a3, c3, by omega, by go_num, Lib.hid (by rw [HKJ.out]), Lib.hid (by rw [HXs.out]; exact HSt.out)⟩
          case measure => (simp [RowKit.intOf]; omega)
      have n63 : (tp.toList == ([63] : List UInt8)) = false := tl_ne (fun e => h63 (by apply ByteArray.ext; exact Array.toList_inj.1 e))
      have n46 : (tp.toList == ([46] : List UInt8)) = false := tl_ne (fun e => h46 (by apply ByteArray.ext; exact Array.toList_inj.1 e))
      have hsl := slot_else h63 h46
      rw [hsl] at HXs
      clear hsl h63 h46
      clear c16_A_0 c16_A_1
      clear c17_N_0 c17_N_1
      clear c18_O_0 c18_O_1
      have c45_A_0 := A_r.out.at 0 (v := .int .i64 0) rfl
      have c45_A_1 := A_r.out.at 1 (v := .slice none 0 0) rfl
      have c46_N_0 := N_r.out.at 0 (v := .int .i64 0) rfl
      have c46_N_1 := N_r.out.at 1 (v := .slice none 0 0) rfl
      have c47_O_0 := O_r.out.at 0 (v := .int .i64 nx) rfl
      have c47_O_1 := O_r.out.at 1 (v := .slice aS j cS) rfl
      go_upto_region 10 with fail
      go_cut [10] from 47 to 56 (fun p wx => ∃ X, p = .pointer (some ⟨X, 0, none⟩) ∧ Hid (Bx wx X #[.bool true, .string tp] 75) ∧ Hid (Below wr.heap.size wr wx) ∧ Hid (wr.heap.size ≤ X))
      case first => as_aux_lemma =>
        have HK4 := Lib.hid (fun (w' : World) (hb : Below wr.heap.size wr w') => (show w'.cell? ⟨gp, k, none⟩ = some (.string tp) ∧ Below w.heap.size w w' from ⟨(hb.cell (p := ⟨gp, k, none⟩) Hgpl.out).trans hck, HBr.out.trans (hb.mono HBr.out.size)⟩))
        go_region_held3 (fun w' => w'.cell? ⟨gp, k, none⟩ = some (.string tp) ∧ Below w.heap.size w w')
          ((first | (with_reducible refine HK4.out _ ?_; (repeat (first | with_reducible assumption | with_reducible exact Below.refl _ _ | with_reducible refine Below.drew ?_ | with_reducible refine below_alloc' ?_)); done)))
          (fail)
        all_goals go_wp2_with fail
        all_goals go_meet
        all_goals
          case rel => exact ⟨_, rfl, Lib.hid (Bx.new wr _ _).drew, Lib.hid (((Below.refl _ _).alloc (Nat.le_refl _) _).drew), Lib.hid (Nat.le_refl _)⟩
      case rest =>
        obtain ⟨R_X, rfl, HX_X, HCut, HG0⟩ := hcut
        rename World => W48
        have l48 := HCut.out
        have HCk := Lib.hid ((HCut.out.cell (p := ⟨gp, k, none⟩) Hgpl.out).trans hck)
        have hck9 := HCk.out
        clear hck
        have HN_X_A : Hid (R_A < R_X) := Lib.hid (Nat.lt_of_lt_of_le A_r.out.lt HG0.out)
        have HN_X_N : Hid (R_N < R_X) := Lib.hid (Nat.lt_of_lt_of_le N_r.out.lt HG0.out)
        have HN_X_O : Hid (R_O < R_X) := Lib.hid (Nat.lt_of_lt_of_le O_r.out.lt HG0.out)
        have HGX : Hid (w.heap.size ≤ R_X) := Lib.hid (Nat.le_trans HBr.out.size HG0.out)
        clear c45_A_0 c45_A_1
        clear c46_N_0 c46_N_1
        clear c47_O_0 c47_O_1
        have HB_49 := Lib.hid (HBr.out.trans (l48.mono HBr.out.size))
        have A_49 := Lib.hid (A_r.out.below l48 A_r.out.lt)
        have N_49 := Lib.hid (N_r.out.below l48 N_r.out.lt)
        have O_49 := Lib.hid (O_r.out.below l48 O_r.out.lt)
        clear O_r
        clear l48
        have c50_A_0 := A_49.out.at 0 (v := .int .i64 0) rfl
        have c50_A_1 := A_49.out.at 1 (v := .slice none 0 0) rfl
        have c51_N_0 := N_49.out.at 0 (v := .int .i64 0) rfl
        have c51_N_1 := N_49.out.at 1 (v := .slice none 0 0) rfl
        have c52_O_0 := O_49.out.at 0 (v := .int .i64 nx) rfl
        have c52_O_1 := O_49.out.at 1 (v := .slice aS j cS) rfl
        have c53_X_0 := HX_X.out.at 0 (v := .bool true) rfl
        have c53_X_1 := HX_X.out.at 1 (v := .string tp) rfl
        have HOw := Lib.hid (ownz_below HI.out.own HCut.out (Nat.le_refl _))
        have hszw : B5 ≤ W48.heap.size := Nat.le_trans hszr HCut.out.size
        have fr54_O_0 := O_49.out.free 0
        have fr54_O_1 := O_49.out.free 1
        go_wp2_with (at_builtin; refine wpList_append_own_at _ rfl _ _ 24 rfl B5 75 i0 (.agg #[.bool false, .string ⟨#[]⟩]) 2 24 Tryd.underlying24 hi hz0 hz1 hz2 rfl (by decide) _ j (slF ((tl.take j).map slotL)) rfl (ownz_none HOw.out (World.grownBy_alloc _ _ none)) ⟨W48.heap.size, 0, none⟩ 1 1 (slC (⟨true, tp⟩ : Sl)) rfl rfl (row_news (row_litSl (t := (⟨true, tp⟩ : Sl)) (Bx.new W48 _ _))) (slC_one _) (by unfold maxLen; omega) (by omega) (by simp; omega) ?_; intro v3 w3 hown3 hgrow3 hnil3 hat3; obtain ⟨a3, c3, rfl, _, _⟩ := ownz_slice hown3; have hBx := (O_49.out.alloc (.cells #[.bool true, .string tp] 75)).grown hgrow3 (fun e => HI.out.apart R_O e.symm rfl); have o0 := hBx.at 0 (v := .int .i64 nx) rfl; have o1 := hBx.at 1 (v := .slice aS j cS) rfl; have fo0 := hBx.free 0; have fo1 := hBx.free 1; have HSt := Lib.hid (boxr_step HI.out (by rw [HRO.out]; exact Nat.le_succ _) (by rw [HB5.out]; exact Nat.le_refl _) (below_alloc' HCut.out) hown3 hgrow3 hat3); clear hBx; clear hnil3 hown3 hgrow3 hat3)
        go_roundw
        case rel => exact ⟨j + 1, k + 1, a3, c3, by omega, by go_num, Lib.hid (by rw [HKJ.out]), Lib.hid (by rw [HXs.out]; exact HSt.out)⟩
        case measure => (simp [RowKit.intOf]; omega)
    · have hkn2 : ¬ (k : Int) < (n : Int) := by omega
      have hjt : tl.length = j := by have := HKJ.out; have := HN.out; omega
      have HIo := Lib.hid HI.out.own
      have hlst : (tl.take j).map slotL = tl.map slotL := by rw [List.take_of_length_le (by omega)]
      rw [hlst] at HIo
      have hxl : (tl.map slotL).length = j := by rw [List.length_map]; exact hjt
      generalize tl.map slotL = xs at HIo hxl HB1 HW1 HTl
      clear hlst hjt
      have HXl := Lib.hid hxl
      clear hxl
      have HGd := Lib.hid (fun (W1 : World) (hr : Row W1 (.slice aS j cS) j (slF xs)) => l10Good_any (.slice aS j cS) ⟨nx, xs⟩ W1 (by rw [HXl.out]; exact hr) HTl.out)
      have HTx := Lib.hid (fun (h : rwOk ⟨nx, xs⟩ = true) (W1 : World) (hr : Row W1 (.slice aS j cS) j (slF xs)) => l10Text_any (.slice aS j cS) ⟨nx, xs⟩ W1 (by rw [HXl.out]; exact hr) h)
      dsimp only at HGd HTx
      cases ob with
      | false =>
        have HB9 : Hid (psB s = false) := Lib.hid HB1.out
        have fr55_A_0 := A_r.out.free 0
        have fr55_A_1 := A_r.out.free 1
        go_wp2_with fail
        obtain ⟨p1, q1⟩ := A_r.out.store2 (.int .i64 0) (.slice none 0 0)
        refine bodyPost_ret (results_bx1 rfl isRw _ _ R_A rfl rfl rfl p1) rfl ?_
        rw [HB9.out, HNo.out HB9.out]
        exact ⟨_, rfl, ⟨rfl, .inl ⟨rfl, rfl⟩⟩, (HBr.out.grown q1 HBr.out.size (fun k hk => by have e2 : R_A = k := Option.some.inj hk; have := HR_A.out; omega))⟩
      | true =>
        rw [Bool.true_and] at HB1
        cases ok : rwOk ⟨nx, xs⟩ with
        | false =>
          rw [ok] at HGd HB1
          have HB9 : Hid (psB s = false) := Lib.hid HB1.out
          go_wp2_with fail
          refine (HGd.out _ (rowz_own HIo.out)).mono ?_
          rintro e W56 ⟨rfl, l56⟩
          clear c16_A_0 c16_A_1
          clear c17_N_0 c17_N_1
          clear c18_O_0 c18_O_1
          have HB_57 := Lib.hid (HBr.out.trans (l56.mono HBr.out.size))
          have A_57 := Lib.hid (A_r.out.below l56 A_r.out.lt)
          have N_57 := Lib.hid (N_r.out.below l56 N_r.out.lt)
          have O_57 := Lib.hid (O_r.out.below l56 O_r.out.lt)
          clear O_r
          clear l56
          have c58_A_0 := A_57.out.at 0 (v := .int .i64 0) rfl
          have c58_A_1 := A_57.out.at 1 (v := .slice none 0 0) rfl
          have c59_N_0 := N_57.out.at 0 (v := .int .i64 0) rfl
          have c59_N_1 := N_57.out.at 1 (v := .slice none 0 0) rfl
          have c60_O_0 := O_57.out.at 0 (v := .int .i64 nx) rfl
          have c60_O_1 := O_57.out.at 1 (v := .slice aS j cS) rfl
          have fr61_A_0 := A_57.out.free 0
          have fr61_A_1 := A_57.out.free 1
          go_wp2_with fail
          obtain ⟨p1, q1⟩ := A_57.out.store2 (.int .i64 0) (.slice none 0 0)
          refine bodyPost_ret (results_bx1 rfl isRw _ _ R_A rfl rfl rfl p1) rfl ?_
          rw [HB9.out, HNo.out HB9.out]
          exact ⟨_, rfl, ⟨rfl, .inl ⟨rfl, rfl⟩⟩, (HB_57.out.grown q1 HB_57.out.size (fun k hk => by have e2 : R_A = k := Option.some.inj hk; have := HR_A.out; omega))⟩
        | true =>
          rw [ok, Bool.true_and] at HB1
          rw [ok] at HGd
          have HT2 := Lib.hid (HTx.out ok)
          generalize txB nx xs = tx at HT2 HB1
          clear HTx ok
          have HIr := Lib.hid (rowz_own HIo.out)
          by_cases htx : tx = s
          rotate_left
          · have hc := bytes_neq htx
            have HB9 : Hid (psB s = false) := Lib.hid (by rw [HB1.out]; exact decide_eq_false htx)
            clear htx
            have HFm := Lib.hid (Below.refl wr.heap.size wr)
            go_wp2_with fail
            refine (HGd.out _ (rowz_own HIo.out)).mono ?_
            rintro e W62 ⟨rfl, l62⟩
            clear c16_A_0 c16_A_1
            clear c17_N_0 c17_N_1
            clear c18_O_0 c18_O_1
            have HB_63 := Lib.hid (HBr.out.trans (l62.mono HBr.out.size))
            have HFm_63 := Lib.hid (HFm.out.trans (l62.mono HFm.out.size))
            clear HFm
            have A_63 := Lib.hid (A_r.out.below l62 A_r.out.lt)
            have N_63 := Lib.hid (N_r.out.below l62 N_r.out.lt)
            have O_63 := Lib.hid (O_r.out.below l62 O_r.out.lt)
            clear O_r
            clear l62
            have c64_A_0 := A_63.out.at 0 (v := .int .i64 0) rfl
            have c64_A_1 := A_63.out.at 1 (v := .slice none 0 0) rfl
            have c65_N_0 := N_63.out.at 0 (v := .int .i64 0) rfl
            have c65_N_1 := N_63.out.at 1 (v := .slice none 0 0) rfl
            have c66_O_0 := O_63.out.at 0 (v := .int .i64 nx) rfl
            have c66_O_1 := O_63.out.at 1 (v := .slice aS j cS) rfl
            go_wp2_with fail
            refine (HT2.out _ (HIr.out.below HFm_63.out (Nat.le_refl _))).mono ?_
            rintro e W67 ⟨rfl, l67⟩
            clear c64_A_0 c64_A_1
            clear c65_N_0 c65_N_1
            clear c66_O_0 c66_O_1
            have HB_68 := Lib.hid (HB_63.out.trans (l67.mono HB_63.out.size))
            have HFm_68 := Lib.hid (HFm_63.out.trans (l67.mono HFm_63.out.size))
            clear HFm_63
            have A_68 := Lib.hid (A_63.out.below l67 A_63.out.lt)
            clear A_63
            have N_68 := Lib.hid (N_63.out.below l67 N_63.out.lt)
            clear N_63
            have O_68 := Lib.hid (O_63.out.below l67 O_63.out.lt)
            clear O_63
            clear l67
            have c69_A_0 := A_68.out.at 0 (v := .int .i64 0) rfl
            have c69_A_1 := A_68.out.at 1 (v := .slice none 0 0) rfl
            have c70_N_0 := N_68.out.at 0 (v := .int .i64 0) rfl
            have c70_N_1 := N_68.out.at 1 (v := .slice none 0 0) rfl
            have c71_O_0 := O_68.out.at 0 (v := .int .i64 nx) rfl
            have c71_O_1 := O_68.out.at 1 (v := .slice aS j cS) rfl
            have fr72_A_0 := A_68.out.free 0
            have fr72_A_1 := A_68.out.free 1
            go_wp2_with fail
            obtain ⟨p1, q1⟩ := A_68.out.store2 (.int .i64 0) (.slice none 0 0)
            refine bodyPost_ret (results_bx1 rfl isRw _ _ R_A rfl rfl rfl p1) rfl ?_
            rw [HB9.out, HNo.out HB9.out]
            exact ⟨_, rfl, ⟨rfl, .inl ⟨rfl, rfl⟩⟩, (HB_68.out.grown q1 HB_68.out.size (fun k hk => by have e2 : R_A = k := Option.some.inj hk; have := HR_A.out; omega))⟩
          · subst htx
            have hyes : psB tx = true := by rw [HB1.out]; exact decide_eq_true rfl
            have HB9 := Lib.hid hyes
            have HW9 := Lib.hid (HW1.out hyes)
            clear hyes
            have HFm := Lib.hid (Below.refl wr.heap.size wr)
            go_wp2_with fail
            refine (HGd.out _ (rowz_own HIo.out)).mono ?_
            rintro e W73 ⟨rfl, l73⟩
            clear c16_A_0 c16_A_1
            clear c17_N_0 c17_N_1
            clear c18_O_0 c18_O_1
            have HB_74 := Lib.hid (HBr.out.trans (l73.mono HBr.out.size))
            have HFm_74 := Lib.hid (HFm.out.trans (l73.mono HFm.out.size))
            clear HFm
            have A_74 := Lib.hid (A_r.out.below l73 A_r.out.lt)
            have N_74 := Lib.hid (N_r.out.below l73 N_r.out.lt)
            have O_74 := Lib.hid (O_r.out.below l73 O_r.out.lt)
            clear O_r
            clear l73
            have c75_A_0 := A_74.out.at 0 (v := .int .i64 0) rfl
            have c75_A_1 := A_74.out.at 1 (v := .slice none 0 0) rfl
            have c76_N_0 := N_74.out.at 0 (v := .int .i64 0) rfl
            have c76_N_1 := N_74.out.at 1 (v := .slice none 0 0) rfl
            have c77_O_0 := O_74.out.at 0 (v := .int .i64 nx) rfl
            have c77_O_1 := O_74.out.at 1 (v := .slice aS j cS) rfl
            go_wp2_with fail
            refine (HT2.out _ (HIr.out.below HFm_74.out (Nat.le_refl _))).mono ?_
            rintro e W78 ⟨rfl, l78⟩
            clear c75_A_0 c75_A_1
            clear c76_N_0 c76_N_1
            clear c77_O_0 c77_O_1
            have HB_79 := Lib.hid (HB_74.out.trans (l78.mono HB_74.out.size))
            have HFm_79 := Lib.hid (HFm_74.out.trans (l78.mono HFm_74.out.size))
            clear HFm_74
            have A_79 := Lib.hid (A_74.out.below l78 A_74.out.lt)
            clear A_74
            have N_79 := Lib.hid (N_74.out.below l78 N_74.out.lt)
            clear N_74
            have O_79 := Lib.hid (O_74.out.below l78 O_74.out.lt)
            clear O_74
            clear l78
            have c80_A_0 := A_79.out.at 0 (v := .int .i64 0) rfl
            have c80_A_1 := A_79.out.at 1 (v := .slice none 0 0) rfl
            have c81_N_0 := N_79.out.at 0 (v := .int .i64 0) rfl
            have c81_N_1 := N_79.out.at 1 (v := .slice none 0 0) rfl
            have c82_O_0 := O_79.out.at 0 (v := .int .i64 nx) rfl
            have c82_O_1 := O_79.out.at 1 (v := .slice aS j cS) rfl
            have fr83_A_0 := A_79.out.free 0
            have fr83_A_1 := A_79.out.free 1
            go_wp2_with fail
            obtain ⟨p1, q1⟩ := A_79.out.store2 (.int .i64 nx) (.slice aS j cS)
            refine bodyPost_ret (results_bx1 rfl isRw _ _ R_A rfl rfl rfl p1) rfl ?_
            rw [HB9.out, HW9.out]
            dsimp only
            rw [HXl.out]
            exact ⟨_, rfl, ownz_base ((ownz_below HIo.out HFm_79.out (Nat.le_refl _)).kept q1 (by
              cases hv : (Value.slice aS j cS).ownBlock with
              | none => exact .inl rfl
              | some k0 => exact .inr (fun e => by have e2 : k0 = R_A := Option.some.inj e; have h1 := (HIo.out.lt k0 hv).1; rw [HB5.out] at h1; have h2 := A_13.out.lt; omega))) (by rw [HB5.out]; exact HB_13.out.size), (HB_79.out.grown q1 HB_79.out.size (fun k hk => by have e2 : R_A = k := Option.some.inj hk; have := HR_A.out; omega))⟩
end Go.Proofs.YtpmjdppipalfcaaDoor
