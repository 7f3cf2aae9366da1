/-
  Windows of the source: the program's functions that read.
-/
import Derived.Test.YtlendmiolhgecaaSnd3
import Derived.Test.YtlendmiolhgecaaPktI
import Derived.Deep.QuietTactic
import Derived.BigQuiet
import Derived.IntWalk
import Derived.Deep.CutRange
import Derived.WalkLawsBesides
import Derived.Lib.SmallJoins
import Derived.Deep.RegionHeld3
namespace Go.Proofs.Ytlendmiolhgecaa
open Go.RowKit Go.Lib Go.Joins
set_option linter.unusedVariables false

theorem itB_item (s : ByteArray) : (decide (s.size ≤ 8) && ltrB s) = itB s := Bool.and_comm _ _
set_option maxRecDepth 100000 in
set_option maxHeartbeats 400000 in
theorem winSize_any (x : Int) (w : World) :
    Calls Try.prog 100 #[.int .i64 x] w fun e w' => e = .returned (.bool (inB x 1 6)) ∧ w = w' := by
  by_cases h1 : 1 ≤ x
  · by_cases h2 : x ≤ 6
    · rw [inB_yes h1 h2]
      go_enter Try.func100, Try.ntmps100
      go_wp2_with fail
      go_ret
      exact ⟨rfl, rfl⟩
    · rw [inB_no (by omega)]
      go_enter Try.func100, Try.ntmps100
      go_wp2_with fail
      go_ret
      first | exact ⟨rfl, rfl⟩ | exact ⟨ret_bool (decide_eq_false h2), rfl⟩ | exact ⟨ret_bool (by simp; omega), rfl⟩
  · rw [inB_no (by omega)]
    go_enter Try.func100, Try.ntmps100
    go_wp2_with fail
    go_ret
    exact ⟨rfl, rfl⟩
set_option maxRecDepth 100000 in
set_option maxHeartbeats 4000000 in
theorem implIsSw_any (v : Value) (l : Sw) (w : World) (hrow : Row w v l.q.length (l.q.map Value.string)) (hs : ∀ s ∈ l.q, s.size ≤ maxLen) :
    Calls Try.prog 50 #[.agg #[.int .i64 l.t, .int .i64 l.z, v]] w fun e w' => e = .returned (.bool (swOk l)) ∧ Below w.heap.size w w' := by
  obtain ⟨t, z, q⟩ := l
  dsimp only at hrow hs ⊢
  obtain ⟨a, cap, rfl, hc1, hm1, _⟩ := row_open hrow
  unfold maxLen at hm1
  have HP := Lib.hid hrow
  clear hrow
  have HS := Lib.hid hs
  clear hs
  obtain ⟨W0, R_T, hW0, hR_T, hX_T, hB0⟩ := entry1 w #[.int .i64 t, .int .i64 z, .slice a q.length cap] 26
  have HW0 := Lib.hid hW0
  have HB0 := Lib.hid hB0
  have HR_T := Lib.hid hR_T
  have HX_T := Lib.hid hX_T
  clear hW0 hB0 hR_T hX_T
  have c2_T_0 := HX_T.out.at 0 (v := .int .i64 t) rfl
  have c2_T_1 := HX_T.out.at 1 (v := .int .i64 z) rfl
  have c2_T_2 := HX_T.out.at 2 (v := .slice a q.length cap) rfl
  have HNo := Lib.hid (@swOk_no ⟨t, z, q⟩)
  have HSer := Lib.hid (fun (W1 : World) => implIsSerial_any t W1)
  have HSz := Lib.hid (fun (W1 : World) => winSize_any z W1)
  cases h1 : serB t with
  | false =>
    rw [h1] at HSer
    have HE : Hid (swOk ⟨t, z, q⟩ = false) := Lib.hid (HNo.out (fun h => by have := h.1; rw [serB_yes this.1 this.2] at h1; cases h1))
    clear HNo
    go_enter Try.func50, Try.ntmps50
    go_upto_region 1 with fail
    rw [← HW0.out, ← HR_T.out]
    go_wp2_with fail
    refine (HSer.out _).mono ?_
    rintro e _ ⟨rfl, rfl⟩
    go_wp2_with fail
    go_ret
    exact ⟨ret_bool HE.out.symm, HB0.out⟩
  | true =>
    rw [h1] at HSer
    cases h2 : inB z 1 6 with
    | false =>
      rw [h2] at HSz
      have HE : Hid (swOk ⟨t, z, q⟩ = false) := Lib.hid (HNo.out (fun h => by have := h.2.1; rw [inB_yes this.1 this.2] at h2; cases h2))
      clear HNo
      go_enter Try.func50, Try.ntmps50
      go_upto_region 1 with fail
      rw [← HW0.out, ← HR_T.out]
      go_wp2_with fail
      refine (HSer.out _).mono ?_
      rintro e _ ⟨rfl, rfl⟩
      go_wp2_with fail
      refine (HSz.out _).mono ?_
      rintro e _ ⟨rfl, rfl⟩
      go_wp2_with fail
      go_ret
      exact ⟨ret_bool HE.out.symm, HB0.out⟩
    | true =>
      rw [h2] at HSz
      by_cases h3 : (q.length : Int) ≤ z
      rotate_left
      · have h3' : z < (q.length : Int) := by omega
        have HE : Hid (swOk ⟨t, z, q⟩ = false) := Lib.hid (HNo.out (fun h => by exact h3 h.2.2.1))
        clear HNo
        go_enter Try.func50, Try.ntmps50
        go_upto_region 1 with fail
        rw [← HW0.out, ← HR_T.out]
        go_wp2_with fail
        refine (HSer.out _).mono ?_
        rintro e _ ⟨rfl, rfl⟩
        go_wp2_with fail
        refine (HSz.out _).mono ?_
        rintro e _ ⟨rfl, rfl⟩
        go_wp2_with fail
        go_ret
        exact ⟨ret_bool HE.out.symm, HB0.out⟩
      have h3' : ¬ z < (q.length : Int) := by omega
      have HYes : Hid ((∀ s ∈ q, itB s = true) → swOk ⟨t, z, q⟩ = true) := Lib.hid (fun h => swOk_mk (serB_bd h1) (inB_bd h2) h3 h)
      clear h1 h2
      go_enter Try.func50, Try.ntmps50
      go_upto_region 1 with fail
      rw [← HW0.out, ← HR_T.out]
      go_wp2_with fail
      refine (HSer.out _).mono ?_
      rintro e _ ⟨rfl, rfl⟩
      go_wp2_with fail
      refine (HSz.out _).mono ?_
      rintro e _ ⟨rfl, rfl⟩
      go_wp2_with fail
      go_loop [26] (fun i => ∃ k : Nat, k ≤ q.length ∧ i = .int .i64 k ∧ Hid (∀ s ∈ q.take k, itB s = true)) (fun i => q.length - (RowKit.intOf i).toNat)
      case atStart => exact ⟨0, Nat.zero_le _, rfl, Lib.hid (by simp)⟩
      case round =>
        obtain ⟨k, hk, rfl, HA⟩ := hrel
        by_cases hkn : k < q.length
        · obtain ⟨b, off, rfl, hb, hc0⟩ := row_string HP.out hkn
          have hck := (HB0.out.cell (p := ⟨b, off + k, none⟩) hb).trans hc0
          clear hc0
          have HL := Lib.hid (fun (W1 : World) => isItem_any q[k] W1 (HS.out _ (List.getElem_mem hkn)))
          rw [itB_item] at HL
          have HPk : Hid (itB q[k] = true → ∀ s ∈ q.take (k + 1), itB s = true) := Lib.hid (fun h s hs => by
            rw [List.take_succ_eq_append_getElem hkn] at hs
            rcases List.mem_append.1 hs with hs | hs
            · exact HA.out s hs
            · rw [List.mem_singleton.1 hs]; exact h)
          have HQ : Hid (itB q[k] = false → swOk ⟨t, z, q⟩ = false) := Lib.hid (fun h => HNo.out (fun hh => by have := hh.2.2.2 _ (List.getElem_mem hkn); rw [h] at this; cases this))
          generalize q[k] = s at hck HL HPk HQ
          cases hit : itB s with
          | false =>
            have HE := Lib.hid (HQ.out hit)
            rw [hit] at HL
            clear HPk HQ HA HYes HNo
            go_wp2_with fail
            refine (HL.out _).mono ?_
            rintro e _ ⟨rfl, rfl⟩
            go_wp2_with fail
            go_ret
            exact ⟨ret_bool HE.out.symm, HB0.out⟩
          | true =>
            have HA2 := Lib.hid (HPk.out hit)
            rw [hit] at HL
            clear HPk HQ HA HYes HNo
            go_wp2_with fail
            refine (HL.out _).mono ?_
            rintro e _ ⟨rfl, rfl⟩
            go_wp2_with fail
            go_round
            case rel => exact ⟨k + 1, by omega, by go_num, HA2⟩
            case measure => (simp [RowKit.intOf]; omega)
        · obtain rfl : k = q.length := by omega
          have HE := Lib.hid (HYes.out (fun s hs => HA.out s (by rw [List.take_of_length_le (Nat.le_refl _)]; exact hs)))
          clear HA HYes HNo
          go_wp2_with fail
          go_ret
          exact ⟨ret_bool HE.out.symm, HB0.out⟩
set_option maxRecDepth 100000 in
set_option maxHeartbeats 1000000 in
theorem leadAt_any (v : Value) (l : Sw) (w : World) (hrow : Row w v l.q.length (l.q.map Value.string)) (ht : 0 ≤ l.t ∧ l.t ≤ 65535) (hn : l.q.length ≤ 65536) :
    Calls Try.prog 52 #[.agg #[.int .i64 l.t, .int .i64 l.z, v]] w fun e w' => e = .returned (.int .i64 (leadI l)) ∧ Below w.heap.size w w' := by
  have HC := Lib.hid (fun (W1 : World) => implStep_any l.t l.q.length W1 ht.1 ht.2 (by omega) (by omega))
  have hl : leadI l = aftI l.t l.q.length := rfl
  rw [hl]
  generalize aftI l.t l.q.length = y at HC
  clear hl ht hn
  obtain ⟨t, z, q⟩ := l
  dsimp only at hrow ⊢
  obtain ⟨a, cap, rfl, hc1, hm1, _⟩ := row_open hrow
  unfold maxLen at hm1
  have HP := Lib.hid hrow
  clear hrow
  dsimp only at HC
  obtain ⟨W0, R_T, hW0, hR_T, hX_T, hB0⟩ := entry1 w #[.int .i64 t, .int .i64 z, .slice a q.length cap] 26
  have HW0 := Lib.hid hW0
  have HB0 := Lib.hid hB0
  have HR_T := Lib.hid hR_T
  have HX_T := Lib.hid hX_T
  clear hW0 hB0 hR_T hX_T
  have c3_T_0 := HX_T.out.at 0 (v := .int .i64 t) rfl
  have c3_T_1 := HX_T.out.at 1 (v := .int .i64 z) rfl
  have c3_T_2 := HX_T.out.at 2 (v := .slice a q.length cap) rfl
  go_enter Try.func52, Try.ntmps52
  go_upto_region 1 with fail
  rw [← HW0.out, ← HR_T.out]
  go_wp2_with fail
  refine (HC.out _).mono ?_
  rintro e _ ⟨rfl, rfl⟩
  go_wp2_with fail
  go_ret
  exact ⟨rfl, HB0.out⟩
set_option maxRecDepth 100000 in
set_option maxHeartbeats 2000000 in
theorem pktFrom_any (v : Value) (l : Sw) (k n : Int) (s : ByteArray) (w : World) (hrow : Row w v l.q.length (l.q.map Value.string)) (ht : 0 ≤ l.t ∧ l.t ≤ 65535) (hn : l.q.length ≤ 65536) :
    Calls Try.prog 108 #[.agg #[.int .i64 l.t, .int .i64 l.z, v], .int .i64 k, .int .i64 n, .string s] w fun e w' => e = .returned (.agg #[.int .i64 k, .int .i64 n, .int .i64 l.t, .int .i64 (leadI l), .string s]) ∧ Below w.heap.size w w' := by
  obtain ⟨t, z, q⟩ := l
  dsimp only at hrow ht hn ⊢
  obtain ⟨a, cap, rfl, hc1, hm1, _⟩ := row_open hrow
  unfold maxLen at hm1
  have HP := Lib.hid hrow
  obtain ⟨W0, R_T, R_B, hW0, hR_T, hR_B, hX_T, hX_B, hB0⟩ := entry2 w #[.int .i64 t, .int .i64 z, .slice a q.length cap] #[.int .i64 0, .int .i64 0, .int .i64 0, .int .i64 0, .string ⟨#[]⟩] 26 64
  have HW0 := Lib.hid hW0
  have HB0 := Lib.hid hB0
  have HR_T := Lib.hid hR_T
  have HX_T := Lib.hid hX_T
  have HR_B := Lib.hid hR_B
  have HX_B := Lib.hid hX_B
  clear hW0 hB0 hR_T hX_T hR_B hX_B
  have HL := Lib.hid (fun (W1 : World) (hr : Row W1 (.slice a q.length cap) q.length (q.map Value.string)) => leadAt_any (.slice a q.length cap) ⟨t, z, q⟩ W1 hr ht hn)
  dsimp only at HL
  generalize leadI ⟨t, z, q⟩ = le at HL ⊢
  clear hrow ht hn
  have c14_T_0 := HX_T.out.at 0 (v := .int .i64 t) rfl
  have c14_T_1 := HX_T.out.at 1 (v := .int .i64 z) rfl
  have c14_T_2 := HX_T.out.at 2 (v := .slice a q.length cap) rfl
  have c15_B_0 := HX_B.out.at 0 (v := .int .i64 0) rfl
  have c15_B_1 := HX_B.out.at 1 (v := .int .i64 0) rfl
  have c15_B_2 := HX_B.out.at 2 (v := .int .i64 0) rfl
  have c15_B_3 := HX_B.out.at 3 (v := .int .i64 0) rfl
  have c15_B_4 := HX_B.out.at 4 (v := .string ⟨#[]⟩) rfl
  have HK1 := Lib.hid (fun (w' : World) (hb : Below W0.heap.size W0 w') => (show w'.cell? ⟨R_T, 0, none⟩ = some (.int .i64 t) ∧ w'.cell? ⟨R_T, 1, none⟩ = some (.int .i64 z) ∧ w'.cell? ⟨R_T, 2, none⟩ = some (.slice a q.length cap) ∧ Below w.heap.size w w' from ⟨(hb.cell (p := ⟨R_T, 0, none⟩) HX_T.out.lt).trans (HX_T.out.at 0 (v := .int .i64 t) rfl), (hb.cell (p := ⟨R_T, 1, none⟩) HX_T.out.lt).trans (HX_T.out.at 1 (v := .int .i64 z) rfl), (hb.cell (p := ⟨R_T, 2, none⟩) HX_T.out.lt).trans (HX_T.out.at 2 (v := .slice a q.length cap) rfl), HB0.out.trans (hb.mono HB0.out.size)⟩))
  have HA1_B := Lib.hid (fun (w' : World) (hb : Below W0.heap.size W0 w') => HX_B.out.below hb HX_B.out.lt)
  have HK1_0 := Lib.hid (fun (w' : World) (y0_0 y0_1 y0_2 y0_3 y0_4 : Value) (hb : Below W0.heap.size W0 w') => (show ((((((w'.setCell ⟨R_B, 0, none⟩ (y0_0)).setCell ⟨R_B, 1, none⟩ (y0_1)).setCell ⟨R_B, 2, none⟩ (y0_2)).setCell ⟨R_B, 3, none⟩ (y0_3)).setCell ⟨R_B, 4, none⟩ (y0_4))).cell? ⟨R_T, 0, none⟩ = some (.int .i64 t) ∧ ((((((w'.setCell ⟨R_B, 0, none⟩ (y0_0)).setCell ⟨R_B, 1, none⟩ (y0_1)).setCell ⟨R_B, 2, none⟩ (y0_2)).setCell ⟨R_B, 3, none⟩ (y0_3)).setCell ⟨R_B, 4, none⟩ (y0_4))).cell? ⟨R_T, 1, none⟩ = some (.int .i64 z) ∧ ((((((w'.setCell ⟨R_B, 0, none⟩ (y0_0)).setCell ⟨R_B, 1, none⟩ (y0_1)).setCell ⟨R_B, 2, none⟩ (y0_2)).setCell ⟨R_B, 3, none⟩ (y0_3)).setCell ⟨R_B, 4, none⟩ (y0_4))).cell? ⟨R_T, 2, none⟩ = some (.slice a q.length cap) ∧ Below w.heap.size w ((((((w'.setCell ⟨R_B, 0, none⟩ (y0_0)).setCell ⟨R_B, 1, none⟩ (y0_1)).setCell ⟨R_B, 2, none⟩ (y0_2)).setCell ⟨R_B, 3, none⟩ (y0_3)).setCell ⟨R_B, 4, none⟩ (y0_4))) by
    obtain ⟨z0, z1, z2, z3⟩ := HK1.out w' hb
    obtain ⟨_, q1⟩ := (HA1_B.out w' hb).store5 y0_0 y0_1 y0_2 y0_3 y0_4
    exact ⟨q1.cell z0 (by intro e; have e2 : R_T = R_B := Option.some.inj e; have h1 := HR_T.out; have h2 := HR_B.out; omega), q1.cell z1 (by intro e; have e2 : R_T = R_B := Option.some.inj e; have h1 := HR_T.out; have h2 := HR_B.out; omega), q1.cell z2 (by intro e; have e2 : R_T = R_B := Option.some.inj e; have h1 := HR_T.out; have h2 := HR_B.out; omega), z3.grown q1 z3.size (fun k hk => by have e2 : R_B = k := Option.some.inj hk; have := HR_B.out; omega)⟩))
  go_enter Try.func108, Try.ntmps108
  go_upto_region 1 with fail
  rw [← HW0.out, ← HR_B.out, ← HR_T.out]
  go_region_held3 (fun w' => w'.cell? ⟨R_T, 0, none⟩ = some (.int .i64 t) ∧ w'.cell? ⟨R_T, 1, none⟩ = some (.int .i64 z) ∧ w'.cell? ⟨R_T, 2, none⟩ = some (.slice a q.length cap) ∧ Below w.heap.size w w')
    ((first | (with_reducible refine HK1_0.out _ _ _ _ _ _ ?_; (repeat (first | with_reducible assumption | with_reducible exact Below.refl _ _ | with_reducible refine Below.drew ?_ | with_reducible refine below_alloc' ?_)); done) | (with_reducible refine HK1.out _ ?_; (repeat (first | with_reducible assumption | with_reducible exact Below.refl _ _ | with_reducible refine Below.drew ?_ | with_reducible refine below_alloc' ?_)); done)))
    (first
      | (go_at_call 52; refine (HL.out _ (HP.out.below (HB0.out.trans ((by repeat (first | with_reducible assumption | with_reducible exact Below.refl _ _ | with_reducible refine Below.drew ?_ | with_reducible refine below_alloc' ?_) : Below W0.heap.size W0 _).mono HB0.out.size)) (Nat.le_refl _))).mono ?_; rintro e w7 ⟨rfl, l7⟩; have hb7 := below_call7 (by repeat (first | with_reducible assumption | with_reducible exact Below.refl _ _ | with_reducible refine Below.drew ?_ | with_reducible refine below_alloc' ?_) : Below W0.heap.size W0 _) l7; have h7B := HA1_B.out w7 hb7; have yB0 := h7B.at 0 (v := .int .i64 0) rfl; have fB0 := h7B.free 0; have yB1 := h7B.at 1 (v := .int .i64 0) rfl; have fB1 := h7B.free 1; have yB2 := h7B.at 2 (v := .int .i64 0) rfl; have fB2 := h7B.free 2; have yB3 := h7B.at 3 (v := .int .i64 0) rfl; have fB3 := h7B.free 3; have yB4 := h7B.at 4 (v := .string ⟨#[]⟩) rfl; have fB4 := h7B.free 4; clear l7))
  all_goals go_wp2_with fail
  all_goals
    obtain ⟨p1, q1⟩ := h7B.store5 (.int .i64 k) (.int .i64 n) (.int .i64 t) (.int .i64 le) (.string s)
    have hB8 := HB0.out.trans (hb7.mono HB0.out.size)
    refine bodyPost_ret (results_bx rfl isPk _ _ R_B rfl rfl p1) rfl ⟨rfl, hB8.grown q1 hB8.size (fun k hk => by have e2 : R_B = k := Option.some.inj hk; have := HR_B.out; omega)⟩
set_option maxRecDepth 100000 in
set_option maxHeartbeats 2000000 in
theorem implHeld_any (v : Value) (l : Sw) (x : Int) (w : World) (hrow : Row w v l.q.length (l.q.map Value.string)) (hs : ∀ s ∈ l.q, s.size ≤ maxLen) :
    Calls Try.prog 19 #[.agg #[.int .i64 l.t, .int .i64 l.z, v], .int .i64 x] w fun e w' => e = .returned (.tuple #[.string (heldV l x), .bool (heldOk l x)]) ∧ Below w.heap.size w w' := by
  obtain ⟨t, z, q⟩ := l
  dsimp only at hrow hs ⊢
  obtain ⟨a, cap, rfl, hc1, hm1, _⟩ := row_open hrow
  unfold maxLen at hm1
  have HP := Lib.hid hrow
  clear hrow
  have HS := Lib.hid hs
  clear hs
  obtain ⟨W0, R_T, hW0, hR_T, hX_T, hB0⟩ := entry1 w #[.int .i64 t, .int .i64 z, .slice a q.length cap] 26
  have HW0 := Lib.hid hW0
  have HB0 := Lib.hid hB0
  have HR_T := Lib.hid hR_T
  have HX_T := Lib.hid hX_T
  clear hW0 hB0 hR_T hX_T
  have HG := Lib.hid (implIsSw_any (.slice a q.length cap) ⟨t, z, q⟩ W0 (HP.out.below HB0.out (Nat.le_refl _)) HS.out)
  have HSer := Lib.hid (fun (W1 : World) => implIsSerial_any x W1)
  have HO : Hid (heldOk ⟨t, z, q⟩ x = (swOk ⟨t, z, q⟩ && (serB x && heldB ⟨t, z, q⟩ x))) := Lib.hid rfl
  have HN := Lib.hid (@held_no ⟨t, z, q⟩ x)
  cases hok : swOk ⟨t, z, q⟩ with
  | false =>
    rw [hok] at HG
    have hno : heldOk ⟨t, z, q⟩ x = false := by rw [HO.out, hok]; simp
    have hno2 := HN.out hno
    rw [hno, hno2]
    clear hno hno2 HN HO
    have c16_T_0 := HX_T.out.at 0 (v := .int .i64 t) rfl
    have c16_T_1 := HX_T.out.at 1 (v := .int .i64 z) rfl
    have c16_T_2 := HX_T.out.at 2 (v := .slice a q.length cap) rfl
    go_enter Try.func19, Try.ntmps19
    go_upto_region 1 with fail
    rw [← HW0.out, ← HR_T.out]
    go_wp2_with fail
    refine (HG.out).mono ?_
    rintro e W17 ⟨rfl, l17⟩
    clear c16_T_0 c16_T_1 c16_T_2
    have HB_18 := Lib.hid (HB0.out.trans (l17.mono HB0.out.size))
    have T_18 := Lib.hid (HX_T.out.below l17 HX_T.out.lt)
    clear l17
    have c19_T_0 := T_18.out.at 0 (v := .int .i64 t) rfl
    have c19_T_1 := T_18.out.at 1 (v := .int .i64 z) rfl
    have c19_T_2 := T_18.out.at 2 (v := .slice a q.length cap) rfl
    go_wp2_with fail
    go_ret2
    exact ⟨rfl, HB_18.out⟩
  | true =>
    rw [hok] at HG
    cases hs : serB x with
    | false =>
      rw [hs] at HSer
      have hno : heldOk ⟨t, z, q⟩ x = false := by rw [HO.out, hok, hs]; simp
      have hno2 := HN.out hno
      rw [hno, hno2]
      clear hno hno2 HN HO
      have c20_T_0 := HX_T.out.at 0 (v := .int .i64 t) rfl
      have c20_T_1 := HX_T.out.at 1 (v := .int .i64 z) rfl
      have c20_T_2 := HX_T.out.at 2 (v := .slice a q.length cap) rfl
      go_enter Try.func19, Try.ntmps19
      go_upto_region 1 with fail
      rw [← HW0.out, ← HR_T.out]
      go_wp2_with fail
      refine (HG.out).mono ?_
      rintro e W21 ⟨rfl, l21⟩
      clear c20_T_0 c20_T_1 c20_T_2
      have HB_22 := Lib.hid (HB0.out.trans (l21.mono HB0.out.size))
      have T_22 := Lib.hid (HX_T.out.below l21 HX_T.out.lt)
      clear l21
      have c23_T_0 := T_22.out.at 0 (v := .int .i64 t) rfl
      have c23_T_1 := T_22.out.at 1 (v := .int .i64 z) rfl
      have c23_T_2 := T_22.out.at 2 (v := .slice a q.length cap) rfl
      go_wp2_with fail
      refine (HSer.out _).mono ?_
      rintro e _ ⟨rfl, rfl⟩
      go_wp2_with fail
      go_ret2
      exact ⟨rfl, HB_22.out⟩
    | true =>
      rw [hs] at HSer
      have ht := (swOk_iff.1 hok).1
      dsimp only at ht
      have hx := serB_bd hs
      have HC := Lib.hid (fun (W1 : World) => implGapB_any t x W1 ht.1 ht.2 hx.1 hx.2)
      have hgb := gapI_bd t x
      obtain ⟨k, hk⟩ : ∃ k : Nat, gapI t x = (k : Int) := ⟨(gapI t x).toNat, by omega⟩
      have HI := Lib.hid (@item_at ⟨t, z, q⟩ x k hk)
      have hhb : heldB ⟨t, z, q⟩ x = decide ((k : Int) < (q.length : Int)) := by unfold heldB; rw [hk]
      rw [hk] at HC
      by_cases hkq : k < q.length
      rotate_left
      · have hkI : ¬ (k : Int) < (q.length : Int) := by omega
        have hkI2 : (q.length : Int) ≤ (k : Int) := by omega
        rw [decide_eq_false hkI] at hhb
        clear hk hgb ht hx HI
        have hno : heldOk ⟨t, z, q⟩ x = false := by rw [HO.out, hok, hs, hhb]; simp
        have hno2 := HN.out hno
        rw [hno, hno2]
        clear hno hno2 HN HO
        have c24_T_0 := HX_T.out.at 0 (v := .int .i64 t) rfl
        have c24_T_1 := HX_T.out.at 1 (v := .int .i64 z) rfl
        have c24_T_2 := HX_T.out.at 2 (v := .slice a q.length cap) rfl
        go_enter Try.func19, Try.ntmps19
        go_upto_region 1 with fail
        rw [← HW0.out, ← HR_T.out]
        go_wp2_with fail
        refine (HG.out).mono ?_
        rintro e W25 ⟨rfl, l25⟩
        clear c24_T_0 c24_T_1 c24_T_2
        have HB_26 := Lib.hid (HB0.out.trans (l25.mono HB0.out.size))
        have T_26 := Lib.hid (HX_T.out.below l25 HX_T.out.lt)
        clear l25
        have c27_T_0 := T_26.out.at 0 (v := .int .i64 t) rfl
        have c27_T_1 := T_26.out.at 1 (v := .int .i64 z) rfl
        have c27_T_2 := T_26.out.at 2 (v := .slice a q.length cap) rfl
        go_wp2_with fail
        refine (HSer.out _).mono ?_
        rintro e _ ⟨rfl, rfl⟩
        go_wp2_with fail
        refine (HC.out _).mono ?_
        rintro e _ ⟨rfl, rfl⟩
        go_wp2_with fail
        go_ret2
        exact ⟨rfl, HB_26.out⟩
      have hkI : (k : Int) < (q.length : Int) := by omega
      have hkI2 : ¬ (q.length : Int) ≤ (k : Int) := by omega
      rw [decide_eq_true hkI] at hhb
      have hyes : heldOk ⟨t, z, q⟩ x = true := by rw [HO.out, hok, hs, hhb]; rfl
      have hyes2 : heldV ⟨t, z, q⟩ x = q[k] := (if_pos hyes).trans (HI.out hkq)
      rw [hyes, hyes2]
      obtain ⟨b, off, rfl, hb, hc0⟩ := row_string HP.out hkq
      generalize q[k] = s at hc0 ⊢
      have HC0 := Lib.hid hc0
      have h0k : (0 : Int) ≤ (k : Int) := by omega
      clear hc0 hyes hyes2 HN HO hhb hk hgb ht hx HI hok hs
      have c28_T_0 := HX_T.out.at 0 (v := .int .i64 t) rfl
      have c28_T_1 := HX_T.out.at 1 (v := .int .i64 z) rfl
      have c28_T_2 := HX_T.out.at 2 (v := .slice (some ⟨b, off, none⟩) q.length cap) rfl
      go_enter Try.func19, Try.ntmps19
      go_upto_region 1 with fail
      rw [← HW0.out, ← HR_T.out]
      go_wp2_with fail
      refine (HG.out).mono ?_
      rintro e W29 ⟨rfl, l29⟩
      clear c28_T_0 c28_T_1 c28_T_2
      have HB_30 := Lib.hid (HB0.out.trans (l29.mono HB0.out.size))
      have T_30 := Lib.hid (HX_T.out.below l29 HX_T.out.lt)
      clear l29
      have c31_T_0 := T_30.out.at 0 (v := .int .i64 t) rfl
      have c31_T_1 := T_30.out.at 1 (v := .int .i64 z) rfl
      have c31_T_2 := T_30.out.at 2 (v := .slice (some ⟨b, off, none⟩) q.length cap) rfl
      go_wp2_with fail
      refine (HSer.out _).mono ?_
      rintro e _ ⟨rfl, rfl⟩
      go_wp2_with fail
      refine (HC.out _).mono ?_
      rintro e _ ⟨rfl, rfl⟩
      have hck := (HB_30.out.cell (p := ⟨b, off + k, none⟩) hb).trans HC0.out
      go_wp2_with fail
      go_ret2
      exact ⟨rfl, HB_30.out⟩
end Go.Proofs.Ytlendmiolhgecaa
