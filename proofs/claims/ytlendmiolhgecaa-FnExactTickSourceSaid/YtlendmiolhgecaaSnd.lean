/-
  Windows of the source: the specification's functions that read.
-/
import Derived.Test.YtlendmiolhgecaaSndMath
import Derived.Test.YtlendmiolhgecaaSer
import Derived.Test.YtlendmiolhgecaaBox
import Derived.Test.YtlendmiolhgecaaFit
import Derived.Test.YtlendmiolhgecaaPkt
import Derived.Deep.QuietTactic
import Derived.BigQuiet
import Derived.IntWalk
import Derived.Deep.CutRange
import Derived.WalkLawsBesides
import Derived.Lib.SmallJoins
import Derived.Deep.RegionHeld3
namespace Go.Proofs.Ytlendmiolhgecaa
open Go.RowKit Go.Lib Go.Joins
set_option linter.unusedVariables false

theorem isSw : IsBox 26 3 := fun w g cs hn h => run_loadVar_row w g 26 26 cs (0, 0) _ h Try.underlying26 (by rfl) (by rw [hn]; kernel_rfl)
theorem isPk : IsBox 64 5 := fun w g cs hn h => run_loadVar_row w g 64 64 cs (0, 0) _ h Try.underlying64 (by rfl) (by rw [hn]; kernel_rfl)
set_option maxRecDepth 100000 in
set_option maxHeartbeats 4000000 in
theorem l9Good_any (v : Value) (l : Sw) (w : World) (hrow : Row w v l.q.length (l.q.map Value.string)) (hs : ∀ s ∈ l.q, s.size ≤ maxLen) :
    Calls Try.prog 93 #[.agg #[.int .i64 l.t, .int .i64 l.z, v]] w fun e w' => e = .returned (.bool (swOk l)) ∧ Below w.heap.size w w' := by
  obtain ⟨t, z, q⟩ := l
  dsimp only at hrow hs ⊢
  obtain ⟨a, cap, rfl, hc1, hm1, _⟩ := row_open hrow
  unfold maxLen at hm1
  have HP := Lib.hid hrow
  clear hrow
  have HS := Lib.hid hs
  clear hs
  obtain ⟨W0, R_T, hW0, hR_T, hX_T, hB0⟩ := entry1 w #[.int .i64 t, .int .i64 z, .slice a q.length cap] 26
  have HW0 := Lib.hid hW0
  have HB0 := Lib.hid hB0
  have HR_T := Lib.hid hR_T
  have HX_T := Lib.hid hX_T
  clear hW0 hB0 hR_T hX_T
  have c1_T_0 := HX_T.out.at 0 (v := .int .i64 t) rfl
  have c1_T_1 := HX_T.out.at 1 (v := .int .i64 z) rfl
  have c1_T_2 := HX_T.out.at 2 (v := .slice a q.length cap) rfl
  have HNo := Lib.hid (@swOk_no ⟨t, z, q⟩)
  have HSer := Lib.hid (fun (W1 : World) => l2Good_any t W1)
  have HSz := Lib.hid (fun (W1 : World) => l1In_any z 1 6 W1)
  cases h1 : serB t with
  | false =>
    rw [h1] at HSer
    have HE : Hid (swOk ⟨t, z, q⟩ = false) := Lib.hid (HNo.out (fun h => by have := h.1; rw [serB_yes this.1 this.2] at h1; cases h1))
    clear HNo
    go_enter Try.func93, Try.ntmps93
    go_upto_region 1 with fail
    rw [← HW0.out, ← HR_T.out]
    go_wp2_with fail
    refine (HSer.out _).mono ?_
    rintro e _ ⟨rfl, rfl⟩
    go_wp2_with fail
    go_ret
    exact ⟨ret_bool HE.out.symm, HB0.out⟩
  | true =>
    rw [h1] at HSer
    cases h2 : inB z 1 6 with
    | false =>
      rw [h2] at HSz
      have HE : Hid (swOk ⟨t, z, q⟩ = false) := Lib.hid (HNo.out (fun h => by have := h.2.1; rw [inB_yes this.1 this.2] at h2; cases h2))
      clear HNo
      go_enter Try.func93, Try.ntmps93
      go_upto_region 1 with fail
      rw [← HW0.out, ← HR_T.out]
      go_wp2_with fail
      refine (HSer.out _).mono ?_
      rintro e _ ⟨rfl, rfl⟩
      go_wp2_with fail
      refine (HSz.out _).mono ?_
      rintro e _ ⟨rfl, rfl⟩
      go_wp2_with fail
      go_ret
      exact ⟨ret_bool HE.out.symm, HB0.out⟩
    | true =>
      rw [h2] at HSz
      by_cases h3 : (q.length : Int) ≤ z
      rotate_left
      · have h3' : z < (q.length : Int) := by omega
        have HE : Hid (swOk ⟨t, z, q⟩ = false) := Lib.hid (HNo.out (fun h => by exact h3 h.2.2.1))
        clear HNo
        go_enter Try.func93, Try.ntmps93
        go_upto_region 1 with fail
        rw [← HW0.out, ← HR_T.out]
        go_wp2_with fail
        refine (HSer.out _).mono ?_
        rintro e _ ⟨rfl, rfl⟩
        go_wp2_with fail
        refine (HSz.out _).mono ?_
        rintro e _ ⟨rfl, rfl⟩
        go_wp2_with fail
        go_ret
        exact ⟨ret_bool HE.out.symm, HB0.out⟩
      have h3' : ¬ z < (q.length : Int) := by omega
      have HYes : Hid ((∀ s ∈ q, itB s = true) → swOk ⟨t, z, q⟩ = true) := Lib.hid (fun h => swOk_mk (serB_bd h1) (inB_bd h2) h3 h)
      clear h1 h2
      go_enter Try.func93, Try.ntmps93
      go_upto_region 1 with fail
      rw [← HW0.out, ← HR_T.out]
      go_wp2_with fail
      refine (HSer.out _).mono ?_
      rintro e _ ⟨rfl, rfl⟩
      go_wp2_with fail
      refine (HSz.out _).mono ?_
      rintro e _ ⟨rfl, rfl⟩
      go_wp2_with fail
      go_loop [3] (fun i => ∃ k : Nat, k ≤ q.length ∧ i = .int .i64 k ∧ Hid (∀ s ∈ q.take k, itB s = true)) (fun i => q.length - (RowKit.intOf i).toNat)
      case atStart => exact ⟨0, Nat.zero_le _, rfl, Lib.hid (by simp)⟩
      case round =>
        obtain ⟨k, hk, rfl, HA⟩ := hrel
        by_cases hkn : k < q.length
        · obtain ⟨b, off, rfl, hb, hc0⟩ := row_string HP.out hkn
          have hck := (HB0.out.cell (p := ⟨b, off + k, none⟩) hb).trans hc0
          clear hc0
          have HL := Lib.hid (fun (W1 : World) => l4Letters_any q[k] 8 W1 (HS.out _ (List.getElem_mem hkn)) (by omega))
          have HPk : Hid (itB q[k] = true → ∀ s ∈ q.take (k + 1), itB s = true) := Lib.hid (fun h s hs => by
            rw [List.take_succ_eq_append_getElem hkn] at hs
            rcases List.mem_append.1 hs with hs | hs
            · exact HA.out s hs
            · rw [List.mem_singleton.1 hs]; exact h)
          have HQ : Hid (itB q[k] = false → swOk ⟨t, z, q⟩ = false) := Lib.hid (fun h => HNo.out (fun hh => by have := hh.2.2.2 _ (List.getElem_mem hkn); rw [h] at this; cases this))
          have hit : (ltrB q[k] && decide (q[k].size ≤ 8)) = itB q[k] := rfl
          rw [hit] at HL
          clear hit
          generalize q[k] = s at hck HL HPk HQ
          cases hit : itB s with
          | false =>
            have HE := Lib.hid (HQ.out hit)
            rw [hit] at HL
            clear HPk HQ HA HYes HNo
            go_wp2_with fail
            refine (HL.out _).mono ?_
            rintro e _ ⟨rfl, rfl⟩
            go_wp2_with fail
            go_ret
            exact ⟨ret_bool HE.out.symm, HB0.out⟩
          | true =>
            have HA2 := Lib.hid (HPk.out hit)
            rw [hit] at HL
            clear HPk HQ HA HYes HNo
            go_wp2_with fail
            refine (HL.out _).mono ?_
            rintro e _ ⟨rfl, rfl⟩
            go_wp2_with fail
            go_round
            case rel => exact ⟨k + 1, by omega, by go_num, HA2⟩
            case measure => (simp [RowKit.intOf]; omega)
        · obtain rfl : k = q.length := by omega
          have HE := Lib.hid (HYes.out (fun s hs => HA.out s (by rw [List.take_of_length_le (Nat.le_refl _)]; exact hs)))
          clear HA HYes HNo
          go_wp2_with fail
          go_ret
          exact ⟨ret_bool HE.out.symm, HB0.out⟩
set_option maxRecDepth 100000 in
set_option maxHeartbeats 1000000 in
theorem l9Lead_any (v : Value) (l : Sw) (w : World) (hrow : Row w v l.q.length (l.q.map Value.string)) (ht : 0 ≤ l.t ∧ l.t ≤ 65535) (hn : l.q.length ≤ 65536) :
    Calls Try.prog 121 #[.agg #[.int .i64 l.t, .int .i64 l.z, v]] w fun e w' => e = .returned (.int .i64 (leadI l)) ∧ Below w.heap.size w w' := by
  have HC := Lib.hid (fun (W1 : World) => l2After_any l.t l.q.length W1 ht.1 ht.2 (by omega) (by omega))
  have hl : leadI l = aftI l.t l.q.length := rfl
  rw [hl]
  generalize aftI l.t l.q.length = y at HC
  clear hl ht hn
  obtain ⟨t, z, q⟩ := l
  dsimp only at hrow ⊢
  obtain ⟨a, cap, rfl, hc1, hm1, _⟩ := row_open hrow
  unfold maxLen at hm1
  have HP := Lib.hid hrow
  clear hrow
  dsimp only at HC
  obtain ⟨W0, R_T, hW0, hR_T, hX_T, hB0⟩ := entry1 w #[.int .i64 t, .int .i64 z, .slice a q.length cap] 26
  have HW0 := Lib.hid hW0
  have HB0 := Lib.hid hB0
  have HR_T := Lib.hid hR_T
  have HX_T := Lib.hid hX_T
  clear hW0 hB0 hR_T hX_T
  have c6_T_0 := HX_T.out.at 0 (v := .int .i64 t) rfl
  have c6_T_1 := HX_T.out.at 1 (v := .int .i64 z) rfl
  have c6_T_2 := HX_T.out.at 2 (v := .slice a q.length cap) rfl
  go_enter Try.func121, Try.ntmps121
  go_upto_region 1 with fail
  rw [← HW0.out, ← HR_T.out]
  go_wp2_with fail
  refine (HC.out _).mono ?_
  rintro e _ ⟨rfl, rfl⟩
  go_wp2_with fail
  go_ret
  exact ⟨rfl, HB0.out⟩
end Go.Proofs.Ytlendmiolhgecaa
