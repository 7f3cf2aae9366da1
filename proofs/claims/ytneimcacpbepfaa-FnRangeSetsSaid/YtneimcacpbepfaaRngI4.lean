/-
  Sets as ranges: the program's NextMissing.
-/
import Derived.Test.YtneimcacpbepfaaRngI3
namespace Go.Proofs.Ytneimcacpbepfaa
open Go.RowKit Go.Lib Go.Joins
set_option linter.unusedVariables false

theorem nxM_hit {l : List Rg} {x : Int} {k : Nat} (hk : k < l.length) (h : ∀ r ∈ l.take k, ¬ x ≤ r.2) (hx : x ≤ l[k].2) : nxM l x = some (max x l[k].1) := by
  have e : l.find? (fun r => decide (x ≤ r.2)) = some l[k] := by
    rw [List.find?_eq_some_iff_append]
    refine ⟨decide_eq_true hx, l.take k, l.drop (k + 1), ?_, fun r hr => ?_⟩
    · rw [← List.drop_eq_getElem_cons hk, List.take_append_drop]
    · rw [decide_eq_false (h r hr)]; rfl
  unfold nxM
  rw [e]
theorem nxM_miss {l : List Rg} {x : Int} (h : ∀ r ∈ l, ¬ x ≤ r.2) : nxM l x = none := by
  have e : l.find? (fun r => decide (x ≤ r.2)) = none := List.find?_eq_none.2 (fun r hr => by simpa using h r hr)
  unfold nxM
  rw [e]
theorem nx_some {s : List Rg} {x y : Int} (hs : rgOk s = true) (hx : serB x = true) (h : nxM (misG s 0) x = some y) : nxOk s x = true ∧ nxV s x = y := by
  have hc := (rgOk_parts hs).1
  have hxb : 0 ≤ x ∧ x ≤ 65535 := of_decide_eq_true hx
  obtain ⟨c, m, _⟩ := misG_good (n := 0) hc (Int.le_refl _) (by omega) (fun r hr => (hc.2 r hr).1)
  have hn := nxM_is c hc m hxb.1 hxb.2
  have hb := nextG_bd hc hxb.1 hxb.2
  rw [hn] at h
  split at h
  · rename_i hle
    have hy := Option.some.inj h
    have ho : nxOk s x = true := by unfold nxOk; rw [hs, hx, serB_yes hb.1 hle]; rfl
    refine ⟨ho, ?_⟩
    unfold nxV
    rw [if_pos ho, hy]
  · cases h
theorem nx_none {s : List Rg} {x : Int} (hs : rgOk s = true) (hx : serB x = true) (h : nxM (misG s 0) x = none) : nxOk s x = false ∧ nxV s x = 0 := by
  have hc := (rgOk_parts hs).1
  have hxb : 0 ≤ x ∧ x ≤ 65535 := of_decide_eq_true hx
  obtain ⟨c, m, _⟩ := misG_good (n := 0) hc (Int.le_refl _) (by omega) (fun r hr => (hc.2 r hr).1)
  have hn := nxM_is c hc m hxb.1 hxb.2
  have hb := nextG_bd hc hxb.1 hxb.2
  rw [hn] at h
  split at h
  · cases h
  · rename_i hle
    have ho : nxOk s x = false := by unfold nxOk; rw [hs, hx, serB_no (by omega)]; rfl
    refine ⟨ho, ?_⟩
    unfold nxV
    rw [ho]; rfl
set_option maxHeartbeats 2000000 in
theorem implNext_any (v : Value) (s : List Rg) (x : Int) (w : World) (hrow : Row w v s.length (rgF s)) :
    Calls Try.prog 21 #[v, .int .i64 x] w fun e w' => e = .returned (.tuple #[.int .i64 (nxV s x), .bool (nxOk s x)]) ∧ Below w.heap.size w w' := by
  have HR := Lib.hid hrow
  have HG := Lib.hid (implIsSet_any _ s w hrow)
  obtain ⟨a, cap, rfl, hc1, hm1, hcell⟩ := rg_open hrow
  clear hcell hrow
  have HA : Hid (∀ (W : World) (g : Nat), g = W.heap.size → Calls Try.prog 50 #[.slice (some ⟨g, 0, none⟩) 1 1] (W.alloc (.cells #[.int .i64 x] 3)) fun e w' => e = .returned (.bool (serB x)) ∧ W.alloc (.cells #[.int .i64 x] 3) = w') := Lib.hid (fun W g hg => by subst hg; have h := areWords_any _ [x] _ (row_onei W x); simpa using h)
  cases hg : rgOk s with
  | false =>
    rw [hg] at HG
    have HO : Hid (nxOk s x = false) := Lib.hid (by unfold nxOk; rw [hg]; rfl)
    have HV : Hid (nxV s x = 0) := Lib.hid (by unfold nxV; rw [HO.out]; rfl)
    clear hg
    go_enter Try.func21, Try.ntmps21
    go_wp2_with fail
    refine HG.out.mono ?_
    rintro e w1 ⟨rfl, l1⟩
    have HB1 := Lib.hid l1
    clear l1
    go_wp2_with fail
    go_ret2
    exact ⟨ret_ib HV.out.symm HO.out.symm, HB1.out⟩
  | true =>
    rw [hg] at HG
    cases hx : serB x with
    | false =>
      have HO : Hid (nxOk s x = false) := Lib.hid (by unfold nxOk; rw [hg, hx]; rfl)
      have HV : Hid (nxV s x = 0) := Lib.hid (by unfold nxV; rw [HO.out]; rfl)
      rw [hx] at HA
      clear hg
      go_enter Try.func21, Try.ntmps21
      go_wp2_with fail
      refine HG.out.mono ?_
      rintro e w1 ⟨rfl, l1⟩
      have HB1 := Lib.hid l1
      clear l1
      go_wp2_with (go_at_call 50; refine (HA.out _ _ (by simp)).mono ?_; rintro e w' ⟨rfl, rfl⟩)
      go_ret2
      exact ⟨ret_ib HV.out.symm HO.out.symm, b_a HB1.out _⟩
    | true =>
      rw [hx] at HA
      have HSm := Lib.hid (fun y h => @nx_some s x y hg hx h)
      have HNo := Lib.hid (fun h => @nx_none s x hg hx h)
      have hch := (rgOk_parts hg).1
      have HM := Lib.hid (fun (W : World) (hW : Below w.heap.size w W) => missing_any _ s W (HR.out.below hW (Nat.le_refl _)) hch)
      have hml := rg_len (misG_good (n := 0) hch (Int.le_refl _) (by omega) (fun r hr => (hch.2 r hr).1)).1
      clear hg hx hch
      generalize misG s 0 = ml at HSm HNo HM hml
      go_enter Try.func21, Try.ntmps21
      go_wp2_with fail
      refine HG.out.mono ?_
      rintro e w1 ⟨rfl, l1⟩
      have HB1 := Lib.hid l1
      clear l1
      go_wp2_with (go_at_call 50; refine (HA.out _ _ (by simp)).mono ?_; rintro e w' ⟨rfl, rfl⟩)
      refine (HM.out _ (b_a HB1.out _)).mono ?_
      rintro e w2 ⟨v2, rfl, o2, l2⟩
      have HB2 := Lib.hid ((b_a HB1.out (.cells #[.int .i64 x] 3)).trans (l2.mono (b_a HB1.out _).size))
      obtain ⟨a2, c2, rfl, hd1, hd2, hcell2⟩ := rg_open (rowz_own o2)
      have HC2 := Lib.hid hcell2
      unfold maxLen at hd2
      clear o2 l2 hcell2 HM HA HG
      obtain ⟨n, hN⟩ : ∃ n, n = ml.length := ⟨_, rfl⟩
      rw [← hN] at hd1 hml ⊢
      have HN := Lib.hid hN
      clear hN
      have HW0 := Lib.hid (Below.refl w2.heap.size w2)
      go_wp2_with fail
      go_loopw [20] (fun i wr => ∃ k : Nat, k ≤ n ∧ i = .int .i64 k ∧ Hid (∀ r ∈ ml.take k, ¬ x ≤ r.2) ∧ Hid (Below w2.heap.size w2 wr)) (fun i _ => n - (intOf i).toNat)
      case atStart => exact ⟨0, Nat.zero_le _, rfl, Lib.hid (by simp), HW0⟩
      case round =>
        clear HW0
        obtain ⟨k, hk, rfl, HT, HB⟩ := hrel
        have HBW := Lib.hid (HB2.out.trans (HB.out.mono HB2.out.size))
        by_cases hkn : k < n
        · have hks : k < ml.length := by rw [← HN.out]; exact hkn
          obtain ⟨b, off, rfl, hb, hf, ht⟩ := HC2.out k hks
          have hf1 := (HB.out.cell hb).trans hf
          have ht1 := (HB.out.cell hb).trans ht
          have hit := Lib.hid (fun h => @nxM_hit ml x k hks HT.out h)
          have hst : Hid (¬ x ≤ ml[k].2 → ∀ r ∈ ml.take (k + 1), ¬ x ≤ r.2) := Lib.hid (fun h r hr => by
            rw [List.take_succ_eq_append_getElem hks] at hr
            rcases List.mem_append.1 hr with hr | hr
            · exact HT.out r hr
            · simp at hr; subst hr; exact h)
          clear hf ht
          generalize ml[k].1 = f at hf1 hit
          generalize ml[k].2 = t at ht1 hit hst
          by_cases hxt : x ≤ t
          · obtain ⟨h1, h2⟩ := HSm.out _ (hit.out hxt)
            have HO := Lib.hid h1
            have HV := Lib.hid h2
            clear h1 h2
            go_wp2_with fail
            all_goals
              go_ret2
              exact ⟨ret_ib (by rw [HV.out]; omega) HO.out.symm, b_a HBW.out _⟩
          · have HT2 := Lib.hid (hst.out hxt)
            go_wp2_with fail
            go_roundw
            case rel => exact ⟨k + 1, by omega, by go_num, HT2, Lib.hid (b_a HB.out _)⟩
            case measure => (simp [intOf]; omega)
        · obtain rfl : k = n := by omega
          obtain ⟨h1, h2⟩ := HNo.out (nxM_miss (by
            have h := HT.out
            rw [List.take_of_length_le (by rw [← HN.out]; exact Nat.le_refl _)] at h
            exact h))
          have HO := Lib.hid h1
          have HV := Lib.hid h2
          clear h1 h2
          go_wp2_with fail
          go_ret2
          exact ⟨ret_ib HV.out.symm HO.out.symm, HBW.out⟩
end Go.Proofs.Ytneimcacpbepfaa
