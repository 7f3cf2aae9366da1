/-
  Sets as ranges: the specification's functions that answer of one set.
-/
import Derived.Test.YtneimcacpbepfaaRng3
import Derived.Test.YtneimcacpbepfaaSer2
namespace Go.Proofs.Ytneimcacpbepfaa
open Go.RowKit Go.Lib Go.Joins
set_option linter.unusedVariables false

theorem has_step {s : List Rg} {x : Int} {k : Nat} (hk : k < s.length) (h : ¬ rgMem (s.take k) x) (hn : ¬ (s[k].1 ≤ x ∧ x ≤ s[k].2)) : ¬ rgMem (s.take (k + 1)) x := by
  rw [List.take_succ_eq_append_getElem hk, rgMem_append]
  rintro (h1 | h1)
  · exact h h1
  · rw [rgMem_cons] at h1
    exact h1.elim hn (rgMem_nil x)
set_option maxHeartbeats 1000000 in
theorem l5Has_any (v : Value) (s : List Rg) (x : Int) (w : World) (hrow : Row w v s.length (rgF s)) :
    Calls Try.prog 57 #[v, .int .i64 x] w fun e w' => e = .returned (.bool (hasB s x)) ∧ ∃ k, w' = w.drewN k := by
  obtain ⟨a, cap, rfl, hc1, hm1, hcell⟩ := rg_open hrow
  have HC := Lib.hid hcell
  clear hcell hrow
  unfold maxLen at hm1
  obtain ⟨n, hN⟩ : ∃ n, n = s.length := ⟨_, rfl⟩
  rw [← hN] at hc1 ⊢
  have HN := Lib.hid hN
  clear hN
  go_enter Try.func57, Try.ntmps57
  go_wp2_with fail
  go_loopw [5] (fun i wr => ∃ k : Nat, k ≤ n ∧ i = .int .i64 k ∧ Hid (¬ rgMem (s.take k) x) ∧ Hid (∃ a, wr = w.drewN a)) (fun i _ => n - (intOf i).toNat)
  case atStart => exact ⟨0, Nat.zero_le _, rfl, Lib.hid (rgMem_nil x), Lib.hid ⟨0, rfl⟩⟩
  case round =>
    obtain ⟨k, hk, rfl, HT, HW⟩ := hrel
    by_cases hkn : k < n
    · have hks : k < s.length := by rw [← HN.out]; exact hkn
      obtain ⟨b, off, rfl, hb, hf, ht⟩ := HC.out k hks
      have hf1 : wr.cell? ⟨b, off + k * 2, none⟩ = some (.int .i64 s[k].1) := by obtain ⟨a, rfl⟩ := HW.out; exact hf
      have ht1 : wr.cell? ⟨b, off + k * 2 + 1, none⟩ = some (.int .i64 s[k].2) := by obtain ⟨a, rfl⟩ := HW.out; exact ht
      clear hf ht
      obtain ⟨f, hfe⟩ : ∃ f, f = s[k].1 := ⟨_, rfl⟩
      obtain ⟨t, hte⟩ : ∃ t, t = s[k].2 := ⟨_, rfl⟩
      rw [← hfe] at hf1
      rw [← hte] at ht1
      have HF := Lib.hid hfe
      have HE := Lib.hid hte
      clear hfe hte
      by_cases hin : f ≤ x ∧ x ≤ t
      · have hs1 : inB x f t = true := inB_yes hin.1 hin.2
        have HO : Hid (hasB s x = true) := Lib.hid ((hasB_iff s x).2 ⟨s[k], List.getElem_mem hks, by rw [← HF.out]; exact hin.1, by rw [← HE.out]; exact hin.2⟩)
        go_wp2_with fail
        go_quiet ((go_at_call 56; exact quiet_eq5 (l1In_any _ _ _ _)))
        rw [hs1]
        go_wp2_with fail
        go_ret
        exact ⟨ret_bool HO.out.symm, world_hid5 HW.out _⟩
      · have hs1 : inB x f t = false := inB_no hin
        have HT2 := Lib.hid (has_step hks HT.out (by rw [← HF.out, ← HE.out]; exact hin))
        go_wp2_with fail
        go_quiet ((go_at_call 56; exact quiet_eq5 (l1In_any _ _ _ _)))
        rw [hs1]
        go_wp2_with fail
        go_roundw
        case rel => exact ⟨k + 1, by omega, by go_num, HT2, Lib.hid (world_hid5 HW.out _)⟩
        case measure => (simp [intOf]; omega)
    · obtain rfl : k = n := by omega
      have HO : Hid (hasB s x = false) := Lib.hid (hasB_no (by
        have h := HT.out
        rw [HN.out, List.take_of_length_le (Nat.le_refl _)] at h
        exact h))
      go_wp2_with fail
      go_ret
      exact ⟨ret_bool HO.out.symm, HW.out⟩
theorem specIsSet_any (v : Value) (s : List Rg) (w : World) (hrow : Row w v s.length (rgF s)) :
    Calls Try.prog 29 #[v] w fun e w' => e = .returned (.bool (rgOk s)) ∧ ∃ k, w' = w.drewN k := by
  have HR := Lib.hid hrow
  obtain ⟨a, cap, rfl, hc1, hm1, hcell⟩ := rg_open hrow
  clear hcell hrow
  go_enter Try.func29, Try.ntmps29
  go_wp2_with fail
  refine (l5Good_any _ s _ HR.out).mono ?_
  rintro e w1 ⟨rfl, k, rfl⟩
  go_wp2_with fail
  go_ret
  exact ⟨rfl, k, rfl⟩
def hasOk (s : List Rg) (x : Int) : Bool := rgOk s && serB x
def hasV (s : List Rg) (x : Int) : Bool := hasOk s x && hasB s x
set_option maxHeartbeats 1000000 in
theorem specHas_any (v : Value) (s : List Rg) (x : Int) (w : World) (hrow : Row w v s.length (rgF s)) :
    Calls Try.prog 27 #[v, .int .i64 x] w fun e w' => e = .returned (.tuple #[.bool (hasV s x), .bool (hasOk s x)]) ∧ ∃ k, w' = w.drewN k := by
  have HR := Lib.hid hrow
  obtain ⟨a, cap, rfl, hc1, hm1, hcell⟩ := rg_open hrow
  clear hcell hrow
  have HG := Lib.hid (l5Good_any _ s w HR.out)
  cases hg : rgOk s with
  | false =>
    rw [hg] at HG
    have HV : Hid (hasV s x = false) := Lib.hid (by unfold hasV hasOk; rw [hg]; rfl)
    have HO : Hid (hasOk s x = false) := Lib.hid (by unfold hasOk; rw [hg]; rfl)
    clear hg
    go_enter Try.func27, Try.ntmps27
    go_wp2_with fail
    refine HG.out.mono ?_
    rintro e w1 ⟨rfl, k, rfl⟩
    go_wp2_with fail
    go_ret2
    exact ⟨ret_bb HV.out.symm HO.out.symm, k, rfl⟩
  | true =>
    rw [hg] at HG
    cases hx : serB x with
    | false =>
      have HV : Hid (hasV s x = false) := Lib.hid (by unfold hasV hasOk; rw [hg, hx]; rfl)
      have HO : Hid (hasOk s x = false) := Lib.hid (by unfold hasOk; rw [hg, hx]; rfl)
      clear hg
      go_enter Try.func27, Try.ntmps27
      go_wp2_with fail
      refine HG.out.mono ?_
      rintro e w1 ⟨rfl, k, rfl⟩
      go_wp2_with (go_at_call 55; refine (l3Word5_any _ _).mono ?_; rintro e w' ⟨rfl, rfl⟩)
      go_ret2
      exact ⟨ret_bb HV.out.symm HO.out.symm, k, rfl⟩
    | true =>
      have HV : Hid (hasV s x = hasB s x) := Lib.hid (by unfold hasV hasOk; rw [hg, hx]; rfl)
      have HO : Hid (hasOk s x = true) := Lib.hid (by unfold hasOk; rw [hg, hx]; rfl)
      clear hg
      go_enter Try.func27, Try.ntmps27
      go_wp2_with fail
      refine HG.out.mono ?_
      rintro e w1 ⟨rfl, k, rfl⟩
      go_wp2_with (go_at_call 55; refine (l3Word5_any _ _).mono ?_; rintro e w' ⟨rfl, rfl⟩)
      refine (l5Has_any _ s x _ (HR.out.below (bdrew w k) (Nat.le_refl _))).mono ?_
      rintro e w2 ⟨rfl, k2, rfl⟩
      go_wp2_with fail
      go_ret2
      exact ⟨ret_bb HV.out.symm HO.out.symm, _, rfl⟩
theorem sizG_take {s : List Rg} {k : Nat} (hk : k < s.length) : sizG (s.take (k + 1)) = sizG (s.take k) + (s[k].2 - s[k].1 + 1) := by
  rw [List.take_succ_eq_append_getElem hk]
  unfold sizG
  rw [List.map_append, List.sum_append]
  simp
def sizV (s : List Rg) : Int := if rgOk s = true then sizG s else 0
set_option maxHeartbeats 1000000 in
theorem specSize_any (v : Value) (s : List Rg) (w : World) (hrow : Row w v s.length (rgF s)) :
    Calls Try.prog 40 #[v] w fun e w' => e = .returned (.tuple #[.int .i64 (sizV s), .bool (rgOk s)]) ∧ ∃ k, w' = w.drewN k := by
  have HR := Lib.hid hrow
  obtain ⟨a, cap, rfl, hc1, hm1, hcell⟩ := rg_open hrow
  have HC := Lib.hid hcell
  clear hcell hrow
  unfold maxLen at hm1
  have HG := Lib.hid (l5Good_any _ s w HR.out)
  cases hg : rgOk s with
  | false =>
    rw [hg] at HG
    have HV : Hid (sizV s = 0) := Lib.hid (by unfold sizV; rw [hg]; rfl)
    clear hg
    go_enter Try.func40, Try.ntmps40
    go_wp2_with fail
    refine HG.out.mono ?_
    rintro e w1 ⟨rfl, k, rfl⟩
    go_wp2_with fail
    go_ret2
    exact ⟨ret_ib HV.out.symm rfl, k, rfl⟩
  | true =>
    rw [hg] at HG
    have hch := (rgOk_parts hg).1
    have HV : Hid (sizV s = sizG s) := Lib.hid (by unfold sizV; rw [hg]; rfl)
    have HCh := Lib.hid hch
    clear hg hch
    obtain ⟨n, hN⟩ : ∃ n, n = s.length := ⟨_, rfl⟩
    rw [← hN] at hc1 HG ⊢
    have HN := Lib.hid hN
    clear hN
    go_enter Try.func40, Try.ntmps40
    go_wp2_with fail
    refine HG.out.mono ?_
    rintro e w1 ⟨rfl, k0, rfl⟩
    clear HG
    go_wp2_with fail
    go_loopw [4, 5] (fun m i wr => ∃ (k : Nat) (z : Int), k ≤ n ∧ i = .int .i64 k ∧ m = .int .i64 z ∧ 0 ≤ z ∧ z ≤ 65536 ∧ Hid (z = sizG (s.take k)) ∧ Hid (∃ a, wr = w.drewN a)) (fun _ i _ => n - (intOf i).toNat)
    case atStart => exact ⟨0, 0, Nat.zero_le _, rfl, rfl, Int.le_refl _, by omega, Lib.hid rfl, Lib.hid ⟨k0, rfl⟩⟩
    case round =>
      obtain ⟨k, z, hk, rfl, rfl, hz0, hz1, HZ, HW⟩ := hrel
      by_cases hkn : k < n
      · have hks : k < s.length := by rw [← HN.out]; exact hkn
        obtain ⟨b, off, rfl, hb, hf, ht⟩ := HC.out k hks
        have hf1 : wr.cell? ⟨b, off + k * 2, none⟩ = some (.int .i64 s[k].1) := by obtain ⟨a, rfl⟩ := HW.out; exact hf
        have ht1 : wr.cell? ⟨b, off + k * 2 + 1, none⟩ = some (.int .i64 s[k].2) := by obtain ⟨a, rfl⟩ := HW.out; exact ht
        have hv := HCh.out.2 s[k] (List.getElem_mem hks)
        have hsz := sizG_take hks
        have hsb := siz_nonneg (rgCh_take HCh.out (k + 1))
        rw [hsz, ← HZ.out] at hsb
        rw [← HZ.out] at hsz
        clear hf ht
        obtain ⟨f, hfe⟩ : ∃ f, f = s[k].1 := ⟨_, rfl⟩
        obtain ⟨t, hte⟩ : ∃ t, t = s[k].2 := ⟨_, rfl⟩
        rw [← hfe] at hf1
        rw [← hte] at ht1
        rw [← hfe, ← hte] at hv hsz hsb
        have HZ2 := Lib.hid hsz
        clear hfe hte hsz HZ
        obtain ⟨f0, ft, t1⟩ := hv
        obtain ⟨s0, s1⟩ := hsb
        have w1 : IntKind.i64.wrap (z + t) = z + t := IntWalk.i64_in _ (by omega)
        have w2 : IntKind.i64.wrap (z + t - f) = z + t - f := IntWalk.i64_in _ (by omega)
        have w3 : IntKind.i64.wrap (z + t - f + 1) = z + t - f + 1 := IntWalk.i64_in _ (by omega)
        go_wp2_with fail
        go_quiet (fail)
        go_wp2_with fail
        go_roundw
        case rel => exact ⟨k + 1, z + t - f + 1, by omega, by go_num, rfl, by omega, by omega, Lib.hid (by rw [HZ2.out]; omega), Lib.hid (world_hid5 HW.out _)⟩
        case measure => (simp [intOf]; omega)
      · obtain rfl : k = n := by omega
        have HO : Hid (z = sizG s) := Lib.hid (by
          have h := HZ.out
          rw [HN.out, List.take_of_length_le (Nat.le_refl _)] at h
          exact h)
        go_wp2_with fail
        go_ret2
        exact ⟨ret_ib (by rw [HV.out, ← HO.out]) rfl, HW.out⟩
def nxOk (s : List Rg) (x : Int) : Bool := rgOk s && (serB x && serB (nextG s x))
def nxV (s : List Rg) (x : Int) : Int := if nxOk s x = true then nextG s x else 0
theorem nextG_take {s : List Rg} {k : Nat} (hk : k < s.length) (x : Int) : nextG (s.take (k + 1)) x = if s[k].1 ≤ nextG (s.take k) x ∧ nextG (s.take k) x ≤ s[k].2 then s[k].2 + 1 else nextG (s.take k) x := by
  rw [List.take_succ_eq_append_getElem hk]
  unfold nextG
  rw [List.foldl_append]
  rfl
set_option maxHeartbeats 1000000 in
theorem specNext_any (v : Value) (s : List Rg) (x : Int) (w : World) (hrow : Row w v s.length (rgF s)) :
    Calls Try.prog 25 #[v, .int .i64 x] w fun e w' => e = .returned (.tuple #[.int .i64 (nxV s x), .bool (nxOk s x)]) ∧ ∃ k, w' = w.drewN k := by
  have HR := Lib.hid hrow
  obtain ⟨a, cap, rfl, hc1, hm1, hcell⟩ := rg_open hrow
  have HC := Lib.hid hcell
  clear hcell hrow
  unfold maxLen at hm1
  have HG := Lib.hid (l5Good_any _ s w HR.out)
  cases hg : rgOk s with
  | false =>
    rw [hg] at HG
    have HO : Hid (nxOk s x = false) := Lib.hid (by unfold nxOk; rw [hg]; rfl)
    have HV : Hid (nxV s x = 0) := Lib.hid (by unfold nxV; rw [HO.out]; rfl)
    clear hg
    go_enter Try.func25, Try.ntmps25
    go_wp2_with fail
    refine HG.out.mono ?_
    rintro e w1 ⟨rfl, k, rfl⟩
    go_wp2_with fail
    go_ret2
    exact ⟨ret_ib HV.out.symm HO.out.symm, k, rfl⟩
  | true =>
    rw [hg] at HG
    cases hx : serB x with
    | false =>
      have HO : Hid (nxOk s x = false) := Lib.hid (by unfold nxOk; rw [hg, hx]; rfl)
      have HV : Hid (nxV s x = 0) := Lib.hid (by unfold nxV; rw [HO.out]; rfl)
      clear hg
      go_enter Try.func25, Try.ntmps25
      go_wp2_with fail
      refine HG.out.mono ?_
      rintro e w1 ⟨rfl, k, rfl⟩
      go_wp2_with (go_at_call 55; refine (l3Word5_any _ _).mono ?_; rintro e w' ⟨rfl, rfl⟩)
      go_ret2
      exact ⟨ret_ib HV.out.symm HO.out.symm, k, rfl⟩
    | true =>
      have hch := (rgOk_parts hg).1
      have hxb : 0 ≤ x ∧ x ≤ 65535 := of_decide_eq_true hx
      have HCh := Lib.hid hch
      have HOk : Hid (nxOk s x = serB (nextG s x)) := Lib.hid (by unfold nxOk; rw [hg, hx]; rfl)
      clear hg hch
      obtain ⟨n, hN⟩ : ∃ n, n = s.length := ⟨_, rfl⟩
      rw [← hN] at hc1 HG ⊢
      have HN := Lib.hid hN
      clear hN
      go_enter Try.func25, Try.ntmps25
      go_wp2_with fail
      refine HG.out.mono ?_
      rintro e w1 ⟨rfl, k0, rfl⟩
      clear HG
      go_wp2_with (go_at_call 55; refine (l3Word5_any _ _).mono ?_; rintro e w' ⟨rfl, rfl⟩)
      go_loopw [1, 6] (fun m i wr => ∃ (k : Nat) (z : Int), k ≤ n ∧ i = .int .i64 k ∧ m = .int .i64 z ∧ 0 ≤ z ∧ z ≤ 65536 ∧ Hid (z = nextG (s.take k) x) ∧ Hid (∃ a, wr = w.drewN a)) (fun _ i _ => n - (intOf i).toNat)
      case atStart => exact ⟨0, x, Nat.zero_le _, rfl, rfl, by omega, by omega, Lib.hid rfl, Lib.hid ⟨k0, rfl⟩⟩
      case round =>
        clear hx
        obtain ⟨k, z, hk, rfl, rfl, hz0, hz1, HZ, HW⟩ := hrel
        by_cases hkn : k < n
        · have hks : k < s.length := by rw [← HN.out]; exact hkn
          obtain ⟨b, off, rfl, hb, hf, ht⟩ := HC.out k hks
          have hf1 : wr.cell? ⟨b, off + k * 2, none⟩ = some (.int .i64 s[k].1) := by obtain ⟨a, rfl⟩ := HW.out; exact hf
          have ht1 : wr.cell? ⟨b, off + k * 2 + 1, none⟩ = some (.int .i64 s[k].2) := by obtain ⟨a, rfl⟩ := HW.out; exact ht
          have hv := HCh.out.2 s[k] (List.getElem_mem hks)
          have hnx := nextG_take hks x
          rw [← HZ.out] at hnx
          clear hf ht
          obtain ⟨f, hfe⟩ : ∃ f, f = s[k].1 := ⟨_, rfl⟩
          obtain ⟨t, hte⟩ : ∃ t, t = s[k].2 := ⟨_, rfl⟩
          rw [← hfe] at hf1
          rw [← hte] at ht1
          rw [← hfe, ← hte] at hv hnx
          clear hfe hte HZ
          obtain ⟨f0, ft, t1⟩ := hv
          by_cases hin : f ≤ z ∧ z ≤ t
          · have hs1 : inB z f t = true := inB_yes hin.1 hin.2
            rw [if_pos hin] at hnx
            have HZ2 := Lib.hid hnx
            have w1 : IntKind.i64.wrap (t + 1) = t + 1 := IntWalk.i64_in _ (by omega)
            clear hnx
            go_wp2_with fail
            go_quiet ((go_at_call 56; exact quiet_eq5 (l1In_any _ _ _ _)))
            rw [hs1]
            go_wp2_with fail
            go_roundw
            case rel => exact ⟨k + 1, t + 1, by omega, by go_num, rfl, by omega, by omega, Lib.hid HZ2.out.symm, Lib.hid (world_hid5 HW.out _)⟩
            case measure => (simp [intOf]; omega)
          · have hs1 : inB z f t = false := inB_no hin
            rw [if_neg hin] at hnx
            have HZ2 := Lib.hid hnx
            clear hnx
            go_wp2_with fail
            go_quiet ((go_at_call 56; exact quiet_eq5 (l1In_any _ _ _ _)))
            rw [hs1]
            go_wp2_with fail
            go_roundw
            case rel => exact ⟨k + 1, z, by omega, by go_num, rfl, by omega, by omega, Lib.hid HZ2.out.symm, Lib.hid (world_hid5 HW.out _)⟩
            case measure => (simp [intOf]; omega)
        · obtain rfl : k = n := by omega
          have HZs : Hid (nextG s x = z) := Lib.hid (by
            have h := HZ.out
            rw [HN.out, List.take_of_length_le (Nat.le_refl _)] at h
            exact h.symm)
          have HO : Hid (nxOk s x = serB z) := Lib.hid (by rw [HOk.out, HZs.out])
          have HV : Hid (nxV s x = if serB z = true then z else 0) := Lib.hid (by unfold nxV; rw [HO.out, HZs.out])
          cases hzs : serB z with
          | true =>
            rw [hzs] at HO HV
            go_wp2_with (go_at_call 55; refine (l3Word5_any _ _).mono ?_; rintro e w' ⟨rfl, rfl⟩)
            go_ret2
            exact ⟨ret_ib (by rw [HV.out]; rfl) HO.out.symm, HW.out⟩
          | false =>
            rw [hzs] at HO HV
            go_wp2_with (go_at_call 55; refine (l3Word5_any _ _).mono ?_; rintro e w' ⟨rfl, rfl⟩)
            go_ret2
            exact ⟨ret_ib (by rw [HV.out]; rfl) HO.out.symm, HW.out⟩
end Go.Proofs.Ytneimcacpbepfaa
