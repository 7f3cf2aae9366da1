/-
  Sets as ranges: rows of ranges, and what the specification's functions that only read return.
-/
import Derived.Test.YtneimcacpbepfaaGreatDoorOwnZ
import Derived.Test.YtneimcacpbepfaaGreatDoorRngMath2
import Derived.Test.YtneimcacpbepfaaGreatDoorSer
import Derived.Deep.QuietTactic
import Derived.BigQuiet
namespace Go.Proofs.YtneimcacpbepfaaGreatDoor
open Go.RowKit Go.Lib
set_option linter.unusedVariables false

def rgC (r : Rg) : List Value := [.int .i64 r.1, .int .i64 r.2]
theorem rgC_len (r : Rg) : (rgC r).length = 2 := rfl
/-- The cells of a list of ranges. -/
def rgF (s : List Rg) : List Value := flatZ rgC s
theorem rg_open {w : World} {v : Value} {s : List Rg} (hrow : Row w v s.length (rgF s)) :
    ∃ a cap, v = .slice a s.length cap ∧ s.length ≤ cap ∧ cap ≤ maxLen ∧ ∀ k (h : k < s.length), ∃ b off, a = some ⟨b, off, none⟩ ∧ b < w.heap.size ∧ w.cell? ⟨b, off + k * 2, none⟩ = some (.int .i64 s[k].1) ∧ w.cell? ⟨b, off + k * 2 + 1, none⟩ = some (.int .i64 s[k].2) := by
  obtain ⟨a, cap, rfl, h1, h2, h3⟩ := rowz_open rgC_len (by omega) hrow
  refine ⟨a, cap, rfl, h1, h2, fun k h => ?_⟩
  obtain ⟨b, off, rfl, hb, hc⟩ := h3 k h
  exact ⟨b, off, rfl, hb, by simpa using hc 0 _ rfl, by simpa [Nat.add_assoc] using hc 1 _ rfl⟩
theorem l3Word5_any (x : Int) (w : World) :
    Calls Tryz.prog 47 #[.int .i64 x] w fun e w' => e = .returned (.bool (serB x)) ∧ w = w' := by
  go_enter Tryz.func47, Tryz.ntmps47
  go_wp2_with (go_at_call 60; refine (l1In_any _ _ _ _).mono ?_; rintro e w' ⟨rfl, rfl⟩)
  go_ret
  exact ⟨rfl, rfl⟩
theorem l1Least_any (a b : Int) (w : World) :
    Calls Tryz.prog 43 #[.int .i64 a, .int .i64 b] w fun e w' => e = .returned (.int .i64 (min a b)) ∧ w = w' := by
  by_cases h : a < b
  · go_enter Tryz.func43, Tryz.ntmps43
    go_wp2
    go_ret
    exact ⟨ret_int (by omega), rfl⟩
  · go_enter Tryz.func43, Tryz.ntmps43
    go_wp2
    go_ret
    exact ⟨ret_int (by omega), rfl⟩
theorem l1Most_any (a b : Int) (w : World) :
    Calls Tryz.prog 48 #[.int .i64 a, .int .i64 b] w fun e w' => e = .returned (.int .i64 (max a b)) ∧ w = w' := by
  by_cases h : b < a
  · go_enter Tryz.func48, Tryz.ntmps48
    go_wp2
    go_ret
    exact ⟨ret_int (by omega), rfl⟩
  · go_enter Tryz.func48, Tryz.ntmps48
    go_wp2
    go_ret
    exact ⟨ret_int (by omega), rfl⟩
theorem quiet_eq5 {f : FuncId} {args : Array Value} {w : World} {v : Value} {d : Nat} (h : Calls Tryz.prog f args (w.drewN d) fun e w' => e = .returned v ∧ w.drewN d = w') :
    Calls Tryz.prog f args (w.drewN d) fun e w'' => e = .returned v ∧ ∃ n, w'' = w.drewN n := h.mono fun e w'' ⟨h1, h2⟩ => ⟨h1, d, h2.symm⟩
theorem rgCh_take_zero (s : List Rg) : rgCh (s.take 0) := rgCh_nil
/-- One range more keeps a chain. -/
theorem rgCh_snoc {s : List Rg} {k : Nat} (hk : k < s.length) (h : rgCh (s.take k)) (h0 : 0 ≤ s[k].1) (h1 : s[k].1 ≤ s[k].2) (h2 : s[k].2 ≤ 65535) (hp : ∀ (hk0 : 0 < k), (s[k - 1]'(by omega)).2 + 1 < s[k].1) : rgCh (s.take (k + 1)) := by
  rw [List.take_succ_eq_append_getElem hk]
  refine rgCh_append h (rgCh_cons.2 ⟨by simp, ⟨h0, h1, h2⟩, rgCh_nil⟩) (fun x hx y hy => ?_)
  simp at hy
  subst hy
  obtain ⟨i, hi, rfl⟩ := List.getElem_of_mem hx
  rw [List.length_take] at hi
  have hlast := hp (by omega)
  by_cases hik : i = k - 1
  · subst hik
    rw [List.getElem_take]
    exact hlast
  · have hpw := List.pairwise_iff_getElem.1 h.1 i (k - 1) (by rw [List.length_take]; omega) (by rw [List.length_take]; omega) (by omega)
    rw [List.getElem_take, List.getElem_take] at hpw
    have hv := (h.2 (s[k - 1]'(by omega)) (by rw [List.mem_take_iff_getElem]; exact ⟨k - 1, by omega, rfl⟩)).2.1
    rw [List.getElem_take]
    omega
theorem rgCh_take {s : List Rg} (h : rgCh s) (k : Nat) : rgCh (s.take k) := ⟨h.1.sublist (List.take_sublist ..), fun r hr => h.2 r (List.mem_of_mem_take hr)⟩
theorem rgOk_ch {s : List Rg} (h : ¬ rgCh s) : rgOk s = false := by unfold rgOk; rw [decide_eq_false h]; rfl
theorem rgOk_bad {s : List Rg} {k : Nat} (hk : k < s.length) (h : ¬ (0 ≤ s[k].1 ∧ s[k].1 ≤ s[k].2 ∧ s[k].2 ≤ 65535)) : rgOk s = false := rgOk_ch (fun hc => h (hc.2 _ (List.getElem_mem hk)))
theorem rgOk_near {s : List Rg} {k : Nat} (hk : k < s.length) (hk0 : 0 < k) (h : ¬ ((s[k - 1]'(by omega)).2 + 1 < s[k].1)) : rgOk s = false :=
  rgOk_ch (fun hc => h (List.pairwise_iff_getElem.1 hc.1 (k - 1) k (by omega) hk (by omega)))
theorem rgOk_len {s : List Rg} (h : rgCh s) : rgOk s = decide ((s.length : Int) ≤ 10) := by
  unfold rgOk
  rw [decide_eq_true h, Bool.true_and]
  exact decide_eq_decide.2 (by omega)
theorem world_hid5 {w wr : World} (h : ∃ a, wr = w.drewN a) (k : Nat) : ∃ a, wr.drewN k = w.drewN a := by
  obtain ⟨a, rfl⟩ := h
  exact ⟨a + k, by rw [World.drewN_drewN]⟩
set_option maxHeartbeats 4000000 in
theorem l5Good_any (v : Value) (s : List Rg) (w : World) (hrow : Row w v s.length (rgF s)) :
    Calls Tryz.prog 27 #[v] w fun e w' => e = .returned (.bool (rgOk s)) ∧ ∃ k, w' = w.drewN k := by
  obtain ⟨a, cap, rfl, hc1, hm1, hcell⟩ := rg_open hrow
  have HC := Lib.hid hcell
  clear hcell hrow
  unfold maxLen at hm1
  obtain ⟨n, hN⟩ : ∃ n, n = s.length := ⟨_, rfl⟩
  rw [← hN] at hc1 ⊢
  have HN := Lib.hid hN
  clear hN
  go_enter Tryz.func27, Tryz.ntmps27
  go_wp2_with fail
  go_loopw [3] (fun i wr => ∃ k : Nat, k ≤ n ∧ i = .int .i64 k ∧ Hid (rgCh (s.take k)) ∧ Hid (∃ a, wr = w.drewN a)) (fun i _ => n - (intOf i).toNat)
  case atStart => exact ⟨0, Nat.zero_le _, rfl, Lib.hid (rgCh_take_zero s), Lib.hid ⟨0, rfl⟩⟩
  case round =>
    obtain ⟨k, hk, rfl, HT, HW⟩ := hrel
    by_cases hkn : k < n
    · have hks : k < s.length := by rw [← HN.out]; exact hkn
      obtain ⟨b, off, rfl, hb, hf, ht⟩ := HC.out k hks
      have hf1 : wr.cell? ⟨b, off + k * 2, none⟩ = some (.int .i64 s[k].1) := by obtain ⟨a, rfl⟩ := HW.out; exact hf
      have ht1 : wr.cell? ⟨b, off + k * 2 + 1, none⟩ = some (.int .i64 s[k].2) := by obtain ⟨a, rfl⟩ := HW.out; exact ht
      clear hf ht
      obtain ⟨f, hfe⟩ : ∃ f, f = s[k].1 := ⟨_, rfl⟩
      obtain ⟨t, hte⟩ : ∃ t, t = s[k].2 := ⟨_, rfl⟩
      rw [← hfe] at hf1
      rw [← hte] at ht1
      have HF := Lib.hid hfe
      have HE := Lib.hid hte
      clear hfe hte
      by_cases hw1 : 0 ≤ f ∧ f ≤ 65535
      · have hs1 := serB_yes hw1.1 hw1.2
        by_cases hw2 : 0 ≤ t ∧ t ≤ 65535
        · have hs2 := serB_yes hw2.1 hw2.2
          by_cases hft : t < f
          · have hd1 : decide (t < f) = true := decide_eq_true hft
            have HO := Lib.hid (rgOk_bad hks (by rw [← HF.out, ← HE.out]; omega))
            go_wp2_with fail
            go_quiet ((go_at_call 47; exact quiet_eq5 (l3Word5_any _ _)))
            go_wp2_with fail
            go_ret
            exact ⟨ret_bool HO.out.symm, world_hid5 HW.out _⟩
          · have hd1 : decide (t < f) = false := decide_eq_false hft
            by_cases hk0 : 0 < k
            · have hd2 : decide ((0 : Int) < (k : Int)) = true := decide_eq_true (by omega)
              obtain ⟨b', off', e', hb', hf', ht'⟩ := HC.out (k - 1) (by omega)
              injection e' with e'
              injection e' with e1 e2
              subst e1; subst e2
              have hp1 : wr.cell? ⟨b, off + (k - 1) * 2 + 1, none⟩ = some (.int .i64 (s[k - 1]'(by omega)).2) := by obtain ⟨a, rfl⟩ := HW.out; exact ht'
              clear hf' ht' hb'
              obtain ⟨p, hp⟩ : ∃ p, p = (s[k - 1]'(by omega)).2 := ⟨_, rfl⟩
              rw [← hp] at hp1
              have hpb : 0 ≤ p ∧ p ≤ 65535 := by
                have := HT.out.2 (s[k - 1]'(by omega)) (by rw [List.mem_take_iff_getElem]; exact ⟨k - 1, by omega, rfl⟩)
                rw [← hp] at this
                omega
              have HPe := Lib.hid hp
              clear hp
              obtain ⟨p0, p1⟩ := hpb
              have hkw : IntKind.i64.wrap ((k : Int) - 1) = (k : Int) - 1 := IntWalk.i64_in _ (by omega)
              have hkn1 : ((k : Int) - 1).toNat = k - 1 := by omega
              have hkp : (0 : Int) ≤ (k : Int) - 1 := by omega
              have hkq : (k : Int) - 1 < (n : Int) := by omega
              have hpw : IntKind.i64.wrap (p + 1) = p + 1 := IntWalk.i64_in _ (by omega)
              by_cases hg : f ≤ p + 1
              · have hd3 : decide (f ≤ p + 1) = true := decide_eq_true hg
                have HO := Lib.hid (rgOk_near hks hk0 (by rw [← HF.out, ← HPe.out]; omega))
                go_wp2_with fail
                go_quiet ((go_at_call 47; exact quiet_eq5 (l3Word5_any _ _)))
                go_wp2_with fail
                go_ret
                exact ⟨ret_bool HO.out.symm, world_hid5 HW.out _⟩
              · have hd3 : decide (f ≤ p + 1) = false := decide_eq_false hg
                have HS := Lib.hid (rgCh_snoc hks HT.out (by rw [← HF.out]; omega) (by rw [← HF.out, ← HE.out]; omega) (by rw [← HE.out]; omega) (fun _ => by rw [← HF.out, ← HPe.out]; omega))
                go_wp2_with fail
                go_quiet ((go_at_call 47; exact quiet_eq5 (l3Word5_any _ _)))
                go_wp2_with fail
                go_roundw
                case rel => exact ⟨k + 1, by omega, by go_num, HS, Lib.hid (world_hid5 HW.out _)⟩
                case measure => simp [intOf]; omega
            · have hd2 : decide ((0 : Int) < (k : Int)) = false := decide_eq_false (by omega)
              have HS := Lib.hid (rgCh_snoc hks HT.out (by rw [← HF.out]; omega) (by rw [← HF.out, ← HE.out]; omega) (by rw [← HE.out]; omega) (fun h => absurd h hk0))
              go_wp2_with fail
              go_quiet ((go_at_call 47; exact quiet_eq5 (l3Word5_any _ _)))
              go_wp2_with fail
              go_roundw
              case rel => exact ⟨k + 1, by omega, by go_num, HS, Lib.hid (world_hid5 HW.out _)⟩
              case measure => simp [intOf]; omega
        · have hs2 := serB_no hw2
          have HO := Lib.hid (rgOk_bad hks (by rw [← HF.out, ← HE.out]; omega))
          go_wp2_with fail
          go_quiet ((go_at_call 47; exact quiet_eq5 (l3Word5_any _ _)))
          go_wp2_with fail
          go_ret
          exact ⟨ret_bool HO.out.symm, world_hid5 HW.out _⟩
      · have hs1 := serB_no hw1
        have HO := Lib.hid (rgOk_bad hks (by rw [← HF.out, ← HE.out]; omega))
        go_wp2_with fail
        go_quiet ((go_at_call 47; exact quiet_eq5 (l3Word5_any _ _)))
        go_wp2_with fail
        go_ret
        exact ⟨ret_bool HO.out.symm, world_hid5 HW.out _⟩
    · obtain rfl : k = n := by omega
      have HO : Hid (rgOk s = decide ((k : Int) ≤ 10)) := Lib.hid (by
        have h := HT.out
        rw [HN.out, List.take_of_length_le (Nat.le_refl _)] at h
        rw [rgOk_len h, HN.out])
      by_cases h10 : (k : Int) ≤ 10
      · go_wp2_with fail
        go_ret
        exact ⟨ret_bool (by rw [HO.out, decide_eq_true h10]), HW.out⟩
      · go_wp2_with fail
        go_ret
        exact ⟨ret_bool (by rw [HO.out, decide_eq_false (by omega)]), HW.out⟩
end Go.Proofs.YtneimcacpbepfaaGreatDoor
