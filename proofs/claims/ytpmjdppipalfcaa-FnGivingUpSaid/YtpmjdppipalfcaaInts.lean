/-
  The laws' own helpers on slices of int: 'toIntS', 'eqIntS', 'markIntS', 'heldIntS', 'vInts', 'vHas'.
-/
import Derived.Test.YtpmjdppipalfcaaProg
import Derived.Test.YtpmjdppipalfcaaFill
import Derived.Test.YtpmjdppipalfcaaOwn
import Derived.Deep.QuietTactic
import Derived.BigQuiet
import Derived.IntWalk
namespace Go.Proofs.Ytpmjdppipalfcaa
open Go.RowKit

theorem infoInt : (Try.prog.info? 3).map (fun i => (i.zero, i.size, i.bytes)) = some (some (.int .i64 0), 1, 8) := by kernel_rfl

theorem int_ne {x y : Int} (h : (!(x == y)) = true) : x ≠ y := by simpa using h
theorem int_eq {x y : Int} (h : (!(x == y)) = false) : x = y := by simpa using h
theorem eq_take_i {α : Type} {xs ys : List α} {k : Nat} (ha : k < xs.length) (hb : k < ys.length) (h : xs.take k = ys.take k) (e : xs[k] = ys[k]) : xs.take (k + 1) = ys.take (k + 1) := by
  rw [List.take_succ_eq_append_getElem ha, List.take_succ_eq_append_getElem hb, h, e]
theorem list_at_i {α : Type} {xs ys : List α} (e : xs = ys) (k : Nat) (h1 : k < xs.length) (h2 : k < ys.length) : xs[k] = ys[k] := by subst e; rfl
theorem world_hid_i {w wr : World} (h : ∃ a, wr = w.drewN a) (n : Nat) : ∃ a, wr.drewN n = w.drewN a := by
  obtain ⟨a, rfl⟩ := h
  exact ⟨a + n, by rw [World.drewN_drewN]⟩


set_option maxHeartbeats 400000 in
theorem eqIntS_any (v1 v2 : Value) (xs ys : List Int) (w : World) (h1 : Row w v1 xs.length (xs.map (Value.int .i64))) (h2 : Row w v2 ys.length (ys.map (Value.int .i64))) :
    Calls Try.prog 41 #[v1, v2] w fun e w' => e = .returned (.bool (decide (xs = ys))) ∧ ∃ k, w' = w.drewN k := by
  obtain ⟨a1, c1, rfl, hc1, hm1, hcell1⟩ := row_open h1
  obtain ⟨a2, c2, rfl, hc2, hm2, hcell2⟩ := row_open h2
  have HC1 := Lib.hid hcell1
  have HC2 := Lib.hid hcell2
  clear hcell1 hcell2 h1 h2
  unfold maxLen at hm1 hm2
  by_cases hl : xs.length = ys.length
  · obtain ⟨n, hN⟩ : ∃ n, n = xs.length := ⟨_, rfl⟩
    rw [← hl, ← hN]
    rw [← hl, ← hN] at hc2
    rw [← hN] at hc1
    have HL := Lib.hid hl
    have HN := Lib.hid hN
    clear hl hN
    go_enter Try.func41, Try.ntmps41
    go_wp2_with fail
    go_loopw [5] (fun i wr => ∃ k : Nat, k ≤ n ∧ i = .int .i64 k ∧ Hid (xs.take k = ys.take k) ∧ Hid (∃ a, wr = w.drewN a)) (fun i _ => n - (intOf i).toNat)
    case atStart => exact ⟨0, Nat.zero_le _, rfl, Lib.hid (by simp), Lib.hid ⟨0, rfl⟩⟩
    case round =>
      obtain ⟨k, hk, rfl, HT, HW⟩ := hrel
      by_cases hkn : k < n
      · have hk1 : k < xs.length := by rw [← HN.out]; exact hkn
        have hk2 : k < ys.length := by rw [← HL.out]; exact hk1
        obtain ⟨b1, o1, rfl, hb1, hx1⟩ := HC1.out k hk1
        obtain ⟨b2, o2, rfl, hb2, hx2⟩ := HC2.out k hk2
        have hy1 : wr.cell? ⟨b1, o1 + k, none⟩ = some (.int .i64 xs[k]) := by obtain ⟨a, rfl⟩ := HW.out; exact hx1
        have hy2 : wr.cell? ⟨b2, o2 + k, none⟩ = some (.int .i64 ys[k]) := by obtain ⟨a, rfl⟩ := HW.out; exact hx2
        clear hx1 hx2
        obtain ⟨x, hx⟩ : ∃ x, x = xs[k] := ⟨_, rfl⟩
        obtain ⟨y, hy⟩ : ∃ y, y = ys[k] := ⟨_, rfl⟩
        rw [← hx] at hy1
        rw [← hy] at hy2
        have HX := Lib.hid hx
        have HY := Lib.hid hy
        clear hx hy
        go_wp2_with fail
        go_quiet (fail)
        go_wp2_with fail
        · go_ret
          exact ⟨ret_bool (by rw [decide_eq_false (fun e => int_ne (by assumption) (by rw [HX.out, HY.out]; exact list_at_i e _ _ _))]), world_hid_i HW.out _⟩
        · go_roundw
          case rel => exact ⟨k + 1, by omega, by go_num, Lib.hid (eq_take_i hk1 hk2 HT.out (by rw [← HX.out, ← HY.out]; exact int_eq (by assumption))), Lib.hid (world_hid_i HW.out _)⟩
          case measure => simp [intOf]; omega
      · obtain rfl : k = n := by omega
        have HE : Hid (xs = ys) := Lib.hid (by
          have := HT.out
          rw [HN.out, List.take_of_length_le (Nat.le_refl _), HL.out, List.take_of_length_le (Nat.le_refl _)] at this
          exact this)
        go_wp2_with fail
        go_ret
        exact ⟨ret_bool (by rw [decide_eq_true HE.out]), HW.out⟩
  · have HE : Hid (decide (xs = ys) = false) := Lib.hid (decide_eq_false (fun e => hl (by rw [e])))
    have hd : ((xs.length : Int) == (ys.length : Int)) = false := by simp; omega
    clear hl
    go_enter Try.func41, Try.ntmps41
    go_wp2_with fail
    go_ret
    exact ⟨ret_bool HE.out.symm, 0, rfl⟩

/-- n marks from k on. -/
def marksI (k n : Nat) : List Value := (List.range n).map fun i => .int .i64 ((k + i : Nat) : Int)

theorem marksI_length (k n : Nat) : (marksI k n).length = n := by simp [marksI]
theorem marksI_succ (k j : Nat) : marksI k (j + 1) = marksI k j ++ [.int .i64 ((k + j : Nat) : Int)] := by simp [marksI, List.range_succ]
theorem marksI_at (k n i : Nat) (h : i < n) : (marksI k n)[i]? = some (.int .i64 ((k + i : Nat) : Int)) := by
  unfold marksI
  rw [List.getElem?_map, List.getElem?_range h]; rfl
theorem marksI_set (k j : Nat) (xs : List Value) (h : j < xs.length) : (marksI k j ++ xs.drop j).set j (.int .i64 ((k + j : Nat) : Int)) = marksI k (j + 1) ++ xs.drop (j + 1) := by
  rw [List.set_append_right _ _ (by rw [marksI_length]; omega), marksI_length, Nat.sub_self, List.drop_eq_getElem_cons h, List.set_cons_zero, marksI_succ]
  simp
theorem mkI_eq {x : Value} {k i n : Nat} (h : (marksI k n)[i]? = some x) (hi : i < n) : x = .int .i64 ((k + i : Nat) : Int) := by
  rw [marksI_at k n i hi] at h
  injection h with h
  exact h.symm

set_option maxHeartbeats 1000000 in
theorem markIntS_any (g n cap k base : Nat) (xs : List Value) (w : World) (hown : w.ownsRow base 3 1 (.slice (some ⟨g, 0, none⟩) n cap) n xs) (hk : k + n ≤ 100000000) :
    Calls Try.prog 42 #[.slice (some ⟨g, 0, none⟩) n cap, .int .i64 k] w fun e w' => e = .returned (.int .i64 (k + n : Nat)) ∧
      w'.ownsRow base 3 1 (.slice (some ⟨g, 0, none⟩) n cap) n (marksI k n) ∧ w.grownBy w' (some g) := by
  have hxl : xs.length = n := by have := hown.1; omega
  have HX := Lib.hid hxl
  clear hxl
  go_enter Try.func42, Try.ntmps42
  go_wp2_with fail
  go_loopw [1, 5] (fun z i wr => ∃ j : Nat, j ≤ n ∧ i = .int .i64 j ∧ z = .int .i64 (k + j : Nat) ∧ wr.ownsRow base 3 1 (.slice (some ⟨g, 0, none⟩) n cap) n (marksI k j ++ xs.drop j) ∧ w.grownBy wr (some g)) (fun _ i _ => n - (intOf i).toNat)
  case atStart => exact ⟨0, Nat.zero_le _, rfl, rfl, by simpa [marksI] using hown, ⟨rfl, rfl, rfl, Nat.le_refl _, fun _ _ _ => rfl⟩⟩
  case round =>
    obtain ⟨j, hj, rfl, rfl, ho, hg⟩ := hrel
    by_cases hjn : j < n
    · obtain ⟨⟨u, _, hu⟩, hfr, _, _⟩ := own_facts ho hjn
      obtain ⟨m, hm⟩ : ∃ m : Nat, m = k + j := ⟨_, rfl⟩
      have HM := Lib.hid hm
      rw [← hm]
      have hmb : m ≤ 100000000 := by omega
      clear hm
      go_wp2_with fail
      go_roundw
      case rel => exact ⟨j + 1, by omega, by go_num, vint (by have := HM.out; omega), by
        have h2 := (own_set ho (j := j) (.int .i64 ((k + j : Nat) : Int))).1
        rw [marksI_set k j xs (by rw [HX.out]; exact hjn)] at h2
        rw [HM.out]
        exact h2, grown_trans hg (own_set ho (j := j) _).2⟩
      case measure => simp [intOf]; omega
    · obtain rfl : j = n := by omega
      go_wp2_with fail
      go_ret
      exact ⟨rfl, by rw [List.drop_of_length_le (by rw [HX.out]; exact Nat.le_refl _), List.append_nil] at ho; exact ho, hg⟩

theorem markI_own (v : Value) (n k base : Nat) (xs : List Value) (w : World) (hown : w.ownsRow base 3 1 v n xs) (hk : k + n ≤ 100000000) :
    Calls Try.prog 42 #[v, .int .i64 k] w fun e w' => e = .returned (.int .i64 (k + n : Nat)) ∧
      w'.ownsRow base 3 1 v n (marksI k n) ∧ w.grownBy w' v.ownBlock := by
  have h0' := hown
  obtain ⟨hl, ⟨rfl, rfl⟩ | ⟨g, cap, cur, rfl, hb, hg, hn, hm, hs, ht⟩⟩ := hown
  · clear h0' hl
    go_enter Try.func42, Try.ntmps42
    go_wp2_with fail
    refine wp_loop_rounds 1 ?_
    rw [rounds_succ]
    go_wp2_with fail
    go_ret
    exact ⟨rfl, by simpa [marksI] using World.ownsRow_nil w base _ 1, ⟨rfl, rfl, rfl, Nat.le_refl _, fun _ _ _ => rfl⟩⟩
  · exact markIntS_any g n cap k base xs w h0' hk
set_option maxHeartbeats 1000000 in
theorem heldIntS_any (g n cap k base : Nat) (w : World) (hown : w.ownsRow base 3 1 (.slice (some ⟨g, 0, none⟩) n cap) n (marksI k n)) (hk : k + n ≤ 100000000) :
    Calls Try.prog 43 #[.slice (some ⟨g, 0, none⟩) n cap, .int .i64 k] w fun e w' => e = .returned (.int .i64 (k + n : Nat)) ∧ w = w' := by
  go_enter Try.func43, Try.ntmps43
  go_wp2_with fail
  go_loop [1, 5] (fun z i => ∃ j : Nat, j ≤ n ∧ i = .int .i64 j ∧ z = .int .i64 (k + j : Nat)) (fun _ i => n - (intOf i).toNat)
  case atStart => exact ⟨0, Nat.zero_le _, rfl, rfl⟩
  case round =>
    obtain ⟨j, hj, rfl, rfl⟩ := hrel
    by_cases hjn : j < n
    · obtain ⟨⟨u, hu, hc⟩, hfr, _, _⟩ := own_facts hown hjn
      obtain rfl := mkI_eq hu hjn
      clear hu
      obtain ⟨m, hm⟩ : ∃ m : Nat, m = k + j := ⟨_, rfl⟩
      have HM := Lib.hid hm
      rw [← hm] at hc ⊢
      have hmb : m ≤ 100000000 := by omega
      clear hm
      go_wp2_with fail
      go_round
      case rel => exact ⟨j + 1, by omega, by go_num, vint (by have := HM.out; omega)⟩
      case measure => simp [intOf]; omega
    · obtain rfl : j = n := by omega
      go_wp2_with fail
      go_ret
      exact ⟨rfl, rfl⟩

theorem heldI_own (v : Value) (n k base : Nat) (w : World) (hown : w.ownsRow base 3 1 v n (marksI k n)) (hk : k + n ≤ 100000000) :
    Calls Try.prog 43 #[v, .int .i64 k] w fun e w' => e = .returned (.int .i64 (k + n : Nat)) ∧ w = w' := by
  have h0' := hown
  obtain ⟨hl, ⟨rfl, rfl⟩ | ⟨g, cap, cur, rfl, hb, hg, hn, hm, hs, ht⟩⟩ := hown
  · clear h0' hl
    go_enter Try.func43, Try.ntmps43
    go_wp2_with fail
    refine wp_loop_rounds 1 ?_
    rw [rounds_succ]
    go_wp2_with fail
    go_ret
    exact ⟨rfl, rfl⟩
  · exact heldIntS_any g n cap k base w h0' hk
end Go.Proofs.Ytpmjdppipalfcaa
