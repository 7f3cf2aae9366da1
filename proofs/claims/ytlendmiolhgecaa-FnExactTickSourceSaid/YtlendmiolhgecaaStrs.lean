/-
  The laws' own helpers on slices of strings: 'toStringS', 'szStringS', 'eqStringS'.
-/
import Derived.Test.YtlendmiolhgecaaProg
import Derived.Test.YtlendmiolhgecaaFill
import Derived.Deep.QuietTactic
import Derived.BigQuiet
import Derived.IntWalk
namespace Go.Proofs.Ytlendmiolhgecaa
open Go.RowKit

theorem infoStr : (Try.prog.info? 9).map (fun i => (i.zero, i.size, i.bytes)) = some (some (.string ⟨#[]⟩), 1, 16) := by kernel_rfl

theorem make_strs (n : Nat) (ss : List ByteArray) (h : n = ss.length) (hn : n ≤ 1048576) (W : World) :
    (Instr.makeSlice 24 (.int .i64 (n : Int)) (.int .i64 (n : Int))).run Try.prog W = .ok (.slice (some ⟨W.heap.size, 0, none⟩) n n) (W.alloc (.cells (fillV (ss.map Value.string) (.string ⟨#[]⟩) 0) 9)) := by
  obtain ⟨i0, hi, hz0, hz1, hz2⟩ := info_parts infoStr
  rw [run_make (P := Try.prog) W 24 9 i0 (.string ⟨#[]⟩) Try.underlying24 hi hz0 .i64 .i64 n n (by omega) (by omega) (by rw [hz2]; omega) (by omega), hz1, Int.toNat_natCast,
    made_is n (ss.map Value.string) (by rw [List.length_map]; exact h) rfl]

set_option maxHeartbeats 400000 in
theorem toStringS_any (v : Value) (ss : List ByteArray) (w : World) (hrow : Row w v ss.length (ss.map Value.string)) (hn : ss.length ≤ 1048576) :
    Calls Try.prog 114 #[v] w fun e w' => e = .returned (.slice (some ⟨w.heap.size, 0, none⟩) ss.length ss.length) ∧ w' = w.alloc (.cells (ss.map Value.string).toArray 9) := by
  obtain ⟨n, hN⟩ : ∃ n, n = ss.length := ⟨_, rfl⟩
  have hmk := make_strs n ss hN (by omega)
  obtain ⟨a, cap, rfl, hc1, hc2⟩ : ∃ a cap, v = .slice a ss.length cap ∧ ss.length ≤ cap ∧ cap ≤ maxLen := by
    obtain ⟨a, cap, rfl, h1, h2, _⟩ := hrow
    exact ⟨a, cap, rfl, h1, h2⟩
  have hcell : ∀ k (h : k < ss.length), ∃ b off, a = some ⟨b, off, none⟩ ∧ b < w.heap.size ∧ w.cell? ⟨b, off + k, none⟩ = some (.string ss[k]) := fun k h => by
    obtain ⟨a', cap', e, _, _, h3⟩ := hrow
    injection e with e1 e2 e3
    subst e1
    obtain ⟨b, off, rfl, hb, hc⟩ := h3 (by intro e; have := congrArg List.length e; simp at this; rw [this] at h; simp at h)
    refine ⟨b, off, rfl, hb, ?_⟩
    have := hc k (by rw [List.length_map]; exact h)
    rw [List.getElem_map] at this
    exact this
  have HC := Lib.hid hcell
  clear hcell hrow
  rw [← hN] at hn hc1 ⊢
  have HN := Lib.hid hN
  clear hN
  have hfin : (fillV (ss.map Value.string) (.string ⟨#[]⟩) n) = (ss.map Value.string).toArray := by
    rw [HN.out, show ss.length = (ss.map Value.string).length from (List.length_map _).symm, fillV_all]
  have HF := Lib.hid hfin
  clear hfin
  go_enter Try.func114, Try.ntmps114
  go_wp2_with fail
  clear hmk
  go_loopw [4] (fun i wr => ∃ k : Nat, k ≤ n ∧ i = .int .i64 k ∧ wr = w.alloc (.cells (fillV (ss.map Value.string) (.string ⟨#[]⟩) k) 9)) (fun i _ => n - (intOf i).toNat)
  case atStart => exact ⟨0, Nat.zero_le _, rfl, rfl⟩
  case round =>
    obtain ⟨k, hk, rfl, rfl⟩ := hrel
    by_cases hkn : k < n
    · have hks : k < ss.length := by rw [← HN.out]; exact hkn
      obtain ⟨b, off, rfl, hb, hc⟩ := HC.out k hks
      have hsz : k < (fillV (ss.map Value.string) (.string ⟨#[]⟩) k).size := by rw [fillV_size _ _ _ (by rw [List.length_map]; omega), List.length_map]; exact hks
      obtain ⟨u, hu⟩ : ∃ u, u = ss[k] := ⟨_, rfl⟩
      have hset := fillV_set (ss.map Value.string) (.string ⟨#[]⟩) k (by rw [List.length_map]; exact hks)
      rw [List.getElem_map, ← hu] at hset
      have HS := Lib.hid hset
      rw [← hu] at hc
      clear hu hset
      go_wp2
      go_roundw
      case rel => exact ⟨k + 1, by omega, by go_num, by rw [HS.out]⟩
      case measure => simp [intOf]; omega
    · obtain rfl : k = n := by omega
      go_wp2
      go_ret
      exact ⟨rfl, by rw [HF.out]⟩

/-- What 'szStringS' leaves of its bound: less than 0, or the bound less all that it counted. -/
theorem szStringS_any (v : Value) (ss : List ByteArray) (w : World) (hrow : Row w v ss.length (ss.map Value.string)) (hs : ∀ s ∈ ss, s.size ≤ maxLen) (left : Nat) (hl : left ≤ 1048576) :
    Calls Try.prog 113 #[v, .int .i64 left] w fun e w' => w = w' ∧ ∃ r : Int, e = .returned (.int .i64 r) ∧ (r < 0 ∨ (ss.length ≤ left ∧ (∀ s ∈ ss, s.size ≤ left) ∧ 0 ≤ r)) := by
  obtain ⟨n, hN⟩ : ∃ n, n = ss.length := ⟨_, rfl⟩
  obtain ⟨a, cap, rfl, hc1, hc2⟩ : ∃ a cap, v = .slice a ss.length cap ∧ ss.length ≤ cap ∧ cap ≤ maxLen := by
    obtain ⟨a, cap, rfl, h1, h2, _⟩ := hrow
    exact ⟨a, cap, rfl, h1, h2⟩
  have hcell : ∀ k (h : k < ss.length), ∃ b off, a = some ⟨b, off, none⟩ ∧ b < w.heap.size ∧ w.cell? ⟨b, off + k, none⟩ = some (.string ss[k]) := fun k h => by
    obtain ⟨a', cap', e, _, _, h3⟩ := hrow
    injection e with e1 e2 e3
    subst e1
    obtain ⟨b, off, rfl, hb, hc⟩ := h3 (by intro e; have := congrArg List.length e; simp at this; rw [this] at h; simp at h)
    refine ⟨b, off, rfl, hb, ?_⟩
    have := hc k (by rw [List.length_map]; exact h)
    rw [List.getElem_map] at this
    exact this
  have HC := Lib.hid hcell
  have HM := Lib.hid hs
  clear hcell hrow hs
  unfold maxLen at hc2
  rw [← hN] at hc1 ⊢
  have HN := Lib.hid hN
  clear hN
  by_cases hbig : (left : Int) < n
  · go_enter Try.func113, Try.ntmps113
    go_wp2_with fail
    go_ret
    exact ⟨rfl, _, rfl, .inl (by omega)⟩
  · go_enter Try.func113, Try.ntmps113
    go_wp2_with fail
    go_loop [1, 5] (fun z i => ∃ (k : Nat) (r : Nat), k ≤ n ∧ i = .int .i64 k ∧ z = .int .i64 r ∧ r ≤ left ∧ Hid (∀ s ∈ ss.take k, s.size ≤ left)) (fun _ i => n - (intOf i).toNat)
    case atStart => exact ⟨0, left - n, Nat.zero_le _, rfl, by congr 1; omega, by omega, Lib.hid (by simp)⟩
    case round =>
      obtain ⟨k, r, hk, rfl, rfl, hr, HA⟩ := hrel
      by_cases hkn : k < n
      · have hks : k < ss.length := by rw [← HN.out]; exact hkn
        obtain ⟨b, off, rfl, hb, hc⟩ := HC.out k hks
        have hum := HM.out _ (List.getElem_mem hks)
        obtain ⟨u, hu⟩ : ∃ u, u = ss[k] := ⟨_, rfl⟩
        rw [← hu] at hc hum
        have HU := Lib.hid hu
        clear hu
        unfold maxLen at hum
        by_cases hlt : (r : Int) < u.size
        · go_wp2
          go_ret
          exact ⟨rfl, _, rfl, .inl (by omega)⟩
        · have HB : Hid (∀ s ∈ ss.take (k + 1), s.size ≤ left) := Lib.hid (fun s hs => by
            rw [List.take_succ_eq_append_getElem hks] at hs
            rcases List.mem_append.1 hs with h1 | h1
            · exact HA.out s h1
            · simp at h1; subst h1; rw [← HU.out]; omega)
          go_wp2
          go_round
          case rel => exact ⟨k + 1, r - u.size, by omega, by go_num, by congr 1; omega, by omega, HB⟩
          case measure => simp [intOf]; omega
      · obtain rfl : k = n := by omega
        go_wp2
        go_ret
        exact ⟨rfl, _, rfl, .inr ⟨by omega, fun s hs => HA.out s (by rw [HN.out, List.take_of_length_le (Nat.le_refl _)]; exact hs), by omega⟩⟩

theorem bytes_eq {x y : ByteArray} (h : (!x.toList == y.toList) = false) : x = y := by
  have h1 : x.toList = y.toList := by simpa using h
  rw [ByteArray.toList_eq, ByteArray.toList_eq] at h1
  apply ByteArray.ext
  exact Array.toList_inj.1 h1
theorem bytes_ne {x y : ByteArray} (h : (!x.toList == y.toList) = true) : x ≠ y := fun e => by
  subst e; simp at h
theorem eq_take {α : Type} {xs ys : List α} {k : Nat} (ha : k < xs.length) (hb : k < ys.length) (h : xs.take k = ys.take k) (e : xs[k] = ys[k]) : xs.take (k + 1) = ys.take (k + 1) := by
  rw [List.take_succ_eq_append_getElem ha, List.take_succ_eq_append_getElem hb, h, e]

theorem list_at {α : Type} {xs ys : List α} (e : xs = ys) (k : Nat) (h1 : k < xs.length) (h2 : k < ys.length) : xs[k] = ys[k] := by subst e; rfl

theorem world_hid {w wr : World} (h : ∃ a, wr = w.drewN a) (n : Nat) : ∃ a, wr.drewN n = w.drewN a := by
  obtain ⟨a, rfl⟩ := h
  exact ⟨a + n, by rw [World.drewN_drewN]⟩

set_option maxHeartbeats 400000 in
theorem eqStringS_any (v1 v2 : Value) (xs ys : List ByteArray) (w : World) (h1 : Row w v1 xs.length (xs.map Value.string)) (h2 : Row w v2 ys.length (ys.map Value.string)) :
    Calls Try.prog 109 #[v1, v2] w fun e w' => e = .returned (.bool (decide (xs = ys))) ∧ ∃ k, w' = w.drewN k := by
  obtain ⟨a1, c1, rfl, hc1, hm1, hcell1⟩ := row_open h1
  obtain ⟨a2, c2, rfl, hc2, hm2, hcell2⟩ := row_open h2
  have HC1 := Lib.hid hcell1
  have HC2 := Lib.hid hcell2
  clear hcell1 hcell2 h1 h2
  unfold maxLen at hm1 hm2
  by_cases hl : xs.length = ys.length
  · obtain ⟨n, hN⟩ : ∃ n, n = xs.length := ⟨_, rfl⟩
    rw [← hl, ← hN]
    rw [← hl, ← hN] at hc2
    rw [← hN] at hc1
    have HL := Lib.hid hl
    have HN := Lib.hid hN
    clear hl hN
    go_enter Try.func109, Try.ntmps109
    go_wp2_with fail
    go_loopw [5] (fun i wr => ∃ k : Nat, k ≤ n ∧ i = .int .i64 k ∧ Hid (xs.take k = ys.take k) ∧ Hid (∃ a, wr = w.drewN a)) (fun i _ => n - (intOf i).toNat)
    case atStart => exact ⟨0, Nat.zero_le _, rfl, Lib.hid (by simp), Lib.hid ⟨0, rfl⟩⟩
    case round =>
      obtain ⟨k, hk, rfl, HT, HW⟩ := hrel
      by_cases hkn : k < n
      · have hk1 : k < xs.length := by rw [← HN.out]; exact hkn
        have hk2 : k < ys.length := by rw [← HL.out]; exact hk1
        obtain ⟨b1, o1, rfl, hb1, hx1⟩ := HC1.out k hk1
        obtain ⟨b2, o2, rfl, hb2, hx2⟩ := HC2.out k hk2
        have hy1 : wr.cell? ⟨b1, o1 + k, none⟩ = some (.string xs[k]) := by obtain ⟨a, rfl⟩ := HW.out; exact hx1
        have hy2 : wr.cell? ⟨b2, o2 + k, none⟩ = some (.string ys[k]) := by obtain ⟨a, rfl⟩ := HW.out; exact hx2
        clear hx1 hx2
        obtain ⟨x, hx⟩ : ∃ x, x = xs[k] := ⟨_, rfl⟩
        obtain ⟨y, hy⟩ : ∃ y, y = ys[k] := ⟨_, rfl⟩
        rw [← hx] at hy1
        rw [← hy] at hy2
        have HX := Lib.hid hx
        have HY := Lib.hid hy
        clear hx hy
        go_wp2_with fail
        go_quiet (fail)
        go_wp2_with fail
        · go_ret
          exact ⟨ret_bool (by rw [decide_eq_false (fun e => bytes_ne (by assumption) (by rw [HX.out, HY.out]; exact list_at e _ _ _))]), world_hid HW.out _⟩
        · go_roundw
          case rel => exact ⟨k + 1, by omega, by go_num, Lib.hid (eq_take hk1 hk2 HT.out (by rw [← HX.out, ← HY.out]; exact bytes_eq (by assumption))), Lib.hid (world_hid HW.out _)⟩
          case measure => simp [intOf]; omega
      · obtain rfl : k = n := by omega
        have HE : Hid (xs = ys) := Lib.hid (by
          have := HT.out
          rw [HN.out, List.take_of_length_le (Nat.le_refl _), HL.out, List.take_of_length_le (Nat.le_refl _)] at this
          exact this)
        go_wp2_with fail
        go_ret
        exact ⟨ret_bool (by rw [decide_eq_true HE.out]), HW.out⟩
  · have HE : Hid (decide (xs = ys) = false) := Lib.hid (decide_eq_false (fun e => hl (by rw [e])))
    have hd : ((xs.length : Int) == (ys.length : Int)) = false := by simp; omega
    clear hl
    go_enter Try.func109, Try.ntmps109
    go_wp2_with fail
    go_ret
    exact ⟨ret_bool HE.out.symm, 0, rfl⟩
theorem toStringS_row (v : Value) (ss : List ByteArray) (w : World) (hrow : Row w v ss.length (ss.map Value.string)) (hn : ss.length ≤ 1048576) :
    Calls Try.prog 114 #[v] w fun e w' => ∃ v', e = .returned v' ∧ Row w' v' ss.length (ss.map Value.string) ∧ Below w.heap.size w w' :=
  (toStringS_any v ss w hrow hn).mono fun e w' ⟨h1, h2⟩ => ⟨_, h1, by
    rw [h2]; exact row_made w _ _ _ (List.length_map _).symm (by unfold maxLen; omega), by
    rw [h2]; exact (Below.refl _ _).alloc (Nat.le_refl _) _⟩
end Go.Proofs.Ytlendmiolhgecaa
