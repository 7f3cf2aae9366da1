/-
  Packets of the program: letters, validity, check; 'CheckOf' and 'IsValidPacket' of the specification.
-/
import Derived.Test.YtlendmiolhgecaaPkt2
import Derived.Laws.ResultCell
import Derived.Laws.Rows
import Derived.Lib.SmallJoins
namespace Go.Proofs.Ytlendmiolhgecaa
open Go.RowKit Go.Lib Go.Joins
set_option linter.unusedVariables false

set_option maxHeartbeats 400000 in
theorem areLetters_any (s : ByteArray) (w : World) (hs : s.size ≤ maxLen) :
    Calls Try.prog 123 #[.string s] w fun e w' => e = .returned (.bool (ltrB s)) ∧ w = w' := by
  unfold maxLen at hs
  go_enter Try.func123, Try.ntmps123
  go_wp2_with fail
  go_loop [6] (fun i => ∃ k : Nat, k ≤ s.size ∧ i = .int .i64 k ∧ Hid (ltrT s k = true)) (fun i => s.size - (intOf i).toNat)
  case atStart => exact ⟨0, Nat.zero_le _, rfl, Lib.hid (by simp [ltrT])⟩
  case round =>
    obtain ⟨k, hk, rfl, HL⟩ := hrel
    by_cases hks : k < s.size
    · have hu : s[k].toNat < 256 := s[k].toNat_lt
      by_cases h0 : s[k].toNat < 97
      · have h0' : (s[k].toNat : Int) < 97 := by omega
        have HF := Lib.hid (ltr_lo hks h0)
        go_wp2_with fail
        go_ret
        exact ⟨ret_bool (by rw [HF.out]), rfl⟩
      · have h0' : ¬ (s[k].toNat : Int) < 97 := by omega
        by_cases h1 : 122 < s[k].toNat
        · have h1' : (122 : Int) < (s[k].toNat : Int) := by omega
          have HF := Lib.hid (ltr_hi hks h1)
          go_wp2_with fail
          go_ret
          exact ⟨ret_bool (by rw [HF.out]), rfl⟩
        · have h1' : ¬ (122 : Int) < (s[k].toNat : Int) := by omega
          have HS := Lib.hid (ltrT_succ hks HL.out (by omega) (by omega))
          go_wp2_with fail
          go_round
          case rel => exact ⟨k + 1, by omega, by go_num, HS⟩
          case measure => simp [intOf]; omega
    · obtain rfl : k = s.size := by omega
      have HF : Hid (ltrB s = true) := Lib.hid (by rw [← ltrT_all]; exact HL.out)
      go_wp2_with fail
      go_ret
      exact ⟨ret_bool HF.out.symm, rfl⟩
theorem isItem_any (s : ByteArray) (w : World) (hs : s.size ≤ maxLen) :
    Calls Try.prog 101 #[.string s] w fun e w' => e = .returned (.bool (decide (s.size ≤ 8) && ltrB s)) ∧ w = w' := by
  have HA := Lib.hid (fun w => areLetters_any s w hs)
  unfold maxLen at hs
  generalize ltrB s = b at HA
  by_cases h : s.size ≤ 8
  · have h' : (s.size : Int) ≤ 8 := by omega
    rw [decide_eq_true h, Bool.true_and]
    go_enter Try.func101, Try.ntmps101
    go_wp2_with (go_at_call 123; refine (HA.out _).mono ?_; rintro e w' ⟨rfl, rfl⟩)
    go_ret
    exact ⟨rfl, rfl⟩
  · have h' : ¬ (s.size : Int) ≤ 8 := by omega
    rw [decide_eq_false h, Bool.false_and]
    go_enter Try.func101, Try.ntmps101
    go_wp2_with fail
    go_ret
    exact ⟨rfl, rfl⟩
theorem ltr_empty {d : ByteArray} (h : d.size = 0) : ltrB d = true := by
  obtain rfl := str_empty_eq d h
  rfl
theorem pkt_split (k n t l : Int) (d : ByteArray) : pktOk k n t l d = (inB k 1 5 && ((serB n && (serB t && serB l)) && (decide (gapI t l ≤ 32767) && (decide (d.size = 0) || ((decide (d.size ≤ 8) && ltrB d) && inB k 1 2))))) := by
  unfold pktOk
  by_cases h : d.size = 0
  · rw [decide_eq_true h, ltr_empty h, decide_eq_true (show d.size ≤ 8 by omega)]
    cases inB k 1 5 <;> cases serB n <;> cases serB t <;> cases serB l <;> rfl
  · rw [decide_eq_false h]
    cases inB k 1 5 <;> cases serB n <;> cases serB t <;> cases serB l <;> cases ltrB d <;> simp
theorem row_three {W : World} {g : Nat} {a b c : Int} (h : W.heap[g]? = some (.cells #[.int .i64 a, .int .i64 b, .int .i64 c] 3 (0, 0))) : Row W (.slice (some ⟨g, 0, none⟩) 3 3) [a, b, c].length ([a, b, c].map (Value.int .i64)) := by
  refine ⟨_, _, rfl, Nat.le_refl _, by unfold maxLen; omega, fun _ => ⟨g, 0, rfl, (Array.getElem?_eq_some_iff.1 h).1, fun i hi => ?_⟩⟩
  rw [Nat.zero_add, cell_of_block h]
  simp at hi
  rcases (by omega : i = 0 ∨ i = 1 ∨ i = 2) with rfl | rfl | rfl <;> rfl
theorem areThree_any (a b c : Int) (g : Nat) (W : World) (h : W.heap[g]? = some (.cells #[.int .i64 a, .int .i64 b, .int .i64 c] 3 (0, 0))) :
    Calls Try.prog 124 #[.slice (some ⟨g, 0, none⟩) 3 3] W fun e w' => e = .returned (.bool (serB a && (serB b && serB c))) ∧ W = w' := by
  have := areSerials_any (.slice (some ⟨g, 0, none⟩) 3 3) [a, b, c] W (row_three h)
  rw [show [a, b, c].all serB = (serB a && (serB b && serB c)) by simp] at this
  exact this
/-- Checks of lists. -/
def ck4Ok (xs : List Int) : Bool := decide (xs.length ≤ 40) && xs.all (fun x => inB x 0 255)
def ck4V (xs : List Int) : Int := if ck4Ok xs = true then ckI xs else 0
theorem ck4_long {xs : List Int} (h : ¬ xs.length ≤ 40) : ck4Ok xs = false := by unfold ck4Ok; rw [decide_eq_false h]; rfl
theorem ck4_bad {xs : List Int} {k : Nat} (hk : k < xs.length) (h : inB xs[k] 0 255 = false) : ck4Ok xs = false := by
  unfold ck4Ok
  have : xs.all (fun x => inB x 0 255) = false := by
    rw [Bool.eq_false_iff]
    intro e
    rw [List.all_eq_true] at e
    rw [e _ (List.getElem_mem hk)] at h
    cases h
  rw [this, Bool.and_false]
theorem ck4_no {xs : List Int} (h : ck4Ok xs = false) : ck4V xs = 0 := by unfold ck4V; rw [h]; rfl
theorem ck4_bd {xs : List Int} (h : ck4Ok xs = true) : xs.length ≤ 40 ∧ ∀ x ∈ xs, 0 ≤ x ∧ x ≤ 255 := by
  unfold ck4Ok at h
  rw [Bool.and_eq_true, List.all_eq_true] at h
  exact ⟨of_decide_eq_true h.1, fun x hx => inB_bd (h.2 x hx)⟩
def in4 (xs : List Int) (k : Nat) : Prop := ∀ i (h : i < xs.length), i < k → 0 ≤ xs[i] ∧ xs[i] ≤ 255
theorem in4_succ {xs : List Int} {k : Nat} (h : in4 xs k) (hk : k < xs.length) (h0 : 0 ≤ xs[k]) (h1 : xs[k] ≤ 255) : in4 xs (k + 1) := fun i hi hk2 => by
  by_cases e : i < k
  · exact h i hi e
  · obtain rfl : i = k := by omega
    exact ⟨h0, h1⟩
theorem in4_all {xs : List Int} (h : in4 xs xs.length) : ∀ x ∈ xs, 0 ≤ x ∧ x ≤ 255 := fun x hx => by
  obtain ⟨i, hi, rfl⟩ := List.getElem_of_mem hx
  exact h i hi hi
theorem ck4_yes {xs : List Int} (hl : xs.length ≤ 40) (h : in4 xs xs.length) : ck4Ok xs = true := by
  unfold ck4Ok
  rw [decide_eq_true hl, Bool.true_and, List.all_eq_true]
  intro x hx
  have := in4_all h x hx
  exact inB_yes this.1 this.2
end Go.Proofs.Ytlendmiolhgecaa
