/-
  JoinStrings of both packages.
-/
import Derived.Test.YtejdphfcogfcmaaGreatDoorProg
import Derived.Test.YtejdphfcogfcmaaGreatDoorBase
import Derived.Test.YtejdphfcogfcmaaGreatDoorShelf
import Derived.Test.YtejdphfcogfcmaaGreatDoorMath3
import Derived.Test.YtejdphfcogfcmaaGreatDoorMath1
import Derived.Deep.QuietTactic
import Derived.BigQuiet
import Derived.IntWalk
import Derived.ShutString
namespace Go.Proofs.YtejdphfcogfcmaaGreatDoor
open Go.RowKit

/-- What JoinStrings returns. -/
noncomputable def joinOut (ps : List ByteArray) (sep : ByteArray) : Value :=
  open Classical in if ps ≠ [] ∧ (∃ c, sep = ⟨#[c]⟩ ∧ M.fits ps c) then .tuple #[.string ⟨(Lib.join (M.pl ps) sep.data.toList).toArray⟩, .bool true] else .tuple #[.string ⟨#[]⟩, .bool false]

theorem joinOut_yes {ps : List ByteArray} {c : UInt8} (h : ps ≠ []) (hf : M.fits ps c) : joinOut ps ⟨#[c]⟩ = .tuple #[.string ⟨(M.joined ps c).toArray⟩, .bool true] :=
  if_pos ⟨h, c, rfl, hf⟩
theorem joinOut_none (sep : ByteArray) : joinOut [] sep = .tuple #[.string ⟨#[]⟩, .bool false] := if_neg (fun h => h.1 rfl)
theorem joinOut_sep {ps : List ByteArray} {sep : ByteArray} (h : sep.size ≠ 1) : joinOut ps sep = .tuple #[.string ⟨#[]⟩, .bool false] :=
  if_neg (fun ⟨_, c, e, _⟩ => h (by rw [e]; rfl))
theorem joinOut_no {ps : List ByteArray} {c : UInt8} (hf : ¬ M.fits ps c) : joinOut ps ⟨#[c]⟩ = .tuple #[.string ⟨#[]⟩, .bool false] :=
  if_neg (fun ⟨_, c', e, hc⟩ => hf (by
    have : c = c' := by injection e with e; injection e with e; injection e
    subst this; exact hc))

theorem joinOut_form (ps : List ByteArray) (sep : ByteArray) : ∃ s b, joinOut ps sep = .tuple #[.string s, .bool b] := by
  unfold joinOut
  split
  · exact ⟨_, _, rfl⟩
  · exact ⟨_, _, rfl⟩

theorem one_byte (s : ByteArray) (h : s.size = 1) : ∃ c, s = ⟨#[c]⟩ := by
  obtain ⟨⟨l⟩⟩ := s
  match l, h with
  | [c], _ => exact ⟨c, rfl⟩

theorem byte_eq {a b : UInt8} (h : ((a.toNat : Int) == (b.toNat : Int)) = true) : a = b := by
  have : (a.toNat : Int) = b.toNat := by simpa using h
  exact UInt8.toNat_inj.1 (by omega)
theorem byte_ne {a b : UInt8} (h : ((a.toNat : Int) == (b.toNat : Int)) = false) : a ≠ b := fun e => by
  subst e; simp at h
theorem stands_hit (s : ByteArray) (c : UInt8) (k : Nat) (hk : k < s.size) (h : ((s[k].toNat : Int) == (c.toNat : Int)) = true) : M.has s c = true := by
  unfold M.has
  rw [decide_eq_true_iff, ← byte_eq h]
  have e : s[k] = s.data.toList[k]'(by simpa using hk) := rfl
  rw [e]
  exact List.getElem_mem _
theorem stands_miss (s : ByteArray) (c : UInt8) (k : Nat) (hk : k < s.size) (h : ((s[k].toNat : Int) == (c.toNat : Int)) = false) (hn : c ∉ s.data.toList.take k) : c ∉ s.data.toList.take (k + 1) := by
  rw [M.take_snoc s k hk]
  intro hm
  rcases List.mem_append.1 hm with h1 | h1
  · exact hn h1
  · simp at h1; exact byte_ne h h1.symm
theorem stands_end (s : ByteArray) (c : UInt8) (k : Nat) (hk : s.size ≤ k) (hn : c ∉ s.data.toList.take k) : M.has s c = false := by
  unfold M.has
  rw [decide_eq_false_iff_not]
  rw [List.take_of_length_le (by simpa using hk)] at hn
  exact hn


theorem contains_any (s : ByteArray) (c : UInt8) (w : World) :
    Calls Tryz.prog 40 #[.string s, .string ⟨#[c]⟩] w fun e w' => e = .returned (.bool (M.has s c)) ∧ w = w' :=
  (Tryz.strings_Contains_one s c w).mono fun _ _ ⟨h1, h2⟩ => ⟨by rw [h1, M.has_index], h2.symm⟩

theorem row_pos {w : World} {v : Value} {n : Nat} {xs : List Value} (h : Row w v n xs) (hx : xs ≠ []) :
    ∃ b off cap, v = .slice (some ⟨b, off, none⟩) n cap ∧ n ≤ cap ∧ cap ≤ maxLen ∧ b < w.heap.size ∧ ∀ i (h : i < xs.length), w.cell? ⟨b, off + i, none⟩ = some xs[i] := by
  obtain ⟨a, cap, rfl, h1, h2, h3⟩ := h
  obtain ⟨b, off, rfl, h4, h5⟩ := h3 hx
  exact ⟨b, off, cap, rfl, h1, h2, h4, h5⟩

theorem row_noneJ {w : World} {v : Value} {n : Nat} {xs : List Value} (h : Row w v n xs) : ∃ a cap, v = .slice a n cap ∧ n ≤ cap ∧ cap ≤ maxLen := by
  obtain ⟨a, cap, rfl, h1, h2, _⟩ := h
  exact ⟨a, cap, rfl, h1, h2⟩

/-- What the loop of the program's JoinStrings adds up. -/
def jsum (ps : List ByteArray) (k : Nat) : Nat := (ps.length - 1) + M.sumLen (ps.take k)
theorem jsum_succ (ps : List ByteArray) (k : Nat) (h : k < ps.length) : jsum ps (k + 1) = jsum ps k + ps[k].size := by
  unfold jsum; rw [M.take_snoc' ps k h, M.sumLen_snoc]; omega
theorem jsum_zero (ps : List ByteArray) : jsum ps 0 = ps.length - 1 := by simp [jsum, M.sumLen]

theorem join_call (b off cap : Nat) (ps : List ByteArray) (c : UInt8) (w : World) (hb : b < w.heap.size) (hcells : ∀ i (h : i < ps.length), w.cell? ⟨b, off + i, none⟩ = some (.string ps[i]))
    (hcap : ps.length ≤ cap) (hn : ps.length ≤ 1048576) (hf : M.fits ps c) :
    Calls Tryz.prog 41 #[.slice (some ⟨b, off, none⟩) ps.length cap, .string ⟨#[c]⟩] w fun e w' => e = .returned (.string ⟨(M.joined ps c).toArray⟩) ∧ Below w.heap.size w w' :=
  Tryz.strings_Join b off cap ps ⟨#[c]⟩ w (fun j x hx => by
    obtain ⟨hj, rfl⟩ := List.getElem?_eq_some_iff.1 hx
    exact hcells j hj) hb (by omega) hcap (by
    have : (Lib.join (ps.map (·.data.toList)) (⟨#[c]⟩ : ByteArray).data.toList).length ≤ 4000 := hf.2
    omega)

set_option maxRecDepth 100000 in
set_option maxHeartbeats 1000000 in
theorem implJoin_any (v : Value) (ps : List ByteArray) (sep : ByteArray) (w : World) (hrow : Row w v ps.length (ps.map Value.string)) (hn : ps.length ≤ 1048576) (hp : ∀ p ∈ ps, p.size ≤ 1048576)
    (hs : sep.size ≤ 1048576) : Calls Tryz.prog 23 #[v, .string sep] w fun e w' => e = .returned (joinOut ps sep) ∧ Below w.heap.size w w' := by
  by_cases h0 : ps = []
  · subst h0
    rw [joinOut_none]
    obtain ⟨a, cap, rfl, _, _⟩ := row_noneJ hrow
    clear hrow hp
    go_enter Tryz.func23, Tryz.ntmps23
    go_wp2
    go_ret2
    exact ⟨rfl, Below.refl _ _⟩
  · obtain ⟨b, off, cap, rfl, hc1, hc2, hb, hcell⟩ := row_pos hrow (by simpa using h0)
    have hpos : 0 < ps.length := List.length_pos_iff.2 h0
    have hz : ((ps.length : Int) == 0) = false := by simp; omega
    clear hrow
    by_cases h1 : sep.size = 1
    · obtain ⟨c, rfl⟩ := one_byte sep h1
      clear h1 hs
      have HC := Lib.hid (show ∀ i (h : i < ps.length), w.cell? ⟨b, off + i, none⟩ = some (.string ps[i]) from fun i h => by
        have := hcell i (by rw [List.length_map]; exact h)
        rw [List.getElem_map] at this
        exact this)
      have HP := Lib.hid hp
      have H0 := Lib.hid h0
      clear hcell hp h0
      obtain ⟨n, hN⟩ : ∃ n, n = ps.length := ⟨_, rfl⟩
      rw [← hN] at hn hpos hz hc1 ⊢
      have HN := Lib.hid hN
      clear hN
      have hn1 : (0 : Int) ≤ (n : Int) - 1 := by omega
      have HJ0 := Lib.hid (jsum_zero ps)
      go_enter Tryz.func23, Tryz.ntmps23
      go_wp2_with fail
      go_loop [6, 22] (fun z i => ∃ k : Nat, k ≤ n ∧ i = .int .i64 k ∧ z = .int .i64 (jsum ps k) ∧ (∀ p ∈ ps.take k, M.has p c = false) ∧ (k = 0 ∨ jsum ps k ≤ 4000)) (fun _ i => n - (intOf i).toNat)
      case atStart => exact ⟨0, Nat.zero_le _, rfl, by rw [HJ0.out, ← HN.out]; congr 1; omega, by simp, .inl rfl⟩
      case round =>
        obtain ⟨k, hk, rfl, rfl, hno, hle⟩ := hrel
        have HL := Lib.hid hle
        have HO := Lib.hid hno
        have hj : jsum ps k ≤ 1048576 := by
          rcases hle with rfl | h
          · rw [HJ0.out, ← HN.out]; omega
          · omega
        clear hle hno
        by_cases hkn : k < n
        · have hkp : k < ps.length := by rw [← HN.out]; exact hkn
          have hck := HC.out k hkp
          have hpk := HP.out _ (List.getElem_mem hkp)
          have HS := Lib.hid (jsum_succ ps k hkp)
          obtain ⟨p, hpe⟩ : ∃ p, p = ps[k] := ⟨_, rfl⟩
          rw [← hpe] at hck hpk
          have HE := Lib.hid hpe
          clear hpe
          by_cases hbig : 4000 < jsum ps k + p.size
          · have HF := Lib.hid (joinOut_no (M.fits_not_len (c := c) hkp (by have := HS.out; rw [← HE.out] at this; unfold jsum at this hbig; omega)))
            go_wp2_with fail
            go_ret2
            exact ⟨by rw [HF.out]; rfl, Below.refl _ _⟩
          · cases hh : M.has p c with
            | true =>
              have HF := Lib.hid (joinOut_no (M.fits_not_has (c := c) hkp (by rw [← HE.out]; exact hh)))
              go_wp2_with (go_at_call 40; refine (contains_any _ _ _).mono ?_; rintro e w' ⟨rfl, rfl⟩)
              go_ret2
              exact ⟨by rw [HF.out]; rfl, Below.refl _ _⟩
            | false =>
              have HA := Lib.hid (M.all_snoc hkp HO.out (by rw [← HE.out]; exact hh))
              go_wp2_with (go_at_call 40; refine (contains_any _ _ _).mono ?_; rintro e w' ⟨rfl, rfl⟩)
              go_round
              case rel => exact ⟨k + 1, by omega, by go_num, by rw [HS.out, ← HE.out]; go_num, HA.out, .inr (by rw [HS.out, ← HE.out]; omega)⟩
              case measure => simp [intOf]; omega
        · obtain rfl : k = n := by omega
          have hf : M.fits ps c := ⟨fun p hp => HO.out p (by rw [HN.out, List.take_of_length_le (Nat.le_refl _)]; exact hp), by
            rw [M.joined_length ps c H0.out]
            rcases HL.out with h | h
            · omega
            · rw [HN.out] at h
              unfold jsum at h
              rw [List.take_of_length_le (Nat.le_refl _)] at h
              exact h⟩
          have HF := Lib.hid (joinOut_yes H0.out hf)
          have hcall := join_call b off cap ps c w hb HC.out (by rw [← HN.out]; exact hc1) (by rw [← HN.out]; exact hn) hf
          rw [← HN.out] at hcall
          have HK := Lib.hid hcall
          clear hcall hf hkn hk
          go_wp2_with (go_at_call 41; refine HK.out.mono ?_; rintro e w' ⟨rfl, hbel⟩)
          go_ret2
          exact ⟨by rw [HF.out]; rfl, hbel⟩
    · rw [joinOut_sep h1]
      have h1' : ((sep.size : Int) == 1) = false := by simp; omega
      clear hcell hp h1
      go_enter Tryz.func23, Tryz.ntmps23
      go_wp2_with fail
      go_ret2
      exact ⟨rfl, Below.refl _ _⟩

end Go.Proofs.YtejdphfcogfcmaaGreatDoor
