/-
  The window of a receiver: the window of a text.
-/
import Derived.Test.YtpmjdppipalfcaaDoorRcvText
import Derived.Test.YtpmjdppipalfcaaDoorRdV
namespace Go.Proofs.YtpmjdppipalfcaaDoor
open Go.RowKit Go.Lib
set_option linter.unusedVariables false

def pw (s : ByteArray) : List (List UInt8) := M.parts 32 s.data.toList
def pw0 (s : ByteArray) : List UInt8 := (pw s).headD []
/-- What the specification reads of a text. -/
noncomputable def psW (s : ByteArray) : Rw := ⟨rdN (txt (pw0 s).dropLast), (pw s).tail.map slotL⟩
noncomputable def psB (s : ByteArray) : Bool := decide (s.size ≤ 100) && (decide (2 ≤ (pw0 s).length) && (rdB (txt (pw0 s).dropLast) && (rwOk (psW s) && decide (txB (psW s).x (psW s).q = s))))
noncomputable def psV (s : ByteArray) : Rw := if psB s = true then psW s else rw0
/-- What the program reads of a text. -/
noncomputable def piW (s : ByteArray) : Rw := if s.size ≤ 4000 then ⟨rdN (txt (trimL (pw0 s))), (pw s).tail.map slotL⟩ else rw0
theorem itoa_read {x : Int} (h0 : 0 ≤ x) (h1 : x ≤ 65535) : rdB (txt (Lib.itoa x)) = true ∧ rdN (txt (Lib.itoa x)) = x := rd_yes ⟨by omega, by omega⟩ (txt_data _).symm
theorem read_text {w : Rw} {s : ByteArray} (h : rwOk w = true) (ht : txB w.x w.q = s) : s.size ≤ 78 ∧ pw0 s = Lib.itoa w.x ++ [58] ∧ (pw s).tail.map slotL = w.q := by
  obtain ⟨h1, h2, h3⟩ := rw_text h
  rw [ht] at h1 h2
  refine ⟨h1, ?_, ?_⟩
  · unfold pw0 pw; rw [h2]; rfl
  · unfold pw; rw [h2]; exact h3
theorem ps_read {w : Rw} {s : ByteArray} (h : rwOk w = true) (ht : txB w.x w.q = s) : psB s = true ∧ psW s = w ∧ piW s = w := by
  obtain ⟨h1, h2, h3⟩ := read_text h ht
  obtain ⟨r1, _⟩ := rwOk_iff.1 h
  obtain ⟨i1, i2⟩ := itoa_read r1.1 r1.2
  have e : psW s = w := by
    unfold psW
    rw [h2, h3, List.dropLast_concat, i2]
  have e2 : piW s = w := by
    unfold piW
    rw [if_pos (by omega), h2, h3, trim_hit, i2]
  refine ⟨?_, e, e2⟩
  unfold psB
  have hl2 : 2 ≤ (Lib.itoa w.x ++ [58]).length := by
    have := List.length_pos_iff.2 (itoa_ne5 r1.1)
    rw [List.length_append]
    simp only [List.length_cons, List.length_nil]
    omega
  rw [e, h, h2, List.dropLast_concat, i1, decide_eq_true (show s.size ≤ 100 by omega), decide_eq_true ht, decide_eq_true hl2]
  rfl
/-- The program's test of what it has read. -/
theorem pi_end (s : ByteArray) : (rwOk (piW s) = true → txB (piW s).x (piW s).q = s → psB s = true ∧ psV s = piW s) ∧ (rwOk (piW s) = false → psB s = false ∧ psV s = rw0) ∧ (txB (piW s).x (piW s).q ≠ s → psB s = false ∧ psV s = rw0) := by
  have hno : psB s = false → psB s = false ∧ psV s = rw0 := fun h => ⟨h, by unfold psV; rw [h]; rfl⟩
  have hyes : psB s = true → rwOk (piW s) = true ∧ txB (piW s).x (piW s).q = s := fun h => by
    have h' := h
    unfold psB at h'
    simp only [Bool.and_eq_true, decide_eq_true_eq] at h'
    obtain ⟨_, _, _, h4, h5⟩ := h'
    obtain ⟨_, e1, e2⟩ := ps_read h4 h5
    rw [e2]; exact ⟨h4, h5⟩
  refine ⟨fun h1 h2 => ?_, fun h => hno ?_, fun h => hno ?_⟩
  · obtain ⟨a, b, _⟩ := ps_read h1 h2
    exact ⟨a, by unfold psV; rw [if_pos a, b]⟩
  · cases e : psB s with
    | false => rfl
    | true => rw [(hyes e).1] at h; cases h
  · cases e : psB s with
    | false => rfl
    | true => exact absurd (hyes e).2 h
theorem psV_len (s : ByteArray) : (psV s).q.length ≤ 8 := by
  unfold psV
  by_cases h : psB s = true
  · rw [if_pos h]
    unfold psB at h
    simp only [Bool.and_eq_true] at h
    exact (rwOk_iff.1 h.2.2.2.1).2.1
  · rw [if_neg h]; decide
theorem slot_sized {p : List UInt8} : (slotL p).s.size ≤ p.length := by
  unfold slotL
  split
  · exact Nat.zero_le _
  · split
    · exact Nat.zero_le _
    · show p.toArray.size ≤ _
      simp
theorem pw_sized (s : ByteArray) : ∀ t ∈ (pw s).tail.map slotL, t.s.size ≤ s.size := by
  intro t ht
  obtain ⟨p, hp, rfl⟩ := List.mem_map.1 ht
  have hp2 := List.mem_of_mem_tail hp
  obtain ⟨k, hk, he⟩ := List.getElem_of_mem hp2
  have h2 := parts_size 32 s.data.toList k
  rw [List.getD_eq_getElem?_getD, show M.parts 32 s.data.toList = pw s from rfl, List.getElem?_eq_getElem hk, he] at h2
  have h3 : s.data.toList.length = s.size := by simp
  have := @slot_sized p
  simp only [Option.getD_some] at h2
  omega
end Go.Proofs.YtpmjdppipalfcaaDoor
