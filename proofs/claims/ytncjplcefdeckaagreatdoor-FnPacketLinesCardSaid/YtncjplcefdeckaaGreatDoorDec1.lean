/-
  Packets of the program: the octets of a text.
-/
import Derived.Test.YtncjplcefdeckaaGreatDoorPU16
import Derived.Test.YtncjplcefdeckaaGreatDoorPkt4
import Derived.Lib.IndexBytes
namespace Go.Proofs.YtncjplcefdeckaaGreatDoor
open Go.RowKit Go.Lib Go.Joins
set_option linter.unusedVariables false

theorem hx_of_hex {b : UInt8} (h : 0 ≤ hexV b) : hxV b.toNat = hexV b := by
  unfold hexV at h ⊢
  unfold hxV
  by_cases h1 : 48 ≤ b.toNat ∧ b.toNat ≤ 57
  · rw [if_pos h1, if_pos h1]
  · rw [if_neg h1] at h ⊢
    by_cases h2 : 65 ≤ b.toNat ∧ b.toNat ≤ 70
    · rw [if_neg h1, if_pos h2, if_pos h2]
    · rw [if_neg h2] at h
      omega
theorem accX_bd {l : List UInt8} (h : okX l 2) : 0 ≤ accX l 2 ∧ accX l 2 ≤ 255 := by
  have h0 := h 0 (by omega)
  have h1 := h 1 (by omega)
  have b0 := hxV_bd (l.getD 0 0).toNat
  have b1 := hxV_bd (l.getD 1 0).toNat
  show 0 ≤ ((0 : Int) * 16 + hxV (l.getD 0 0).toNat) * 16 + hxV (l.getD 1 0).toNat ∧ ((0 : Int) * 16 + hxV (l.getD 0 0).toNat) * 16 + hxV (l.getD 1 0).toNat ≤ 255
  omega
theorem pair_oct {s : ByteArray} {j : Nat} {l : List UInt8} (hl : l = (s.data.toList.drop (2 * j)).take 2) (h2 : 2 * j + 2 ≤ s.size) (hd : digsB s = true) : okX l 2 ∧ accX l 2 = octT s j := by
  have hsz : s.data.toList.length = s.size := rfl
  have g0 : l.getD 0 0 = s[2 * j]'(by omega) := by
    rw [hl, List.getD_eq_getElem?_getD, List.getElem?_take_of_lt (by omega), List.getElem?_drop, List.getElem?_eq_getElem (by omega)]; rfl
  have g1 : l.getD 1 0 = s[2 * j + 1]'(by omega) := by
    rw [hl, List.getD_eq_getElem?_getD, List.getElem?_take_of_lt (by omega), List.getElem?_drop, List.getElem?_eq_getElem (by omega)]; rfl
  have d0 := digs_at hd (show 2 * j < s.size by omega)
  have d1 := digs_at hd (show 2 * j + 1 < s.size by omega)
  refine ⟨fun i hi => ?_, ?_⟩
  · rcases (by omega : i = 0 ∨ i = 1) with rfl | rfl
    · rw [g0, hx_of_hex d0]; exact d0
    · rw [g1, hx_of_hex d1]; exact d1
  · show ((0 : Int) * 16 + hxV (l.getD 0 0).toNat) * 16 + hxV (l.getD 1 0).toNat = _
    unfold octT
    rw [g0, g1, hx_of_hex d0, hx_of_hex d1, byteH_in (show 2 * j < s.size by omega), byteH_in (show 2 * j + 1 < s.size by omega)]
    omega
end Go.Proofs.YtncjplcefdeckaaGreatDoor
