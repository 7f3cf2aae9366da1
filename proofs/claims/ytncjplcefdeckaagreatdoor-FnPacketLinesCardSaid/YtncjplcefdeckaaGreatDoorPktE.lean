/-
  Packets: 'EncodePacket' of both packages.
-/
import Derived.Test.YtncjplcefdeckaaGreatDoorPktO
import Derived.Deep.RegionHeld3
namespace Go.Proofs.YtncjplcefdeckaaGreatDoor
open Go.RowKit Go.Lib Go.Joins
set_option linter.unusedVariables false

/-- The text as which a packet is sent, or the empty one. -/
def encV (k n t l : Int) (d : ByteArray) : ByteArray := ⟨(encL (octV k n t l d)).toArray⟩
theorem encV_yes {k n t l : Int} {d : ByteArray} (h : pktOk k n t l d = true) : encV k n t l d = encB k n t l d := by unfold encV encB; rw [octV_yes h]
theorem encV_no {k n t l : Int} {d : ByteArray} (h : pktOk k n t l d = false) : encV k n t l d = ⟨#[]⟩ := by unfold encV; rw [octV_no h]; rfl
theorem octV_bd (k n t l : Int) (d : ByteArray) : ∀ x ∈ octV k n t l d, 0 ≤ x ∧ x ≤ 255 := by
  cases h : pktOk k n t l d with
  | false => rw [octV_no h]; intro x hx; cases hx
  | true => rw [octV_yes h]; exact octI_bd h
theorem octV_len18 (k n t l : Int) (d : ByteArray) : (octV k n t l d).length ≤ 18 := by
  cases h : pktOk k n t l d with
  | false => rw [octV_no h]; exact Nat.zero_le _
  | true =>
    rw [octV_yes h, octI_len]
    have := (pktOk_bd h).2.2.2.2.2.2.1
    omega
def hexR (xs : List Int) : List Int := (encL xs).map (fun b => (b.toNat : Int))
theorem hexR_len (xs : List Int) : (hexR xs).length = 2 * xs.length := by unfold hexR; rw [List.length_map, encL_len]
theorem hexR_byt (xs : List Int) : bytI (hexR xs) = ⟨(encL xs).toArray⟩ := by
  have h := bytI_dat ⟨(encL xs).toArray⟩
  unfold datI at h
  exact h
theorem hexR_take {os : List Int} {j : Nat} (h : j < os.length) : hexR (os.take (j + 1)) = hexR (os.take j) ++ [((hexC (os[j] / 16)).toNat : Int), ((hexC (os[j] % 16)).toNat : Int)] := by
  unfold hexR
  rw [List.take_succ_eq_append_getElem h, encL_snoc, List.map_append]
  rfl
theorem row_pair8 {W : World} {g : Nat} {a b : Int} (h : W.heap[g]? = some (.cells #[.int .u8 a, .int .u8 b] 5 (0, 0))) : Row W (.slice (some ⟨g, 0, none⟩) 2 2) 2 [.int .u8 a, .int .u8 b] := by
  refine ⟨_, _, rfl, Nat.le_refl _, by unfold maxLen; omega, fun _ => ⟨g, 0, rfl, (Array.getElem?_eq_some_iff.1 h).1, fun i hi => ?_⟩⟩
  rw [Nat.zero_add, cell_of_block h]
  simp at hi
  rcases (by omega : i = 0 ∨ i = 1) with rfl | rfl <;> rfl
theorem own_hex {W : World} {B m j : Nat} {v : Value} {os : List Int} {a b : Int} (h : j < os.length) (hm : m = 2 * j) (ha : a = ((hexC (os[j] / 16)).toNat : Int)) (hb : b = ((hexC (os[j] % 16)).toNat : Int))
    (ho : W.ownsRow B 5 1 v (m + 2) ((hexR (os.take j)).map (Value.int .u8) ++ [.int .u8 a, .int .u8 b])) :
    W.ownsRow B 5 1 v (2 * (j + 1)) ((hexR (os.take (j + 1))).map (Value.int .u8)) := by
  subst ha; subst hb
  rw [hexR_take h, List.map_append, show 2 * (j + 1) = m + 2 by omega]
  exact ho
end Go.Proofs.YtncjplcefdeckaaGreatDoor
