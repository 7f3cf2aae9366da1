/-
  Packets of the program: the packet that a text spells, and 'DecodePacket'.
-/
import Derived.Test.YtncjplcefdeckaaGreatDoorDec1
import Derived.Test.YtncjplcefdeckaaGreatDoorPktE
import Derived.Test.YtncjplcefdeckaaGreatDoorPkt5
import Derived.Test.YtncjplcefdeckaaGreatDoorPktLaw
import Derived.StillTailTactics
import Derived.Deep.RegionHeld3
namespace Go.Proofs.YtncjplcefdeckaaGreatDoor
open Go.RowKit Go.Lib Go.Joins
set_option linter.unusedVariables false

theorem own_cell8 {W : World} {B n g c : Nat} {xs : List Int} (h : W.ownsRow B 5 1 (.slice (some ⟨g, 0, none⟩) n c) n (xs.map (Value.int .u8))) {i : Nat} (hi : i < n) (hl : xs.length = n) (hb : ∀ x ∈ xs, 0 ≤ x ∧ x ≤ 255) :
    ∃ x : Int, x = xs.getD i 0 ∧ W.cell? ⟨g, i, none⟩ = some (.int .u8 x) ∧ 0 ≤ x ∧ x ≤ 255 := by
  obtain ⟨⟨u, hu, hc⟩, _⟩ := own_facts h hi
  have hx : i < xs.length := by omega
  rw [List.getElem?_map, List.getElem?_eq_getElem hx] at hu
  obtain rfl := Option.some.inj hu
  have hm := hb _ (List.getElem_mem hx)
  exact ⟨_, by rw [List.getD_eq_getElem?_getD, List.getElem?_eq_getElem hx]; rfl, hc, hm.1, hm.2⟩
theorem bytes_mid {W : World} {B n g c o m c2 : Nat} {xs : List Int} (h : W.ownsRow B 5 1 (.slice (some ⟨g, 0, none⟩) n c) n (xs.map (Value.int .u8))) (hl : xs.length = n) (ho : o + m ≤ n) :
    (convert 22 9 (.slice (some ⟨g, o, none⟩) m c2)).run Tryz.prog W = .ok (.string (bytI ((xs.drop o).take m))) W :=
  run_convert_bytes_arg (P := Tryz.prog) W 22 5 Tryz.underlying22 Tryz.underlying5 g o m c2 ((xs.drop o).take m) (by rw [List.length_take, List.length_drop]; omega) (fun i hi => by
    obtain ⟨⟨u, hu, hc⟩, _⟩ := own_facts h (show o + i < n by omega)
    rw [hc]
    have hx : o + i < xs.length := by omega
    rw [List.getElem?_map, List.getElem?_eq_getElem hx] at hu
    have h2 : ((xs.drop o).take m).getD i 0 = xs[o + i] := by
      rw [List.getD_eq_getElem?_getD, List.getElem?_take_of_lt hi, List.getElem?_drop, List.getElem?_eq_getElem hx]; rfl
    rw [h2]
    exact (congrArg some (Option.some.inj hu)).symm) 9 Tryz.underlying9
/-- The fields that a list of octets spells. -/
def fldsOf (s : ByteArray) (k n t l : Int) (d : ByteArray) : Prop := decOk s = true → k = dK s ∧ n = dN s ∧ t = dT s ∧ l = dL s ∧ d = dD s
theorem dec_octs {s : ByteArray} {xs : List Int} {n : Nat} (hd : digsB s = true → xs = octsT s (s.size / 2)) (hl : xs.length = n) (h : decOk s = true) : 10 ≤ n ∧ n = s.size / 2 ∧ xs = octsT s n := by
  have hs := decOk_shp h
  unfold shpB at hs
  simp only [Bool.and_eq_true, decide_eq_true_eq] at hs
  have hx := hd hs.2.2.2
  have hn : n = s.size / 2 := by rw [← hl, hx, octsT_len]
  exact ⟨by omega, hn, by rw [hn]; exact hx⟩
theorem dec_flds {s : ByteArray} {xs : List Int} {n : Nat} {x0 x1 x2 x3 x4 x5 x6 : Int} (hd : digsB s = true → xs = octsT s (s.size / 2)) (hl : xs.length = n) (h10 : 10 ≤ n)
    (e0 : x0 = xs.getD 0 0) (e1 : x1 = xs.getD 1 0) (e2 : x2 = xs.getD 2 0) (e3 : x3 = xs.getD 3 0) (e4 : x4 = xs.getD 4 0) (e5 : x5 = xs.getD 5 0) (e6 : x6 = xs.getD 6 0) :
    fldsOf s x0 (256 * x1 + x2) (256 * x3 + x4) (256 * x5 + x6) (bytI ((xs.drop 8).take (n - 10))) := fun h => by
  obtain ⟨_, hn, hx⟩ := dec_octs hd hl h
  subst hx
  rw [octsT_at _ _ _ (by omega)] at e0 e1 e2 e3 e4 e5 e6
  unfold dK dN dT dL dD
  rw [← hn]
  exact ⟨e0, by rw [e1, e2], by rw [e3, e4], by rw [e5, e6], rfl⟩
/-- A packet if its text is the given one, or the zero packet. -/
def keepV (k n t l : Int) (d s tx : ByteArray) (ok : Bool) : Value := if ok = true ∧ tx = s then pv k n t l d else pv 0 0 0 0 ⟨#[]⟩
theorem keepV_no {k n t l : Int} {d s tx : ByteArray} {ok : Bool} (h : ok = false) : keepV k n t l d s tx ok = pv 0 0 0 0 ⟨#[]⟩ := if_neg (fun e => by rw [h] at e; cases e.1)
theorem keepV_ne {k n t l : Int} {d s tx : ByteArray} {ok : Bool} (h : tx ≠ s) : keepV k n t l d s tx ok = pv 0 0 0 0 ⟨#[]⟩ := if_neg (fun e => h e.2)
theorem keepV_yes {k n t l : Int} {d s tx : ByteArray} {ok : Bool} (h : ok = true) (h2 : tx = s) : keepV k n t l d s tx ok = pv k n t l d := if_pos ⟨h, h2⟩
/-- What decoding keeps. -/
theorem keep_dec {s d : ByteArray} {k n t l : Int} (hf : fldsOf s k n t l d) : keepV k n t l d s (encV k n t l d) (pktOk k n t l d) = decV s := by
  cases h : decOk s with
  | true =>
    obtain ⟨rfl, rfl, rfl, rfl, rfl⟩ := hf h
    rw [decV_yes h]
    have hp := decOk_pkt h
    exact keepV_yes hp (by rw [encV_yes hp]; exact decOk_enc h)
  | false =>
    rw [decV_no h]
    cases hp : pktOk k n t l d with
    | false => exact keepV_no rfl
    | true =>
      refine keepV_ne (fun e => ?_)
      rw [encV_yes hp] at e
      rw [← e, dec_enc hp] at h
      cases h
theorem decV_kind (s : ByteArray) (h : decOk s = true) : ∃ k n t l d, decV s = pv k n t l d ∧ 1 ≤ k := ⟨_, _, _, _, _, decV_yes h, (pktOk_bd (decOk_pkt h)).1.1⟩
end Go.Proofs.YtncjplcefdeckaaGreatDoor
