/-
  Packets: a text with one digit changed is no text of a packet. No program.
-/
import Derived.Test.YtncjplcefdeckaaDoorPkt4
import Derived.Lib.IndexBytes
namespace Go.Proofs.YtncjplcefdeckaaDoor
open Go.RowKit Go.Lib
set_option linter.unusedVariables false

theorem decV_enc {k n t l : Int} {d : ByteArray} (hp : pktOk k n t l d = true) : decV (encB k n t l d) = pv k n t l d := by
  obtain ⟨e1, e2, e3, e4, e5⟩ := enc_fields hp
  rw [decV_yes (dec_enc hp), e1, e2, e3, e4, e5]
theorem byte_list (s : ByteArray) {i : Nat} (h : i < s.size) : s[i] = s.data.toList[i]'(by simpa using h) := rfl
/-- A text with one byte changed. -/
theorem chg_list (s : ByteArray) (i : Nat) (c : UInt8) (h : i < s.size) : (s.extract 0 i ++ ⟨#[c]⟩ ++ s.extract (i + 1) s.size).data.toList = s.data.toList.set i c := by
  have hl : s.data.toList.length = s.size := rfl
  rw [List.set_eq_take_append_cons_drop, if_pos (by omega)]
  have e1 : (s.extract 0 i).data.toList = s.data.toList.take i := by simp
  have e2 : (s.extract (i + 1) s.size).data.toList = s.data.toList.drop (i + 1) := Lib.extract_to_end s (i + 1)
  rw [show (s.extract 0 i ++ ⟨#[c]⟩ ++ s.extract (i + 1) s.size).data.toList = (s.extract 0 i).data.toList ++ [c] ++ (s.extract (i + 1) s.size).data.toList by simp, e1, e2]
  simp
theorem chg_no {k n t l : Int} {d : ByteArray} (hp : pktOk k n t l d = true) {s : ByteArray} (hs : encB k n t l d = s) {i : Nat} (hi : i < s.size) {c : UInt8} (hc : s[i] ≠ c) :
    decOk (s.extract 0 i ++ ⟨#[c]⟩ ++ s.extract (i + 1) s.size) = false := by
  obtain ⟨s', hs'⟩ : ∃ s', s' = s.extract 0 i ++ ⟨#[c]⟩ ++ s.extract (i + 1) s.size := ⟨_, rfl⟩
  have hl : s'.data.toList = s.data.toList.set i c := by rw [hs']; exact chg_list s i c hi
  rw [← hs']
  have hz : s'.size = s.size := by
    have := congrArg List.length hl
    rw [List.length_set] at this
    exact this
  cases h : decOk s' with
  | false => rfl
  | true =>
    exfalso
    have hq := decOk_pkt h
    have he := decOk_enc h
    have hsh := decOk_shp h
    have hd' : digsB s' = true := by
      unfold shpB at hsh
      simp only [Bool.and_eq_true] at hsh
      exact hsh.2.2.2
    have hd := enc_digs hp
    rw [hs] at hd
    have z1 := encB_size k n t l d
    have z2 := encB_size (dK s') (dN s') (dT s') (dL s') (dD s')
    rw [he] at z2
    rw [hs] at z1
    have hone := enc_one (i := i) hp hq (by omega) (by omega) (fun q hne => by
      rw [hs, he]
      unfold byteH
      by_cases h1 : q < s.size
      · rw [dif_pos h1, dif_pos (by omega)]
        congr 1
        rw [byte_list s h1, byte_list s' (by omega)]
        have : s'.data.toList[q]? = s.data.toList[q]? := by rw [hl, List.getElem?_set_ne (Ne.symm hne)]
        rw [List.getElem?_eq_getElem (by show q < s'.size; omega), List.getElem?_eq_getElem (by show q < s.size; omega)] at this
        exact (Option.some.inj this).symm
      · rw [dif_neg h1, dif_neg (by omega)])
    rw [hs, he, byteH_in hi, byteH_in (show i < s'.size by omega)] at hone
    have hci : s'[i]'(by omega) = c := by
      rw [byte_list s' (by omega)]
      have : s'.data.toList[i]? = some c := by rw [hl, List.getElem?_set_self (by show i < s.size; exact hi)]
      rw [List.getElem?_eq_getElem (by show i < s'.size; omega)] at this
      exact Option.some.inj this
    have g1 := digs_at hd hi
    have g2 := digs_at hd' (show i < s'.size by omega)
    apply hc
    rw [← hci, ← hexC_hexV g1, ← hexC_hexV g2, hone]
end Go.Proofs.YtncjplcefdeckaaDoor
