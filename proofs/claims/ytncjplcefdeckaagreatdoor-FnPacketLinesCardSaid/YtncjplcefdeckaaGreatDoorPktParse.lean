/-
  Packets: the packet of a line, of the specification.
-/
import Derived.Test.YtncjplcefdeckaaGreatDoorPktLine
import Derived.Test.YtncjplcefdeckaaGreatDoorSplit
import Derived.Test.YtncjplcefdeckaaGreatDoorRead
import Derived.Deep.CutRange
namespace Go.Proofs.YtncjplcefdeckaaGreatDoor
open Go.RowKit Go.Lib Go.Joins
set_option linter.unusedVariables false

/-- The place of a word among the kinds' words, or 0. -/
def kindW (s : ByteArray) : Int := if wordB 1 = s then 1 else if wordB 2 = s then 2 else if wordB 3 = s then 3 else if wordB 4 = s then 4 else if wordB 5 = s then 5 else 0
theorem kindW_at {s : ByteArray} {u : Nat} (h1 : 1 ≤ u) (h5 : u ≤ 5) (hm : ∀ j : Nat, 1 ≤ j → j < u → wordB (j : Int) ≠ s) (h : wordB (u : Int) = s) : kindW s = (u : Int) := by
  unfold kindW
  rcases (by omega : u = 1 ∨ u = 2 ∨ u = 3 ∨ u = 4 ∨ u = 5) with rfl | rfl | rfl | rfl | rfl
  · rw [if_pos (show wordB 1 = s from h)]; rfl
  · rw [if_neg (show wordB 1 ≠ s from hm 1 (by omega) (by omega)), if_pos (show wordB 2 = s from h)]; rfl
  · rw [if_neg (show wordB 1 ≠ s from hm 1 (by omega) (by omega)), if_neg (show wordB 2 ≠ s from hm 2 (by omega) (by omega)), if_pos (show wordB 3 = s from h)]; rfl
  · rw [if_neg (show wordB 1 ≠ s from hm 1 (by omega) (by omega)), if_neg (show wordB 2 ≠ s from hm 2 (by omega) (by omega)), if_neg (show wordB 3 ≠ s from hm 3 (by omega) (by omega)), if_pos (show wordB 4 = s from h)]; rfl
  · rw [if_neg (show wordB 1 ≠ s from hm 1 (by omega) (by omega)), if_neg (show wordB 2 ≠ s from hm 2 (by omega) (by omega)), if_neg (show wordB 3 ≠ s from hm 3 (by omega) (by omega)), if_neg (show wordB 4 ≠ s from hm 4 (by omega) (by omega)), if_pos (show wordB 5 = s from h)]; rfl
theorem kindW_no {s : ByteArray} (hm : ∀ j : Nat, 1 ≤ j → j < 6 → wordB (j : Int) ≠ s) : kindW s = 0 := by
  unfold kindW
  rw [if_neg (show wordB 1 ≠ s from hm 1 (by omega) (by omega)), if_neg (show wordB 2 ≠ s from hm 2 (by omega) (by omega)), if_neg (show wordB 3 ≠ s from hm 3 (by omega) (by omega)), if_neg (show wordB 4 ≠ s from hm 4 (by omega) (by omega)), if_neg (show wordB 5 ≠ s from hm 5 (by omega) (by omega))]
theorem kindW_bd (s : ByteArray) : 0 ≤ kindW s ∧ kindW s ≤ 5 := by unfold kindW; split <;> (try split) <;> (try split) <;> (try split) <;> (try split) <;> omega
theorem kindW_word {k : Int} (h1 : 1 ≤ k) (h5 : k ≤ 5) : kindW (wordB k) = k := by
  rcases (by omega : k = 1 ∨ k = 2 ∨ k = 3 ∨ k = 4 ∨ k = 5) with rfl | rfl | rfl | rfl | rfl <;> decide +kernel
def Wdb (w : World) (g : Nat) : Prop := w.heap[g]? = some (.cells #[.string ⟨#[]⟩, .string ⟨#[100, 97, 116, 97]⟩, .string ⟨#[114, 101, 112, 97, 105, 114]⟩, .string ⟨#[114, 101, 113, 117, 101, 115, 116]⟩, .string ⟨#[99, 111, 110, 102, 105, 114, 109]⟩, .string ⟨#[115, 116, 97, 116, 117, 115]⟩] 9 (0, 0))
theorem Wdb.cell {w : World} {g u : Nat} (h : Wdb w g) (h0 : 1 ≤ u) (h1 : u ≤ 5) : w.cell? ⟨g, u, none⟩ = some (.string (wordB (u : Int))) := by
  unfold Wdb at h
  rw [cell_of_block h]
  exact words_at h0 h1

open Classical in
/-- Whether a text is a number's, and which. -/
noncomputable def rdB (s : ByteArray) : Bool := decide (∃ m : Int, M.inR m ∧ Lib.itoa m = s.data.toList)
open Classical in
noncomputable def rdN (s : ByteArray) : Int := if h : ∃ m : Int, M.inR m ∧ Lib.itoa m = s.data.toList then Classical.choose h else 0
open Classical in
theorem rd_yes {s : ByteArray} {m : Int} (h1 : M.inR m) (h2 : Lib.itoa m = s.data.toList) : rdB s = true ∧ rdN s = m := by
  have he : ∃ m : Int, M.inR m ∧ Lib.itoa m = s.data.toList := ⟨m, h1, h2⟩
  refine ⟨by unfold rdB; exact decide_eq_true he, ?_⟩
  unfold rdN
  rw [dif_pos he]
  exact M.itoa_inj ((Classical.choose_spec he).2.trans h2.symm)
open Classical in
theorem rd_no {s : ByteArray} (h : ∀ m : Int, M.inR m → Lib.itoa m ≠ s.data.toList) : rdB s = false ∧ rdN s = 0 := by
  have he : ¬ ∃ m : Int, M.inR m ∧ Lib.itoa m = s.data.toList := fun ⟨m, h1, h2⟩ => h m h1 h2
  exact ⟨by unfold rdB; exact decide_eq_false he, by unfold rdN; rw [dif_neg he]⟩
theorem PR_val {s : ByteArray} {e : Ending} (h : PR s e) : e = .returned (.tuple #[.int .i64 (rdN s), .bool (rdB s)]) := by
  rcases h with ⟨n, h1, h2, rfl⟩ | ⟨h1, rfl⟩
  · rw [(rd_yes h1 h2).1, (rd_yes h1 h2).2]
  · rw [(rd_no h1).1, (rd_no h1).2]
theorem l1ReadV_any (s : ByteArray) (hs : s.size ≤ maxLen) (w : World) :
    Calls Tryz.prog 51 #[.string s] w fun e w' => e = .returned (.tuple #[.int .i64 (rdN s), .bool (rdB s)]) ∧ ∃ k, w' = w.drewN k :=
  (l1Read_any s hs w).mono fun e w' ⟨h1, h2⟩ => ⟨PR_val h1, h2⟩
def pw (s : ByteArray) : List (List UInt8) := M.parts 32 s.data.toList
def pe (s : ByteArray) : List (List UInt8) := M.parts 45 ((pw s).getD 3 [])
def txt (l : List UInt8) : ByteArray := ⟨l.toArray⟩
def cK (s : ByteArray) : Int := kindW (txt ((pw s).getD 0 []))
noncomputable def cN (s : ByteArray) : Int := rdN (txt ((pw s).getD 1 []))
noncomputable def cT (s : ByteArray) : Int := rdN (txt ((pe s).getD 0 []))
noncomputable def cL (s : ByteArray) : Int := rdN (txt ((pe s).getD 1 []))
def cD (s : ByteArray) : ByteArray := if (pw s).length = 5 then txt ((pw s).getD 4 []) else ⟨#[]⟩
def okA (s : ByteArray) : Bool := decide (s.size ≤ 60) && (decide ((pw s).length = 4) || decide ((pw s).length = 5))
noncomputable def okR (s : ByteArray) : Bool := rdB (txt ((pw s).getD 1 [])) && (rdB (txt ((pe s).getD 0 [])) && rdB (txt ((pe s).getD 1 [])))
noncomputable def okP (s : ByteArray) : Bool := pktOk (cK s) (cN s) (cT s) (cL s) (cD s) && decide (lineB (cK s) (cN s) (cT s) (cL s) (cD s) = s)
theorem tailD_len {d : ByteArray} (h : d.size ≤ 8) : (tailD d).length ≤ 9 := by
  unfold tailD
  by_cases h0 : d.size = 0
  · rw [if_pos h0]; simp
  · rw [if_neg h0]
    have e : d.data.toList.length = d.size := rfl
    rw [List.length_cons]
    omega
theorem txt_data (l : List UInt8) : (txt l).data.toList = l := by simp [txt]
theorem line_comp {s : ByteArray} {k n t l : Int} {d : ByteArray} (h : IsLine s (k, n, t, l, d)) : okA s = true ∧ (pe s).length = 2 ∧ okR s = true ∧ cK s = k ∧ cN s = n ∧ cT s = t ∧ cL s = l ∧ cD s = d := by
  obtain ⟨hp, hs⟩ := h
  simp only at hp hs
  obtain ⟨hk, hn, ht, hl, _, hd, hz, _⟩ := pktOk_bd hp
  have hsd : s.data.toList = lineL k n t l d := by rw [← hs]; simp [lineB]
  have hw : pw s = [wordK k, Lib.itoa n, [111, 102], Lib.itoa t ++ 45 :: Lib.itoa l] ++ (if d.size = 0 then [] else [d.data.toList]) := by
    unfold pw; rw [hsd]; exact line_parts hn.1 ht.1 hl.1 hd
  have h3 : (pw s).getD 3 [] = Lib.itoa t ++ 45 :: Lib.itoa l := by rw [hw]; rfl
  have hpe : pe s = [Lib.itoa t, Lib.itoa l] := by unfold pe; rw [h3]; exact ends_parts ht.1 hl.1
  have h0 : (pw s).getD 0 [] = wordK k := by rw [hw]; rfl
  have h1 : (pw s).getD 1 [] = Lib.itoa n := by rw [hw]; rfl
  have e0 : (pe s).getD 0 [] = Lib.itoa t := by rw [hpe]; rfl
  have e1 : (pe s).getD 1 [] = Lib.itoa l := by rw [hpe]; rfl
  have rn := rd_yes (s := txt (Lib.itoa n)) (m := n) ⟨by omega, by omega⟩ (txt_data _).symm
  have rt := rd_yes (s := txt (Lib.itoa t)) (m := t) ⟨by omega, by omega⟩ (txt_data _).symm
  have rl := rd_yes (s := txt (Lib.itoa l)) (m := l) ⟨by omega, by omega⟩ (txt_data _).symm
  have hsz : s.size ≤ 60 := by
    have e : s.size = (lineL k n t l d).length := by rw [← hsd]; rfl
    have z1 := itoa_len hn.1 (by omega)
    have z2 := itoa_len ht.1 (by omega)
    have z3 := itoa_len hl.1 (by omega)
    have z4 : (wordK k).length ≤ 7 := by have := wordB_size k; unfold wordB at this; rw [size_list4] at this; exact this
    have z5 : (tailD d).length ≤ 9 := tailD_len hz
    rw [e]; unfold lineL
    simp only [List.length_append, List.length_cons, List.length_nil]
    omega
  refine ⟨?_, by rw [hpe]; rfl, ?_, ?_, ?_, ?_, ?_, ?_⟩
  · unfold okA
    rw [decide_eq_true hsz, hw]
    by_cases hd0 : d.size = 0
    · rw [if_pos hd0]; rfl
    · rw [if_neg hd0]; rfl
  · unfold okR; rw [h1, e0, e1, rn.1, rt.1, rl.1]; rfl
  · unfold cK; rw [h0]; exact kindW_word hk.1 hk.2
  · unfold cN; rw [h1]; exact rn.2
  · unfold cT; rw [e0]; exact rt.2
  · unfold cL; rw [e1]; exact rl.2
  · unfold cD
    by_cases hd0 : d.size = 0
    · rw [if_neg (by rw [hw, if_pos hd0]; simp)]
      exact (size_zero hd0).symm
    · rw [if_pos (by rw [hw, if_neg hd0]; rfl)]
      have : (pw s).getD 4 [] = d.data.toList := by rw [hw, if_neg hd0]; rfl
      rw [this]
      apply ByteArray.ext
      simp [txt]
/-- What parsing returns. -/
noncomputable def parV (s : ByteArray) : Value := pv (parP s).1 (parP s).2.1 (parP s).2.2.1 (parP s).2.2.2.1 (parP s).2.2.2.2
theorem par_fail {s : ByteArray} (h : okA s = false ∨ (pe s).length ≠ 2 ∨ okR s = false ∨ okP s = false) : parB s = false ∧ parV s = pv 0 0 0 0 ⟨#[]⟩ := by
  have hn : ∀ p, ¬ IsLine s p := by
    rintro ⟨k, n, t, l, d⟩ hp
    obtain ⟨a1, a2, a3, a4, a5, a6, a7, a8⟩ := line_comp hp
    rcases h with h | h | h | h
    · rw [a1] at h; cases h
    · exact h a2
    · rw [a3] at h; cases h
    · unfold okP at h
      rw [a4, a5, a6, a7, a8] at h
      have h1 : pktOk k n t l d = true := hp.1
      have h2 : lineB k n t l d = s := hp.2
      rw [h1, decide_eq_true h2] at h
      cases h
  obtain ⟨b1, b2⟩ := par_no hn
  exact ⟨b1, by unfold parV; rw [b2]⟩
theorem par_good {s : ByteArray} (h : okP s = true) : parB s = true ∧ parV s = pv (cK s) (cN s) (cT s) (cL s) (cD s) := by
  unfold okP at h
  rw [Bool.and_eq_true] at h
  obtain ⟨b1, b2⟩ := par_yes (s := s) (k := cK s) (n := cN s) (t := cT s) (l := cL s) (d := cD s) ⟨h.1, of_decide_eq_true h.2⟩
  exact ⟨b1, by unfold parV; rw [b2]⟩
set_option maxHeartbeats 1000000 in
theorem l4Index_any (g : Nat) (s : ByteArray) (w : World) (h : Wdb w g) :
    Calls Tryz.prog 52 #[.slice (some ⟨g, 0, none⟩) 6 6, .string s] w fun e w' => e = .returned (.int .i64 (kindW s)) ∧ w = w' := by
  have HW := Lib.hid h
  clear h
  go_enter Tryz.func52, Tryz.ntmps52
  go_wp2_with fail
  go_loop [5] (fun i => ∃ u : Nat, 1 ≤ u ∧ u ≤ 6 ∧ i = .int .i64 u ∧ Hid (∀ j : Nat, 1 ≤ j → j < u → wordB (j : Int) ≠ s)) (fun i => 6 - (intOf i).toNat)
  case atStart => exact ⟨1, by omega, by omega, rfl, Lib.hid (by intro j h1 h2; omega)⟩
  case round =>
    obtain ⟨u, h1, h6, rfl, HM⟩ := hrel
    by_cases hu : u < 6
    · have hc := HW.out.cell h1 (show u ≤ 5 by omega)
      by_cases he : wordB (u : Int) = s
      · have HK := Lib.hid (kindW_at h1 (by omega) HM.out he)
        subst he
        go_wp2_with fail
        go_ret
        exact ⟨ret_int HK.out.symm, rfl⟩
      · have hne : ((wordB (u : Int)).toList == s.toList) = false := list_ne he
        have HM2 : Hid (∀ j : Nat, 1 ≤ j → j < u + 1 → wordB (j : Int) ≠ s) := Lib.hid (by
          intro j h1 h2
          by_cases hj : j < u
          · exact HM.out j h1 hj
          · obtain rfl : j = u := by omega
            exact he)
        clear he
        go_wp2_with fail
        go_round
        case rel => exact ⟨u + 1, by omega, by omega, by go_num, HM2⟩
        case measure => simp [intOf]; omega
    · obtain rfl : u = 6 := by omega
      have HK := Lib.hid (kindW_no HM.out)
      go_wp2_with fail
      go_ret
      exact ⟨ret_int HK.out.symm, rfl⟩
theorem strs_cell {w : World} {B n g c : Nat} {ls : List (List UInt8)} (h : w.ownsRow B 9 1 (.slice (some ⟨g, 0, none⟩) n c) n (ls.map strV)) {i : Nat} (hi : i < n) : w.cell? ⟨g, i, none⟩ = some (.string (txt (ls.getD i []))) := by
  obtain ⟨⟨u, hu, hc⟩, _⟩ := own_facts h hi
  rw [hc]
  have hl : i < ls.length := by have := h.1; rw [List.length_map] at this; omega
  rw [List.getElem?_map, List.getElem?_eq_getElem hl] at hu
  rw [List.getD_eq_getElem?_getD, List.getElem?_eq_getElem hl]
  exact congrArg some (Option.some.inj hu).symm
theorem flat_len : ∀ (ps : List (List UInt8)), ∀ p ∈ ps, p.length ≤ ps.flatten.length
  | [], p, h => by cases h
  | q :: ps, p, h => by
    rw [List.flatten_cons, List.length_append]
    rcases List.mem_cons.1 h with rfl | h
    · omega
    · have := flat_len ps p h; omega
theorem parts_size (c : UInt8) (l : List UInt8) (i : Nat) : ((M.parts c l).getD i []).length ≤ l.length := by
  rw [List.getD_eq_getElem?_getD]
  cases e : (M.parts c l)[i]? with
  | none => simp
  | some p =>
    have hm := List.mem_of_getElem? e
    have ht := M.sp_text c l
    show p.length ≤ l.length
    unfold M.parts at hm
    rcases List.mem_append.1 hm with hm | hm
    · have h1 := flat_len ((M.sp c l).1.map (· ++ [c])) (p ++ [c]) (List.mem_map.2 ⟨p, hm, rfl⟩)
      have h2 := congrArg List.length ht
      rw [List.length_append] at h2
      rw [List.length_append] at h1
      omega
    · simp at hm
      subst hm
      have h2 := congrArg List.length ht
      rw [List.length_append] at h2
      omega
theorem cD_size {s : ByteArray} (h : (txt ((pw s).getD 4 [])).size ≤ 1048576) : (cD s).size ≤ 1048576 := by
  unfold cD
  by_cases h5 : (pw s).length = 5
  · rw [if_pos h5]; exact h
  · rw [if_neg h5]; show (0 : Nat) ≤ _; omega
theorem row_some4 {w : World} {a : Option Addr} {n cap : Nat} {xs : List Value} (h : Row w (.slice a n cap) n xs) : n ≤ cap ∧ cap ≤ maxLen := by
  obtain ⟨_, c2, e2, h1, h2, _⟩ := h
  injection e2 with _ _ e3
  subst e3
  exact ⟨h1, h2⟩
theorem txt_size (l : List UInt8) : (txt l).size = l.length := by show l.toArray.size = _; simp

set_option maxRecDepth 100000 in
set_option maxHeartbeats 4000000 in
theorem l4Parse_any (s : ByteArray) (w : World) (hs : s.size ≤ 1048576) :
    Calls Tryz.prog 27 #[.string s] w fun e w' => e = .returned (.tuple #[parV s, .bool (parB s)]) ∧ Below w.heap.size w w' := by
  have HS1 : Hid (∀ w : World, Calls Tryz.prog 50 #[.string s, .int .u8 32] w fun e w' => ∃ v, e = .returned v ∧ w'.ownsRow w.heap.size 9 1 v (pw s).length ((pw s).map strV) ∧ Below w.heap.size w w') := Lib.hid (fun w => l1Split_any s 32 hs w)
  have z3 : (txt ((pw s).getD 3 [])).size ≤ 1048576 := by rw [txt_size]; have := parts_size 32 s.data.toList 3; have e : s.data.toList.length = s.size := rfl; unfold pw; omega
  have hz3 : (txt ((pw s).getD 3 [])).data.toList = (pw s).getD 3 [] := txt_data _
  have HS2 : Hid (∀ w : World, Calls Tryz.prog 50 #[.string (txt ((pw s).getD 3 [])), .int .u8 45] w fun e w' => ∃ v, e = .returned v ∧ w'.ownsRow w.heap.size 9 1 v (pe s).length ((pe s).map strV) ∧ Below w.heap.size w w') := Lib.hid (fun w => by
    have h := l1Split_any (txt ((pw s).getD 3 [])) 45 z3 w
    rw [hz3] at h
    exact h)
  have HRd : Hid (∀ (x : ByteArray) (w : World), x.size ≤ 1048576 → Calls Tryz.prog 51 #[.string x] w fun e w' => e = .returned (.tuple #[.int .i64 (rdN x), .bool (rdB x)]) ∧ ∃ k, w' = w.drewN k) := Lib.hid (fun x w hl => l1ReadV_any x (by unfold maxLen; omega) w)
  have zs : s.data.toList.length ≤ 1048576 := hs
  have y3 : ((pw s).getD 3 []).length ≤ 1048576 := Nat.le_trans (parts_size 32 _ 3) zs
  obtain ⟨tw0, htw0⟩ : ∃ x, x = txt ((pw s).getD 0 []) := ⟨_, rfl⟩
  have ztw0 : tw0.size ≤ 1048576 := by rw [htw0, txt_size]; exact Nat.le_trans (parts_size 32 _ 0) zs
  have Htw0 := Lib.hid htw0
  clear htw0
  obtain ⟨tw1, htw1⟩ : ∃ x, x = txt ((pw s).getD 1 []) := ⟨_, rfl⟩
  have ztw1 : tw1.size ≤ 1048576 := by rw [htw1, txt_size]; exact Nat.le_trans (parts_size 32 _ 1) zs
  have Htw1 := Lib.hid htw1
  clear htw1
  obtain ⟨tw4, htw4⟩ : ∃ x, x = txt ((pw s).getD 4 []) := ⟨_, rfl⟩
  have ztw4 : tw4.size ≤ 1048576 := by rw [htw4, txt_size]; exact Nat.le_trans (parts_size 32 _ 4) zs
  have Htw4 := Lib.hid htw4
  clear htw4
  obtain ⟨te0, hte0⟩ : ∃ x, x = txt ((pe s).getD 0 []) := ⟨_, rfl⟩
  have zte0 : te0.size ≤ 1048576 := by rw [hte0, txt_size]; exact Nat.le_trans (parts_size 45 _ 0) y3
  have Hte0 := Lib.hid hte0
  clear hte0
  obtain ⟨te1, hte1⟩ : ∃ x, x = txt ((pe s).getD 1 []) := ⟨_, rfl⟩
  have zte1 : te1.size ≤ 1048576 := by rw [hte1, txt_size]; exact Nat.le_trans (parts_size 45 _ 1) y3
  have Hte1 := Lib.hid hte1
  clear hte1
  obtain ⟨tw3, htw3⟩ : ∃ x, x = txt ((pw s).getD 3 []) := ⟨_, rfl⟩
  rw [← htw3] at HS2
  have Htw3 := Lib.hid htw3
  clear htw3
  clear z3 hz3 zs y3
  go_enter Tryz.func27, Tryz.ntmps27
  go_wp2_with fail
  obtain ⟨W1, hW1⟩ : ∃ W1, W1 = (w.alloc (.cells #[.int .i64 0, .int .i64 0, .int .i64 0, .int .i64 0, .string ⟨#[]⟩] 25)).alloc (.cells #[.int .i64 0, .int .i64 0, .int .i64 0, .int .i64 0, .string ⟨#[]⟩] 25) := ⟨_, rfl⟩
  rw [← hW1]
  have hR : Pb W1 w.heap.size 0 0 0 0 ⟨#[]⟩ := by rw [hW1]; exact heap_alloc2_old w _ _
  have hN : Pb W1 (w.heap.size + 1) 0 0 0 0 ⟨#[]⟩ := by rw [hW1]; exact heap_alloc2_new w _ _
  have hs1 : W1.heap.size = w.heap.size + 2 := by rw [hW1]; simp
  have HB1 : Hid (Below w.heap.size w W1) := Lib.hid (by rw [hW1]; exact ((Below.refl _ _).alloc (Nat.le_refl _) _).alloc (by simp) _)
  have HR1 := Lib.hid hR
  have HN1 := Lib.hid hN
  clear hW1 hR hN
  refine (HS1.out W1).mono ?_
  rintro e W2 ⟨v, rfl, ov, l2⟩
  have hnp : 0 < (pw s).length := List.length_pos_iff.2 (M.parts_ne 32 _)
  obtain ⟨g, c, rfl⟩ := own_form ov hnp
  have HO2 := Lib.hid ov
  have hcap : (pw s).length ≤ c := (row_some4 (row_own ov)).1
  have HR2 := Lib.hid (HR1.out.below l2 HR1.out.lt)
  have HN2 := Lib.hid (HN1.out.below l2 HN1.out.lt)
  have HB2 := Lib.hid (HB1.out.trans (l2.mono HB1.out.size))
  have hs2 := l2.size
  clear ov l2 HR1 HN1 HB1 HS1
  go_upto_region 4 with fail
  go_cut [30] from 15 to 30 (fun b wx => b = .bool (!okA s) ∧ wx = W2)
  case first => as_aux_lemma =>
    by_cases h60 : s.size ≤ 60
    · have h60' : ¬ (60 : Int) < s.size := by omega
      by_cases h4 : (pw s).length = 4
      · have HE : Hid (okA s = true) := Lib.hid (by unfold okA; rw [decide_eq_true h60, decide_eq_true h4]; rfl)
        have e4 : (((pw s).length : Int) != 4) = false := by simp; omega
        clear h4
        go_wp2_with fail
        go_meet
        case rel => exact ⟨by rw [HE.out]; rfl, rfl⟩
      · have e4 : (((pw s).length : Int) != 4) = true := by simp; omega
        by_cases h5 : (pw s).length = 5
        · have HE : Hid (okA s = true) := Lib.hid (by unfold okA; rw [decide_eq_true h60, decide_eq_true h5]; simp)
          have e5 : (((pw s).length : Int) != 5) = false := by simp; omega
          clear h4 h5
          go_wp2_with fail
          go_meet
          case rel => exact ⟨by rw [HE.out]; rfl, rfl⟩
        · have HE : Hid (okA s = false) := Lib.hid (by unfold okA; rw [decide_eq_false h4, decide_eq_false h5]; simp)
          have e5 : (((pw s).length : Int) != 5) = true := by simp; omega
          clear h4 h5
          go_wp2_with fail
          go_meet
          case rel => exact ⟨by rw [HE.out]; rfl, rfl⟩
    · have h60' : (60 : Int) < s.size := by omega
      have HE : Hid (okA s = false) := Lib.hid (by unfold okA; rw [decide_eq_false h60]; rfl)
      clear h60
      go_wp2_with fail
      go_meet
      case rel => exact ⟨by rw [HE.out]; rfl, rfl⟩
  case rest => as_aux_lemma =>
    obtain ⟨rfl, rfl⟩ := hcut
    cases hA : okA s with
    | false =>
      have HF := Lib.hid (par_fail (s := s) (.inl hA))
      clear hA
      obtain ⟨n0, n1, n2, n3, n4⟩ := HN2.out.cells
      obtain ⟨r0, r1, r2, r3, r4⟩ := HR2.out.cells
      have f0 := HR2.out.free 0
      have f1 := HR2.out.free 1
      have f2 := HR2.out.free 2
      have f3 := HR2.out.free 3
      have f4 := HR2.out.free 4
      go_wp2_with fail
      obtain ⟨hp1, hg1⟩ := HR2.out.store (k' := 0) (n' := 0) (t' := 0) (l' := 0) (d' := ⟨#[]⟩)
      refine bodyPost_ret (results_pkt rfl _ _ w.heap.size rfl rfl hp1) rfl ⟨ret_vb HF.out.2.symm HF.out.1.symm, ?_⟩
      exact HB2.out.grown hg1 HB2.out.size (fun k hk => by have e : w.heap.size = k := Option.some.inj hk; omega)
    | true =>
      have hn4 : (pw s).length ≤ 5 := by unfold okA at hA; simp only [Bool.and_eq_true, Bool.or_eq_true, decide_eq_true_eq] at hA; omega
      have hn3 : 4 ≤ (pw s).length := by unfold okA at hA; simp only [Bool.and_eq_true, Bool.or_eq_true, decide_eq_true_eq] at hA; omega
      have HA := Lib.hid hA
      clear hA
      have c3 := strs_cell HO2.out (show 3 < (pw s).length by omega)
      rw [← Htw3.out] at c3
      have l3 : (3 : Int) < ((pw s).length : Int) := by omega
      go_wp2_with fail
      refine (HS2.out _).mono ?_
      rintro e W3 ⟨ve, rfl, oe, b3⟩
      have hep : 0 < (pe s).length := List.length_pos_iff.2 (M.parts_ne 45 _)
      obtain ⟨ge, ce, rfl⟩ := own_form oe hep
      have HE3 := Lib.hid oe
      have hcape : (pe s).length ≤ ce := (row_some4 (row_own oe)).1
      have HO3 := Lib.hid (own_below HO2.out b3 (Nat.le_refl _))
      have HR3 := Lib.hid (HR2.out.below b3 HR2.out.lt)
      have HN3 := Lib.hid (HN2.out.below b3 HN2.out.lt)
      have HB3 := Lib.hid (HB2.out.trans (b3.mono HB2.out.size))
      clear oe b3 c3 HR2 HN2 HB2 HO2 HS2
      by_cases h2 : (pe s).length = 2
      rotate_left
      · have e2 : (((pe s).length : Int) != 2) = true := by simp; omega
        have HF := Lib.hid (par_fail (s := s) (.inr (.inl h2)))
        clear h2
        obtain ⟨n0, n1, n2, n3, n4⟩ := HN3.out.cells
        obtain ⟨r0, r1, r2, r3, r4⟩ := HR3.out.cells
        have f0 := HR3.out.free 0
        have f1 := HR3.out.free 1
        have f2 := HR3.out.free 2
        have f3 := HR3.out.free 3
        have f4 := HR3.out.free 4
        go_wp2_with fail
        obtain ⟨hp1, hg1⟩ := HR3.out.store (k' := 0) (n' := 0) (t' := 0) (l' := 0) (d' := ⟨#[]⟩)
        refine bodyPost_ret (results_pkt rfl _ _ w.heap.size rfl rfl hp1) rfl ⟨ret_vb HF.out.2.symm HF.out.1.symm, ?_⟩
        exact HB3.out.grown hg1 HB3.out.size (fun k hk => by have e : w.heap.size = k := Option.some.inj hk; omega)
      have e2 : (((pe s).length : Int) != 2) = false := by simp; omega
      have hpe2 : 2 ≤ (pe s).length := by omega
      have H2 := Lib.hid h2
      clear h2
      have c1 := strs_cell HO3.out (show 1 < (pw s).length by omega)
      rw [← Htw1.out] at c1
      have l1 : (1 : Int) < ((pw s).length : Int) := by omega
      go_wp2_with fail
      refine (HRd.out _ _ ztw1).mono ?_
      rintro e W4 ⟨rfl, q4, hq4⟩
      have b4 : Below W3.heap.size W3 W4 := by rw [hq4]; exact bdrew _ _
      have HO4 := Lib.hid (own_below HO3.out b4 (Nat.le_refl _))
      have HE4 := Lib.hid (own_below HE3.out b4 (Nat.le_refl _))
      have HR4 := Lib.hid (HR3.out.below b4 HR3.out.lt)
      have HN4 := Lib.hid (HN3.out.below b4 HN3.out.lt)
      have HB4 := Lib.hid (HB3.out.trans (b4.mono HB3.out.size))
      have d0 := strs_cell HE4.out (show 0 < (pe s).length by omega)
      rw [← Hte0.out] at d0
      have m0 : 0 < (pe s).length := hep
      clear c1 e2 b4 hq4 HR3 HN3 HB3 HO3 HE3
      go_wp2_with fail
      refine (HRd.out _ _ zte0).mono ?_
      rintro e W5 ⟨rfl, q5, hq5⟩
      have b5 : Below W4.heap.size W4 W5 := by rw [hq5]; exact bdrew _ _
      have HO5 := Lib.hid (own_below HO4.out b5 (Nat.le_refl _))
      have HE5 := Lib.hid (own_below HE4.out b5 (Nat.le_refl _))
      have HR5 := Lib.hid (HR4.out.below b5 HR4.out.lt)
      have HN5 := Lib.hid (HN4.out.below b5 HN4.out.lt)
      have HB5 := Lib.hid (HB4.out.trans (b5.mono HB4.out.size))
      have d1 := strs_cell HE5.out (show 1 < (pe s).length by omega)
      rw [← Hte1.out] at d1
      have m1 : (1 : Int) < ((pe s).length : Int) := by omega
      clear d0 b5 hq5 HR4 HN4 HB4 HO4 HE4
      go_wp2_with fail
      refine (HRd.out _ _ zte1).mono ?_
      rintro e W6 ⟨rfl, q6, hq6⟩
      have b6 : Below W5.heap.size W5 W6 := by rw [hq6]; exact bdrew _ _
      have HO6 := Lib.hid (own_below HO5.out b6 (Nat.le_refl _))
      have HR6 := Lib.hid (HR5.out.below b6 HR5.out.lt)
      have HN6 := Lib.hid (HN5.out.below b6 HN5.out.lt)
      have HB6 := Lib.hid (HB5.out.trans (b6.mono HB5.out.size))
      clear d1 b6 hq6 HR5 HN5 HB5 HO5 HE5
      have c0 := strs_cell HO6.out (show 0 < (pw s).length by omega)
      rw [← Htw0.out] at c0
      have l0 : 0 < (pw s).length := hnp
      have hgl : g < W6.heap.size := World.block_lt_of_cell? W6 _ c0
      have HC0 : Hid (∀ w' : World, Below W6.heap.size W6 w' → (w'.cell? ⟨g, 0, none⟩ = some (.string tw0) ∧ Below W6.heap.size W6 w')) := Lib.hid (fun w' hb => ⟨(hb.cell (p := ⟨g, 0, none⟩) hgl).trans c0, hb⟩)
      go_upto_region 12 with fail
      go_cut [14] from 15 to 69 (fun pp wx => ∃ pk, pp = .pointer (some ⟨pk, 0, none⟩) ∧ Hid (Pb wx pk (kindW tw0) (rdN tw1) (rdN te0) (rdN te1) ⟨#[]⟩) ∧ Hid (Below W6.heap.size W6 wx) ∧ W6.heap.size ≤ pk)
      case first => as_aux_lemma =>
        go_region_held3 (fun w' => w'.cell? ⟨g, 0, none⟩ = some (.string tw0) ∧ Below W6.heap.size W6 w')
          ((refine HC0.out _ ?_; repeat (first | assumption | exact Below.refl _ _ | refine Below.drew ?_ | refine below_alloc' ?_)))
          (first | (go_at_call 45; refine (l4Words_any _).mono ?_; rintro e w5 ⟨rfl, rfl⟩) | (go_at_call 52; refine (l4Index_any _ _ _ (by first | exact heap_alloc_new _ _ | exact heap_first _ _ _ | exact heap_second _ _ _)).mono ?_; rintro e w5 ⟨rfl, rfl⟩))
        all_goals go_wp2_with fail
        all_goals go_meet
        all_goals
          case rel =>
            refine ⟨_, rfl, Lib.hid ?_, Lib.hid (by repeat (first | assumption | exact Below.refl _ _ | refine Below.drew ?_ | refine below_alloc' ?_)), by omega⟩
            first | exact heap_second _ _ _ | exact heap_first _ _ _ | exact heap_alloc_new _ _
      case rest => as_aux_lemma =>
        obtain ⟨pk, rfl, HP7, HB67, hpk⟩ := hcut
        have HO7 := Lib.hid (own_below HO6.out HB67.out (Nat.le_refl _))
        have HR7 := Lib.hid (HR6.out.below HB67.out HR6.out.lt)
        have HN7 := Lib.hid (HN6.out.below HB67.out HN6.out.lt)
        have HB7 := Lib.hid (HB6.out.trans (HB67.out.mono HB6.out.size))
        have hpw := HB6.out.size
        have hk6 : w.heap.size + 1 < W6.heap.size := HN6.out.lt
        have hpl : pk < wc.heap.size := HP7.out.lt
        clear c0 l0 hgl HC0 HR6 HN6 HB6 HO6 HB67
        obtain ⟨W7, hW7⟩ : ∃ W, W = wc := ⟨_, rfl⟩
        rw [← hW7] at HP7 HO7 HR7 HN7 HB7 hpl ⊢
        clear hW7
        go_upto_if 71 with fail
        go_cut [] from 15 (fun wx => Hid (Pb wx pk (kindW tw0) (rdN tw1) (rdN te0) (rdN te1) (cD s)) ∧ Hid (W7.grownBy wx (some pk)))
        case first => as_aux_lemma =>
          by_cases h5 : (pw s).length = 5
          · have e5 : (((pw s).length : Int) == 5) = true := by simp; omega
            have l4 : (4 : Int) < ((pw s).length : Int) := by omega
            have c4 := strs_cell HO7.out (show 4 < (pw s).length by omega)
            rw [← Htw4.out] at c4
            have HDd : Hid (cD s = tw4) := Lib.hid (by unfold cD; rw [if_pos h5, Htw4.out])
            have p4 := HP7.out.cells.2.2.2.2
            have pf := HP7.out.free 4
            have hst := Pb.set (i := 4) HP7.out (.string tw4)
            have HST := Lib.hid hst
            clear h5 hst
            go_wp2_with fail
            go_meet
            case rel => exact ⟨Lib.hid (by rw [HDd.out]; unfold Pb; rw [HST.out.1]; rfl), Lib.hid HST.out.2⟩
          · have e5 : (((pw s).length : Int) == 5) = false := by simp; omega
            have HDd : Hid (cD s = ⟨#[]⟩) := Lib.hid (by unfold cD; rw [if_neg h5])
            clear h5
            go_wp2_with fail
            go_meet
            case rel => exact ⟨Lib.hid (by rw [HDd.out]; exact HP7.out), Lib.hid ⟨rfl, rfl, rfl, Nat.le_refl _, fun _ _ _ => rfl⟩⟩
        case rest => as_aux_lemma =>
          obtain ⟨HP8, HG8⟩ := hcut
          have hb8 : Below (w.heap.size + 2) W7 wc := below_of_grown HG8.out (by have := HN7.out.lt; omega) (fun k hk => by have e : pk = k := Option.some.inj hk; omega)
          have HR8 := Lib.hid (HR7.out.below hb8 (by omega))
          have HN8 := Lib.hid (HN7.out.below hb8 (by omega))
          have HB8 := Lib.hid (HB7.out.trans (hb8.mono (by omega)))
          have hdz : (cD s).size ≤ 1048576 := cD_size (by rw [← Htw4.out]; exact ztw4)
          have HOR : Hid (okR s = (rdB tw1 && (rdB te0 && rdB te1))) := Lib.hid (by unfold okR; rw [Htw1.out, Hte0.out, Hte1.out])
          have HOP : Hid (okP s = (pktOk (kindW tw0) (rdN tw1) (rdN te0) (rdN te1) (cD s) && decide (lineB (kindW tw0) (rdN tw1) (rdN te0) (rdN te1) (cD s) = s))) := Lib.hid (by unfold okP cK cN cT cL; rw [Htw0.out, Htw1.out, Hte0.out, Hte1.out])
          have HPG : Hid (okP s = true → parB s = true ∧ parV s = pv (cK s) (cN s) (cT s) (cL s) (cD s)) := Lib.hid par_good
          have HCV : Hid (pv (cK s) (cN s) (cT s) (cL s) (cD s) = pv (kindW tw0) (rdN tw1) (rdN te0) (rdN te1) (cD s)) := Lib.hid (by unfold cK cN cT cL; rw [Htw0.out, Htw1.out, Hte0.out, Hte1.out])
          clear HP7 HO7 HR7 HN7 HB7 HG8 hb8 Htw0 Htw1 Htw3 Htw4 Hte0 Hte1 HRd hpl hpk
          generalize kindW tw0 = xk at *
          generalize rdN tw1 = xn at *
          generalize rdN te0 = xt at *
          generalize rdN te1 = xl at *
          generalize rdB tw1 = r1 at *
          generalize rdB te0 = r2 at *
          generalize rdB te1 = r3 at *
          generalize cD s = d at *
          obtain ⟨W8, hW8⟩ : ∃ W, W = wc := ⟨_, rfl⟩
          rw [← hW8] at HP8 HR8 HN8 HB8 ⊢
          clear hW8
          go_upto_region 15 with fail
          go_cut [96] from 15 to 96 (fun b wx => b = .bool (!(okR s && okP s)) ∧ Hid (Below W8.heap.size W8 wx))
          case first => as_aux_lemma =>
            have HGo := Lib.hid (l4Good_any xk xn xt xl d W8 (by unfold maxLen; omega))
            cases r1 with
            | false =>
              go_wp2_with fail
              go_meet
              case rel => exact ⟨by rw [HOR.out]; rfl, Lib.hid (Below.refl _ _)⟩
            | true =>
              cases r2 with
              | false =>
                go_wp2_with fail
                go_meet
                case rel => exact ⟨by rw [HOR.out]; rfl, Lib.hid (Below.refl _ _)⟩
              | true =>
                cases r3 with
                | false =>
                  go_wp2_with fail
                  go_meet
                  case rel => exact ⟨by rw [HOR.out]; rfl, Lib.hid (Below.refl _ _)⟩
                | true =>
                  obtain ⟨e0, e1, e2, e3, e4⟩ := HP8.out.cells
                  go_wp2_with fail
                  refine HGo.out.mono ?_
                  rintro e W9 ⟨rfl, b9⟩
                  have HP9 := Lib.hid (HP8.out.below b9 HP8.out.lt)
                  have HB9 := Lib.hid b9
                  clear b9 e0 e1 e2 e3 e4 HGo
                  cases hpk : pktOk xk xn xt xl d with
                  | false =>
                    have HF : Hid (okP s = false) := Lib.hid (by rw [HOP.out, hpk]; rfl)
                    clear hpk
                    go_wp2_with fail
                    go_meet
                    case rel => exact ⟨by rw [HF.out, Bool.and_false]; rfl, HB9⟩
                  | true =>
                    have HLn := Lib.hid (l4Line_any xk xn xt xl d W9 hpk)
                    have HF : Hid (okP s = decide (lineB xk xn xt xl d = s)) := Lib.hid (by rw [HOP.out, hpk]; rfl)
                    generalize lineB xk xn xt xl d = es at HLn HF
                    obtain ⟨e0, e1, e2, e3, e4⟩ := HP9.out.cells
                    clear hpk
                    go_wp2_with fail
                    refine HLn.out.mono ?_
                    rintro e W10 ⟨rfl, b10⟩
                    have HB10 := Lib.hid (HB9.out.trans (b10.mono HB9.out.size))
                    clear b10 e0 e1 e2 e3 e4
                    by_cases hes : es = s
                    · have HF2 : Hid (okP s = true) := Lib.hid (by rw [HF.out]; exact decide_eq_true hes)
                      subst hes
                      go_wp2_with fail
                      go_meet
                      case rel => exact ⟨by rw [HF2.out, HOR.out]; rfl, HB10⟩
                    · have HF2 : Hid (okP s = false) := Lib.hid (by rw [HF.out]; exact decide_eq_false hes)
                      have hne : (es.toList == s.toList) = false := list_ne hes
                      clear hes
                      go_wp2_with fail
                      go_meet
                      case rel => exact ⟨by rw [HF2.out, Bool.and_false]; rfl, HB10⟩
          case rest => as_aux_lemma =>
            obtain ⟨rfl, HB89⟩ := hcut
            have HP9 := Lib.hid (HP8.out.below HB89.out HP8.out.lt)
            have HR9 := Lib.hid (HR8.out.below HB89.out HR8.out.lt)
            have HN9 := Lib.hid (HN8.out.below HB89.out HN8.out.lt)
            have HB9 := Lib.hid (HB8.out.trans (HB89.out.mono HB8.out.size))
            clear HP8 HR8 HN8 HB8 HB89
            cases hok : okR s && okP s with
            | false =>
              have HF : Hid (parB s = false ∧ parV s = pv 0 0 0 0 ⟨#[]⟩) := Lib.hid (by
                rw [Bool.and_eq_false_iff] at hok
                rcases hok with h | h
                · exact par_fail (.inr (.inr (.inl h)))
                · exact par_fail (.inr (.inr (.inr h))))
              clear hok
              obtain ⟨n0, n1, n2, n3, n4⟩ := HN9.out.cells
              obtain ⟨r0, r1, r2, r3, r4⟩ := HR9.out.cells
              have f0 := HR9.out.free 0
              have f1 := HR9.out.free 1
              have f2 := HR9.out.free 2
              have f3 := HR9.out.free 3
              have f4 := HR9.out.free 4
              go_wp2_with fail
              obtain ⟨hp1, hg1⟩ := HR9.out.store (k' := 0) (n' := 0) (t' := 0) (l' := 0) (d' := ⟨#[]⟩)
              refine bodyPost_ret (results_pkt rfl _ _ w.heap.size rfl rfl hp1) rfl ⟨ret_vb HF.out.2.symm HF.out.1.symm, ?_⟩
              exact HB9.out.grown hg1 HB9.out.size (fun k hk => by have e : w.heap.size = k := Option.some.inj hk; omega)
            | true =>
              rw [Bool.and_eq_true] at hok
              have HF : Hid (parB s = true ∧ parV s = pv xk xn xt xl d) := Lib.hid (by rw [← HCV.out]; exact HPG.out hok.2)
              obtain ⟨e0, e1, e2, e3, e4⟩ := HP9.out.cells
              obtain ⟨r0, r1, r2, r3, r4⟩ := HR9.out.cells
              have f0 := HR9.out.free 0
              have f1 := HR9.out.free 1
              have f2 := HR9.out.free 2
              have f3 := HR9.out.free 3
              have f4 := HR9.out.free 4
              clear hok
              go_wp2_with fail
              obtain ⟨hp1, hg1⟩ := HR9.out.store (k' := xk) (n' := xn) (t' := xt) (l' := xl) (d' := d)
              refine bodyPost_ret (results_pkt rfl _ _ w.heap.size rfl rfl hp1) rfl ⟨ret_vb HF.out.2.symm HF.out.1.symm, ?_⟩
              exact HB9.out.grown hg1 HB9.out.size (fun k hk => by have e : w.heap.size = k := Option.some.inj hk; omega)
set_option maxHeartbeats 1000000 in
theorem specParseLine_any (s : ByteArray) (w : World) (hs : s.size ≤ 1048576) :
    Calls Tryz.prog 10 #[.string s] w fun e w' => e = .returned (.tuple #[parV s, .bool (parB s)]) ∧ Below w.heap.size w w' := by
  have HC := Lib.hid (fun w => l4Parse_any s w hs)
  obtain ⟨k, n, t, l, d, hv⟩ : ∃ k n t l d, parV s = pv k n t l d := ⟨_, _, _, _, _, rfl⟩
  rw [hv] at HC ⊢
  generalize parB s = ok at HC
  clear hv
  unfold pv at HC
  go_enter Tryz.func10, Tryz.ntmps10
  go_wp2_with fail
  refine (HC.out _).mono ?_
  rintro e w1 ⟨rfl, l1⟩
  have HR := Lib.hid ((heap_new1 w 0 0 0 0 ⟨#[]⟩).below l1 (by simp))
  have HB := Lib.hid (((Below.refl w.heap.size w).alloc (Nat.le_refl _) (.cells #[.int .i64 0, .int .i64 0, .int .i64 0, .int .i64 0, .string ⟨#[]⟩] 25)).trans (l1.mono (by simp)))
  clear l1 HC
  obtain ⟨r0, r1, r2, r3, r4⟩ := HR.out.cells
  have f0 := HR.out.free 0
  have f1 := HR.out.free 1
  have f2 := HR.out.free 2
  have f3 := HR.out.free 3
  have f4 := HR.out.free 4
  go_wp2_with fail
  obtain ⟨hp1, hg1⟩ := HR.out.store (k' := k) (n' := n) (t' := t) (l' := l) (d' := d)
  refine bodyPost_ret (results_pkt rfl _ _ w.heap.size rfl rfl hp1) rfl ⟨rfl, ?_⟩
  exact HB.out.grown hg1 HB.out.size (fun k hk => by have e : w.heap.size = k := Option.some.inj hk; omega)
end Go.Proofs.YtncjplcefdeckaaGreatDoor
