/-
  Sealed texts: 'l1Seal' and AppendChecksum of both packages.
-/
import Derived.Test.YtjdlkkhkaobpnaaDoorSum
import Derived.Test.YtjdlkkhkaobpnaaDoorMath2
import Derived.Test.YtjdlkkhkaobpnaaDoorJoin
import Derived.Test.YtjdlkkhkaobpnaaDoorFill
import Derived.Test.YtjdlkkhkaobpnaaDoorTab
import Derived.Laws.Concat
namespace Go.Proofs.YtjdlkkhkaobpnaaDoor
open Go.RowKit

namespace M
/-- A text, '#', and its checksum in decimal. -/
def sld (l : List UInt8) : List UInt8 := l ++ 35 :: Lib.itoa (ck l)

theorem ck_nat (l : List UInt8) : ∃ u : Nat, u ≤ 999978 ∧ ck l = u := ⟨(ck l).toNat, by have := ck_bd l; omega, by have := ck_bd l; omega⟩
theorem itoa_ck (l : List UInt8) : allDig (Lib.itoa (ck l)) ∧ (Lib.itoa (ck l)).length ≤ 6 := by
  obtain ⟨u, hu, e⟩ := ck_nat l
  rw [e, itoa_nat]
  exact ⟨(dec_props u).1, (dec_len (by omega)).2⟩
theorem no_sharp (l : List UInt8) : (35 : UInt8) ∉ Lib.itoa (ck l) := fun h => by
  have := ((itoa_ck l).1 35 h).1
  simp at this
end M

/-- The digits of a text's checksum. -/
def dg (s : ByteArray) : ByteArray := ⟨(Lib.itoa (M.ck s.data.toList)).toArray⟩

theorem joined_seal (s : ByteArray) : M.joined [s, dg s] 35 = M.sld s.data.toList := by
  have := M.joined_snoc [s] (dg s) 35 (by simp)
  simp only [List.cons_append, List.nil_append] at this
  rw [this, M.joined_one]
  simp [M.sld, dg]

/-- What AppendChecksum returns. -/
noncomputable def sealOut (s : ByteArray) : Value :=
  open Classical in if M.has s 35 = false ∧ (M.sld s.data.toList).length ≤ 4000 then .tuple #[.string ⟨(M.sld s.data.toList).toArray⟩, .bool true] else .tuple #[.string ⟨#[]⟩, .bool false]
theorem sealOut_yes {s : ByteArray} (h1 : M.has s 35 = false) (h2 : (M.sld s.data.toList).length ≤ 4000) : sealOut s = .tuple #[.string ⟨(M.sld s.data.toList).toArray⟩, .bool true] := if_pos ⟨h1, h2⟩
theorem sealOut_no {s : ByteArray} (h : ¬ (M.has s 35 = false ∧ (M.sld s.data.toList).length ≤ 4000)) : sealOut s = .tuple #[.string ⟨#[]⟩, .bool false] := if_neg h
theorem seal_len (s : ByteArray) : s.size < (M.sld s.data.toList).length := by
  unfold M.sld; rw [List.length_append, List.length_cons]
  have : s.data.toList.length = s.size := by simp
  omega

theorem sealOut_big {s : ByteArray} (h : ¬ s.size ≤ 4000) : sealOut s = .tuple #[.string ⟨#[]⟩, .bool false] :=
  sealOut_no fun hh => by have := seal_len s; omega

theorem fits_seal (s : ByteArray) : M.fits [s, dg s] 35 ↔ (M.has s 35 = false ∧ (M.sld s.data.toList).length ≤ 4000) := by
  unfold M.fits
  rw [joined_seal]
  have hd : M.has (dg s) 35 = false := by
    unfold M.has dg
    rw [decide_eq_false_iff_not]
    exact M.no_sharp s.data.toList
  simp only [List.mem_cons, List.not_mem_nil, or_false, forall_eq_or_imp, forall_eq, hd, and_true]

theorem join_seal (s : ByteArray) : joinOut [s, dg s] ⟨#[35]⟩ = sealOut s := by
  by_cases h : M.has s 35 = false ∧ (M.sld s.data.toList).length ≤ 4000
  · rw [sealOut_yes h.1 h.2, joinOut_yes (by simp) ((fits_seal s).2 h), joined_seal]
  · rw [sealOut_no h, joinOut_no (fun hh => h ((fits_seal s).1 hh))]

theorem sealOut_form (s : ByteArray) : ∃ t b, sealOut s = .tuple #[.string t, .bool b] := by
  unfold sealOut; split
  · exact ⟨_, _, rfl⟩
  · exact ⟨_, _, rfl⟩

theorem dg_size (s : ByteArray) : (dg s).size ≤ 6 := by
  have := (M.itoa_ck s.data.toList).2
  unfold dg; rw [size_of_list]; exact this

set_option maxHeartbeats 400000 in
/-- 'l1Seal': the text sealed. -/
theorem l1Seal_any (s : ByteArray) (hs : s.size ≤ 1048576) (w : World) :
    Calls Tryd.prog 34 #[.string s] w fun e w' => e = .returned (.string ⟨(M.sld s.data.toList).toArray⟩) ∧ ∃ k, w' = w.drewN k := by
  have hm : s.size ≤ maxLen := by unfold maxLen; omega
  have hb := M.ck_bd s.data.toList
  have hd := Lib.hid (dg_size s)
  have hadd1 : ∀ W : World, (Op.stringOp .add s ⟨#[35]⟩).run Tryd.prog W = .ok (.string (s ++ ⟨#[35]⟩)) W := fun W => run_string_add_sum W _ _ (by show s.size + 1 ≤ _; omega)
  have hadd2 : ∀ W : World, (Op.stringOp .add (s ++ ⟨#[35]⟩) ⟨(Lib.itoa (M.ck s.data.toList)).toArray⟩).run Tryd.prog W = .ok (.string ⟨(M.sld s.data.toList).toArray⟩) W := fun W => by
    rw [run_string_add_sum W _ _ (by have := hd.out; unfold dg at this; rw [ByteArray.size_append]; show s.size + 1 + _ ≤ _; omega)]
    congr 2
    apply ByteArray.ext
    simp [M.sld]
  have HN := Lib.hid (l1Num_any (M.ck s.data.toList) (by omega) (by omega))
  have HM := Lib.hid hm
  clear hm hb hs
  go_enter Tryd.func34, Tryd.ntmps34
  go_wp2_with (first | (go_at_call 43; refine (l1Sum_any s _ HM.out).mono ?_; rintro e w' ⟨rfl, rfl⟩) | (go_at_call 25; refine (HN.out _).mono ?_; rintro e w' ⟨rfl, k, rfl⟩))
  go_ret
  exact ⟨rfl, _, rfl⟩

set_option maxHeartbeats 400000 in
theorem specAppend_any (s : ByteArray) (hs : s.size ≤ 1048576) (w : World) :
    Calls Tryd.prog 17 #[.string s] w fun e w' => e = .returned (sealOut s) ∧ ∃ k, w' = w.drewN k := by
  have hm : s.size ≤ maxLen := by unfold maxLen; omega
  have HM := Lib.hid hm
  have H1 := Lib.hid hs
  clear hm
  have HL := Lib.hid (l1Stands_any s 35 HM.out)
  by_cases h4 : s.size ≤ 4000
  · cases hh : M.has s 35 with
    | true =>
      have HO := Lib.hid (sealOut_no (s := s) (by rw [hh]; simp))
      go_enter Tryd.func17, Tryd.ntmps17
      go_wp2_with (go_at_call 33; refine (HL.out _).mono ?_; rintro e w' ⟨rfl, rfl⟩; rw [hh])
      go_ret2
      exact ⟨by rw [HO.out]; rfl, 0, rfl⟩
    | false =>
      obtain ⟨z, hz⟩ : ∃ z : ByteArray, z = ⟨(M.sld s.data.toList).toArray⟩ := ⟨_, rfl⟩
      have hsz : z.size = (M.sld s.data.toList).length := by rw [hz, size_of_list]
      have hcall : ∀ w, Calls Tryd.prog 34 #[.string s] w fun e w' => e = .returned (.string z) ∧ ∃ k, w' = w.drewN k := fun w => by
        rw [hz]; exact l1Seal_any s H1.out w
      have HK := Lib.hid hcall
      have HZ := Lib.hid hz
      have HS := Lib.hid hsz
      clear hcall hz hsz
      by_cases h2 : z.size ≤ 4000
      · have HO := Lib.hid (sealOut_yes hh (by rw [← HS.out]; exact h2))
        go_enter Tryd.func17, Tryd.ntmps17
        go_wp2_with (first | (go_at_call 33; refine (HL.out _).mono ?_; rintro e w' ⟨rfl, rfl⟩; rw [hh]) | (go_at_call 34; refine (HK.out _).mono ?_; rintro e w' ⟨rfl, k, rfl⟩))
        go_ret2
        exact ⟨by rw [HO.out, HZ.out]; rfl, _, rfl⟩
      · have HO := Lib.hid (sealOut_no (s := s) (fun h => h2 (by rw [HS.out]; exact h.2)))
        go_enter Tryd.func17, Tryd.ntmps17
        go_wp2_with (first | (go_at_call 33; refine (HL.out _).mono ?_; rintro e w' ⟨rfl, rfl⟩; rw [hh]) | (go_at_call 34; refine (HK.out _).mono ?_; rintro e w' ⟨rfl, k, rfl⟩))
        go_ret2
        exact ⟨by rw [HO.out]; rfl, _, rfl⟩
  · rw [sealOut_big h4]
    go_enter Tryd.func17, Tryd.ntmps17
    go_wp2_with fail
    go_ret2
    exact ⟨rfl, 0, rfl⟩
end Go.Proofs.YtjdlkkhkaobpnaaDoor
