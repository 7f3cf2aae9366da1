/-
  VerifyChecksum of both packages, and its exact law.
-/
import Derived.Test.YtjdlkkhkaobpnaaDoorAppend
import Derived.Test.YtjdlkkhkaobpnaaDoorSplit
namespace Go.Proofs.YtjdlkkhkaobpnaaDoor
open Go.RowKit

namespace M
/-- What stands before the first '#'. -/
def pre (l : List UInt8) : List UInt8 := (parts 35 l).headD []
theorem pre_clean (l : List UInt8) : (35 : UInt8) ∉ pre l := by
  unfold pre
  cases h : parts 35 l with
  | nil => simp
  | cons x xs => exact parts_clean 35 l x (by rw [h]; simp)
theorem pre_cut (l : List UInt8) : (Lib.cut l [35]).1 = pre l := by
  unfold Lib.cut
  rw [Lib.index_one]
  have h1 := Lib.indexByte_ge l 35
  by_cases h : Lib.indexByte l 35 = -1
  · rw [if_neg (by omega)]
    have hno : (35 : UInt8) ∉ l := fun hm => by
      obtain ⟨k, hk⟩ := List.getElem?_of_mem hm
      exact Lib.indexByte_none h k hk
    unfold pre
    rw [parts_one 35 l hno]; rfl
  · obtain ⟨o, ho⟩ : ∃ o : Nat, Lib.indexByte l 35 = o := ⟨(Lib.indexByte l 35).toNat, by omega⟩
    rw [if_pos (by omega), ho, Int.toNat_natCast]
    obtain ⟨h2, h3⟩ := Lib.indexByte_some ho
    obtain ⟨hlt, hv⟩ := List.getElem?_eq_some_iff.1 h2
    have hno : (35 : UInt8) ∉ l.take o := fun hm => by
      obtain ⟨k, hk⟩ := List.getElem?_of_mem hm
      rw [List.getElem?_take] at hk
      split at hk
      · exact h3 k (by assumption) hk
      · cases hk
    have e : l = l.take o ++ 35 :: l.drop (o + 1) := by
      have := (List.take_append_drop o l).symm
      rw [List.drop_eq_getElem_cons hlt, hv] at this
      exact this
    have := parts_head 35 (l.take o) (l.drop (o + 1)) hno
    rw [← e] at this
    unfold pre
    show l.take o = _
    cases h4 : parts 35 l with
    | nil => exact absurd h4 (parts_ne 35 l)
    | cons x xs => rw [h4] at this; simp at this; simp [this]
theorem pre_le (l : List UInt8) : (pre l).length ≤ l.length := by
  rw [← pre_cut]
  unfold Lib.cut
  split
  · simp; omega
  · simp
end M

/-- What stands before the first '#', as a text. -/
def preS (s : ByteArray) : ByteArray := ⟨(M.pre s.data.toList).toArray⟩
theorem preS_size (s : ByteArray) : (preS s).size ≤ s.size := by
  unfold preS; rw [size_of_list]
  have := M.pre_le s.data.toList
  simpa using this
theorem preS_has (s : ByteArray) : M.has (preS s) 35 = false := by
  unfold M.has preS
  rw [decide_eq_false_iff_not]
  exact M.pre_clean s.data.toList
/-- The seal of what stands there. -/
def preSeal (s : ByteArray) : ByteArray := ⟨(M.sld (preS s).data.toList).toArray⟩

/-- What VerifyChecksum returns. -/
noncomputable def verOut (s : ByteArray) : Value :=
  open Classical in if s.size ≤ 4000 ∧ preSeal s = s then .tuple #[.string (preS s), .bool true] else .tuple #[.string ⟨#[]⟩, .bool false]
theorem verOut_yes {s : ByteArray} (h1 : s.size ≤ 4000) (h2 : preSeal s = s) : verOut s = .tuple #[.string (preS s), .bool true] := if_pos ⟨h1, h2⟩
theorem verOut_no {s : ByteArray} (h : ¬ (s.size ≤ 4000 ∧ preSeal s = s)) : verOut s = .tuple #[.string ⟨#[]⟩, .bool false] := if_neg h
theorem verOut_form (s : ByteArray) : ∃ t b, verOut s = .tuple #[.string t, .bool b] := by
  unfold verOut; split
  · exact ⟨_, _, rfl⟩
  · exact ⟨_, _, rfl⟩
theorem bytes_same {x y : ByteArray} (h : (!x.toList == y.toList) = false) : x = y := by
  have h1 : x.toList = y.toList := by simpa using h
  rw [ByteArray.toList_eq, ByteArray.toList_eq] at h1
  apply ByteArray.ext
  exact Array.toList_inj.1 h1
theorem bytes_other {x y : ByteArray} (h : (!x.toList == y.toList) = true) : x ≠ y := fun e => by
  subst e; simp at h

theorem seal_sealOut {s : ByteArray} (h : ¬ (s.size ≤ 4000 ∧ preSeal s = s)) (t : ByteArray) (b : Bool) (ho : sealOut (preS s) = .tuple #[.string t, .bool b]) (hb : b = true) : t ≠ s := fun e => by
  subst e
  by_cases hf : M.has (preS t) 35 = false ∧ (M.sld (preS t).data.toList).length ≤ 4000
  · rw [sealOut_yes hf.1 hf.2] at ho
    have e1 : preSeal t = t := by
      unfold preSeal
      injection ho with ho
      injection ho with ho
      injection ho with ho1 _
      injection ho1
    refine h ⟨?_, e1⟩
    have := hf.2
    rw [← e1]
    unfold preSeal
    rw [size_of_list]; exact this
  · rw [sealOut_no hf] at ho
    injection ho with ho
    injection ho with ho
    injection ho with _ ho2
    injection ho2 with ho2 _
    injection ho2 with ho2
    rw [← ho2] at hb
    cases hb

set_option maxHeartbeats 400000 in
theorem specVerify_any (s : ByteArray) (hs : s.size ≤ 1048576) (w : World) :
    Calls Tryd.prog 20 #[.string s] w fun e w' => e = .returned (verOut s) ∧ Below w.heap.size w w' := by
  have H1 := Lib.hid hs
  by_cases h4 : s.size ≤ 4000
  · have hpos : 0 < (M.parts 35 s.data.toList).length := by have := M.parts_ne 35 s.data.toList; exact List.length_pos_iff.2 this
    have hps := preS_size s
    have hcell : ∀ (v : Value) (w' : World), w'.ownsRow w.heap.size 9 1 v (M.parts 35 s.data.toList).length ((M.parts 35 s.data.toList).map strV) →
        ∃ g n cap, v = .slice (some ⟨g, 0, none⟩) n cap ∧ 0 < n ∧ w'.cell? ⟨g, 0, none⟩ = some (.string (preS s)) := fun v w' h => by
      rcases h.2 with ⟨_, h0⟩ | ⟨g, cap, cur, rfl, _⟩
      · omega
      · refine ⟨g, _, _, rfl, hpos, ?_⟩
        have := h.cells (g := g) rfl 0 (.string (preS s)) (by
          unfold preS M.pre
          cases h5 : M.parts 35 s.data.toList with
          | nil => exact absurd h5 (M.parts_ne 35 _)
          | cons x xs => rfl)
        simpa [Addr.add] using this
    have HC := Lib.hid hcell
    obtain ⟨p, hp⟩ : ∃ p, p = preS s := ⟨_, rfl⟩
    have hcs : ∀ w, Calls Tryd.prog 34 #[.string p] w fun e w' => e = .returned (.string (preSeal s)) ∧ ∃ k, w' = w.drewN k := fun w => by
      rw [hp]; exact l1Seal_any (preS s) (by omega) w
    have HS := Lib.hid hcs
    have HP := Lib.hid hp
    obtain ⟨z, hz⟩ : ∃ z, z = preSeal s := ⟨_, rfl⟩
    rw [← hz] at HS
    rw [← hp] at HC
    have HZ := Lib.hid hz
    clear hcell hcs hp hz hps hpos
    go_enter Tryd.func20, Tryd.ntmps20
    go_wp2_with fail
    refine (l1Split_any s 35 H1.out _).mono ?_
    rintro e w1 ⟨v, rfl, hown, hb⟩
    obtain ⟨g, n, cap, rfl, hn, hc⟩ := HC.out v w1 hown
    clear hown
    go_wp2_with (go_at_call 34; refine (HS.out _).mono ?_; rintro e w' ⟨rfl, k, rfl⟩)
    · go_ret2
      exact ⟨by rw [verOut_no (fun h => bytes_other (by assumption) (by rw [HZ.out]; exact h.2))]; rfl, hb.trans ((bdrew _ _).mono hb.size)⟩
    · go_ret2
      exact ⟨by rw [verOut_yes h4 (by rw [← HZ.out]; exact bytes_same (by assumption)), HP.out]; rfl, hb.trans ((bdrew _ _).mono hb.size)⟩
  · rw [verOut_no (fun h => h4 h.1)]
    go_enter Tryd.func20, Tryd.ntmps20
    go_wp2_with fail
    go_ret2
    exact ⟨rfl, Below.refl _ _⟩
end Go.Proofs.YtjdlkkhkaobpnaaDoor
