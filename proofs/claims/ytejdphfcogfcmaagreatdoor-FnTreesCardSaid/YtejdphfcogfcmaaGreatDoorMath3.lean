/-
  Plain mathematics of joined texts.
-/
import Derived.Lib.Join
import Derived.Lib.IndexLaws
import Derived.Lib.Hide
namespace Go.Proofs.YtejdphfcogfcmaaGreatDoor.M

/-- The parts as lists of bytes. -/
def pl (ps : List ByteArray) : List (List UInt8) := ps.map fun p => p.data.toList
/-- How long the parts are together, with a byte between two. -/
def sumLen (ps : List ByteArray) : Nat := (ps.map fun p => p.size).sum
/-- Whether the byte stands in a part. -/
def has (p : ByteArray) (c : UInt8) : Bool := decide (c ∈ p.data.toList)

def joined (ps : List ByteArray) (c : UInt8) : List UInt8 := Lib.join (pl ps) [c]

theorem joined_nil (c : UInt8) : joined [] c = [] := rfl

theorem joined_snoc (ps : List ByteArray) (p : ByteArray) (c : UInt8) (h : ps ≠ []) : joined (ps ++ [p]) c = joined ps c ++ [c] ++ p.data.toList := by
  unfold joined pl
  match ps, h with
  | x :: r, _ =>
    simp only [List.cons_append, List.map_cons, List.map_append, List.map_nil]
    rw [Lib.join_cons, Lib.join_cons]
    simp [Lib.joinTail]

theorem joined_one (p : ByteArray) (c : UInt8) : joined [p] c = p.data.toList := Lib.join_one _ _

theorem sumLen_snoc (ps : List ByteArray) (p : ByteArray) : sumLen (ps ++ [p]) = sumLen ps + p.size := by simp [sumLen]

theorem joined_length (ps : List ByteArray) (c : UInt8) (h : ps ≠ []) : (joined ps c).length = (ps.length - 1) + sumLen ps := by
  match ps, h with
  | x :: r, _ =>
    unfold joined
    show (Lib.join (x.data.toList :: pl r) [c]).length = _
    rw [Lib.join_length]
    have : ∀ l : List ByteArray, Lib.lens (pl l) = sumLen l := by
      intro l
      induction l with
      | nil => rfl
      | cons a l ih =>
        have e : Lib.lens (pl (a :: l)) = a.data.toList.length + Lib.lens (pl l) := by simp [pl, Lib.lens]
        rw [e, ih]; simp [sumLen]
    have h2 := this (x :: r)
    have e : pl (x :: r) = x.data.toList :: pl r := rfl
    rw [e] at h2
    rw [h2]
    simp [pl]

theorem sumLen_take_le : ∀ (ps : List ByteArray) (k : Nat), sumLen (ps.take k) ≤ sumLen ps
  | [], k => by simp
  | p :: ps, 0 => by simp [sumLen]
  | p :: ps, k + 1 => by
    have := sumLen_take_le ps k
    simp only [sumLen, List.take_succ_cons, List.map_cons, List.sum_cons] at this ⊢
    omega

theorem take_snoc' {α : Type} (l : List α) (k : Nat) (h : k < l.length) : l.take (k + 1) = l.take k ++ [l[k]] := by
  rw [List.take_succ_eq_append_getElem h]

/-- The parts can be joined. -/
def fits (ps : List ByteArray) (c : UInt8) : Prop := (∀ p ∈ ps, has p c = false) ∧ (joined ps c).length ≤ 4000

theorem fits_not_has {ps : List ByteArray} {c : UInt8} {k : Nat} (hk : k < ps.length) (h : has ps[k] c = true) : ¬ fits ps c := fun hf => by
  have := hf.1 ps[k] (List.getElem_mem hk)
  rw [h] at this; cases this

theorem fits_not_len {ps : List ByteArray} {c : UInt8} {k : Nat} (hk : k < ps.length) (h : 4000 < (ps.length - 1) + sumLen (ps.take (k + 1))) : ¬ fits ps c := fun hf => by
  have h1 := hf.2
  rw [joined_length ps c (by intro e; subst e; simp at hk)] at h1
  have := sumLen_take_le ps (k + 1)
  omega

theorem fits_not_len' {ps : List ByteArray} {c : UInt8} {k : Nat} (hk : k < ps.length) (h : 4000 < (joined (ps.take (k + 1)) c).length) : ¬ fits ps c := by
  rw [joined_length _ c (by intro e; have := congrArg List.length e; rw [List.length_take, List.length_nil] at this; omega), List.length_take] at h
  exact fits_not_len hk (by omega)

theorem all_snoc {ps : List ByteArray} {c : UInt8} {k : Nat} (hk : k < ps.length) (h : ∀ p ∈ ps.take k, has p c = false) (h1 : has ps[k] c = false) : ∀ p ∈ ps.take (k + 1), has p c = false := by
  intro p hp
  rw [take_snoc' ps k hk] at hp
  rcases List.mem_append.1 hp with h2 | h2
  · exact h p h2
  · simp at h2; subst h2; exact h1

theorem has_index (p : ByteArray) (c : UInt8) : decide (0 ≤ Lib.indexByte p.data.toList c) = has p c := by
  unfold has
  rw [Bool.eq_iff_iff, decide_eq_true_iff, decide_eq_true_iff]
  constructor
  · intro h
    obtain ⟨o, ho⟩ : ∃ o : Nat, Lib.indexByte p.data.toList c = o := ⟨(Lib.indexByte p.data.toList c).toNat, by omega⟩
    exact List.mem_of_getElem? (Lib.indexByte_some ho).1
  · intro h
    have h1 := Lib.indexByte_ge p.data.toList c
    by_cases h2 : Lib.indexByte p.data.toList c = -1
    · obtain ⟨k, hk⟩ := List.getElem?_of_mem h
      exact absurd hk (Lib.indexByte_none h2 k)
    · omega
end Go.Proofs.YtejdphfcogfcmaaGreatDoor.M
