/-
  Plain mathematics of splitting a text at a byte.
-/
import Derived.Lib.Hide
namespace Go.Proofs.YtpmjdppipalfcaaDoor.M

def spStep (c : UInt8) (st : List (List UInt8) × List UInt8) (x : UInt8) : List (List UInt8) × List UInt8 :=
  if x = c then (st.1 ++ [st.2], []) else (st.1, st.2 ++ [x])
/-- The parts that are over, and the one that has begun. -/
def sp (c : UInt8) (l : List UInt8) : List (List UInt8) × List UInt8 := l.foldl (spStep c) ([], [])
/-- The parts of a text between a byte. -/
def parts (c : UInt8) (l : List UInt8) : List (List UInt8) := (sp c l).1 ++ [(sp c l).2]

theorem sp_snoc (c : UInt8) (l : List UInt8) (x : UInt8) : sp c (l ++ [x]) = spStep c (sp c l) x := by simp [sp]
theorem sp_nil (c : UInt8) : sp c [] = ([], []) := rfl
theorem sp_hit (c : UInt8) (l : List UInt8) : sp c (l ++ [c]) = ((sp c l).1 ++ [(sp c l).2], []) := by rw [sp_snoc]; simp [spStep]
theorem sp_miss (c : UInt8) (l : List UInt8) (x : UInt8) (h : x ≠ c) : sp c (l ++ [x]) = ((sp c l).1, (sp c l).2 ++ [x]) := by rw [sp_snoc]; simp [spStep, h]

theorem spStep_len (c : UInt8) (st : List (List UInt8) × List UInt8) (x : UInt8) : (spStep c st x).1.length ≤ st.1.length + 1 := by
  unfold spStep; split <;> simp
theorem foldl_len (c : UInt8) : ∀ (l : List UInt8) (st : List (List UInt8) × List UInt8), (l.foldl (spStep c) st).1.length ≤ st.1.length + l.length
  | [], st => by simp
  | x :: l, st => by
    have h1 := foldl_len c l (spStep c st x)
    have h2 := spStep_len c st x
    simp only [List.foldl_cons, List.length_cons]
    omega
theorem sp_len (c : UInt8) (l : List UInt8) : (sp c l).1.length ≤ l.length := by
  have := foldl_len c l ([], []); simpa [sp] using this

/-- The parts, each with the byte behind it, and what has begun: the text. -/
theorem foldl_text (c : UInt8) : ∀ (l : List UInt8) (st : List (List UInt8) × List UInt8),
    ((l.foldl (spStep c) st).1.map (· ++ [c])).flatten ++ (l.foldl (spStep c) st).2 = (st.1.map (· ++ [c])).flatten ++ st.2 ++ l
  | [], st => by simp
  | x :: l, st => by
    rw [List.foldl_cons, foldl_text c l (spStep c st x)]
    unfold spStep
    split
    · rename_i h; subst h; simp
    · simp
theorem sp_text (c : UInt8) (l : List UInt8) : ((sp c l).1.map (· ++ [c])).flatten ++ (sp c l).2 = l := by
  have := foldl_text c l ([], []); simpa [sp] using this

theorem foldl_clean (c : UInt8) : ∀ (l : List UInt8) (st : List (List UInt8) × List UInt8), (∀ p ∈ st.1, c ∉ p) → c ∉ st.2 →
    (∀ p ∈ (l.foldl (spStep c) st).1, c ∉ p) ∧ c ∉ (l.foldl (spStep c) st).2
  | [], _, h1, h2 => ⟨h1, h2⟩
  | x :: l, st, h1, h2 => by
    rw [List.foldl_cons]
    refine foldl_clean c l _ ?_ ?_
    · unfold spStep; split
      · intro p hp
        rcases List.mem_append.1 hp with h | h
        · exact h1 p h
        · simp at h; subst h; exact h2
      · exact h1
    · unfold spStep; split
      · simp
      · rename_i hx
        intro hm
        rcases List.mem_append.1 hm with h | h
        · exact h2 h
        · simp at h; exact hx h.symm
theorem sp_clean (c : UInt8) (l : List UInt8) : (∀ p ∈ (sp c l).1, c ∉ p) ∧ c ∉ (sp c l).2 :=
  foldl_clean c l ([], []) (by simp) (by simp)

theorem parts_clean (c : UInt8) (l : List UInt8) : ∀ p ∈ parts c l, c ∉ p := by
  intro p hp
  rcases List.mem_append.1 hp with h | h
  · exact (sp_clean c l).1 p h
  · simp at h; subst h; exact (sp_clean c l).2
theorem parts_ne (c : UInt8) (l : List UInt8) : parts c l ≠ [] := by simp [parts]
theorem parts_len (c : UInt8) (l : List UInt8) : (parts c l).length ≤ l.length + 1 := by
  have := sp_len c l; simp [parts]; omega

/-- No byte: one part. -/
theorem parts_one (c : UInt8) (l : List UInt8) (h : c ∉ l) : parts c l = [l] := by
  have key : ∀ (l : List UInt8) (cur : List UInt8), c ∉ l → l.foldl (spStep c) ([], cur) = ([], cur ++ l) := by
    intro l
    induction l with
    | nil => intro cur _; simp
    | cons x l ih =>
      intro cur h
      rw [List.foldl_cons]
      have hx : x ≠ c := fun e => h (by simp [e])
      have e : spStep c ([], cur) x = ([], cur ++ [x]) := by simp [spStep, hx]
      rw [e, ih (cur ++ [x]) (fun hm => h (by simp [hm]))]
      simp
  unfold parts sp
  rw [key l [] h]; simp
/-- The first part is what stands before the first such byte. -/
theorem parts_head (c : UInt8) (a b : List UInt8) (h : c ∉ a) : (parts c (a ++ c :: b)).head? = some a := by
  have key : ∀ (l : List UInt8) (st : List (List UInt8) × List UInt8), st.1 ≠ [] → (l.foldl (spStep c) st).1.head? = st.1.head? := by
    intro l
    induction l with
    | nil => intro st _; rfl
    | cons x l ih =>
      intro st hst
      rw [List.foldl_cons]
      have hs : (spStep c st x).1 ≠ [] ∧ (spStep c st x).1.head? = st.1.head? := by
        unfold spStep
        split
        · refine ⟨by simp, ?_⟩
          cases h1 : st.1 with
          | nil => exact absurd h1 hst
          | cons y ys => simp
        · exact ⟨hst, rfl⟩
      rw [ih _ hs.1, hs.2]
  have h1 : sp c (a ++ [c]) = ([a], []) := by
    rw [sp_hit]
    have := parts_one c a h
    unfold parts at this
    have h2 : (sp c a).1 = [] := by
      have hl := congrArg List.length this
      simp at hl
      exact hl
    rw [h2] at this ⊢
    simp at this
    rw [this]; rfl
  have e : sp c (a ++ c :: b) = b.foldl (spStep c) ([a], []) := by
    have : a ++ c :: b = (a ++ [c]) ++ b := by simp
    rw [this]
    show ((a ++ [c]) ++ b).foldl (spStep c) ([], []) = _
    rw [List.foldl_append]
    have h3 : (a ++ [c]).foldl (spStep c) ([], []) = ([a], []) := h1
    rw [h3]
  have hk := key b ([a], []) (by simp)
  unfold parts
  rw [e]
  cases h4 : (List.foldl (spStep c) ([a], []) b).1 with
  | nil => rw [h4] at hk; simp at hk
  | cons y ys => rw [h4] at hk; simpa using hk
end Go.Proofs.YtpmjdppipalfcaaDoor.M
