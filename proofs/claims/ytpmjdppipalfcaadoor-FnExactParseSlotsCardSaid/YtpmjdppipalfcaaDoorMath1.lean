/-
  Plain mathematics of chapter 1: the checksum of a list of bytes.
-/
import Derived.Lib.Hide
namespace Go.Proofs.YtpmjdppipalfcaaDoor.M

/-- One step of the checksum. -/
def ckStep (h : Int) (c : UInt8) : Int := (41 * h + (c.toNat : Int) + 1) % 999979
/-- The checksum of a list of bytes. -/
def ck (l : List UInt8) : Int := l.foldl ckStep 7

theorem ckStep_bd (h : Int) (c : UInt8) : 0 ≤ ckStep h c ∧ ckStep h c < 999979 := by
  unfold ckStep; omega

theorem ck_snoc (l : List UInt8) (c : UInt8) : ck (l ++ [c]) = ckStep (ck l) c := by
  unfold ck; simp

theorem foldl_bd : ∀ (l : List UInt8) (h : Int), 0 ≤ h → h < 999979 → 0 ≤ l.foldl ckStep h ∧ l.foldl ckStep h < 999979
  | [], _, h0, h1 => ⟨h0, h1⟩
  | c :: l, _, _, _ => foldl_bd l _ (ckStep_bd _ c).1 (ckStep_bd _ c).2

theorem ck_bd (l : List UInt8) : 0 ≤ ck l ∧ ck l < 999979 := foldl_bd l 7 (by omega) (by omega)

theorem take_snoc (s : ByteArray) (k : Nat) (h : k < s.size) : s.data.toList.take (k + 1) = s.data.toList.take k ++ [s[k]] := by
  rw [List.take_succ_eq_append_getElem (by simpa using h)]; rfl

theorem ck_take (s : ByteArray) (k : Nat) (h : k < s.size) :
    ck (s.data.toList.take (k + 1)) = (41 * ck (s.data.toList.take k) + (s[k].toNat : Int) + 1) % 999979 := by
  rw [take_snoc s k h, ck_snoc]; rfl

theorem take_all (s : ByteArray) : s.data.toList.take s.size = s.data.toList :=
  List.take_of_length_le (by simp)

end Go.Proofs.YtpmjdppipalfcaaDoor.M
