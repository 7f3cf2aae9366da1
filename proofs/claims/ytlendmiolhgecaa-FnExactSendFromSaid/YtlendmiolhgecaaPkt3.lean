/-
  Packets: the text of digits, of the specification.
-/
import Derived.Test.YtlendmiolhgecaaPkt2
import Derived.Laws.Concat
namespace Go.Proofs.Ytlendmiolhgecaa
open Go.RowKit Go.Lib
set_option linter.unusedVariables false

theorem str_append4 (a b : List UInt8) : (⟨a.toArray⟩ ++ ⟨b.toArray⟩ : ByteArray) = ⟨(a ++ b).toArray⟩ := by
  apply ByteArray.ext; simp
theorem hex_piece (u : Nat) (h : u < 16) : ((⟨#[48, 49, 50, 51, 52, 53, 54, 55, 56, 57, 65, 66, 67, 68, 69, 70]⟩ : ByteArray).extract u (u + 1)) = ⟨[hexC (u : Int)].toArray⟩ := by
  have : ∀ i : Fin 16, ((⟨#[48, 49, 50, 51, 52, 53, 54, 55, 56, 57, 65, 66, 67, 68, 69, 70]⟩ : ByteArray).extract i.val (i.val + 1)) = ⟨[hexC ((i.val : Nat) : Int)].toArray⟩ := by decide +kernel
  exact this ⟨u, h⟩
theorem size_list4 (l : List UInt8) : (⟨l.toArray⟩ : ByteArray).size = l.length := by show l.toArray.size = _; simp
theorem wrap_q (u : Nat) (h : u < 256) : IntKind.i64.wrap ((u : Int) / 16) = (u : Int) / 16 := IntWalk.i64_in _ (by omega)
theorem wrap_r (u : Nat) (h : u < 256) : IntKind.i64.wrap ((u : Int) % 16) = (u : Int) % 16 := IntWalk.i64_in _ (by omega)
theorem wrap_q1 (u : Nat) (h : u < 256) : IntKind.i64.wrap ((u : Int) / 16 + 1) = (u : Int) / 16 + 1 := IntWalk.i64_in _ (by omega)
theorem wrap_r1 (u : Nat) (h : u < 256) : IntKind.i64.wrap ((u : Int) % 16 + 1) = (u : Int) % 16 + 1 := IntWalk.i64_in _ (by omega)
theorem tmod16 (u : Nat) : (u : Int).tmod 16 = (u : Int) % 16 := Int.tmod_eq_emod_of_nonneg (by omega)
theorem tdiv16 (u : Nat) : (u : Int).tdiv 16 = (u : Int) / 16 := Int.tdiv_eq_ediv_of_nonneg (by omega)

end Go.Proofs.Ytlendmiolhgecaa
