/-
  Numerals and texts as bytes. (Chapters 4 and 5 share it.)
-/
import Derived.Test.YtpmjdppipalfcaaDoorNum
import Derived.Test.YtpmjdppipalfcaaDoorMath2
import Derived.Test.YtpmjdppipalfcaaDoorOwn
import Derived.Below
import Derived.Lib.Hide
namespace Go.Proofs.YtpmjdppipalfcaaDoor
open Go.RowKit Go.Lib
set_option linter.unusedVariables false

theorem add_two (a b : ByteArray) (m : Nat) (h : a.size + b.size ≤ m) (hm : m ≤ 1000 := by omega) : ∃ c : ByteArray, (c.size ≤ m ∧ c.data.toList = a.data.toList ++ b.data.toList) ∧ ∀ W : World, (Op.stringOp .add a b).run Tryd.prog W = .ok (.string c) W :=
  ⟨a ++ b, ⟨by rw [ByteArray.size_append]; exact h, by simp⟩, fun W => run_string_add_sum W _ _ (by omega)⟩
theorem itoa_len {n : Int} (h0 : 0 ≤ n) (h1 : n ≤ 999999) : (Lib.itoa n).length ≤ 6 := by
  obtain ⟨u, rfl⟩ : ∃ u : Nat, n = u := ⟨n.toNat, by omega⟩
  rw [M.itoa_nat]
  exact (M.dec_len (by omega)).2
def numS (n : Int) : ByteArray := ⟨(Lib.itoa n).toArray⟩
theorem numS_size {n : Int} (h0 : 0 ≤ n) (h1 : n ≤ 999999) : (numS n).size ≤ 6 := by unfold numS; show (Lib.itoa n).toArray.size ≤ 6; rw [List.size_toArray]; exact itoa_len h0 h1
theorem numS_any (n : Int) (h0 : 0 ≤ n) (h1 : n ≤ 65535) (w : World) : Calls Tryd.prog 80 #[.int .i64 n] w fun e w' => e = .returned (.string (numS n)) ∧ ∃ k, w' = w.drewN k := l1Num_any n (by omega) (by omega) w
theorem below_drewN4 {W0 W : World} {q : Nat} (h : Below W0.heap.size W0 W) : Below W0.heap.size W0 (W.drewN q) := h.trans ((bdrew W q).mono h.size)
def txt (l : List UInt8) : ByteArray := ⟨l.toArray⟩
theorem txt_data (l : List UInt8) : (txt l).data.toList = l := by simp [txt]
theorem txt_size (l : List UInt8) : (txt l).size = l.length := by show l.toArray.size = _; simp
end Go.Proofs.YtpmjdppipalfcaaDoor
