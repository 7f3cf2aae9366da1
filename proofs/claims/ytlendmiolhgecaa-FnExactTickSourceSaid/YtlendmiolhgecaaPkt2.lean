/-
  Packets: check, octets, digits and texts of the specification.
-/
import Derived.Test.YtlendmiolhgecaaPkt
import Derived.Laws.Concat
namespace Go.Proofs.Ytlendmiolhgecaa
open Go.RowKit Go.Lib
set_option linter.unusedVariables false

theorem below_app4 {B : Nat} {w wr w1 : World} {o : Obj} {e : TypeId} {z n : Nat} {v : Value} {xs : List Value} (hb : Below B w wr) (hB : B ≤ wr.heap.size) (ho : wr.ownsRow B e z v n xs) (hg : (wr.alloc o).grownBy w1 v.ownBlock) : Below B w w1 :=
  (hb.alloc hB o).grown hg (by simp; omega) (fun k hk => (ho.lt k hk).1)
theorem wS_succ {xs : List Int} {k : Nat} {u : Int} (hk : k < xs.length) (hu : u = xs[k]) : wS xs (k + 1) = wS xs k + ((k : Int) + 1) * u := by
  show wS xs k + ((k : Int) + 1) * xs.getD k 0 = _
  rw [List.getD_eq_getElem?_getD, List.getElem?_eq_getElem hk, hu]; rfl

/-- The octets but for the check, as far as they are laid. -/
def bodT (k n t l : Int) (d : ByteArray) (j : Nat) : List Int := [k, n / 256, n % 256, t / 256, t % 256, l / 256, l % 256, (d.size : Int)] ++ (datI d).take j
theorem bodT_succ {k n t l : Int} {d : ByteArray} {j : Nat} (hj : j < d.size) : bodT k n t l d (j + 1) = bodT k n t l d j ++ [(d[j].toNat : Int)] := by
  unfold bodT; rw [datI_take hj, List.append_assoc]
theorem bodT_all (k n t l : Int) (d : ByteArray) : bodT k n t l d d.size = bodyI k n t l d := by
  unfold bodT bodyI; rw [List.take_of_length_le (by rw [datI_len]; exact Nat.le_refl _)]
theorem own_bod {W : World} {B j : Nat} {v : Value} {k n t l : Int} {d : ByteArray} {x : Int} (hj : j < d.size) (he : x = (d[j].toNat : Int)) (h : W.ownsRow B 3 1 v (8 + j + 1) ((bodT k n t l d j).map (Value.int .i64) ++ [.int .i64 x])) : W.ownsRow B 3 1 v (8 + (j + 1)) ((bodT k n t l d (j + 1)).map (Value.int .i64)) := by
  subst he
  rw [bodT_succ hj, List.map_append, List.map_singleton]
  exact h

theorem dig_eq {k : Nat} (h16 : k < 16) (h : k < (⟨#[48, 49, 50, 51, 52, 53, 54, 55, 56, 57, 65, 66, 67, 68, 69, 70]⟩ : ByteArray).size) : (⟨#[48, 49, 50, 51, 52, 53, 54, 55, 56, 57, 65, 66, 67, 68, 69, 70]⟩ : ByteArray)[k] = hexC (k : Int) := by
  have : ∀ i : Fin 16, (⟨#[48, 49, 50, 51, 52, 53, 54, 55, 56, 57, 65, 66, 67, 68, 69, 70]⟩ : ByteArray)[i.val]'(i.isLt) = hexC ((i.val : Nat) : Int) := by decide +kernel
  exact this ⟨k, h16⟩
theorem dig_hit {k : Nat} {b : UInt8} (h16 : k < 16) {h : k < (⟨#[48, 49, 50, 51, 52, 53, 54, 55, 56, 57, 65, 66, 67, 68, 69, 70]⟩ : ByteArray).size} (e : ((((⟨#[48, 49, 50, 51, 52, 53, 54, 55, 56, 57, 65, 66, 67, 68, 69, 70]⟩ : ByteArray)[k]'h).toNat : Int) == (b.toNat : Int)) = true) : (k : Int) = hexV b := by
  rw [dig_eq h16 h] at e
  have h2 : hexC (k : Int) = b := by
    apply UInt8.toNat_inj.1
    have h3 : ((hexC (k : Int)).toNat : Int) = (b.toNat : Int) := by simpa using e
    omega
  rw [← h2, hexV_hexC (by omega) (by omega)]
theorem dig_miss {k : Nat} {b : UInt8} (h16 : k < 16) (HA : ∀ j : Nat, j < k → hexC (j : Int) ≠ b) {h : k < (⟨#[48, 49, 50, 51, 52, 53, 54, 55, 56, 57, 65, 66, 67, 68, 69, 70]⟩ : ByteArray).size} (e : ((((⟨#[48, 49, 50, 51, 52, 53, 54, 55, 56, 57, 65, 66, 67, 68, 69, 70]⟩ : ByteArray)[k]'h).toNat : Int) == (b.toNat : Int)) = false) : ∀ j : Nat, j < k + 1 → hexC (j : Int) ≠ b := by
  intro j hj
  by_cases hjk : j < k
  · exact HA j hjk
  · obtain rfl : j = k := by omega
    intro e2
    rw [dig_eq h16 h, e2] at e
    simp at e
theorem dig_none {b : UInt8} (HA : ∀ j : Nat, j < 16 → hexC (j : Int) ≠ b) : hexV b = -1 := by
  have h1 := hexV_bd b
  by_cases h0 : 0 ≤ hexV b
  · exfalso
    obtain ⟨u, hu⟩ : ∃ u : Nat, hexV b = u := ⟨(hexV b).toNat, by omega⟩
    have := hexC_hexV h0
    rw [hu] at this
    exact HA u (by omega) this
  · omega
end Go.Proofs.Ytlendmiolhgecaa
