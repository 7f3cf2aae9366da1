/-
  Packets: 'OctetsOf' of both packages.
-/
import Derived.Test.YtncjplcefdeckaaGreatDoorPktI
import Derived.Test.YtncjplcefdeckaaGreatDoorPkt4
namespace Go.Proofs.YtncjplcefdeckaaGreatDoor
open Go.RowKit Go.Lib Go.Joins
set_option linter.unusedVariables false

/-- Two octets for each number. -/
def prL (ys : List Int) : List Int := ys.flatMap (fun y => [y / 256, y % 256])
theorem prL_snoc (ys : List Int) (y : Int) : prL (ys ++ [y]) = prL ys ++ [y / 256, y % 256] := by simp [prL]
theorem prL_len : ∀ ys : List Int, (prL ys).length = 2 * ys.length
  | [] => rfl
  | y :: ys => by
    have ih := prL_len ys
    simp only [prL, List.flatMap_cons, List.length_append, List.length_cons, List.length_nil] at ih ⊢
    omega
theorem prL_take {ys : List Int} {j : Nat} (h : j < ys.length) : prL (ys.take (j + 1)) = prL (ys.take j) ++ [ys[j] / 256, ys[j] % 256] := by
  rw [List.take_succ_eq_append_getElem h, prL_snoc]
theorem own_pairs {W : World} {B m j : Nat} {v : Value} {xs ys : List Int} {y : Int} (h : j < ys.length) (he : y = ys[j]) (hm : m = xs.length + 2 * j)
    (ho : W.ownsRow B 3 1 v (m + 2) ((xs ++ prL (ys.take j)).map (Value.int .i64) ++ [.int .i64 (y / 256), .int .i64 (y % 256)])) :
    W.ownsRow B 3 1 v (xs.length + 2 * (j + 1)) ((xs ++ prL (ys.take (j + 1))).map (Value.int .i64)) := by
  subst he
  rw [prL_take h, ← List.append_assoc, List.map_append, show xs.length + 2 * (j + 1) = m + 2 by omega]
  exact ho

/-- The octets, or none. -/
def octV (k n t l : Int) (d : ByteArray) : List Int := if pktOk k n t l d = true then octI k n t l d else []
theorem octV_yes {k n t l : Int} {d : ByteArray} (h : pktOk k n t l d = true) : octV k n t l d = octI k n t l d := if_pos h
theorem octV_no {k n t l : Int} {d : ByteArray} (h : pktOk k n t l d = false) : octV k n t l d = [] := by unfold octV; rw [h]; rfl
theorem octV_len (k n t l : Int) (d : ByteArray) : (octV k n t l d).length ≤ 1048576 := by
  cases h : pktOk k n t l d with
  | false => rw [octV_no h]; exact Nat.zero_le _
  | true =>
    rw [octV_yes h, octI_len]
    have := (pktOk_bd h).2.2.2.2.2.2.1
    omega
theorem oct_prL (k n t l : Int) (d : ByteArray) : octI k n t l d = bodyI k n t l d ++ prL [ckI (bodyI k n t l d)] := by simp [octI, prL]
theorem head_prL (k n t l : Int) : [k] ++ prL [n, t, l] = [k, n / 256, n % 256, t / 256, t % 256, l / 256, l % 256] := by simp [prL]
theorem bodT_zero (k n t l : Int) (d : ByteArray) : bodT k n t l d 0 = [k, n / 256, n % 256, t / 256, t % 256, l / 256, l % 256] ++ [(d.size : Int)] := by simp [bodT]
theorem row_lone {W : World} {g : Nat} {a : Int} (h : W.heap[g]? = some (.cells #[.int .i64 a] 3 (0, 0))) : Row W (.slice (some ⟨g, 0, none⟩) 1 1) [a].length ([a].map (Value.int .i64)) := row_lit h
theorem cell_kept {W w2 : World} {B z n b i : Nat} {e : TypeId} {v x : Value} {xs : List Value} {o : Obj} (hc : W.cell? ⟨b, i, none⟩ = some x) (ho : W.ownsRow B e z v n xs) (hb : b < B) (hg : (W.alloc o).grownBy w2 v.ownBlock) : w2.cell? ⟨b, i, none⟩ = some x :=
  hg.cell ((World.cell?_alloc_old W o ⟨b, i, none⟩ (Nat.ne_of_lt (World.block_lt_of_cell? W ⟨b, i, none⟩ hc))).trans hc) (fun e2 => by have h1 := (ho.lt b e2.symm).1; omega)
end Go.Proofs.YtncjplcefdeckaaGreatDoor
