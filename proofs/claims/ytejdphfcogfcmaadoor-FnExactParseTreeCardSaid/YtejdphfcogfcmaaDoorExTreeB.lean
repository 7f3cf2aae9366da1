/-
  Small facts that the exact laws of trees lean on.
-/
import Derived.Test.YtejdphfcogfcmaaDoorTreeS
namespace Go.Proofs.YtejdphfcogfcmaaDoor
open Go.RowKit Go.Lib Go.Joins
set_option linter.unusedVariables false

theorem keep_two6 {W0 W : World} {p q : Addr} {x y : Value} (hx : W0.cell? p = some x) (hp : p.block < W0.heap.size) (hy : W0.cell? q = some y) (hq : q.block < W0.heap.size) (h : Below W0.heap.size W0 W) :
    W.cell? p = some x ∧ W.cell? q = some y ∧ Below W0.heap.size W0 W := ⟨(h.cell hp).trans hx, (h.cell hq).trans hy, h⟩
theorem below_call6 {W0 W w5 : World} (h : Below W0.heap.size W0 W) (l5 : Below W.heap.size W w5) : Below W0.heap.size W0 w5 := h.trans (l5.mono h.size)
theorem chl_len8 (p : List Int) (x : Int) (h : p.length ≤ 1048576) : (okL (ndOk p x) (chl p x)).length ≤ 1048576 := by
  unfold okL
  have := chl_len p x
  split
  · omega
  · simp
theorem lvs_len8 (p : List Int) (h : p.length ≤ 1048576) : (okL (trOk p) (lvs p)).length ≤ 1048576 := by
  unfold okL lvs
  have := pick6_len (lfB p) p.length
  split
  · omega
  · simp
theorem nbl_len8 (p : List Int) (x : Int) (h : p.length ≤ 1048576) : (okL (ndOk p x) (nbl p x)).length ≤ 1048576 := by
  unfold okL nbl
  have := pick6_len (nbB p x) p.length
  split
  · omega
  · simp
theorem pth_len8 (p : List Int) (x : Int) (h : p.length ≤ 1048576) : (okL (ndOk p x) (pth p x)).length ≤ 1048576 := by
  unfold okL
  split
  · rename_i hx
    obtain ⟨h1, h2, h3⟩ := ndOk_parts hx
    obtain ⟨k, rfl⟩ : ∃ k : Nat, x = (k : Int) := ⟨x.toNat, by omega⟩
    have := pth_len h1 k (by omega)
    omega
  · simp
theorem own_some_e {w : World} {base n : Nat} {e : TypeId} {v : Value} {xs : List Value} (h : w.ownsRow base e 1 v n xs) : ∃ a cap, v = .slice a n cap ∧ n ≤ cap ∧ cap ≤ maxLen := by
  obtain ⟨hl, ⟨rfl, rfl⟩ | ⟨g, cap, cur, rfl, hb, hg, hn, hm, hs, ht⟩⟩ := h
  · exact ⟨none, 0, rfl, Nat.le_refl _, Nat.zero_le _⟩
  · exact ⟨_, cap, rfl, hn, hm⟩
theorem outI_form {w w' : World} {e : Ending} {L : List Int} {b : Bool} (h : ∃ g c, e = .returned (.tuple #[.slice (some ⟨g, 0, none⟩) L.length c, .bool b]) ∧ OutI w w' g c L) :
    ∃ v, e = .returned (.tuple #[v, .bool b]) ∧ w'.ownsRow w.heap.size 3 1 v L.length (L.map (Value.int .i64)) ∧ Below w.heap.size w w' := by
  obtain ⟨g, c, he, ho⟩ := h
  exact ⟨_, he, ho.own, ho.bel⟩
end Go.Proofs.YtejdphfcogfcmaaDoor
