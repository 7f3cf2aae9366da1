/-
  Trees: the specification's leaves and paths.
-/
import Derived.Test.YtejdphfcogfcmaaDoorTree2
namespace Go.Proofs.YtejdphfcogfcmaaDoor
open Go.RowKit Go.Lib Go.Joins
set_option linter.unusedVariables false

theorem chl_len (p : List Int) (x : Int) : (chl p x).length ≤ p.length := pick6_len _ _
/-- The path up to a node, or nothing above the source. -/
def upP (p : List Int) (x : Int) : List Int := if 0 ≤ x then pth p x else []
theorem upP_round {p zs goal : List Int} {k : Nat} (h : trOk p = true) (hk : k < p.length) (hg : upP p (k : Int) ++ zs = goal) : upP p (par6 p k) ++ ([(k : Int)] ++ zs) = goal := by
  unfold upP at hg
  rw [if_pos (by omega), pth_step h hk] at hg
  rw [← hg]
  unfold upP
  by_cases e : k = 0
  · subst e
    rw [(trOk_parts h).2.2.1, if_neg (by omega), if_pos rfl]
    simp
  · obtain ⟨a, _⟩ := (trOk_parts h).2.2.2 k (by omega) hk
    rw [if_pos a, if_neg e]
    simp
theorem par6_bd {p : List Int} (h : trOk p = true) {k : Nat} (hk : k < p.length) : -1 ≤ par6 p k ∧ par6 p k ≤ (k : Int) - 1 := by
  obtain ⟨_, _, h0, hu⟩ := trOk_parts h
  by_cases e : k = 0
  · subst e; rw [h0]; omega
  · have := hu k (by omega) hk; omega
theorem path_app {W0 wr W3 w1 : World} {g c : Nat} {zs zs5 : List Int} {x : Int} {v' : Value} (h : OutI W0 wr g c zs) (hb3 : Below wr.heap.size wr W3) (hz : zs5 = [x] ++ zs)
    (ho : w1.ownsRow wr.heap.size 3 1 v' (1 + zs.length) ([.int .i64 x] ++ zs.map (Value.int .i64))) (hg : W3.grownBy w1 (some wr.heap.size)) :
    ∃ g' c', v' = .slice (some ⟨g', 0, none⟩) zs5.length c' ∧ OutI W0 w1 g' c' zs5 := by
  subst hz
  obtain ⟨g', c', rfl⟩ := own_form ho (by omega)
  have e : ([x] ++ zs).length = 1 + zs.length := by simp; omega
  refine ⟨g', c', by rw [e], ⟨by rw [e, List.map_append, List.map_singleton]; exact own_base ho h.bel.size, ?_⟩⟩
  have hb := h.bel.trans (hb3.mono h.bel.size)
  exact hb.grown hg hb.size (fun k hk => by have e2 : wr.heap.size = k := Option.some.inj hk; have := h.bel.size; omega)
end Go.Proofs.YtejdphfcogfcmaaDoor
