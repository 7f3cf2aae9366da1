/-
  Timers: the specification's l8Find; what l8Good's walk needs.
-/
import Derived.Test.YtoehedogdbafpaaTim
namespace Go.Proofs.Ytoehedogdbafpaa
open Go.RowKit Go.Lib
set_option linter.unusedVariables false

set_option maxRecDepth 100000 in
set_option maxHeartbeats 1000000 in
theorem l8Find_any (v : Value) (s : List Tm) (x : Int) (w : World) (hrow : Row w v s.length (tmF s)) :
    Calls Try.prog 68 #[v, .int .i64 x] w fun e w' => e = .returned (.int .i64 (fndN s x)) ∧ w = w' := by
  obtain ⟨a, cap, rfl, hc1, hm1, hcell⟩ := tm_open hrow
  have HC := Lib.hid hcell
  clear hcell hrow
  unfold maxLen at hm1
  obtain ⟨n, hN⟩ : ∃ n, n = s.length := ⟨_, rfl⟩
  rw [← hN] at hc1 ⊢
  have HN := Lib.hid hN
  clear hN
  go_enter Try.func68, Try.ntmps68
  go_wp2_with fail
  go_loop [5] (fun i => ∃ k : Nat, k ≤ n ∧ i = .int .i64 k ∧ Hid (∀ j (hj : j < k) (hs : j < s.length), s[j].i ≠ x)) (fun i => n - (intOf i).toNat)
  case atStart => exact ⟨0, Nat.zero_le _, rfl, Lib.hid (fun j hj => absurd hj (Nat.not_lt_zero _))⟩
  case round =>
    obtain ⟨k, hk, rfl, HT⟩ := hrel
    by_cases hkn : k < n
    · have hks : k < s.length := by rw [← HN.out]; exact hkn
      obtain ⟨b, off, rfl, hb, hx0, -, -⟩ := HC.out k hks
      have hx : w.cell? ⟨b, off + k * 3, none⟩ = some (.int .i64 s[k].i) := hx0
      clear hx0
      have HK := Lib.hid hks
      generalize hy : s[k].i = y at hx
      have HY := Lib.hid hy.symm
      clear hy hks
      by_cases he : y = x
      · have hf := Lib.hid (fnd_hit k s HK.out (HY.out.symm.trans he) (fun j hj => HT.out j hj (by have := HK.out; omega)))
        subst he
        go_wp2_with fail
        go_ret
        exact ⟨by rw [hf.out]; rfl, rfl⟩
      · have hf : (y == x) = false := by simp; exact he
        have HT2 := Lib.hid (show ∀ j (hj : j < k + 1) (hs : j < s.length), s[j].i ≠ x from fun j hj hs => by
          by_cases hjk : j < k
          · exact HT.out j hjk hs
          · obtain rfl : j = k := by omega
            exact fun e => he (HY.out.trans e))
        clear HT
        go_wp2_with fail
        go_round
        case rel => exact ⟨k + 1, by omega, by go_num, HT2⟩
        case measure => (simp [intOf]; omega)
    · obtain rfl : k = n := by omega
      have hf : fndN s x = -1 := fnd_none (fun t ht => by
        obtain ⟨j, hj, rfl⟩ := List.getElem_of_mem ht
        exact HT.out j (by rw [HN.out]; exact hj) hj)
      have HF := Lib.hid hf
      clear hf
      go_wp2_with fail
      go_ret
      exact ⟨by rw [HF.out]; rfl, rfl⟩
/-- What the first k timers of a valid list are. -/
def Pre (s : List Tm) (k : Nat) : Prop := (∀ j (h : j < s.length), j < k → tmOk s[j] = true) ∧ ∀ j (h : j + 1 < s.length), j + 1 < k → s[j].i < s[j + 1].i
theorem pre_zero (s : List Tm) : Pre s 0 := ⟨fun j h hk => absurd hk (Nat.not_lt_zero _), fun j h hk => absurd hk (Nat.not_lt_zero _)⟩
theorem pre_step {s : List Tm} {k : Nat} (h : Pre s k) (hk : k < s.length) (ho : tmOk s[k] = true) (ha : ∀ (h0 : 0 < k), (s[k - 1]'(by omega)).i < s[k].i) : Pre s (k + 1) := by
  refine ⟨fun j hj hjk => ?_, fun j hj hjk => ?_⟩
  · by_cases e : j = k
    · subst e; exact ho
    · exact h.1 j hj (by omega)
  · by_cases e : j + 1 = k
    · subst e
      exact ha (by omega)
    · exact h.2 j hj (by omega)
theorem pre_all {s : List Tm} (h : Pre s s.length) : tsOk s = decide ((s.length : Int) ≤ 10) := by
  have h1 : ∀ t ∈ s, tmOk t = true := fun t ht => by
    obtain ⟨j, hj, rfl⟩ := List.getElem_of_mem ht
    exact h.1 j hj hj
  have h2 : Asc s := asc_adj s.length s rfl (fun k hk => h.2 k hk hk)
  by_cases h3 : s.length ≤ 10
  · rw [tsOk_iff.2 ⟨h1, h2, h3⟩]; exact (decide_eq_true (by omega)).symm
  · rw [tsOk_no (fun e => h3 e.2.2)]; exact (decide_eq_false (by omega)).symm
theorem pre_bad {s : List Tm} {k : Nat} (hk : k < s.length) (h : tmOk s[k] = false) : tsOk s = false :=
  tsOk_no (fun e => by have := e.1 _ (List.getElem_mem hk); rw [h] at this; cases this)
theorem pre_down {s : List Tm} {k : Nat} (hk : k < s.length) (h0 : 0 < k) (h : s[k].i ≤ (s[k - 1]'(by omega)).i) : tsOk s = false :=
  tsOk_no (fun e => by
    have := List.pairwise_iff_getElem.1 e.2.1 (k - 1) k (by omega) hk (by omega)
    omega)
theorem below_call8 {W0 W w5 : World} (h : Below W0.heap.size W0 W) (l5 : Below W.heap.size W w5) : Below W0.heap.size W0 w5 := h.trans (l5.mono h.size)
theorem keep_tm {W0 W : World} {b o1 o2 o3 : Nat} {x y z : Value} (hx : W0.cell? ⟨b, o1, none⟩ = some x) (hy : W0.cell? ⟨b, o2, none⟩ = some y) (hz : W0.cell? ⟨b, o3, none⟩ = some z) (hb : b < W0.heap.size) (h : Below W0.heap.size W0 W) :
    W.cell? ⟨b, o1, none⟩ = some x ∧ W.cell? ⟨b, o2, none⟩ = some y ∧ W.cell? ⟨b, o3, none⟩ = some z ∧ Below W0.heap.size W0 W :=
  ⟨(h.cell (p := ⟨b, o1, none⟩) hb).trans hx, (h.cell (p := ⟨b, o2, none⟩) hb).trans hy, (h.cell (p := ⟨b, o3, none⟩) hb).trans hz, h⟩
theorem keep_tm4 {W0 W : World} {b o1 o2 o3 o4 : Nat} {x y z u : Value} (hx : W0.cell? ⟨b, o1, none⟩ = some x) (hy : W0.cell? ⟨b, o2, none⟩ = some y) (hz : W0.cell? ⟨b, o3, none⟩ = some z) (hu : W0.cell? ⟨b, o4, none⟩ = some u) (hb : b < W0.heap.size) (h : Below W0.heap.size W0 W) :
    W.cell? ⟨b, o1, none⟩ = some x ∧ W.cell? ⟨b, o2, none⟩ = some y ∧ W.cell? ⟨b, o3, none⟩ = some z ∧ W.cell? ⟨b, o4, none⟩ = some u ∧ Below W0.heap.size W0 W :=
  ⟨(h.cell (p := ⟨b, o1, none⟩) hb).trans hx, (h.cell (p := ⟨b, o2, none⟩) hb).trans hy, (h.cell (p := ⟨b, o3, none⟩) hb).trans hz, (h.cell (p := ⟨b, o4, none⟩) hb).trans hu, h⟩
theorem pre_down' {s : List Tm} {k : Nat} {t : Tm} {p : Int} (hk : k < s.length) (h0 : 0 < k) (ht : t = s[k]) (hp : (s[k - 1]'(by omega)).i = p) (h : t.i ≤ p) : tsOk s = false := pre_down hk h0 (by rw [hp, ← ht]; exact h)
theorem pre_step' {s : List Tm} {k : Nat} {t : Tm} (h : Pre s k) (hk : k < s.length) (ht : t = s[k]) (ho : tmOk t = true) (ha : ∀ (h0 : 0 < k), (s[k - 1]'(by omega)).i < t.i) : Pre s (k + 1) := pre_step h hk (by rw [← ht]; exact ho) (fun h0 => by rw [← ht]; exact ha h0)
end Go.Proofs.Ytoehedogdbafpaa
