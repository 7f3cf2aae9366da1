/-
  'DrawIsSoundList', and what the law FnWordSums asks of sums.
-/
import Derived.Test.YtofpajbfajcjgaaDrawWord
import Derived.Test.YtofpajbfajcjgaaWord3
namespace Go.Proofs.Ytofpajbfajcjgaa
open Go.RowKit Go.Lib
set_option linter.unusedVariables false

theorem seal_sound {zs : List Int} (h : slOk zs = true) : sndV (slL zs) = true ∧ wOk (slL zs) = true := by
  have h1 : wOk zs = true := by unfold slOk at h; rw [Bool.and_eq_true] at h; exact h.1
  have h2 : zs.length ≠ 40 := by unfold slOk at h; rw [Bool.and_eq_true] at h; exact of_decide_eq_true h.2
  have h3 := wOk_len h1
  obtain ⟨s0, s1⟩ := sum_bd (wOk_all h1)
  have hw : wOk (slL zs) = true := by
    rw [slL_yes h]
    refine wOk_yes ?_ (by simp; omega)
    rw [List.all_append, wOk_all h1]
    simp [serB_yes (x := 65535 - sumW zs) (by omega) (by omega)]
  refine ⟨?_, hw⟩
  unfold sndV
  rw [hw, slL_yes h, sum_seal (wOk_all h1)]
  rfl
theorem chk_sum {zs : List Int} (h : wOk zs = true) : chkV zs = 65535 - sumV zs := by
  rw [sumV_yes h]; exact if_pos h
theorem rev_facts {zs : List Int} (h : wOk zs = true) : wOk zs.reverse = true ∧ sumV zs.reverse = sumV zs := by
  have h1 : wOk zs.reverse = true := wOk_yes (all_rev (wOk_all h)) (by rw [List.length_reverse]; exact wOk_len h)
  exact ⟨h1, by rw [sumV_yes h1, sumV_yes h, sum_rev (wOk_all h)]⟩
theorem swp_facts {zs : List Int} (h : wOk zs = true) : wOk (zs.map swp).reverse = true ∧ sumV (zs.map swp).reverse = swp (sumV zs) ∧ serB (sumV zs) = true ∧ swpV (sumV zs) = swp (sumV zs) := by
  have h0 : wOk (zs.map swp) = true := wOk_yes (swp_all (wOk_all h)) (by rw [List.length_map]; exact wOk_len h)
  obtain ⟨h1, h2⟩ := rev_facts h0
  obtain ⟨s0, s1⟩ := sumV_bd zs
  have hs := serB_yes s0 s1
  exact ⟨h1, by rw [h2, sumV_yes h0, sumV_yes h, sum_swp (wOk_all h)], hs, if_pos hs⟩
theorem one_facts {zs : List Int} (h : wOk zs = true) (i : Nat) (hi : i < zs.length) : serB zs[i] = true ∧ swpV zs[i] = swp zs[i] := by
  obtain ⟨x0, x1⟩ := word_mem (wOk_all h) (List.getElem_mem hi)
  have hs := serB_yes x0 x1
  exact ⟨hs, if_pos hs⟩

set_option maxHeartbeats 1000000 in
theorem drawSound_any (v : Value) (z : List Int) (w : World) (hrow : Row w v z.length (z.map (Value.int .u8))) (hz : ∀ x ∈ z, 0 ≤ x ∧ x < 256) :
    Calls Try.prog 25 #[v] w fun e w' => ∃ (v' : Value) (zs : List Int), e = .returned v' ∧ zs.length ≤ 42 ∧ w'.ownsRow w.heap.size 3 1 v' zs.length (zs.map (Value.int .i64)) ∧ Below w.heap.size w w' := by
  have HC0 := Lib.hid (cu_new w v z hrow hz)
  obtain ⟨a0, cap0, rfl, _, _, _⟩ := row_open hrow
  clear hrow hz
  go_enter Try.func25, Try.ntmps25
  go_wp2_with fail
  refine (wordList_any w.heap.size 0 z _ HC0.out (by omega)).mono ?_
  rintro e w1 ⟨g, c, zs, rfl, hzl, hd⟩
  have HC1 := Lib.hid hd.2.1
  have hB := hd.2.1.lt
  have hgB : w.heap.size < g := by have := (hd.1.lt g rfl).1; simp at this; omega
  have HD := Lib.hid (drawn_below rfl hd)
  clear hd
  have HSe := Lib.hid (specSeal_any ⟨g, 0, none⟩ c zs w1 (row_own HD.out.1))
  have hql := slL_len zs
  generalize slL zs = qs at HSe hql
  generalize slOk zs = ok at HSe
  go_wp2_with fail
  refine HSe.out.mono ?_
  rintro e w2 ⟨vs, rfl, hos, l2⟩
  have HOS := Lib.hid hos
  have HC2 := Lib.hid (HC1.out.grown (grown_of_below l2))
  have HL2 := Lib.hid (own_below HD.out.1 l2 (Nat.le_refl _))
  have HB2 := Lib.hid (HD.out.2.trans (l2.mono HD.out.2.size))
  clear hos l2 HC1 HSe
  have hw1 := HD.out.2.size
  cases ok with
  | false =>
    go_wp2_with fail
    go_ret
    exact ⟨_, zs, rfl, by omega, HL2.out, HB2.out⟩
  | true =>
    go_wp2_with fail
    refine (one_any w.heap.size _ 2 z w2 HC2.out (by omega) (by omega) (by omega)).mono ?_
    rintro e w3 ⟨b, rfl, _, hg3⟩
    have HO3 := Lib.hid (own_cur HOS.out hg3 hB)
    have HL3 : Hid (w3.ownsRow w.heap.size 3 1 (.slice (some ⟨g, 0, none⟩) zs.length c) zs.length (zs.map (Value.int .i64))) := Lib.hid (by
      refine HL2.out.kept hg3 (.inr fun e => ?_)
      have e2 : g = w.heap.size := Option.some.inj e
      omega)
    have HB3 := Lib.hid (HB2.out.trans (gbelow hg3 HB2.out.size (Nat.le_refl _)))
    clear hg3
    cases b with
    | false =>
      go_wp2_with fail
      go_ret
      exact ⟨_, zs, rfl, by omega, HL3.out, HB3.out⟩
    | true =>
      go_wp2_with fail
      go_ret
      exact ⟨_, qs, rfl, by omega, own_base HO3.out hw1, HB3.out⟩
end Go.Proofs.Ytofpajbfajcjgaa
