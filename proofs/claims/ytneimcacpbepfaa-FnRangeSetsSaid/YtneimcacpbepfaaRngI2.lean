/-
  Sets as ranges: the program's HasNumber and SetSize.
-/
import Derived.Test.YtneimcacpbepfaaRngI
import Derived.Shelf.Abstract
namespace Go.Proofs.Ytneimcacpbepfaa
open Go.RowKit Go.Lib Go.Joins
set_option linter.unusedVariables false

section
variable {α : Type}
/-- The place of the first element with p, or -1. -/
def idxG (p : α → Bool) (xs : List α) : Int := if xs.any p = true then ((xs.findIdx p : Nat) : Int) else -1
theorem idxG_no {p : α → Bool} {xs : List α} (h : xs.any p = false) : idxG p xs = -1 := by unfold idxG; rw [h]; rfl
theorem idxG_at {p : α → Bool} {xs : List α} {k : Nat} (hk : k < xs.length) (h : (xs.take k).any p = false) (hp : p xs[k] = true) : idxG p xs = (k : Int) := by
  have h1 : xs.any p = true := by rw [List.any_eq_true]; exact ⟨_, List.getElem_mem hk, hp⟩
  unfold idxG
  rw [if_pos h1]
  congr 1
  rw [List.findIdx_eq hk]
  refine ⟨hp, fun j hj => ?_⟩
  rw [List.any_eq_false] at h
  have := h xs[j] (by rw [List.mem_take_iff_getElem]; exact ⟨j, by omega, rfl⟩)
  simpa using this
theorem idxG_nonneg (p : α → Bool) (xs : List α) : decide (0 ≤ idxG p xs) = xs.any p := by
  cases h : xs.any p with
  | false => rw [idxG_no h]; rfl
  | true => unfold idxG; rw [if_pos h]; exact decide_eq_true (by omega)
end
set_option maxHeartbeats 1000000 in
theorem indexFuncR_any (p : Rg → Bool) (v : Value) (xs : List Rg) (fg : Nat) (cb : Array Value) (w : World) (hrow : Row w v xs.length (rgF xs))
    (eg : ∀ args w, (callFunc fg args).run Try.prog w = .ok (.enter fg args) w)
    (hp : ∀ W : World, Below w.heap.size w W → ∀ x y : Int, Calls Try.prog fg (#[.agg #[.int .i64 x, .int .i64 y]] ++ cb) W fun e w' => e = .returned (.bool (p (x, y))) ∧ Below W.heap.size W w') :
    Calls Try.prog 69 #[v, .func (.func fg) #[] cb] w fun e w' => e = .returned (.int .i64 (idxG p xs)) ∧ Below w.heap.size w w' := by
  obtain ⟨a, cap, rfl, hc1, hc2, hcell⟩ := rg_open hrow
  unfold maxLen at hc2
  have HC := Lib.hid hcell
  have HP := Lib.hid hp
  clear hcell hrow hp
  obtain ⟨n, hN⟩ : ∃ n, n = xs.length := ⟨_, rfl⟩
  rw [← hN] at hc1 ⊢
  have HN := Lib.hid hN
  clear hN
  have HR0 := Lib.hid (Below.refl w.heap.size w)
  go_enter Try.func69, Try.ntmps69
  go_wp2_with fail
  go_loopw [8] (fun i wr => ∃ k : Nat, k ≤ n ∧ i = .int .i64 k ∧ Hid ((xs.take k).any p = false) ∧ Hid (Below w.heap.size w wr)) (fun i _ => n - (intOf i).toNat)
  case atStart => exact ⟨0, Nat.zero_le _, rfl, Lib.hid (by simp), HR0⟩
  case round =>
    clear HR0
    obtain ⟨k, hk, rfl, HA, HB⟩ := hrel
    by_cases hkn : k < n
    · have hks : k < xs.length := by rw [← HN.out]; exact hkn
      obtain ⟨b, off, rfl, hb, hf, ht⟩ := HC.out k hks
      have hf1 := (HB.out.cell hb).trans hf
      have ht1 := (HB.out.cell hb).trans ht
      have HI := Lib.hid (idxG_at hks HA.out)
      have HS : Hid (p xs[k] = false → (xs.take (k + 1)).any p = false) := Lib.hid (fun h => by
        rw [List.take_succ_eq_append_getElem hks, List.any_append, HA.out]; simp [h])
      clear hf ht
      obtain ⟨f, t, hu⟩ : ∃ f t, xs[k] = (f, t) := ⟨_, _, rfl⟩
      rw [hu] at hf1 ht1 HI HS
      clear hu
      simp only at hf1 ht1
      have HPu := Lib.hid (HP.out wr HB.out f t)
      cases hs : p (f, t) with
      | true =>
        rw [hs] at HPu HI
        clear hs
        go_wp2_with (go_at_fn fg; refine HPu.out.mono ?_; rintro e w' ⟨rfl, l1⟩; have HB1 := Lib.hid (HB.out.trans (l1.mono HB.out.size)); clear l1 hf1 ht1)
        go_ret
        exact ⟨ret_int (HI.out (by first | exact trivial | rfl)).symm, HB1.out⟩
      | false =>
        rw [hs] at HPu HS
        clear hs
        go_wp2_with (go_at_fn fg; refine HPu.out.mono ?_; rintro e w' ⟨rfl, l1⟩; have HB1 := Lib.hid (HB.out.trans (l1.mono HB.out.size)); clear l1 hf1 ht1)
        go_roundw
        case rel => exact ⟨k + 1, by omega, by go_num, Lib.hid (HS.out (by first | exact trivial | rfl)), HB1⟩
        case measure => simp [intOf]; omega
    · obtain rfl : k = n := by omega
      go_wp2_with fail
      go_ret
      refine ⟨ret_int (idxG_no ?_).symm, HB.out⟩
      rw [← HA.out, HN.out, List.take_of_length_le (Nat.le_refl _)]
theorem containsFuncR_any (p : Rg → Bool) (v : Value) (xs : List Rg) (fg : Nat) (cb : Array Value) (w : World) (hrow : Row w v xs.length (rgF xs))
    (eg : ∀ args w, (callFunc fg args).run Try.prog w = .ok (.enter fg args) w)
    (hp : ∀ W : World, Below w.heap.size w W → ∀ x y : Int, Calls Try.prog fg (#[.agg #[.int .i64 x, .int .i64 y]] ++ cb) W fun e w' => e = .returned (.bool (p (x, y))) ∧ Below W.heap.size W w') :
    Calls Try.prog 51 #[v, .func (.func fg) #[] cb] w fun e w' => e = .returned (.bool (xs.any p)) ∧ Below w.heap.size w w' := by
  have HI := Lib.hid (indexFuncR_any p v xs fg cb w hrow eg hp)
  obtain ⟨a, cap, rfl, _, _, _⟩ := rg_open hrow
  have HB := Lib.hid (idxG_nonneg p xs)
  clear hrow hp eg
  generalize idxG p xs = r at HI HB
  go_enter Try.func51, Try.ntmps51
  go_wp2_with fail
  refine HI.out.mono ?_
  rintro e w1 ⟨rfl, l1⟩
  have HL := Lib.hid l1
  clear l1
  go_wp2_with fail
  go_ret
  exact ⟨ret_bool HB.out, HL.out⟩
def inR (x : Int) (r : Rg) : Bool := decide (r.1 ≤ x) && decide (x ≤ r.2)
theorem hasN1_any (f t x : Int) (g : Nat) (w : World) (hc : w.cell? ⟨g, 0, none⟩ = some (.int .i64 x)) (hg : g < w.heap.size) :
    Calls Try.prog 52 (#[.agg #[.int .i64 f, .int .i64 t]] ++ #[.pointer (some ⟨g, 0, none⟩)]) w fun e w' => e = .returned (.bool (inR x (f, t))) ∧ Below w.heap.size w w' := by
  by_cases h1 : f ≤ x
  · have HV : Hid (inR x (f, t) = decide (x ≤ t)) := Lib.hid (by unfold inR; rw [decide_eq_true h1, Bool.true_and])
    go_enter Try.func52, Try.ntmps52
    go_wp2_with fail
    go_ret
    exact ⟨ret_bool HV.out.symm, (Below.refl _ _).alloc (Nat.le_refl _) _⟩
  · have HV : Hid (inR x (f, t) = false) := Lib.hid (by unfold inR; rw [decide_eq_false h1, Bool.false_and])
    go_enter Try.func52, Try.ntmps52
    go_wp2_with fail
    go_ret
    exact ⟨ret_bool HV.out.symm, (Below.refl _ _).alloc (Nat.le_refl _) _⟩
theorem row_onei (w : World) (a : Int) : Row (w.alloc (.cells #[.int .i64 a] 3)) (.slice (some ⟨w.heap.size, 0, none⟩) 1 1) [a].length ([a].map (Value.int .i64)) :=
  row_made w [.int .i64 a] 3 1 rfl (by unfold maxLen; omega)
set_option maxHeartbeats 2000000 in
theorem implHas_any (v : Value) (s : List Rg) (x : Int) (w : World) (hrow : Row w v s.length (rgF s)) :
    Calls Try.prog 20 #[v, .int .i64 x] w fun e w' => e = .returned (.tuple #[.bool (hasV s x), .bool (hasOk s x)]) ∧ Below w.heap.size w w' := by
  have HR := Lib.hid hrow
  have hb0 := (Below.refl w.heap.size w).alloc (Nat.le_refl _) (.cells #[.int .i64 x] 3)
  have HG := Lib.hid (implIsSet_any _ s _ (hrow.below hb0 (Nat.le_refl _)))
  have HX0 : Hid ((w.alloc (.cells #[.int .i64 x] 3)).cell? ⟨w.heap.size, 0, none⟩ = some (.int .i64 x)) := Lib.hid (by simp)
  have HB0 := Lib.hid hb0
  obtain ⟨a, cap, rfl, hc1, hm1, hcell⟩ := rg_open hrow
  clear hcell hrow hb0
  have eg : ∀ args w, (callFunc 52 args).run Try.prog w = .ok (.enter 52 args) w := enters_of Try.func52 (by kernel_rfl) rfl
  have HA : Hid (∀ (W : World) (g : Nat), g = W.heap.size → Calls Try.prog 50 #[.slice (some ⟨g, 0, none⟩) 1 1] (W.alloc (.cells #[.int .i64 x] 3)) fun e w' => e = .returned (.bool (serB x)) ∧ W.alloc (.cells #[.int .i64 x] 3) = w') := Lib.hid (fun W g hg => by subst hg; have h := areWords_any _ [x] _ (row_onei W x); simpa using h)
  have HO1 : Hid (hasOk s x = (rgOk s && serB x)) := Lib.hid rfl
  have HV1 : Hid (hasV s x = ((rgOk s && serB x) && hasB s x)) := Lib.hid rfl
  have HCF := Lib.hid (fun (W : World) (hW : Below w.heap.size w W) (hc : W.cell? ⟨w.heap.size, 0, none⟩ = some (.int .i64 x)) (hlt : w.heap.size < W.heap.size) =>
    containsFuncR_any (inR x) _ s 52 #[.pointer (some ⟨w.heap.size, 0, none⟩)] W (HR.out.below hW (Nat.le_refl _)) eg
      (fun W' hW' f t => hasN1_any f t x w.heap.size W' ((hW'.cell hlt).trans hc) (Nat.lt_of_lt_of_le hlt hW'.size)))
  have hAny : s.any (inR x) = hasB s x := rfl
  rw [hAny] at HCF
  generalize rgOk s = b1 at HG HO1 HV1
  generalize hasB s x = b3 at HV1 HCF
  cases b1 with
  | false =>
    go_enter Try.func20, Try.ntmps20
    go_wp2_with fail
    refine HG.out.mono ?_
    rintro e w1 ⟨rfl, l1⟩
    have HB1 := Lib.hid (HB0.out.trans (l1.mono HB0.out.size))
    clear l1
    go_wp2_with fail
    go_ret2
    exact ⟨ret_bb HV1.out.symm HO1.out.symm, HB1.out⟩
  | true =>
    generalize serB x = b2 at HA HO1 HV1
    cases b2 with
    | false =>
      go_enter Try.func20, Try.ntmps20
      go_wp2_with fail
      refine HG.out.mono ?_
      rintro e w1 ⟨rfl, l1⟩
      have HB1 := Lib.hid (HB0.out.trans (l1.mono HB0.out.size))
      have hx1 : w1.cell? ⟨w.heap.size, 0, none⟩ = some (.int .i64 x) := (l1.cell (by simp)).trans HX0.out
      clear l1
      go_wp2_with (go_at_call 50; refine (HA.out _ _ (by simp)).mono ?_; rintro e w' ⟨rfl, rfl⟩)
      go_ret2
      exact ⟨ret_bb HV1.out.symm HO1.out.symm, b_a HB1.out _⟩
    | true =>
      go_enter Try.func20, Try.ntmps20
      go_wp2_with fail
      refine HG.out.mono ?_
      rintro e w1 ⟨rfl, l1⟩
      have HB1 := Lib.hid (HB0.out.trans (l1.mono HB0.out.size))
      have hx1 : w1.cell? ⟨w.heap.size, 0, none⟩ = some (.int .i64 x) := (l1.cell (by simp)).trans HX0.out
      have hlt : w.heap.size < w1.heap.size := Nat.lt_of_lt_of_le (by simp) l1.size
      have HX1 := Lib.hid hx1
      have HL1 := Lib.hid hlt
      clear l1 hlt
      go_wp2_with (go_at_call 50; refine (HA.out _ _ (by simp)).mono ?_; rintro e w' ⟨rfl, rfl⟩)
      refine (HCF.out _ (b_a HB1.out _) ((((Below.refl w1.heap.size w1).alloc (Nat.le_refl _) _).cell HL1.out).trans HX1.out) (by have := HL1.out; simp; omega)).mono ?_
      rintro e w2 ⟨rfl, l2⟩
      have HB2 := Lib.hid ((b_a HB1.out (.cells #[.int .i64 x] 3)).trans (l2.mono (by have := HB1.out.size; simp; omega)))
      clear l2 hx1
      go_wp2_with fail
      go_ret2
      exact ⟨ret_bb HV1.out.symm HO1.out.symm, HB2.out⟩
set_option maxHeartbeats 1000000 in
theorem implSize_any (v : Value) (s : List Rg) (w : World) (hrow : Row w v s.length (rgF s)) :
    Calls Try.prog 23 #[v] w fun e w' => e = .returned (.tuple #[.int .i64 (sizV s), .bool (rgOk s)]) ∧ Below w.heap.size w w' := by
  have HR := Lib.hid hrow
  have HG := Lib.hid (implIsSet_any _ s w hrow)
  obtain ⟨a, cap, rfl, hc1, hm1, hcell⟩ := rg_open hrow
  have HC := Lib.hid hcell
  clear hcell hrow
  unfold maxLen at hm1
  cases hg : rgOk s with
  | false =>
    rw [hg] at HG
    have HV : Hid (sizV s = 0) := Lib.hid (by unfold sizV; rw [hg]; rfl)
    clear hg
    go_enter Try.func23, Try.ntmps23
    go_wp2_with fail
    refine HG.out.mono ?_
    rintro e w1 ⟨rfl, l1⟩
    have HB1 := Lib.hid l1
    clear l1
    go_wp2_with fail
    go_ret2
    exact ⟨ret_ib HV.out.symm rfl, HB1.out⟩
  | true =>
    rw [hg] at HG
    have hch := (rgOk_parts hg).1
    have HV : Hid (sizV s = sizG s) := Lib.hid (by unfold sizV; rw [hg]; rfl)
    have HCh := Lib.hid hch
    clear hg hch
    obtain ⟨n, hN⟩ : ∃ n, n = s.length := ⟨_, rfl⟩
    rw [← hN] at hc1 HG ⊢
    have HN := Lib.hid hN
    clear hN
    go_enter Try.func23, Try.ntmps23
    go_wp2_with fail
    refine HG.out.mono ?_
    rintro e w1 ⟨rfl, l1⟩
    have HB1 := Lib.hid l1
    clear HG l1
    go_wp2_with fail
    go_loopw [4, 12] (fun m i wr => ∃ (k : Nat) (z : Int), k ≤ n ∧ i = .int .i64 k ∧ m = .int .i64 z ∧ 0 ≤ z ∧ z ≤ 65536 ∧ Hid (z = sizG (s.take k)) ∧ Hid (Below w.heap.size w wr)) (fun _ i _ => n - (intOf i).toNat)
    case atStart => exact ⟨0, 0, Nat.zero_le _, rfl, rfl, Int.le_refl _, by omega, Lib.hid rfl, HB1⟩
    case round =>
      clear HB1
      obtain ⟨k, z, hk, rfl, rfl, hz0, hz1, HZ, HB⟩ := hrel
      by_cases hkn : k < n
      · have hks : k < s.length := by rw [← HN.out]; exact hkn
        obtain ⟨b, off, rfl, hb, hf, ht⟩ := HC.out k hks
        have hf1 := (HB.out.cell hb).trans hf
        have ht1 := (HB.out.cell hb).trans ht
        have hv := HCh.out.2 s[k] (List.getElem_mem hks)
        have hsz := sizG_take hks
        have hsb := siz_nonneg (rgCh_take HCh.out (k + 1))
        rw [hsz, ← HZ.out] at hsb
        rw [← HZ.out] at hsz
        clear hf ht
        obtain ⟨f, hfe⟩ : ∃ f, f = s[k].1 := ⟨_, rfl⟩
        obtain ⟨t, hte⟩ : ∃ t, t = s[k].2 := ⟨_, rfl⟩
        rw [← hfe] at hf1
        rw [← hte] at ht1
        rw [← hfe, ← hte] at hv hsz hsb
        have HZ2 := Lib.hid hsz
        clear hfe hte hsz HZ
        obtain ⟨f0, ft, t1⟩ := hv
        obtain ⟨s0, s1⟩ := hsb
        have w1 : IntKind.i64.wrap (t - f) = t - f := IntWalk.i64_in _ (by omega)
        have w2 : IntKind.i64.wrap (t - f + 1) = t - f + 1 := IntWalk.i64_in _ (by omega)
        have w3 : IntKind.i64.wrap (z + (t - f + 1)) = z + (t - f + 1) := IntWalk.i64_in _ (by omega)
        go_wp2_with fail
        go_roundw
        case rel => exact ⟨k + 1, z + (t - f + 1), by omega, by go_num, rfl, by omega, by omega, Lib.hid (by rw [HZ2.out]), Lib.hid (b_a HB.out _)⟩
        case measure => (simp [intOf]; omega)
      · obtain rfl : k = n := by omega
        have HO : Hid (z = sizG s) := Lib.hid (by
          have h := HZ.out
          rw [HN.out, List.take_of_length_le (Nat.le_refl _)] at h
          exact h)
        go_wp2_with fail
        go_ret2
        exact ⟨ret_ib (by rw [HV.out, ← HO.out]) rfl, HB.out⟩
end Go.Proofs.Ytneimcacpbepfaa
