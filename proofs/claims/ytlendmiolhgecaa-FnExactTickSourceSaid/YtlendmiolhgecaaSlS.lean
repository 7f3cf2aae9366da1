/-
  slices.Grow, Concat (of two and of three), Clone and Repeat at strings.
-/
import Derived.Test.YtlendmiolhgecaaFit
import Derived.Shelf.SlGeneric
import Derived.Ground.Names8Prog
import Derived.Shelf.Spec.SlicesGrow
import Derived.Lib.SliceRun
import Derived.Lib.SmallJoins
import Derived.Deep.CutRange
import Derived.WalkLawsBesides
import Derived.Laws.OwnMore
namespace Go.Proofs
open Go.Shelf
def Try.growS_ren : Go.Shelf.Ren := ⟨fun | 4 => 125 | n => n, fun | 22 => 24 | 25 => 9 | 3 => 3 | 4 => 4 | 9 => 9 | 20 => 20 | 0 => 0 | 2 => 3 | n => n, fun | n => n⟩
theorem Try.growS : Go.Proofs.Lays8.n4 Try.prog Try.growS_ren := {
  mixed := by kernel_rfl
  f4 := ⟨Try.f125.name, by decide, Try.func125.trans (congrArg some (by kernel_rfl))⟩
  t0 := Try.underlying0
  a0 := Try.isAgg0
  z0 := Try.sizeOf0
  v0 := Try.zeroValue0
  t3 := Try.underlying3
  a3 := Try.isAgg3
  z3 := Try.sizeOf3
  v3 := Try.zeroValue3
  t4 := Try.underlying4
  a4 := Try.isAgg4
  z4 := Try.sizeOf4
  v4 := Try.zeroValue4
  t9 := Try.underlying9
  a9 := Try.isAgg9
  z9 := Try.sizeOf9
  v9 := Try.zeroValue9
  t20 := Try.underlying20
  a20 := Try.isAgg20
  z20 := Try.sizeOf20
  v20 := Try.zeroValue20
  t22 := Try.underlying24
  a22 := Try.isAgg24
  z22 := Try.sizeOf24
  v22 := Try.zeroValue24 }
end Go.Proofs
namespace Go.Proofs.Ytlendmiolhgecaa
open Go.RowKit Go.Lib Go.Joins
set_option linter.unusedVariables false

theorem growS_any (n : Nat) (w : World) (hn : n ≤ 1000) :
    Calls Try.prog 125 #[.slice none 0 0, .int .i64 n] w fun e w' => ∃ v', e = .returned v' ∧ w'.ownsRow w.heap.size 9 1 v' 0 [] ∧ Below w.heap.size w w' := by
  obtain ⟨i0, hi, hz0, hz1, hz2⟩ := info_parts infoStr
  rcases Nat.eq_zero_or_pos n with rfl | hpos
  · refine (Any8.slices_Grow_room Try.growS none 0 0 0 w (Nat.le_refl _) (by omega) (by omega) (Nat.le_refl _)).mono ?_
    rintro e w' ⟨rfl, rfl⟩
    exact ⟨_, rfl, World.ownsRow_nil _ _ _ _, Below.refl _ _⟩
  · refine (Any8.slices_Grow_grow Try.growS i0 (.string ⟨#[]⟩) hi hz0 (by omega) none 0 0 n [] w (Nat.le_refl _) (by omega) (by rw [hz2]; omega) (by omega) (by simp) (fun _ => rfl) (fun a h => by cases h)).mono ?_
    rintro e w' ⟨rfl, rfl⟩
    refine ⟨_, rfl, ?_, ((Below.refl w.heap.size w).drew).alloc (Nat.le_refl _) _⟩
    obtain ⟨G, hG⟩ : ∃ G, G = grownCap w (0 + n) 0 9 := ⟨_, rfl⟩
    have hGe : 0 + n ≤ G := by rw [hG]; exact grownCap_ge w _ _ _
    have hGl : G ≤ maxLen := by rw [hG]; exact grownCap_le_maxLen w _ _ _ (by unfold maxLen; omega)
    show (w.drew.alloc (.cells (#[] ++ Builtin.zeroCells (Value.string ⟨#[]⟩).cells (0 + n - 0) ++ Builtin.zeroCells (Value.string ⟨#[]⟩).cells (grownCap w (0 + n) 0 9 - (0 + n))) 9)).ownsRow w.heap.size 9 1 (.slice (some ⟨w.heap.size, 0, none⟩) 0 (grownCap w (0 + n) 0 9)) 0 []
    rw [← hG]
    refine ⟨rfl, .inr ⟨w.heap.size, G, _, rfl, Nat.le_refl _, heap_alloc_new w.drew _, Nat.zero_le _, hGl, ?_, by simp⟩⟩
    rw [Array.size_append, Array.size_append, size_zeroCells, size_zeroCells]
    show 0 + (0 + n - 0) * 1 + (G - (0 + n)) * 1 = G * 1
    omega
set_option maxRecDepth 100000 in
set_option maxHeartbeats 4000000 in
theorem concatS2_any (v1 v2 : Value) (s1 s2 : List ByteArray) (g : Nat) (w : World) (h1 : Row w v1 s1.length (s1.map Value.string)) (hf1 : FitS v1 s1.length) (hl1 : s1.length ≤ 100) (h2 : Row w v2 s2.length (s2.map Value.string)) (hf2 : FitS v2 s2.length) (hl2 : s2.length ≤ 100)
    (hg : w.heap[g]? = some (.cells #[v1, v2] 24 (0, 0))) :
    Calls Try.prog 117 #[.slice (some ⟨g, 0, none⟩) 2 2] w fun e w' => ∃ v', e = .returned v' ∧ w'.ownsRow w.heap.size 9 1 v' (s1 ++ s2).length ((s1 ++ s2).map Value.string) ∧ Below w.heap.size w w' := by
  obtain ⟨i0, hi, hz0, hz1, hz2⟩ := info_parts infoStr
  have hgl : g < w.heap.size := (Array.getElem?_eq_some_iff.1 hg).1
  have q1 : w.cell? ⟨g, 0, none⟩ = some v1 := by simp [World.cell?, hg]
  have q2 : w.cell? ⟨g, 1, none⟩ = some v2 := by simp [World.cell?, hg]
  have HR1 := Lib.hid h1
  have HF1 := Lib.hid hf1
  have HR2 := Lib.hid h2
  have HF2 := Lib.hid hf2
  obtain ⟨a1, c1, rfl, hd1, hm1, _⟩ := row_open h1
  obtain ⟨a2, c2, rfl, hd2, hm2, _⟩ := row_open h2
  have HQ := Lib.hid (fun (W : World) (hW : Below w.heap.size w W) => (And.intro ((hW.cell (p := ⟨g, 0, none⟩) hgl).trans q1) ((hW.cell (p := ⟨g, 1, none⟩) hgl).trans q2)))
  obtain ⟨n1, hn1⟩ : ∃ n, n = s1.length := ⟨_, rfl⟩
  obtain ⟨n2, hn2⟩ : ∃ n, n = s2.length := ⟨_, rfl⟩
  rw [← hn1] at hd1 hl1 HR1 HF1 HQ q1
  have HN1 := Lib.hid hn1
  rw [← hn2] at hd2 hl2 HR2 HF2 HQ q2
  have HN2 := Lib.hid hn2
  have hw0 : IntKind.i64.wrap (0 + (n1 : Int)) = (n1 : Int) := (IntWalk.i64_in _ (by omega)).trans (by omega)
  have hp1 : ¬ ((n1 : Int) < 0) := by omega
  have hw2 : IntKind.i64.wrap (((n1 : Nat) : Int) + (n2 : Int)) = ((n1 + n2 : Nat) : Int) := (IntWalk.i64_in _ (by omega)).trans (by omega)
  have hp2 : ¬ (((n1 + n2 : Nat) : Int) < 0) := by omega
  have HG := Lib.hid (growS_any (n1 + n2) w (by omega))
  clear h1 hf1 hn1 h2 hf2 hn2 hg
  go_enter Try.func117, Try.ntmps117
  go_wp2_with fail
  refine wp_loop_rounds 3 ?_
  rw [rounds_succ]
  go_wp2_with fail
  rw [rounds_succ]
  go_wp2_with fail
  rw [rounds_succ]
  go_wp2_with fail
  refine HG.out.mono ?_
  rintro e w1 ⟨v5, rfl, o5, l5⟩
  have HO0 := Lib.hid o5
  have HB0 := Lib.hid l5
  obtain ⟨r1, r2⟩ := HQ.out w1 l5
  obtain ⟨a5, c5, rfl, _, _⟩ := own_someS0 o5
  have HLe1 : Hid ((s1.map Value.string).length = n1 * 1) := Lib.hid (by rw [List.length_map, HN1.out, Nat.mul_one])
  have HLe2 : Hid ((s2.map Value.string).length = n2 * 1) := Lib.hid (by rw [List.length_map, HN2.out, Nat.mul_one])
  clear o5 l5 q1 q2
  go_wp2_with fail
  refine wp_loop_rounds 3 ?_
  rw [rounds_succ]
  go_wp2_with (at_builtin; refine wpList_append_fitS _ rfl _ _ 24 rfl w.heap.size 9 i0 (.string ⟨#[]⟩) 1 16 Try.underlying24 hi hz0 hz1 hz2 rfl (by decide) _ (0) ([]) rfl HO0.out _ n1 (s1.map Value.string) rfl HF1.out HLe1.out (HR1.out.below HB0.out (Nat.le_refl _)) (one_strs s1) (by unfold maxLen; omega) (by omega) HB0.out.size ?_; intro v6 w6 hown hgrow)
  have HO0' := Lib.hid HO0.out
  have HB1 := Lib.hid (HB0.out.grown hgrow HB0.out.size (fun k hk => (HO0'.out.lt k hk).1))
  obtain ⟨t1_1, t1_2⟩ := HQ.out w6 HB1.out
  have HO1 : Hid (w6.ownsRow w.heap.size 9 1 v6 n1 (s1.map Value.string)) := Lib.hid (by simpa using hown)
  obtain ⟨a6, c6, rfl, _, _⟩ := own_someS0 HO1.out
  clear hown hgrow HO0 HO0' r1 r2
  go_wp2_with fail
  rw [rounds_succ]
  go_wp2_with (at_builtin; refine wpList_append_fitS _ rfl _ _ 24 rfl w.heap.size 9 i0 (.string ⟨#[]⟩) 1 16 Try.underlying24 hi hz0 hz1 hz2 rfl (by decide) _ (n1) (s1.map Value.string) rfl HO1.out _ n2 (s2.map Value.string) rfl HF2.out HLe2.out (HR2.out.below HB1.out (Nat.le_refl _)) (one_strs s2) (by unfold maxLen; omega) (by omega) HB1.out.size ?_; intro v6 w7 hown hgrow)
  have HO1' := Lib.hid HO1.out
  have HB2 := Lib.hid (HB1.out.grown hgrow HB1.out.size (fun k hk => (HO1'.out.lt k hk).1))
  have HO2 := Lib.hid hown
  obtain ⟨a7, c7, rfl, _, _⟩ := own_someS0 HO2.out
  clear hown hgrow HO1 HO1' t1_1 t1_2
  go_wp2_with fail
  rw [rounds_succ]
  go_wp2_with fail
  go_ret
  refine ⟨_, rfl, ?_, HB2.out⟩
  have h := HO2.out
  rw [show (s1 ++ s2).length = n1 + n2 by simp only [List.length_append]; rw [HN1.out]; rw [HN2.out], List.map_append]
  exact h
set_option maxRecDepth 100000 in
set_option maxHeartbeats 4000000 in
theorem concatS3_any (v1 v2 v3 : Value) (s1 s2 s3 : List ByteArray) (g : Nat) (w : World) (h1 : Row w v1 s1.length (s1.map Value.string)) (hf1 : FitS v1 s1.length) (hl1 : s1.length ≤ 100) (h2 : Row w v2 s2.length (s2.map Value.string)) (hf2 : FitS v2 s2.length) (hl2 : s2.length ≤ 100) (h3 : Row w v3 s3.length (s3.map Value.string)) (hf3 : FitS v3 s3.length) (hl3 : s3.length ≤ 100)
    (hg : w.heap[g]? = some (.cells #[v1, v2, v3] 24 (0, 0))) :
    Calls Try.prog 117 #[.slice (some ⟨g, 0, none⟩) 3 3] w fun e w' => ∃ v', e = .returned v' ∧ w'.ownsRow w.heap.size 9 1 v' (s1 ++ s2 ++ s3).length ((s1 ++ s2 ++ s3).map Value.string) ∧ Below w.heap.size w w' := by
  obtain ⟨i0, hi, hz0, hz1, hz2⟩ := info_parts infoStr
  have hgl : g < w.heap.size := (Array.getElem?_eq_some_iff.1 hg).1
  have q1 : w.cell? ⟨g, 0, none⟩ = some v1 := by simp [World.cell?, hg]
  have q2 : w.cell? ⟨g, 1, none⟩ = some v2 := by simp [World.cell?, hg]
  have q3 : w.cell? ⟨g, 2, none⟩ = some v3 := by simp [World.cell?, hg]
  have HR1 := Lib.hid h1
  have HF1 := Lib.hid hf1
  have HR2 := Lib.hid h2
  have HF2 := Lib.hid hf2
  have HR3 := Lib.hid h3
  have HF3 := Lib.hid hf3
  obtain ⟨a1, c1, rfl, hd1, hm1, _⟩ := row_open h1
  obtain ⟨a2, c2, rfl, hd2, hm2, _⟩ := row_open h2
  obtain ⟨a3, c3, rfl, hd3, hm3, _⟩ := row_open h3
  have HQ := Lib.hid (fun (W : World) (hW : Below w.heap.size w W) => (And.intro ((hW.cell (p := ⟨g, 0, none⟩) hgl).trans q1) (And.intro ((hW.cell (p := ⟨g, 1, none⟩) hgl).trans q2) ((hW.cell (p := ⟨g, 2, none⟩) hgl).trans q3))))
  obtain ⟨n1, hn1⟩ : ∃ n, n = s1.length := ⟨_, rfl⟩
  obtain ⟨n2, hn2⟩ : ∃ n, n = s2.length := ⟨_, rfl⟩
  obtain ⟨n3, hn3⟩ : ∃ n, n = s3.length := ⟨_, rfl⟩
  rw [← hn1] at hd1 hl1 HR1 HF1 HQ q1
  have HN1 := Lib.hid hn1
  rw [← hn2] at hd2 hl2 HR2 HF2 HQ q2
  have HN2 := Lib.hid hn2
  rw [← hn3] at hd3 hl3 HR3 HF3 HQ q3
  have HN3 := Lib.hid hn3
  have hw0 : IntKind.i64.wrap (0 + (n1 : Int)) = (n1 : Int) := (IntWalk.i64_in _ (by omega)).trans (by omega)
  have hp1 : ¬ ((n1 : Int) < 0) := by omega
  have hw2 : IntKind.i64.wrap (((n1 : Nat) : Int) + (n2 : Int)) = ((n1 + n2 : Nat) : Int) := (IntWalk.i64_in _ (by omega)).trans (by omega)
  have hp2 : ¬ (((n1 + n2 : Nat) : Int) < 0) := by omega
  have hw3 : IntKind.i64.wrap (((n1 + n2 : Nat) : Int) + (n3 : Int)) = ((n1 + n2 + n3 : Nat) : Int) := (IntWalk.i64_in _ (by omega)).trans (by omega)
  have hp3 : ¬ (((n1 + n2 + n3 : Nat) : Int) < 0) := by omega
  have HG := Lib.hid (growS_any (n1 + n2 + n3) w (by omega))
  clear h1 hf1 hn1 h2 hf2 hn2 h3 hf3 hn3 hg
  go_enter Try.func117, Try.ntmps117
  go_wp2_with fail
  refine wp_loop_rounds 4 ?_
  rw [rounds_succ]
  go_wp2_with fail
  rw [rounds_succ]
  go_wp2_with fail
  rw [rounds_succ]
  go_wp2_with fail
  rw [rounds_succ]
  go_wp2_with fail
  refine HG.out.mono ?_
  rintro e w1 ⟨v5, rfl, o5, l5⟩
  have HO0 := Lib.hid o5
  have HB0 := Lib.hid l5
  obtain ⟨r1, r2, r3⟩ := HQ.out w1 l5
  obtain ⟨a5, c5, rfl, _, _⟩ := own_someS0 o5
  have HLe1 : Hid ((s1.map Value.string).length = n1 * 1) := Lib.hid (by rw [List.length_map, HN1.out, Nat.mul_one])
  have HLe2 : Hid ((s2.map Value.string).length = n2 * 1) := Lib.hid (by rw [List.length_map, HN2.out, Nat.mul_one])
  have HLe3 : Hid ((s3.map Value.string).length = n3 * 1) := Lib.hid (by rw [List.length_map, HN3.out, Nat.mul_one])
  clear o5 l5 q1 q2 q3
  go_wp2_with fail
  refine wp_loop_rounds 4 ?_
  rw [rounds_succ]
  go_wp2_with (at_builtin; refine wpList_append_fitS _ rfl _ _ 24 rfl w.heap.size 9 i0 (.string ⟨#[]⟩) 1 16 Try.underlying24 hi hz0 hz1 hz2 rfl (by decide) _ (0) ([]) rfl HO0.out _ n1 (s1.map Value.string) rfl HF1.out HLe1.out (HR1.out.below HB0.out (Nat.le_refl _)) (one_strs s1) (by unfold maxLen; omega) (by omega) HB0.out.size ?_; intro v6 w6 hown hgrow)
  have HO0' := Lib.hid HO0.out
  have HB1 := Lib.hid (HB0.out.grown hgrow HB0.out.size (fun k hk => (HO0'.out.lt k hk).1))
  obtain ⟨t1_1, t1_2, t1_3⟩ := HQ.out w6 HB1.out
  have HO1 : Hid (w6.ownsRow w.heap.size 9 1 v6 n1 (s1.map Value.string)) := Lib.hid (by simpa using hown)
  obtain ⟨a6, c6, rfl, _, _⟩ := own_someS0 HO1.out
  clear hown hgrow HO0 HO0' r1 r2 r3
  go_wp2_with fail
  rw [rounds_succ]
  go_wp2_with (at_builtin; refine wpList_append_fitS _ rfl _ _ 24 rfl w.heap.size 9 i0 (.string ⟨#[]⟩) 1 16 Try.underlying24 hi hz0 hz1 hz2 rfl (by decide) _ (n1) (s1.map Value.string) rfl HO1.out _ n2 (s2.map Value.string) rfl HF2.out HLe2.out (HR2.out.below HB1.out (Nat.le_refl _)) (one_strs s2) (by unfold maxLen; omega) (by omega) HB1.out.size ?_; intro v6 w7 hown hgrow)
  have HO1' := Lib.hid HO1.out
  have HB2 := Lib.hid (HB1.out.grown hgrow HB1.out.size (fun k hk => (HO1'.out.lt k hk).1))
  obtain ⟨t2_1, t2_2, t2_3⟩ := HQ.out w7 HB2.out
  have HO2 := Lib.hid hown
  obtain ⟨a7, c7, rfl, _, _⟩ := own_someS0 HO2.out
  clear hown hgrow HO1 HO1' t1_1 t1_2 t1_3
  go_wp2_with fail
  rw [rounds_succ]
  go_wp2_with (at_builtin; refine wpList_append_fitS _ rfl _ _ 24 rfl w.heap.size 9 i0 (.string ⟨#[]⟩) 1 16 Try.underlying24 hi hz0 hz1 hz2 rfl (by decide) _ (n1 + n2) (s1.map Value.string ++ s2.map Value.string) rfl HO2.out _ n3 (s3.map Value.string) rfl HF3.out HLe3.out (HR3.out.below HB2.out (Nat.le_refl _)) (one_strs s3) (by unfold maxLen; omega) (by omega) HB2.out.size ?_; intro v6 w8 hown hgrow)
  have HO2' := Lib.hid HO2.out
  have HB3 := Lib.hid (HB2.out.grown hgrow HB2.out.size (fun k hk => (HO2'.out.lt k hk).1))
  have HO3 := Lib.hid hown
  obtain ⟨a8, c8, rfl, _, _⟩ := own_someS0 HO3.out
  clear hown hgrow HO2 HO2' t2_1 t2_2 t2_3
  go_wp2_with fail
  rw [rounds_succ]
  go_wp2_with fail
  go_ret
  refine ⟨_, rfl, ?_, HB3.out⟩
  have h := HO3.out
  rw [show (s1 ++ s2 ++ s3).length = n1 + n2 + n3 by simp only [List.length_append]; rw [HN1.out]; rw [HN2.out]; rw [HN3.out], List.map_append, List.map_append]
  exact h
set_option maxRecDepth 100000 in
set_option maxHeartbeats 1000000 in
theorem cloneS_any (v : Value) (xs : List ByteArray) (w : World) (hrow : Row w v xs.length (xs.map Value.string)) (hfit : FitS v xs.length) (hl : xs.length ≤ 1000) :
    Calls Try.prog 106 #[v] w fun e w' => ∃ v', e = .returned v' ∧ w'.ownsRow w.heap.size 9 1 v' xs.length (xs.map Value.string) ∧ Below w.heap.size w w' := by
  obtain ⟨i0, hi, hz0, hz1, hz2⟩ := info_parts infoStr
  rcases hfit with ⟨rfl, h0⟩ | ⟨ad, cap, rfl⟩
  · have hx : xs = [] := List.eq_nil_of_length_eq_zero h0
    subst hx
    have hnil : ∀ W : World, (binOp .eql 24 (.slice none 0 0) (.slice none 0 0)).run Try.prog W = .ok (.bool true) W := fun W => Go.Lib.run_eql_slice_nil (P := Try.prog) W 24 9 none 0 0 0 0 Try.underlying24
    go_enter Try.func106, Try.ntmps106
    go_wp2_with fail
    go_ret
    exact ⟨_, rfl, World.ownsRow_nil _ _ _ _, Below.refl _ _⟩
  · have HR := Lib.hid (hrow.below ((Below.refl w.heap.size w).alloc (Nat.le_refl _) (.cells #[] 9)) (Nat.le_refl _))
    clear hrow
    have hnil : ∀ W : World, (binOp .eql 24 (.slice (some ad) xs.length cap) (.slice none 0 0)).run Try.prog W = .ok (.bool false) W := fun W => Go.Lib.run_eql_slice_nil (P := Try.prog) W 24 9 (some ad) xs.length cap 0 0 Try.underlying24
    go_enter Try.func106, Try.ntmps106
    go_wp2_with (at_builtin; refine wpList_append_own_at _ rfl _ _ 24 rfl w.heap.size 9 i0 (.string ⟨#[]⟩) 1 16 Try.underlying24 hi hz0 hz1 hz2 rfl (by decide) _ 0 [] rfl (own_lit (heap_alloc_new w _) (Nat.le_refl _)) ad xs.length cap (xs.map Value.string) rfl (by rw [List.length_map, Nat.mul_one]) (row_news HR.out) (one_strs xs) (by unfold maxLen; omega) (by omega) (by simp) ?_; intro v1 w1 hown hgrow hnil hat; rw [Nat.zero_add, List.nil_append] at hown; have HO := Lib.hid hown; obtain ⟨a1, c1, rfl, _, _⟩ := own_someS0 HO.out; have HB := Lib.hid (below_litS hgrow); clear hown hgrow hnil hat)
    go_ret
    exact ⟨_, rfl, HO.out, HB.out⟩
end Go.Proofs.Ytlendmiolhgecaa
