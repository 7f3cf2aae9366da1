/-
  slices.Concat of two slices of ranges (slices.Grow by the shelf's contract).
-/
import Derived.Test.YtneimcacpbepfaaSortR3
import Derived.Shelf.SlGeneric
import Derived.Ground.Names8Prog
import Derived.Shelf.Spec.SlicesGrow
namespace Go.Proofs
open Go.Shelf
def Try.growR_ren : Go.Shelf.Ren := ⟨fun | 4 => 72 | n => n, fun | 22 => 24 | 25 => 58 | 3 => 3 | 4 => 4 | 9 => 9 | 20 => 20 | 0 => 0 | 2 => 3 | n => n, fun | n => n⟩
theorem Try.growR : Go.Proofs.Lays8.n4 Try.prog Try.growR_ren := {
  mixed := by kernel_rfl
  f4 := ⟨Try.f72.name, by decide, Try.func72.trans (congrArg some (by kernel_rfl))⟩
  t0 := Try.underlying0
  a0 := Try.isAgg0
  z0 := Try.sizeOf0
  v0 := Try.zeroValue0
  t3 := Try.underlying3
  a3 := Try.isAgg3
  z3 := Try.sizeOf3
  v3 := Try.zeroValue3
  t4 := Try.underlying4
  a4 := Try.isAgg4
  z4 := Try.sizeOf4
  v4 := Try.zeroValue4
  t9 := Try.underlying9
  a9 := Try.isAgg9
  z9 := Try.sizeOf9
  v9 := Try.zeroValue9
  t20 := Try.underlying20
  a20 := Try.isAgg20
  z20 := Try.sizeOf20
  v20 := Try.zeroValue20
  t22 := Try.underlying24
  a22 := Try.isAgg24
  z22 := Try.sizeOf24
  v22 := Try.zeroValue24 }
end Go.Proofs
namespace Go.Proofs.Ytneimcacpbepfaa
open Go.RowKit Go.Lib Go.Joins
set_option linter.unusedVariables false

/-- A slice as a program makes it: nil, or in memory. -/
def Fit (v : Value) (n : Nat) : Prop := (v = .slice none 0 0 ∧ n = 0) ∨ ∃ ad c, v = .slice (some ad) n c
theorem fit_own {w : World} {B n z : Nat} {e : TypeId} {v : Value} {xs : List Value} (h : w.ownsRow B e z v n xs) : Fit v n := by
  obtain ⟨hl, ⟨rfl, h0⟩ | ⟨g, c, cur, rfl, _⟩⟩ := h
  · exact .inl ⟨rfl, h0⟩
  · exact .inr ⟨_, _, rfl⟩
theorem fit_some (ad : Addr) (n c : Nat) : Fit (.slice (some ad) n c) n := .inr ⟨_, _, rfl⟩
/-- An append of such a slice to a row of the call's own. -/
theorem wpList_append_fit {P : Program} (w : World) {ops : Array Oper} {rest : List Oper} {o : Oper} {a : Act} {Q : Exit → Act → World → Prop} (hgd : o.guard = none) (s x : Operand) (t : TypeId)
    (ho : o.op = .call { callee := .builtin .append, args := #[s, x], argTypes := #[t, t] })
    (base : Nat) (e : TypeId) (i : TypeInfo) (z : Value) (size bytes : Nat) (ht : P.underlying t = some (.slice e)) (hi : P.info? e = some i) (hz : i.zero = some z)
    (hsize : i.size = size) (hby : i.bytes = bytes) (hzs : z.cells.size = size) (hsz : 0 < size)
    (v : Value) (n : Nat) (xs : List Value) (hs : a.eval s = v) (hown : w.ownsRow base e size v n xs)
    (vx : Value) (m : Nat) (ys : List Value) (hx : a.eval x = vx) (hfit : Fit vx m) (hl : ys.length = m * size) (hrow : Row w vx m ys) (h1 : ∀ u ∈ ys, u.oneCell' = true)
    (h63 : n + m ≤ maxLen) (hbytes : (n + m) * bytes ≤ 140737488355328) (hbase : base ≤ w.heap.size)
    (h : ∀ v' w', w'.ownsRow base e size v' (n + m) (xs ++ ys) → w.grownBy w' v.ownBlock → wpList P ops Q rest (a.put o.dst v') w') :
    wpList P ops Q (o :: rest) a w := by
  rcases hfit with ⟨rfl, rfl⟩ | ⟨ad, c, rfl⟩
  · have hy : ys = [] := List.eq_nil_of_length_eq_zero (by omega)
    subst hy
    refine wpList_append_own_none hgd s x t ho base e i size ht hi v n xs hs hown hx ?_
    exact h v w (by rw [List.append_nil]; exact hown) (gr_self w _)
  · exact wpList_append_own_at w hgd s x t ho base e i z size bytes ht hi hz hsize hby hzs hsz v n xs hs hown ad m c ys hx hl (row_news hrow) h1 h63 hbytes hbase (fun v' w' h2 h3 _ _ => h v' w' h2 h3)
theorem growR_any (n : Nat) (w : World) (hn : n ≤ 1000) :
    Calls Try.prog 72 #[.slice none 0 0, .int .i64 n] w fun e w' => ∃ v', e = .returned v' ∧ w'.ownsRow w.heap.size 58 2 v' 0 [] ∧ Below w.heap.size w w' := by
  obtain ⟨i0, hi, hz0, hz1, hz2⟩ := info_parts infoRg
  rcases Nat.eq_zero_or_pos n with rfl | hpos
  · refine (Any8.slices_Grow_room Try.growR none 0 0 0 w (Nat.le_refl _) (by omega) (by omega) (Nat.le_refl _)).mono ?_
    rintro e w' ⟨rfl, rfl⟩
    exact ⟨_, rfl, World.ownsRow_nil _ _ _ _, Below.refl _ _⟩
  · refine (Any8.slices_Grow_grow Try.growR i0 (.agg #[.int .i64 0, .int .i64 0]) hi hz0 (by omega) none 0 0 n [] w (Nat.le_refl _) (by omega) (by rw [hz2]; omega) (by omega) (by simp) (fun _ => rfl) (fun a h => by cases h)).mono ?_
    rintro e w' ⟨rfl, rfl⟩
    refine ⟨_, rfl, ?_, ((Below.refl w.heap.size w).drew).alloc (Nat.le_refl _) _⟩
    obtain ⟨G, hG⟩ : ∃ G, G = grownCap w (0 + n) 0 58 := ⟨_, rfl⟩
    have hGe : 0 + n ≤ G := by rw [hG]; exact grownCap_ge w _ _ _
    have hGl : G ≤ maxLen := by rw [hG]; exact grownCap_le_maxLen w _ _ _ (by unfold maxLen; omega)
    show (w.drew.alloc (.cells (#[] ++ Builtin.zeroCells (Value.agg #[.int .i64 0, .int .i64 0]).cells (0 + n - 0) ++ Builtin.zeroCells (Value.agg #[.int .i64 0, .int .i64 0]).cells (grownCap w (0 + n) 0 58 - (0 + n))) 58)).ownsRow w.heap.size 58 2 (.slice (some ⟨w.heap.size, 0, none⟩) 0 (grownCap w (0 + n) 0 58)) 0 []
    rw [← hG]
    refine ⟨rfl, .inr ⟨w.heap.size, G, _, rfl, Nat.le_refl _, heap_alloc_new w.drew _, Nat.zero_le _, hGl, ?_, by simp⟩⟩
    rw [Array.size_append, Array.size_append, size_zeroCells, size_zeroCells]
    show 0 + (0 + n - 0) * 2 + (G - (0 + n)) * 2 = G * 2
    omega
set_option maxHeartbeats 2000000 in
theorem concatR_any (v1 v2 : Value) (s1 s2 : List Rg) (g : Nat) (w : World) (h1 : Row w v1 s1.length (rgF s1)) (h2 : Row w v2 s2.length (rgF s2)) (hf1 : Fit v1 s1.length) (hf2 : Fit v2 s2.length) (hl1 : s1.length ≤ 100) (hl2 : s2.length ≤ 100)
    (hg : w.heap[g]? = some (.cells #[v1, v2] 24 (0, 0))) :
    Calls Try.prog 62 #[.slice (some ⟨g, 0, none⟩) 2 2] w fun e w' => ∃ v', e = .returned v' ∧ w'.ownsRow w.heap.size 58 2 v' (s1 ++ s2).length (rgF (s1 ++ s2)) ∧ Below w.heap.size w w' := by
  obtain ⟨i0, hi, hz0, hz1, hz2⟩ := info_parts infoRg
  have hgl : g < w.heap.size := (Array.getElem?_eq_some_iff.1 hg).1
  have q1 : w.cell? ⟨g, 0, none⟩ = some v1 := by rw [cell_of_block hg]; rfl
  have q2 : w.cell? ⟨g, 1, none⟩ = some v2 := by rw [cell_of_block hg]; rfl
  have HR1 := Lib.hid h1
  have HR2 := Lib.hid h2
  have HF1 := Lib.hid hf1
  have HF2 := Lib.hid hf2
  obtain ⟨a1, c1, rfl, hd1, hm1, _⟩ := rg_open h1
  obtain ⟨a2, c2, rfl, hd2, hm2, _⟩ := rg_open h2
  have HQ := Lib.hid (fun (W : World) (hW : Below w.heap.size w W) => And.intro ((hW.cell (p := ⟨g, 0, none⟩) hgl).trans q1) ((hW.cell (p := ⟨g, 1, none⟩) hgl).trans q2))
  obtain ⟨n1, hn1⟩ : ∃ n, n = s1.length := ⟨_, rfl⟩
  obtain ⟨n2, hn2⟩ : ∃ n, n = s2.length := ⟨_, rfl⟩
  rw [← hn1] at hd1 hl1 HR1 HF1 HQ q1
  rw [← hn2] at hd2 hl2 HR2 HF2 HQ q2
  have HN1 := Lib.hid hn1
  have HN2 := Lib.hid hn2
  have hw1 : IntKind.i64.wrap ((n1 : Int) + (n2 : Int)) = ((n1 + n2 : Nat) : Int) := (IntWalk.i64_in _ (by omega)).trans (by omega)
  have hw0 : IntKind.i64.wrap (0 + (n1 : Int)) = (n1 : Int) := (IntWalk.i64_in _ (by omega)).trans (by omega)
  have hp1 : ¬ ((n1 : Int) < 0) := by omega
  have hp2 : ¬ (((n1 + n2 : Nat) : Int) < 0) := by omega
  have HG := Lib.hid (growR_any (n1 + n2) w (by omega))
  clear h1 h2 hf1 hf2 hg hn1 hn2
  go_enter Try.func62, Try.ntmps62
  go_wp2_with fail
  refine wp_loop_rounds 3 ?_
  rw [rounds_succ]
  go_wp2_with fail
  rw [rounds_succ]
  go_wp2_with fail
  rw [rounds_succ]
  go_wp2_with fail
  refine HG.out.mono ?_
  rintro e w1 ⟨v5, rfl, o5, l5⟩
  have HO5 := Lib.hid o5
  have HB5 := Lib.hid l5
  obtain ⟨r1, r2⟩ := HQ.out w1 l5
  obtain ⟨a5, c5, rfl, _, _⟩ := ownz_slice o5
  have HLe1 : Hid ((rgF s1).length = n1 * 2) := Lib.hid (by rw [HN1.out]; exact rgF_len s1)
  have HLe2 : Hid ((rgF s2).length = n2 * 2) := Lib.hid (by rw [HN2.out]; exact rgF_len s2)
  clear o5 l5 q1 q2
  go_wp2_with fail
  refine wp_loop_rounds 3 ?_
  rw [rounds_succ]
  go_wp2_with (at_builtin; refine wpList_append_fit _ rfl _ _ 24 rfl w.heap.size 58 i0 (.agg #[.int .i64 0, .int .i64 0]) 2 16 Try.underlying24 hi hz0 hz1 hz2 rfl (by decide) _ 0 [] rfl HO5.out _ n1 (rgF s1) rfl HF1.out HLe1.out (HR1.out.below HB5.out (Nat.le_refl _)) (rgF_one s1) (by unfold maxLen; omega) (by omega) HB5.out.size ?_; intro v6 w6 hown hgrow)
  have HO5' := Lib.hid HO5.out
  have hb6 := HB5.out.grown hgrow HB5.out.size (fun k hk => (HO5'.out.lt k hk).1)
  have HB6 := Lib.hid hb6
  obtain ⟨t1, t2⟩ := HQ.out w6 hb6
  have HO6 : Hid (w6.ownsRow w.heap.size 58 2 v6 n1 (rgF s1)) := Lib.hid (by simpa using hown)
  obtain ⟨a6, c6, rfl, _, _⟩ := ownz_slice HO6.out
  clear hown hgrow hb6 HO5 HO5' r1 r2
  go_wp2_with fail
  rw [rounds_succ]
  go_wp2_with (at_builtin; refine wpList_append_fit _ rfl _ _ 24 rfl w.heap.size 58 i0 (.agg #[.int .i64 0, .int .i64 0]) 2 16 Try.underlying24 hi hz0 hz1 hz2 rfl (by decide) _ n1 (rgF s1) rfl HO6.out _ n2 (rgF s2) rfl HF2.out HLe2.out (HR2.out.below HB6.out (Nat.le_refl _)) (rgF_one s2) (by unfold maxLen; omega) (by omega) HB6.out.size ?_; intro v7 w7 hown hgrow)
  have HB7 := Lib.hid (HB6.out.grown hgrow HB6.out.size (fun k hk => (HO6.out.lt k hk).1))
  have HO7 := Lib.hid hown
  obtain ⟨a7, c7, rfl, _, _⟩ := ownz_slice HO7.out
  clear hown hgrow HO6 t1 t2
  go_wp2_with fail
  rw [rounds_succ]
  go_wp2_with fail
  go_ret
  refine ⟨_, rfl, ?_, HB7.out⟩
  have h := HO7.out
  rw [show (s1 ++ s2).length = n1 + n2 by rw [List.length_append, HN1.out, HN2.out], show rgF (s1 ++ s2) = rgF s1 ++ rgF s2 from flat_append rgC s1 s2]
  exact h
end Go.Proofs.Ytneimcacpbepfaa
