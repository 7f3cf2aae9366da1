/-
  Sets as ranges: the program's merged ranges.
-/
import Derived.Test.YtneimcacpbepfaaGreatDoorZ5
import Derived.Shelf.SlGeneric
import Derived.Ground.Names8Prog
import Derived.Shelf.Spec.SlicesGrow
namespace Go.Proofs
open Go.Shelf
def Tryz.growR_ren : Go.Shelf.Ren := ⟨fun | 4 => 46 | n => n, fun | 22 => 24 | 25 => 47 | 3 => 3 | 4 => 4 | 9 => 9 | 20 => 20 | 0 => 0 | 2 => 3 | n => n, fun | n => n⟩
theorem Tryz.growR : Go.Proofs.Lays8.n4 Tryz.prog Tryz.growR_ren := {
  mixed := by kernel_rfl
  f4 := ⟨Tryz.f46.name, by decide, Tryz.func46.trans (congrArg some (by kernel_rfl))⟩
  t0 := Tryz.underlying0
  a0 := Tryz.isAgg0
  z0 := Tryz.sizeOf0
  v0 := Tryz.zeroValue0
  t3 := Tryz.underlying3
  a3 := Tryz.isAgg3
  z3 := Tryz.sizeOf3
  v3 := Tryz.zeroValue3
  t4 := Tryz.underlying4
  a4 := Tryz.isAgg4
  z4 := Tryz.sizeOf4
  v4 := Tryz.zeroValue4
  t9 := Tryz.underlying9
  a9 := Tryz.isAgg9
  z9 := Tryz.sizeOf9
  v9 := Tryz.zeroValue9
  t20 := Tryz.underlying20
  a20 := Tryz.isAgg20
  z20 := Tryz.sizeOf20
  v20 := Tryz.zeroValue20
  t22 := Tryz.underlying24
  a22 := Tryz.isAgg24
  z22 := Tryz.sizeOf24
  v22 := Tryz.zeroValue24 }
end Go.Proofs
namespace Go.Proofs.YtneimcacpbepfaaGreatDoor
open Go.RowKit Go.Lib Go.Joins
set_option linter.unusedVariables false

/-- A slice as a program makes it: nil, or in memory. -/
def Fit (v : Value) (n : Nat) : Prop := (v = .slice none 0 0 ∧ n = 0) ∨ ∃ ad c, v = .slice (some ad) n c
theorem fit_own {w : World} {B n z : Nat} {e : TypeId} {v : Value} {xs : List Value} (h : w.ownsRow B e z v n xs) : Fit v n := by
  obtain ⟨hl, ⟨rfl, h0⟩ | ⟨g, c, cur, rfl, _⟩⟩ := h
  · exact .inl ⟨rfl, h0⟩
  · exact .inr ⟨_, _, rfl⟩
theorem fit_some (ad : Addr) (n c : Nat) : Fit (.slice (some ad) n c) n := .inr ⟨_, _, rfl⟩
/-- An append of such a slice to a row of the call's own. -/
theorem wpList_append_fit {P : Program} (w : World) {ops : Array Oper} {rest : List Oper} {o : Oper} {a : Act} {Q : Exit → Act → World → Prop} (hgd : o.guard = none) (s x : Operand) (t : TypeId)
    (ho : o.op = .call { callee := .builtin .append, args := #[s, x], argTypes := #[t, t] })
    (base : Nat) (e : TypeId) (i : TypeInfo) (z : Value) (size bytes : Nat) (ht : P.underlying t = some (.slice e)) (hi : P.info? e = some i) (hz : i.zero = some z)
    (hsize : i.size = size) (hby : i.bytes = bytes) (hzs : z.cells.size = size) (hsz : 0 < size)
    (v : Value) (n : Nat) (xs : List Value) (hs : a.eval s = v) (hown : w.ownsRow base e size v n xs)
    (vx : Value) (m : Nat) (ys : List Value) (hx : a.eval x = vx) (hfit : Fit vx m) (hl : ys.length = m * size) (hrow : Row w vx m ys) (h1 : ∀ u ∈ ys, u.oneCell' = true)
    (h63 : n + m ≤ maxLen) (hbytes : (n + m) * bytes ≤ 140737488355328) (hbase : base ≤ w.heap.size)
    (h : ∀ v' w', w'.ownsRow base e size v' (n + m) (xs ++ ys) → w.grownBy w' v.ownBlock → wpList P ops Q rest (a.put o.dst v') w') :
    wpList P ops Q (o :: rest) a w := by
  rcases hfit with ⟨rfl, rfl⟩ | ⟨ad, c, rfl⟩
  · have hy : ys = [] := List.eq_nil_of_length_eq_zero (by omega)
    subst hy
    refine wpList_append_own_none hgd s x t ho base e i size ht hi v n xs hs hown hx ?_
    exact h v w (by rw [List.append_nil]; exact hown) (gr_self w _)
  · exact wpList_append_own_at w hgd s x t ho base e i z size bytes ht hi hz hsize hby hzs hsz v n xs hs hown ad m c ys hx hl (row_news hrow) h1 h63 hbytes hbase (fun v' w' h2 h3 _ _ => h v' w' h2 h3)
theorem growR_any (n : Nat) (w : World) (hn : n ≤ 1000) :
    Calls Tryz.prog 46 #[.slice none 0 0, .int .i64 n] w fun e w' => ∃ v', e = .returned v' ∧ w'.ownsRow w.heap.size 47 2 v' 0 [] ∧ Below w.heap.size w w' := by
  obtain ⟨i0, hi, hz0, hz1, hz2⟩ := info_parts infoRg
  rcases Nat.eq_zero_or_pos n with rfl | hpos
  · refine (Any8.slices_Grow_room Tryz.growR none 0 0 0 w (Nat.le_refl _) (by omega) (by omega) (Nat.le_refl _)).mono ?_
    rintro e w' ⟨rfl, rfl⟩
    exact ⟨_, rfl, World.ownsRow_nil _ _ _ _, Below.refl _ _⟩
  · refine (Any8.slices_Grow_grow Tryz.growR i0 (.agg #[.int .i64 0, .int .i64 0]) hi hz0 (by omega) none 0 0 n [] w (Nat.le_refl _) (by omega) (by rw [hz2]; omega) (by omega) (by simp) (fun _ => rfl) (fun a h => by cases h)).mono ?_
    rintro e w' ⟨rfl, rfl⟩
    refine ⟨_, rfl, ?_, ((Below.refl w.heap.size w).drew).alloc (Nat.le_refl _) _⟩
    obtain ⟨G, hG⟩ : ∃ G, G = grownCap w (0 + n) 0 47 := ⟨_, rfl⟩
    have hGe : 0 + n ≤ G := by rw [hG]; exact grownCap_ge w _ _ _
    have hGl : G ≤ maxLen := by rw [hG]; exact grownCap_le_maxLen w _ _ _ (by unfold maxLen; omega)
    show (w.drew.alloc (.cells (#[] ++ Builtin.zeroCells (Value.agg #[.int .i64 0, .int .i64 0]).cells (0 + n - 0) ++ Builtin.zeroCells (Value.agg #[.int .i64 0, .int .i64 0]).cells (grownCap w (0 + n) 0 47 - (0 + n))) 47)).ownsRow w.heap.size 47 2 (.slice (some ⟨w.heap.size, 0, none⟩) 0 (grownCap w (0 + n) 0 47)) 0 []
    rw [← hG]
    refine ⟨rfl, .inr ⟨w.heap.size, G, _, rfl, Nat.le_refl _, heap_alloc_new w.drew _, Nat.zero_le _, hGl, ?_, by simp⟩⟩
    rw [Array.size_append, Array.size_append, size_zeroCells, size_zeroCells]
    show 0 + (0 + n - 0) * 2 + (G - (0 + n)) * 2 = G * 2
    omega
set_option maxRecDepth 100000 in
set_option maxHeartbeats 2000000 in
theorem concatR_any (v1 v2 : Value) (s1 s2 : List Rg) (g : Nat) (w : World) (h1 : Row w v1 s1.length (rgF s1)) (h2 : Row w v2 s2.length (rgF s2)) (hf1 : Fit v1 s1.length) (hf2 : Fit v2 s2.length) (hl1 : s1.length ≤ 100) (hl2 : s2.length ≤ 100)
    (hg : w.heap[g]? = some (.cells #[v1, v2] 24 (0, 0))) :
    Calls Tryz.prog 24 #[.slice (some ⟨g, 0, none⟩) 2 2] w fun e w' => ∃ v', e = .returned v' ∧ w'.ownsRow w.heap.size 47 2 v' (s1 ++ s2).length (rgF (s1 ++ s2)) ∧ Below w.heap.size w w' := by
  obtain ⟨i0, hi, hz0, hz1, hz2⟩ := info_parts infoRg
  have hgl : g < w.heap.size := (Array.getElem?_eq_some_iff.1 hg).1
  have q1 : w.cell? ⟨g, 0, none⟩ = some v1 := by rw [cell_of_block hg]; rfl
  have q2 : w.cell? ⟨g, 1, none⟩ = some v2 := by rw [cell_of_block hg]; rfl
  have HR1 := Lib.hid h1
  have HR2 := Lib.hid h2
  have HF1 := Lib.hid hf1
  have HF2 := Lib.hid hf2
  obtain ⟨a1, c1, rfl, hd1, hm1, _⟩ := rg_open h1
  obtain ⟨a2, c2, rfl, hd2, hm2, _⟩ := rg_open h2
  have HQ := Lib.hid (fun (W : World) (hW : Below w.heap.size w W) => And.intro ((hW.cell (p := ⟨g, 0, none⟩) hgl).trans q1) ((hW.cell (p := ⟨g, 1, none⟩) hgl).trans q2))
  obtain ⟨n1, hn1⟩ : ∃ n, n = s1.length := ⟨_, rfl⟩
  obtain ⟨n2, hn2⟩ : ∃ n, n = s2.length := ⟨_, rfl⟩
  rw [← hn1] at hd1 hl1 HR1 HF1 HQ q1
  rw [← hn2] at hd2 hl2 HR2 HF2 HQ q2
  have HN1 := Lib.hid hn1
  have HN2 := Lib.hid hn2
  have hw1 : IntKind.i64.wrap ((n1 : Int) + (n2 : Int)) = ((n1 + n2 : Nat) : Int) := (IntWalk.i64_in _ (by omega)).trans (by omega)
  have hw0 : IntKind.i64.wrap (0 + (n1 : Int)) = (n1 : Int) := (IntWalk.i64_in _ (by omega)).trans (by omega)
  have hp1 : ¬ ((n1 : Int) < 0) := by omega
  have hp2 : ¬ (((n1 + n2 : Nat) : Int) < 0) := by omega
  have HG := Lib.hid (growR_any (n1 + n2) w (by omega))
  clear h1 h2 hf1 hf2 hg hn1 hn2
  go_enter Tryz.func24, Tryz.ntmps24
  go_wp2_with fail
  refine wp_loop_rounds 3 ?_
  rw [rounds_succ]
  go_wp2_with fail
  rw [rounds_succ]
  go_wp2_with fail
  rw [rounds_succ]
  go_wp2_with fail
  refine HG.out.mono ?_
  rintro e w1 ⟨v5, rfl, o5, l5⟩
  have HO5 := Lib.hid o5
  have HB5 := Lib.hid l5
  obtain ⟨r1, r2⟩ := HQ.out w1 l5
  obtain ⟨a5, c5, rfl, _, _⟩ := ownz_slice o5
  have HLe1 : Hid ((rgF s1).length = n1 * 2) := Lib.hid (by rw [HN1.out]; exact rgF_len s1)
  have HLe2 : Hid ((rgF s2).length = n2 * 2) := Lib.hid (by rw [HN2.out]; exact rgF_len s2)
  clear o5 l5 q1 q2
  go_wp2_with fail
  refine wp_loop_rounds 3 ?_
  rw [rounds_succ]
  go_wp2_with (at_builtin; refine wpList_append_fit _ rfl _ _ 24 rfl w.heap.size 47 i0 (.agg #[.int .i64 0, .int .i64 0]) 2 16 Tryz.underlying24 hi hz0 hz1 hz2 rfl (by decide) _ 0 [] rfl HO5.out _ n1 (rgF s1) rfl HF1.out HLe1.out (HR1.out.below HB5.out (Nat.le_refl _)) (rgF_one s1) (by unfold maxLen; omega) (by omega) HB5.out.size ?_; intro v6 w6 hown hgrow)
  have HO5' := Lib.hid HO5.out
  have hb6 := HB5.out.grown hgrow HB5.out.size (fun k hk => (HO5'.out.lt k hk).1)
  have HB6 := Lib.hid hb6
  obtain ⟨t1, t2⟩ := HQ.out w6 hb6
  have HO6 : Hid (w6.ownsRow w.heap.size 47 2 v6 n1 (rgF s1)) := Lib.hid (by simpa using hown)
  obtain ⟨a6, c6, rfl, _, _⟩ := ownz_slice HO6.out
  clear hown hgrow hb6 HO5 HO5' r1 r2
  go_wp2_with fail
  rw [rounds_succ]
  go_wp2_with (at_builtin; refine wpList_append_fit _ rfl _ _ 24 rfl w.heap.size 47 i0 (.agg #[.int .i64 0, .int .i64 0]) 2 16 Tryz.underlying24 hi hz0 hz1 hz2 rfl (by decide) _ n1 (rgF s1) rfl HO6.out _ n2 (rgF s2) rfl HF2.out HLe2.out (HR2.out.below HB6.out (Nat.le_refl _)) (rgF_one s2) (by unfold maxLen; omega) (by omega) HB6.out.size ?_; intro v7 w7 hown hgrow)
  have HB7 := Lib.hid (HB6.out.grown hgrow HB6.out.size (fun k hk => (HO6.out.lt k hk).1))
  have HO7 := Lib.hid hown
  obtain ⟨a7, c7, rfl, _, _⟩ := ownz_slice HO7.out
  clear hown hgrow HO6 t1 t2
  go_wp2_with fail
  rw [rounds_succ]
  go_wp2_with fail
  go_ret
  refine ⟨_, rfl, ?_, HB7.out⟩
  have h := HO7.out
  rw [show (s1 ++ s2).length = n1 + n2 by rw [List.length_append, HN1.out, HN2.out], show rgF (s1 ++ s2) = rgF s1 ++ rgF s2 from flat_append rgC s1 s2]
  exact h
end Go.Proofs.YtneimcacpbepfaaGreatDoor

namespace Go.Proofs.YtneimcacpbepfaaGreatDoor
open Go.RowKit Go.Lib Go.Joins
set_option linter.unusedVariables false

/-- What the walk that merges has: the list drawn up, the sorted one apart from it. -/
structure MrgS (W0 wr : World) (v : Value) (acc : List Rg) (u : Value) (L : List Rg) : Prop where
  out : OutS W0 wr v acc
  src : wr.ownsRow W0.heap.size 47 2 u L.length (rgF L)
  ne : ∀ k, u.ownBlock = some k → v.ownBlock ≠ some k
theorem MrgS.below {W0 wr w1 : World} {v u : Value} {acc L : List Rg} (h : MrgS W0 wr v acc u L) (l : Below wr.heap.size wr w1) : MrgS W0 w1 v acc u L :=
  ⟨h.out.below l, ownz_below h.src l (Nat.le_refl _), h.ne⟩
theorem MrgS.alloc {W0 wr : World} {v u : Value} {acc L : List Rg} (h : MrgS W0 wr v acc u L) (o : Obj) : MrgS W0 (wr.alloc o) v acc u L := h.below ((Below.refl _ _).alloc (Nat.le_refl _) o)
theorem MrgS.drewN {W0 wr : World} {v u : Value} {acc L : List Rg} (h : MrgS W0 wr v acc u L) (n : Nat) : MrgS W0 (wr.drewN n) v acc u L := h.below (bdrew wr n)
theorem MrgS.app {W0 wr w1 : World} {v v' u : Value} {acc acc5 L : List Rg} {p q : Int} (h : MrgS W0 wr v acc u L) (hz : acc5 = acc ++ [(p, q)]) (ho : w1.ownsRow W0.heap.size 47 2 v' (acc.length + 1) (rgF acc ++ [.int .i64 p, .int .i64 q])) (hg : wr.grownBy w1 v.ownBlock) (hb : v'.ownBlock = v.ownBlock ∨ v'.ownBlock = some wr.heap.size) :
    ∃ g c, v' = .slice (some ⟨g, 0, none⟩) acc5.length c ∧ MrgS W0 w1 (.slice (some ⟨g, 0, none⟩) acc5.length c) acc5 u L := by
  have h0 := h
  obtain ⟨g, c, rfl, ho2⟩ := h.out.app hz ho hg
  refine ⟨g, c, rfl, ho2, ownz_apart h.src hg h.ne, fun k hk => ?_⟩
  rcases hb with hb | hb
  · rw [hb]; exact h0.ne k hk
  · rw [hb]
    intro e
    have := (h0.src.lt k hk).2
    have e2 := Option.some.inj e
    omega
theorem rgF_last (pre : List Rg) (l : Rg) (M : Int) : (rgF (pre ++ [l])).set (pre.length * 2 + 1) (.int .i64 M) = rgF (pre ++ [(l.1, M)]) := by
  have hl := rgF_len pre
  unfold rgF at hl ⊢
  rw [flat_append, flat_append, flat_one, flat_one, List.set_append_right _ _ (by omega), hl, show pre.length * 2 + 1 - pre.length * 2 = 1 by omega]
  rfl
theorem MrgS.put {W0 wr : World} {u : Value} {pre L acc acc5 : List Rg} {l : Rg} {g c m : Nat} {M : Int} (h : MrgS W0 wr (.slice (some ⟨g, 0, none⟩) m c) acc u L) (hm : m = acc.length) (ha : acc = pre ++ [l]) (h5 : acc5 = pre ++ [(l.1, M)]) {p : Nat} (hp : p = pre.length) :
    MrgS W0 (wr.setCell ⟨g, p * 2 + 1, none⟩ (.int .i64 M)) (.slice (some ⟨g, 0, none⟩) m c) acc5 u L ∧ acc5.length = m := by
  subst ha; subst hm; subst h5; subst hp
  have hs := ownz_set h.out.own (j := pre.length * 2 + 1) (.int .i64 M)
  rw [rgF_last] at hs
  have e : (pre ++ [(l.1, M)]).length = (pre ++ [l]).length := by simp
  refine ⟨⟨⟨?_, ?_⟩, ownz_apart h.src (v2 := .slice (some ⟨g, 0, none⟩) (pre ++ [l]).length c) hs.2 h.ne, h.ne⟩, e⟩
  · rw [e]; exact hs.1
  · exact h.out.bel.grown hs.2 h.out.bel.size (fun k hk => by have e2 : g = k := Option.some.inj hk; have := (h.out.own.lt g rfl).1; omega)
theorem MrgS.last {W0 wr : World} {u : Value} {pre L acc : List Rg} {l : Rg} {g c m : Nat} (h : MrgS W0 wr (.slice (some ⟨g, 0, none⟩) m c) acc u L) (hm : m = acc.length) (ha : acc = pre ++ [l]) {p : Nat} (hp : p = pre.length) :
    wr.cell? ⟨g, p * 2 + 1, none⟩ = some (.int .i64 l.2) ∧ wr.frozen? ⟨g, p * 2 + 1, none⟩ = false ∧ g < wr.heap.size := by
  subst ha; subst hm; subst hp
  have hr : (pre ++ [l])[pre.length]? = some l := by simp
  obtain ⟨c0, c1, f0, f1, hg⟩ := ownR_facts h.out.own hr
  exact ⟨c1, f1, hg⟩
theorem ok_put {pre : List Rg} {l : Rg} {t : Int} (h : ∀ r ∈ pre ++ [l], 0 ≤ r.2 ∧ r.2 ≤ 65535) (h0 : 0 ≤ t) (h1 : t ≤ 65535) : ∀ r ∈ pre ++ [(l.1, max l.2 t)], 0 ≤ r.2 ∧ r.2 ≤ 65535 := by
  intro r hr
  rcases List.mem_append.1 hr with hr | hr
  · exact h r (List.mem_append.2 (.inl hr))
  · have := h l (by simp)
    simp at hr; subst hr
    show 0 ≤ max l.2 t ∧ max l.2 t ≤ 65535
    omega
theorem ok_app {acc : List Rg} {f t : Int} (h : ∀ r ∈ acc, 0 ≤ r.2 ∧ r.2 ≤ 65535) (h0 : 0 ≤ t) (h1 : t ≤ 65535) : ∀ r ∈ acc ++ [(f, t)], 0 ≤ r.2 ∧ r.2 ≤ 65535 := by
  intro r hr
  rcases List.mem_append.1 hr with hr | hr
  · exact h r hr
  · simp at hr; subst hr; exact ⟨h0, h1⟩
set_option maxRecDepth 100000 in
set_option maxHeartbeats 4000000 in
theorem merged_any (B : Nat) (v : Value) (xs : List Rg) (w : World) (hown : w.ownsRow B 47 2 v xs.length (rgF xs)) (hn2 : xs.length ≤ 20) (hv : ∀ r ∈ xs, 0 ≤ r.1 ∧ r.1 ≤ r.2 ∧ r.2 ≤ 65535) :
    Calls Tryz.prog 23 #[v] w fun e w' => ∃ v', e = .returned v' ∧ w'.ownsRow w.heap.size 47 2 v' (mrgG (sortG ltR xs)).length (rgF (mrgG (sortG ltR xs))) ∧ Below w.heap.size w w' := by
  obtain ⟨i0, hi, hz0, hz1, hz2⟩ := info_parts infoRg
  have HSt := Lib.hid (OutS.start w w (Below.refl _ _))
  have HSo := Lib.hid (sortedByR_any B v xs (w.alloc (.cells #[] 47)) (ownz_below hown ((Below.refl _ _).alloc (Nat.le_refl _) _) (Nat.le_refl _)) hn2)
  have hlen := sortG_len ltR xs
  have HVs : Hid (∀ r ∈ sortG ltR xs, 0 ≤ r.1 ∧ r.1 ≤ r.2 ∧ r.2 ≤ 65535) := Lib.hid (fun r hr => hv r ((sortG_perm ltR xs).mem_iff.1 hr))
  have HE0 : Hid (((sortG ltR xs).drop 0).foldl mrgS [] = mrgG (sortG ltR xs)) := Lib.hid rfl
  generalize mrgG (sortG ltR xs) = goal at HE0 ⊢
  generalize sortG ltR xs = L at HSo hlen HVs HE0
  obtain ⟨a, cap, rfl, _, _⟩ := ownz_slice hown
  clear hown hv
  go_enter Tryz.func23, Tryz.ntmps23
  go_wp2_with fail
  refine HSo.out.mono ?_
  rintro e w1 ⟨v1, rfl, o1, l1⟩
  have hbs : (w.alloc (.cells #[] 47)).heap.size = w.heap.size + 1 := by simp
  have hM1 : MrgS w w1 (.slice (some ⟨w.heap.size, 0, none⟩) 0 0) [] v1 L := ⟨HSt.out.below l1, ownz_base o1 (by simp), fun k hk e => by
    have := (o1.lt k hk).1
    have e2 : w.heap.size = k := Option.some.inj e
    omega⟩
  have HM1 := Lib.hid hM1
  obtain ⟨a1, c1, rfl, hd1, hm1⟩ := ownz_slice o1
  unfold maxLen at hm1
  clear o1 l1 hM1 HSo hbs
  obtain ⟨n, hN⟩ : ∃ n, n = L.length := ⟨_, rfl⟩
  rw [← hN] at hd1 hlen HM1 ⊢
  have HN := Lib.hid hN
  have hn20 : n ≤ 20 := by omega
  clear hN hlen hn2
  go_wp2_with fail
  go_loopw [3, 11] (fun o i wr => ∃ (k : Nat) (az : Option Addr) (cz : Nat) (acc : List Rg), k ≤ n ∧ i = .int .i64 k ∧ o = .slice az acc.length cz ∧ acc.length ≤ k ∧ Hid (MrgS w wr (.slice az acc.length cz) acc (.slice a1 n c1) L) ∧ Hid (∀ r ∈ acc, 0 ≤ r.2 ∧ r.2 ≤ 65535) ∧ Hid ((L.drop k).foldl mrgS acc = goal)) (fun _ i _ => n - (RowKit.intOf i).toNat)
  case atStart => exact ⟨0, some ⟨w.heap.size, 0, none⟩, 0, [], Nat.zero_le _, rfl, rfl, Nat.le_refl _, HM1, Lib.hid (by simp), HE0⟩
  case round =>
    clear HM1 HE0 HSt
    obtain ⟨k, az, cz, acc, hk, rfl, rfl, hak, HM, HA, HE⟩ := hrel
    by_cases hkn : k < n
    · have hks : k < L.length := by rw [← HN.out]; exact hkn
      have hsrc := HM.out.src
      have hrow := rowz_own hsrc
      obtain ⟨a9, c9, e9, _, _, hcell⟩ := rg_open hrow
      obtain ⟨b, off, rfl, hb, hf1, ht1⟩ := hcell k hks
      rw [← HN.out] at e9
      injection e9 with e9 e10 e11
      subst e9
      clear e10 e11
      have hV := HVs.out L[k] (List.getElem_mem hks)
      have hE := HE.out
      rw [List.drop_eq_getElem_cons hks, List.foldl_cons] at hE
      obtain ⟨f, t, hu⟩ : ∃ f t, L[k] = (f, t) := ⟨_, _, rfl⟩
      rw [hu] at hf1 ht1 hV hE
      simp only at hf1 ht1 hV
      obtain ⟨f0, ft, t1⟩ := hV
      clear hu hsrc hrow hcell HE
      have HR1 : Hid (Rb (wr.alloc (.cells #[.int .i64 f, .int .i64 t] 47)) wr.heap.size f t) := Lib.hid (heap_alloc_new wr _)
      have HM2 := Lib.hid (HM.out.alloc (.cells #[.int .i64 f, .int .i64 t] 47))
      rcases List.eq_nil_or_concat acc with rfl | ⟨pre, l, hacc⟩
      · have hw : IntKind.i64.wrap (0 - 1) = -1 := by rfl
        have hlt : decide ((-1 : Int) < 0) = true := by rfl
        have HE2 : Hid ((L.drop (k + 1)).foldl mrgS ([] ++ [(f, t)]) = goal) := Lib.hid hE
        have HV2 := Lib.hid (ok_app (f := f) HA.out (by omega) t1)
        clear hE
        go_upto_region 6 with fail
        go_quiet (fail)
        obtain ⟨W6, hW6⟩ : ∃ W6, W6 = (wr.alloc (.cells #[.int .i64 f, .int .i64 t] 47)).drewN nq := ⟨_, rfl⟩
        have HM6 : Hid (MrgS w W6 (.slice az ([] : List Rg).length cz) [] (.slice (some ⟨b, off, none⟩) n c1) L) := Lib.hid (by rw [hW6]; exact HM2.out.drewN nq)
        have HR6 : Hid (Rb W6 wr.heap.size f t) := Lib.hid (by rw [hW6]; exact HR1.out)
        rw [← hW6]
        clear hW6 HM2 HR1
        have HM7 := Lib.hid (HM6.out.alloc (.cells #[.int .i64 f, .int .i64 t] 47))
        have HW := Lib.hid (row_new2 W6 f t)
        obtain ⟨x0, x1⟩ := HR6.out.cells
        go_wp2_with (at_builtin; refine wpList_append_own_at _ rfl _ _ 24 rfl w.heap.size 47 i0 (.agg #[.int .i64 0, .int .i64 0]) 2 16 Tryz.underlying24 hi hz0 hz1 hz2 rfl (by decide) _ 0 (rgF []) rfl HM7.out.out.own ⟨W6.heap.size, 0, none⟩ 1 1 [.int .i64 f, .int .i64 t] (by first | rfl | simp) rfl (row_news HW.out) (two_one _ _) (by unfold maxLen; omega) (by omega) HM7.out.out.bel.size ?_; intro v' w4 hown' hgrow _ hblk; obtain ⟨acc5, hz5⟩ : ∃ z, z = [] ++ [(f, t)] := ⟨_, rfl⟩; obtain ⟨g5, c5, rfl, hs5⟩ := HM7.out.app hz5 hown' hgrow hblk; have HS5 := Lib.hid hs5; have HZ5 := Lib.hid hz5; clear hown' hgrow hs5 hz5 hblk)
        go_roundw
        case rel => exact ⟨k + 1, _, c5, acc5, by omega, by go_num, rfl, by rw [HZ5.out]; simp, HS5, Lib.hid (by rw [HZ5.out]; exact HV2.out), Lib.hid (by rw [HZ5.out]; exact HE2.out)⟩
        case measure => (simp [RowKit.intOf]; omega)
      · rw [List.concat_eq_append] at hacc
        obtain ⟨p, hp⟩ : ∃ p, p = pre.length := ⟨_, rfl⟩
        have hlen5 : acc.length = p + 1 := by rw [hacc, hp]; simp
        have hlq := HA.out l (by rw [hacc]; simp)
        obtain ⟨g, hg⟩ : ∃ g, az = some ⟨g, 0, none⟩ := by
          obtain ⟨g, c, e⟩ := ownz_form HM.out.out.own (by omega)
          injection e with e _ _
          exact ⟨g, e⟩
        subst hg
        obtain ⟨q, hq⟩ : ∃ q, q = l.2 := ⟨_, rfl⟩
        have hfold : mrgS acc (f, t) = if q + 1 < f then acc ++ [(f, t)] else pre ++ [(l.1, max q t)] := by
          rw [hacc, hq, mrgS_snoc]
        rw [← hq] at hlq
        obtain ⟨q0, q1⟩ := hlq
        have HAcc := Lib.hid hacc
        have HQ := Lib.hid hq
        have HP := Lib.hid hp
        have HL5 := Lib.hid hlen5
        have hw : IntKind.i64.wrap ((acc.length : Int) - 1) = (p : Int) := (IntWalk.i64_in _ (by omega)).trans (by omega)
        have hpl : (p : Int) < (acc.length : Int) := by omega
        have hd1 : decide ((p : Int) < 0) = false := decide_eq_false (by omega)
        have hwq : IntKind.i64.wrap (q + 1) = q + 1 := IntWalk.i64_in _ (by omega)
        obtain ⟨W5, hW5⟩ : ∃ W5, W5 = wr.alloc (.cells #[.int .i64 f, .int .i64 t] 47) := ⟨_, rfl⟩
        have HM5 : Hid (MrgS w W5 (.slice (some ⟨g, 0, none⟩) acc.length cz) acc (.slice (some ⟨b, off, none⟩) n c1) L) := Lib.hid (by rw [hW5]; exact HM2.out)
        have HR5 : Hid (Rb W5 wr.heap.size f t) := Lib.hid (by rw [hW5]; exact HR1.out)
        obtain ⟨cl, fl, hgl⟩ := HM5.out.last rfl HAcc.out HP.out
        rw [← HQ.out] at cl
        obtain ⟨x0, x1⟩ := HR5.out.cells
        by_cases hlt : q + 1 < f
        · have hd3 : decide (q + 1 < f) = true := decide_eq_true hlt
          rw [hfold, if_pos hlt] at hE
          have HE2 := Lib.hid hE
          have HV2 := Lib.hid (ok_app (f := f) HA.out (by omega) t1)
          clear hE hfold hacc hq hp hlen5 HM2 HR1
          go_upto_region 6 with fail
          rw [← hW5]
          clear hW5
          go_quiet (fail)
          obtain ⟨W6, hW6⟩ : ∃ W6, W6 = W5.drewN nq := ⟨_, rfl⟩
          have HM6 : Hid (MrgS w W6 (.slice (some ⟨g, 0, none⟩) acc.length cz) acc (.slice (some ⟨b, off, none⟩) n c1) L) := Lib.hid (by rw [hW6]; exact HM5.out.drewN nq)
          have HR6 : Hid (Rb W6 wr.heap.size f t) := Lib.hid (by rw [hW6]; exact HR5.out)
          rw [← hW6]
          clear hW6 x0 x1 cl fl HM5 HR5
          have HM7 := Lib.hid (HM6.out.alloc (.cells #[.int .i64 f, .int .i64 t] 47))
          have HW := Lib.hid (row_new2 W6 f t)
          obtain ⟨x0, x1⟩ := HR6.out.cells
          go_wp2_with (at_builtin; refine wpList_append_own_at _ rfl _ _ 24 rfl w.heap.size 47 i0 (.agg #[.int .i64 0, .int .i64 0]) 2 16 Tryz.underlying24 hi hz0 hz1 hz2 rfl (by decide) _ acc.length (rgF acc) rfl HM7.out.out.own ⟨W6.heap.size, 0, none⟩ 1 1 [.int .i64 f, .int .i64 t] (by first | rfl | simp) rfl (row_news HW.out) (two_one _ _) (by unfold maxLen; omega) (by omega) HM7.out.out.bel.size ?_; intro v' w4 hown' hgrow _ hblk; obtain ⟨acc5, hz5⟩ : ∃ z, z = acc ++ [(f, t)] := ⟨_, rfl⟩; obtain ⟨g5, c5, rfl, hs5⟩ := HM7.out.app hz5 hown' hgrow hblk; have HS5 := Lib.hid hs5; have HZ5 := Lib.hid hz5; clear hown' hgrow hs5 hz5 hblk)
          go_roundw
          case rel => exact ⟨k + 1, _, c5, acc5, by omega, by go_num, rfl, by rw [HZ5.out]; simp; omega, HS5, Lib.hid (by rw [HZ5.out]; exact HV2.out), Lib.hid (by rw [HZ5.out]; exact HE2.out)⟩
          case measure => (simp [RowKit.intOf]; omega)
        · have hd3 : decide (q + 1 < f) = false := decide_eq_false hlt
          rw [hfold, if_neg hlt] at hE
          obtain ⟨M, hM⟩ : ∃ M, M = max q t := ⟨_, rfl⟩
          rw [← hM] at hE
          have HE2 := Lib.hid hE
          have HMx := Lib.hid hM
          have HV2 : Hid (∀ r ∈ pre ++ [(l.1, M)], 0 ≤ r.2 ∧ r.2 ≤ 65535) := Lib.hid (by rw [hM, hq]; exact ok_put (by rw [← hacc]; exact HA.out) (by omega) t1)
          clear hE hfold hacc hq hp hlen5 HM2 HR1 hM
          go_upto_region 6 with fail
          rw [← hW5]
          clear hW5
          go_quiet (fail)
          obtain ⟨W6, hW6⟩ : ∃ W6, W6 = W5.drewN nq := ⟨_, rfl⟩
          have HM6 : Hid (MrgS w W6 (.slice (some ⟨g, 0, none⟩) acc.length cz) acc (.slice (some ⟨b, off, none⟩) n c1) L) := Lib.hid (by rw [hW6]; exact HM5.out.drewN nq)
          have HR6 : Hid (Rb W6 wr.heap.size f t) := Lib.hid (by rw [hW6]; exact HR5.out)
          rw [← hW6]
          clear hW6 x0 x1 cl fl HM5 HR5 hgl
          obtain ⟨x0, x1⟩ := HR6.out.cells
          obtain ⟨cl, fl, hgl⟩ := HM6.out.last rfl HAcc.out HP.out
          rw [← HQ.out] at cl
          go_upto_region 8 with fail
          obtain ⟨acc5, hz5⟩ : ∃ z, z = pre ++ [(l.1, max q t)] := ⟨_, rfl⟩
          obtain ⟨hp1, hp2⟩ := HM6.out.put (M := max q t) (acc5 := acc5) rfl HAcc.out hz5 HP.out
          rw [← hp2] at hp1
          have HS5 := Lib.hid hp1
          have HL6 := Lib.hid hp2
          rw [HMx.out, ← hz5] at HE2 HV2
          clear hz5 hp1 hp2
          go_big_region
          clear x0 x1 cl fl hgl
          go_wp2_with fail
          go_roundw
          case rel => exact ⟨k + 1, some ⟨g, 0, none⟩, cz, acc5, by omega, by go_num, by rw [HL6.out], by have := HL6.out; omega, Lib.hid (HS5.out.drewN 1), HV2, HE2⟩
          case measure => (simp [RowKit.intOf]; omega)
    · obtain rfl : k = n := by omega
      have hE := HE.out
      rw [List.drop_of_length_le (by rw [← HN.out]; exact Nat.le_refl _)] at hE
      have HE2 : Hid (acc = goal) := Lib.hid hE
      clear hE HE
      go_wp2_with fail
      go_ret
      exact ⟨_, rfl, by rw [← HE2.out]; exact HM.out.out.own, HM.out.out.bel⟩
end Go.Proofs.YtneimcacpbepfaaGreatDoor
