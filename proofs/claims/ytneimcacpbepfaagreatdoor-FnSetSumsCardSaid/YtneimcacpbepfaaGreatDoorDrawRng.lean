/-
  The draws of chapter 5: sets that are mostly valid, numbers near a set.
-/
import Derived.Test.YtneimcacpbepfaaGreatDoorAmong
import Derived.Test.YtneimcacpbepfaaGreatDoorRng6
import Derived.Test.YtneimcacpbepfaaGreatDoorRngI3
namespace Go.Proofs.YtneimcacpbepfaaGreatDoor
open Go.RowKit Go.Lib Go.Joins
set_option linter.unusedVariables false

theorem g_fresh5 {a b c : World} {row : Option Nat} {k : Nat} (h1 : a.grownBy b row) (h2 : b.grownBy c (some k)) (hk : a.heap.size ≤ k) : a.grownBy c row :=
  ⟨h2.os.trans h1.os, h2.tape.trans h1.tape, h2.output.trans h1.output, Nat.le_trans h1.size h2.size, fun q hq hn => (h2.block q (Nat.lt_of_lt_of_le hq h1.size) (by intro e; have : q = k := Option.some.inj e; omega)).trans (h1.block q hq hn)⟩
def bdR (r : Rg) : Prop := -1 ≤ r.1 ∧ r.1 ≤ 70000 ∧ -1 ≤ r.2 ∧ r.2 ≤ 70000
/-- A list of ranges that has been drawn so far, behind the cursor. -/
structure DrR (w0 w : World) (B : Nat) (z : List Int) (m g c : Nat) (zs : List Rg) : Prop where
  own : w.ownsRow w0.heap.size 47 2 (.slice (some ⟨g, 0, none⟩) zs.length c) zs.length (rgF zs)
  cu : Cu w B z m
  gr : w0.grownBy w (some B)
  bd : ∀ r ∈ zs, bdR r
  lt : B < w0.heap.size
theorem DrR.cur {w0 w w' : World} {B m m' g c : Nat} {z : List Int} {zs : List Rg} (h : DrR w0 w B z m g c zs) (hc : Cu w' B z m') (hg : w.grownBy w' (some B)) : DrR w0 w' B z m' g c zs :=
  ⟨ownz_cur h.own hg h.lt, hc, g_trans h.gr hg, h.bd, h.lt⟩
theorem DrR.mono {w0 w : World} {B m m' g c : Nat} {z : List Int} {zs : List Rg} (h : DrR w0 w B z m g c zs) (hm : m ≤ m') : DrR w0 w B z m' g c zs :=
  ⟨h.own, h.cu.mono hm, h.gr, h.bd, h.lt⟩
theorem DrR.alloc {w0 w : World} {B m g c : Nat} {z : List Int} {zs : List Rg} (h : DrR w0 w B z m g c zs) (o : Obj) : DrR w0 (w.alloc o) B z m g c zs :=
  ⟨ownz_none h.own (World.grownBy_alloc _ _ none), h.cu.grown (World.grownBy_alloc _ _ none), g_trans h.gr (World.grownBy_alloc _ _ _), h.bd, h.lt⟩
theorem DrR.start {w0 : World} {B m : Nat} {z : List Int} (h : Cu w0 B z m) : DrR w0 (w0.alloc (.cells #[] 47)) B z m w0.heap.size 0 [] :=
  ⟨lit_none w0 w0.heap.size (Nat.le_refl _), h.grown (World.grownBy_alloc _ _ none), World.grownBy_alloc _ _ _, by simp, h.lt⟩
/-- A new literal beside what was drawn. -/
theorem DrR.fresh {w0 w : World} {B m g c : Nat} {z : List Int} {zs : List Rg} (h : DrR w0 w B z m g c zs) : DrR w0 (w.alloc (.cells #[] 47)) B z m w.heap.size 0 [] :=
  ⟨lit_none w w0.heap.size h.gr.size, h.cu.grown (World.grownBy_alloc _ _ none), g_trans h.gr (World.grownBy_alloc _ _ _), by simp, h.lt⟩
theorem DrR.app {w0 w w1 : World} {B m g c : Nat} {z : List Int} {zs zs5 : List Rg} {p q : Int} {v' : Value} (h : DrR w0 w B z m g c zs) (hz : zs5 = zs ++ [(p, q)]) (hb : bdR (p, q))
    (ho : w1.ownsRow w0.heap.size 47 2 v' (zs.length + 1) (rgF zs ++ [.int .i64 p, .int .i64 q])) (hg : w.grownBy w1 (some g)) :
    ∃ g' c', v' = .slice (some ⟨g', 0, none⟩) zs5.length c' ∧ DrR w0 w1 B z m g' c' zs5 := by
  subst hz
  obtain ⟨g', c', rfl⟩ := ownz_form ho (by omega)
  have hgk : w0.heap.size ≤ g := (h.own.lt g rfl).1
  have e : (zs ++ [(p, q)]).length = zs.length + 1 := by simp
  refine ⟨g', c', by rw [e], ⟨?_, ?_, ?_, ?_, h.lt⟩⟩
  · rw [e, rgF_snoc]
    exact ho
  · exact h.cu.grown' hg (fun k hk => by have e2 : g = k := Option.some.inj hk; have := h.lt; omega)
  · exact g_fresh5 h.gr hg hgk
  · intro y hy
    rcases List.mem_append.1 hy with hy | hy
    · exact h.bd y hy
    · simp at hy; subst hy; exact hb
theorem rgF_set5 : ∀ (s : List Rg) (k : Nat) (r : Rg), k < s.length → ((rgF s).set (k * 2) (.int .i64 r.1)).set (k * 2 + 1) (.int .i64 r.2) = rgF (s.set k r)
  | [], k, r, h => by simp at h
  | a :: s, 0, r, _ => by
    simp [rgF, flat_cons, rgC]
  | a :: s, k + 1, r, h => by
    have ih := rgF_set5 s k r (by simpa using h)
    unfold rgF at ih ⊢
    rw [List.set_cons_succ, flat_cons, flat_cons, ← ih]
    rw [show (k + 1) * 2 = k * 2 + 1 + 1 by omega]
    simp only [rgC, List.cons_append, List.nil_append, List.set_cons_succ]
theorem DrR.cells {w0 w : World} {B m g c k : Nat} {z : List Int} {zs : List Rg} (h : DrR w0 w B z m g c zs) (hk : k < zs.length) :
    w.cell? ⟨g, k * 2, none⟩ = some (.int .i64 zs[k].1) ∧ w.cell? ⟨g, k * 2 + 1, none⟩ = some (.int .i64 zs[k].2) ∧ w.frozen? ⟨g, k * 2, none⟩ = false ∧ w.frozen? ⟨g, k * 2 + 1, none⟩ = false ∧ g < w.heap.size := by
  have hl := rgF_len zs
  obtain ⟨c0, f0, _, hg⟩ := ownz_facts h.own (j := k * 2) (by omega)
  obtain ⟨c1, f1, _, _⟩ := ownz_facts h.own (j := k * 2 + 1) (by omega)
  obtain ⟨a0, b0⟩ := List.getElem?_eq_some_iff.1 (flat_get rgC_len zs k 0 hk (by omega))
  obtain ⟨a1, b1⟩ := List.getElem?_eq_some_iff.1 (flat_get rgC_len zs k 1 hk (by omega))
  have e0 : (rgF zs)[k * 2]'(by omega) = .int .i64 zs[k].1 := b0
  have e1 : (rgF zs)[k * 2 + 1]'(by omega) = .int .i64 zs[k].2 := b1
  rw [e0] at c0
  rw [e1] at c1
  exact ⟨c0, c1, f0, f1, hg⟩
theorem DrR.put {w0 w : World} {B m g c k n : Nat} {z : List Int} {zs zs5 : List Rg} (h : DrR w0 w B z m g c zs) {p q : Int} (hk : k < zs.length) (hb : bdR (p, q)) (h5 : zs5 = zs.set k (p, q)) (hn : n = zs.length) :
    DrR w0 ((w.setCell ⟨g, k * 2, none⟩ (.int .i64 p)).setCell ⟨g, k * 2 + 1, none⟩ (.int .i64 q)) B z m g c zs5 ∧ zs5.length = n := by
  subst hn; subst h5
  have e : (zs.set k (p, q)).length = zs.length := List.length_set
  have s1 := ownz_set h.own (j := k * 2) (.int .i64 p)
  have s2 := ownz_set s1.1 (j := k * 2 + 1) (.int .i64 q)
  rw [rgF_set5 zs k (p, q) hk] at s2
  have hg := grown_trans s1.2 s2.2
  have hgk : w0.heap.size ≤ g := (h.own.lt g rfl).1
  refine ⟨⟨by rw [e]; exact s2.1, h.cu.grown' hg (fun k hk => by have e2 : g = k := Option.some.inj hk; have := h.lt; omega), g_fresh5 h.gr hg hgk, fun r hr => ?_, h.lt⟩, e⟩
  rcases List.mem_or_eq_of_mem_set hr with hr | hr
  · exact h.bd r hr
  · rw [hr]; exact hb
theorem row_lit4 (w : World) (xs : List Value) (t : TypeId) (n : Nat) (g : Nat) (hg0 : g = w.heap.size) (hn : n = xs.length) (hm : n ≤ maxLen) {B : Nat} (hB : B < w.heap.size) : ∀ w', (w.alloc (.cells xs.toArray t)).grownBy w' (some B) → Row w' (.slice (some ⟨g, 0, none⟩) n n) n xs :=
  fun w' hg => by subst hg0; exact row_fresh hn hm hB hg
theorem DrR.other {w0 w w' : World} {B m g c x : Nat} {z : List Int} {zs : List Rg} (h : DrR w0 w B z m g c zs) (hg : w.grownBy w' (some x)) (hx : w0.heap.size ≤ x) (hne : g ≠ x) : DrR w0 w' B z m g c zs :=
  ⟨h.own.kept hg (.inr (by intro e; exact hne (Option.some.inj e))), h.cu.grown' hg (fun k hk => by have e : x = k := Option.some.inj hk; have := h.lt; omega), g_fresh5 h.gr hg hx, h.bd, h.lt⟩
theorem DrR.base {w0 w1 w : World} {B m m' g c g1 c1 : Nat} {z : List Int} {zs zs1 : List Rg} (h1 : DrR w0 w1 B z m g1 c1 zs1) (h : DrR w1 w B z m' g c zs) : DrR w0 w B z m' g c zs :=
  ⟨ownz_base h.own h1.gr.size, h.cu, g_trans h1.gr h.gr, h.bd, h1.lt⟩
theorem rb_set0 {w : World} {R : Nat} {x y : Int} (h : Rb w R x y) (x' : Int) : Rb (w.setCell ⟨R, 0, none⟩ (.int .i64 x')) R x' y ∧ w.grownBy (w.setCell ⟨R, 0, none⟩ (.int .i64 x')) (some R) := by
  obtain ⟨h1, h2⟩ := blk_set (i := 0) h (.int .i64 x')
  exact ⟨h1, h2⟩
theorem rb_set1 {w : World} {R : Nat} {x y : Int} (h : Rb w R x y) (y' : Int) : Rb (w.setCell ⟨R, 1, none⟩ (.int .i64 y')) R x y' ∧ w.grownBy (w.setCell ⟨R, 1, none⟩ (.int .i64 y')) (some R) := by
  obtain ⟨h1, h2⟩ := blk_set (i := 1) h (.int .i64 y')
  exact ⟨h1, h2⟩
def fromL (x : Int) : List Int := [-1, x, 0]
def lastL (x : Int) : List Int := [65535, 65536, x]
theorem fromL_len (x : Int) : (fromL x).length = 3 := rfl
theorem lastL_len (x : Int) : (lastL x).length = 3 := rfl
theorem fromL_bd {x : Int} (h0 : -1 ≤ x) (h1 : x ≤ 70000) : ∀ y ∈ fromL x, -1 ≤ y ∧ y ≤ 70000 := by
  intro y hy
  simp only [fromL, List.mem_cons, List.not_mem_nil, or_false] at hy
  omega
theorem lastL_bd {x : Int} (h0 : -1 ≤ x) (h1 : x ≤ 70000) : ∀ y ∈ lastL x, -1 ≤ y ∧ y ≤ 70000 := by
  intro y hy
  simp only [lastL, List.mem_cons, List.not_mem_nil, or_false] at hy
  omega
theorem le_app {zs zs5 : List Rg} {a t : Int} (h : ∀ r ∈ zs, r.2 ≤ 65535) (ht : t ≤ 65535) (h5 : zs5 = zs ++ [(a, t)]) : ∀ r ∈ zs5, r.2 ≤ 65535 := by
  subst h5
  intro r hr
  rcases List.mem_append.1 hr with hr | hr
  · exact h r hr
  · simp at hr; subst hr; exact ht
def atL : List Int := [0, 0, 5, 65480]
def toL : List Int := [0, 0, 1, 3, 9]
theorem atL_bd : ∀ x ∈ atL, 0 ≤ x ∧ x ≤ 65480 := by
  intro x hx
  simp only [atL, List.mem_cons, List.not_mem_nil, or_false] at hx
  omega
theorem toL_bd : ∀ x ∈ toL, 0 ≤ x ∧ x ≤ 9 := by
  intro x hx
  simp only [toL, List.mem_cons, List.not_mem_nil, or_false] at hx
  omega
set_option maxRecDepth 100000 in
set_option maxHeartbeats 4000000 in
theorem rangeSet_any (B m : Nat) (z : List Int) (w : World) (h : Cu w B z m) (hm : m ≤ 600000) :
    Calls Tryz.prog 21 #[.pointer (some ⟨B, 0, none⟩)] w fun e w' => ∃ (g c : Nat) (zs : List Rg), e = .returned (.slice (some ⟨g, 0, none⟩) zs.length c) ∧ zs.length ≤ 11 ∧ DrR w w' B z (m + 200) g c zs := by
  obtain ⟨i0, hi, hz0, hz1, hz2⟩ := info_parts infoRg
  have HD0 := Lib.hid (DrR.start h)
  have hBl := h.lt
  clear h
  go_enter Tryz.func21, Tryz.ntmps21
  go_wp2_with fail
  refine (among_any B m z _ atL _ (HD0.out.alloc (.cells (atL.map (Value.int .i64)).toArray 3)).cu (by omega) (by decide) (by decide) (row_lit4 _ (atL.map (Value.int .i64)) 3 4 _ (by simp) rfl (by decide) HD0.out.cu.lt)).mono ?_
  rintro e w1 ⟨a0, ha0, rfl, hc1, hg1⟩
  obtain ⟨a00, a01⟩ := atL_bd a0 ha0
  have HD1 := Lib.hid ((HD0.out.alloc (.cells (atL.map (Value.int .i64)).toArray 3)).cur hc1 hg1)
  clear ha0 hc1 hg1 HD0
  go_wp2_with fail
  refine (pick_any B (m + 2) 7 z _ HD1.out.cu (by omega) (by omega) (by omega)).mono ?_
  rintro e w2 ⟨p, hp, rfl, hc2, hg2⟩
  have HD2 := Lib.hid (HD1.out.cur hc2 hg2)
  clear hc2 hg2 HD1
  go_wp2_with fail
  go_loopw [3, 4, 5] (fun v at_ q wr => ∃ (k g c : Nat) (zs : List Rg) (a : Int), zs.length + k ≤ 6 ∧ q = .int .i64 k ∧ at_ = .int .i64 a ∧ v = .slice (some ⟨g, 0, none⟩) zs.length c ∧ 0 ≤ a ∧ a ≤ 65540 ∧ Hid (∀ r ∈ zs, r.2 ≤ 65535) ∧ Hid (DrR w wr B z (m + 4 + 8 * zs.length) g c zs)) (fun _ _ q _ => (intOf q).toNat)
  case atStart => exact ⟨p, _, _, [], a0, by simp; omega, rfl, rfl, rfl, a00, by omega, Lib.hid (by simp), HD2⟩
  case round =>
    clear HD2
    obtain ⟨k, g, c, zs, a, hk, rfl, rfl, rfl, a0, a1, HL, HD⟩ := hrel
    go_upto_region 4 with fail
    go_cut [21] from 16 to 21 (fun b wz => ∃ bb : Bool, b = .bool bb ∧ Hid (bb = true ↔ (0 < k ∧ a < 65535)) ∧ wz = wr)
    case first => as_aux_lemma =>
      by_cases hk0 : 0 < k
      · have hd : decide ((0 : Int) < (k : Int)) = true := decide_eq_true (by omega)
        go_wp2_with fail
        go_meet
        case rel => exact ⟨_, rfl, Lib.hid (by simp [hk0]), rfl⟩
      · have hd : decide ((0 : Int) < (k : Int)) = false := decide_eq_false (by omega)
        go_wp2_with fail
        go_meet
        case rel => exact ⟨_, rfl, Lib.hid (by simp [hk0]), rfl⟩
    case rest =>
      obtain ⟨bb, rfl, HBB, rfl⟩ := hcut
      cases bb with
      | true =>
        obtain ⟨hk0, ha⟩ := HBB.out.1 rfl
        clear HBB
        go_wp2_with fail
        refine (among_any B (m + 4 + 8 * zs.length) z _ toL _ (HD.out.alloc (.cells (toL.map (Value.int .i64)).toArray 3)).cu (by omega) (by decide) (by decide) (row_lit4 _ (toL.map (Value.int .i64)) 3 5 _ (by simp) rfl (by decide) HD.out.cu.lt)).mono ?_
        rintro e w3 ⟨d, hd, rfl, hc3, hg3⟩
        obtain ⟨d0, d1⟩ := toL_bd d hd
        have HD3 := Lib.hid ((HD.out.alloc (.cells (toL.map (Value.int .i64)).toArray 3)).cur hc3 hg3)
        clear hd hc3 hg3 HD
        go_wp2_with fail
        refine (l1Least_any (a + d) 65535 _).mono ?_
        rintro e _ ⟨rfl, rfl⟩
        obtain ⟨t, ht⟩ : ∃ t, t = min (a + d) 65535 := ⟨_, rfl⟩
        rw [← ht]
        have t0 : a ≤ t := by omega
        have t1 : t ≤ 65535 := by omega
        have HB : Hid (bdR (a, t)) := Lib.hid ⟨by show -1 ≤ a; omega, by show a ≤ 70000; omega, by show -1 ≤ t; omega, by show t ≤ 70000; omega⟩
        clear ht
        have HM7 := Lib.hid (HD3.out.alloc (.cells #[.int .i64 a, .int .i64 t] 47))
        have HW := Lib.hid (row_new2 w3 a t)
        go_upto_region 8 with (at_builtin; refine wpList_append_own_at _ rfl _ _ 24 rfl w.heap.size 47 i0 (.agg #[.int .i64 0, .int .i64 0]) 2 16 Tryz.underlying24 hi hz0 hz1 hz2 rfl (by decide) _ zs.length (rgF zs) rfl HM7.out.own ⟨w3.heap.size, 0, none⟩ 1 1 [.int .i64 a, .int .i64 t] (by first | rfl | simp) rfl (row_news HW.out) (two_one _ _) (by unfold maxLen; omega) (by omega) HM7.out.gr.size ?_; intro v' w4 hown' hgrow hiff hblk; obtain ⟨zs5, hz5⟩ : ∃ z, z = zs ++ [(a, t)] := ⟨_, rfl⟩; obtain ⟨g5, c5, rfl, hs5⟩ := HM7.out.app hz5 HB.out hown' hgrow; have HS5 := Lib.hid hs5; have HL5 : Hid (zs5.length = zs.length + 1) := Lib.hid (by rw [hz5]; simp); have HL6 := Lib.hid (le_app HL.out t1 hz5); clear hown' hgrow hs5 hz5 hiff hblk)
        go_wp2_with fail
        refine (pick_any B (m + 4 + 8 * zs.length + 2) 4 z _ HS5.out.cu (by omega) (by omega) (by omega)).mono ?_
        rintro e w5 ⟨q, hq, rfl, hc5, hg5⟩
        have HD5 := Lib.hid (HS5.out.cur hc5 hg5)
        clear hc5 hg5 HS5 HM7 HW HB HD3
        go_wp2_with fail
        go_roundw
        case rel => exact ⟨k - 1, g5, c5, zs5, t + 2 + q, by have := HL5.out; omega, by congr 1; omega, rfl, rfl, by omega, by omega, HL6, Lib.hid (HD5.out.mono (by have := HL5.out; omega))⟩
        case measure => (first | (simp [intOf]; done) | (simp [intOf]; omega))
      | false =>
        clear HBB
        obtain ⟨n, hn⟩ : ∃ n, n = zs.length := ⟨_, rfl⟩
        rw [← hn] at hk ⊢
        have HN := Lib.hid hn
        clear hn
        by_cases hn0 : n = 0
        · subst hn0
          go_wp2_with fail
          go_ret
          exact ⟨g, c, zs, by rw [← HN.out]; rfl, by have := HN.out; omega, HD.out.mono (by have := HN.out; omega)⟩
        have hd : ((n : Int) == 0) = false := by simp; omega
        have hn1 : 1 ≤ n := by omega
        clear hn0
        go_wp2_with fail
        refine (pick_any B (m + 4 + 8 * zs.length) n z _ HD.out.cu (by have := HN.out; omega) (by omega) (by omega)).mono ?_
        rintro e w6 ⟨i, hin, rfl, hc6, hg6⟩
        have HD6 := Lib.hid (HD.out.cur hc6 hg6)
        clear hc6 hg6 HD
        have hzi : i < zs.length := by rw [← HN.out]; exact hin
        obtain ⟨x0, x1, f0, f1, hgl⟩ := HD6.out.cells hzi
        have hbd := HD6.out.bd zs[i] (List.getElem_mem hzi)
        have hq65 := HL.out zs[i] (List.getElem_mem hzi)
        have hg0 : w.heap.size ≤ g := (HD6.out.own.lt g rfl).1
        obtain ⟨p, hp9⟩ : ∃ p, p = zs[i].1 := ⟨_, rfl⟩
        obtain ⟨q, hq9⟩ : ∃ q, q = zs[i].2 := ⟨_, rfl⟩
        unfold bdR at hbd
        rw [← hp9] at x0 hbd
        rw [← hq9] at x1 hbd hq65
        obtain ⟨p0, p1, q0, q1⟩ := hbd
        have hzi9 : zs.length ≤ 6 := by have := HN.out; omega
        obtain ⟨M, hM⟩ : ∃ M, M = m + 4 + 8 * zs.length + 2 := ⟨_, rfl⟩
        have hM1 : M ≤ m + 60 := by omega
        rw [← hM] at HD6
        have HI := Lib.hid hzi
        clear hp9 hq9 hzi hM hzi9 HL
        go_upto_region 13 with fail
        clear x0 x1 f0 f1
        obtain ⟨W7, hW7⟩ : ∃ W7, W7 = w6.alloc (.cells #[.int .i64 p, .int .i64 q] 47) := ⟨_, rfl⟩
        have HD7 : Hid (DrR w W7 B z M g c zs) := Lib.hid (by rw [hW7]; exact HD6.out.alloc _)
        have HR7 : Hid (Rb W7 w6.heap.size p q) := Lib.hid (by rw [hW7]; exact heap_alloc_new w6 _)
        obtain ⟨R, hR⟩ : ∃ R, R = w6.heap.size := ⟨_, rfl⟩
        rw [← hW7]
        rw [← hR] at HR7 hgl ⊢
        clear hW7 hR HD6
        have hBR : B ≠ R := by omega
        have hgR : g ≠ R := by omega
        have hwR : w.heap.size ≤ R := by omega
        go_wp2_with fail
        refine (pick_any B M 40 z _ HD7.out.cu (by omega) (by omega) (by omega)).mono ?_
        rintro e w8 ⟨s, hs, rfl, hc8, hg8⟩
        have HD8 := Lib.hid (HD7.out.cur hc8 hg8)
        have HR8 := Lib.hid (HR7.out.gr hg8 hBR)
        clear hc8 hg8 HD7 HR7
        by_cases s0 : s = 0
        · subst s0
          obtain ⟨x0, x1⟩ := HR8.out.cells
          go_wp2_with fail
          have hq1 : q + 1 ≤ 70000 := by omega
          refine (among_any B (M + 2) z _ (fromL (q + 1)) _ (HD8.out.alloc (.cells ((fromL (q + 1)).map (Value.int .i64)).toArray 3)).cu (by omega) (by rw [fromL_len]; omega) (by rw [fromL_len]; omega) (row_lit4 _ ((fromL (q + 1)).map (Value.int .i64)) 3 3 _ (by simp) rfl (by decide) HD8.out.cu.lt)).mono ?_
          rintro e w9 ⟨y, hy, rfl, hc9, hg9⟩
          obtain ⟨y0, y1⟩ := fromL_bd (by omega) hq1 y hy
          have HD9 := Lib.hid ((HD8.out.alloc (.cells ((fromL (q + 1)).map (Value.int .i64)).toArray 3)).cur hc9 hg9)
          have HR9 := Lib.hid ((HR8.out.below ((Below.refl _ _).alloc (Nat.le_refl _) (.cells ((fromL (q + 1)).map (Value.int .i64)).toArray 3)) HR8.out.lt).gr hg9 hBR)
          clear hy hc9 hg9 HD8 HR8 x0 x1
          have f0 := HR9.out.free 0
          obtain ⟨x0, x1⟩ := HR9.out.cells
          go_upto_region 25 with fail
          obtain ⟨b1, b2⟩ := rb_set0 HR9.out y
          obtain ⟨W10, hW10⟩ : ∃ W, W = w9.setCell ⟨R, 0, none⟩ (.int .i64 y) := ⟨_, rfl⟩
          rw [← hW10] at b1 b2 ⊢
          have HD10 := Lib.hid (HD9.out.other b2 hwR hgR)
          have HR10 := Lib.hid b1
          clear hW10 b1 b2 HD9 HR9 f0 x0 x1
          obtain ⟨x0, x1⟩ := HR10.out.cells
          obtain ⟨c0, c1, f0, f1, hgl⟩ := HD10.out.cells HI.out
          obtain ⟨zs5, hz5⟩ : ∃ u, u = zs.set i (y, q) := ⟨_, rfl⟩
          obtain ⟨hp1, hp2⟩ := HD10.out.put (p := y) (q := q) HI.out ⟨by show -1 ≤ y; omega, by show y ≤ 70000; omega, by show -1 ≤ q; omega, by show q ≤ 70000; omega⟩ hz5 HN.out
          have HP1 := Lib.hid hp1
          have HP2 := Lib.hid hp2
          clear hz5 hp1 hp2
          go_wp2_with fail
          go_ret
          exact ⟨g, c, zs5, by rw [HP2.out]; rfl, by have := HP2.out; omega, HP1.out.mono (by omega)⟩
        by_cases s1 : s = 1
        · subst s1
          clear s0
          obtain ⟨x0, x1⟩ := HR8.out.cells
          go_wp2_with fail
          have hq1 : q + 1 ≤ 70000 := by omega
          refine (among_any B (M + 2) z _ (lastL (q + 1)) _ (HD8.out.alloc (.cells ((lastL (q + 1)).map (Value.int .i64)).toArray 3)).cu (by omega) (by rw [lastL_len]; omega) (by rw [lastL_len]; omega) (row_lit4 _ ((lastL (q + 1)).map (Value.int .i64)) 3 3 _ (by simp) rfl (by decide) HD8.out.cu.lt)).mono ?_
          rintro e w9 ⟨y, hy, rfl, hc9, hg9⟩
          obtain ⟨y0, y1⟩ := lastL_bd (by omega) hq1 y hy
          have HD9 := Lib.hid ((HD8.out.alloc (.cells ((lastL (q + 1)).map (Value.int .i64)).toArray 3)).cur hc9 hg9)
          have HR9 := Lib.hid ((HR8.out.below ((Below.refl _ _).alloc (Nat.le_refl _) (.cells ((lastL (q + 1)).map (Value.int .i64)).toArray 3)) HR8.out.lt).gr hg9 hBR)
          clear hy hc9 hg9 HD8 HR8 x0 x1
          have f1 := HR9.out.free 1
          obtain ⟨x0, x1⟩ := HR9.out.cells
          go_upto_region 25 with fail
          obtain ⟨b1, b2⟩ := rb_set1 HR9.out y
          obtain ⟨W10, hW10⟩ : ∃ W, W = w9.setCell ⟨R, 1, none⟩ (.int .i64 y) := ⟨_, rfl⟩
          rw [← hW10] at b1 b2 ⊢
          have HD10 := Lib.hid (HD9.out.other b2 hwR hgR)
          have HR10 := Lib.hid b1
          clear hW10 b1 b2 HD9 HR9 f1 x0 x1
          obtain ⟨x0, x1⟩ := HR10.out.cells
          obtain ⟨c0, c1, f0, f1, hgl⟩ := HD10.out.cells HI.out
          obtain ⟨zs5, hz5⟩ : ∃ u, u = zs.set i (p, y) := ⟨_, rfl⟩
          obtain ⟨hp1, hp2⟩ := HD10.out.put (p := p) (q := y) HI.out ⟨by show -1 ≤ p; omega, by show p ≤ 70000; omega, by show -1 ≤ y; omega, by show y ≤ 70000; omega⟩ hz5 HN.out
          have HP1 := Lib.hid hp1
          have HP2 := Lib.hid hp2
          clear hz5 hp1 hp2
          go_wp2_with fail
          go_ret
          exact ⟨g, c, zs5, by rw [HP2.out]; rfl, by have := HP2.out; omega, HP1.out.mono (by omega)⟩
        by_cases s2 : s = 2
        · subst s2
          clear s0 s1
          have HF8 := Lib.hid (HD8.out.fresh)
          go_wp2_with fail
          go_loopw [3, 9] (fun v i wr => ∃ (k g c : Nat) (zs : List Rg), k ≤ 11 ∧ zs.length ≤ 11 ∧ i = .int .i64 k ∧ v = .slice (some ⟨g, 0, none⟩) zs.length c ∧ Hid (zs.length = k) ∧ Hid (DrR w wr B z (M + 2 + 2 * k) g c zs)) (fun _ i _ => 12 - (intOf i).toNat)
          case atStart => exact ⟨0, _, _, [], by omega, by simp, rfl, rfl, Lib.hid rfl, Lib.hid (HF8.out.mono (by omega))⟩
          case round =>
            clear HF8
            obtain ⟨k, g, c, zs, hk, hzl, rfl, rfl, HN, HD⟩ := hrel
            go_wp2_with fail
            refine (pick_any B (M + 2 + 2 * k) 2 z _ HD.out.cu (by omega) (by omega) (by omega)).mono ?_
            rintro e w9 ⟨b, hb, rfl, hc9, hg9⟩
            have HD9 := Lib.hid (HD.out.cur hc9 hg9)
            clear hc9 hg9 HD
            by_cases hkb : k < 10 + b
            · have hd : decide ((k : Int) < 10 + (b : Int)) = true := decide_eq_true (by omega)
              have HB : Hid (bdR (10 * (k : Int), 10 * (k : Int) + 3)) := Lib.hid ⟨by show -1 ≤ 10 * (k : Int); omega, by show 10 * (k : Int) ≤ 70000; omega, by show -1 ≤ 10 * (k : Int) + 3; omega, by show 10 * (k : Int) + 3 ≤ 70000; omega⟩
              have HM7 := Lib.hid (HD9.out.alloc (.cells #[.int .i64 (10 * (k : Int)), .int .i64 (10 * (k : Int) + 3)] 47))
              have HW := Lib.hid (row_new2 w9 (10 * (k : Int)) (10 * (k : Int) + 3))
              go_upto_region 22 with (at_builtin; refine wpList_append_own_at _ rfl _ _ 24 rfl w.heap.size 47 i0 (.agg #[.int .i64 0, .int .i64 0]) 2 16 Tryz.underlying24 hi hz0 hz1 hz2 rfl (by decide) _ zs.length (rgF zs) rfl HM7.out.own ⟨w9.heap.size, 0, none⟩ 1 1 [.int .i64 (10 * (k : Int)), .int .i64 (10 * (k : Int) + 3)] (by first | rfl | simp) rfl (row_news HW.out) (two_one _ _) (by unfold maxLen; omega) (by omega) HM7.out.gr.size ?_; intro v' w4 hown' hgrow hiff hblk; obtain ⟨zs5, hz5⟩ : ∃ u, u = zs ++ [(10 * (k : Int), 10 * (k : Int) + 3)] := ⟨_, rfl⟩; obtain ⟨g5, c5, rfl, hs5⟩ := HM7.out.app hz5 HB.out hown' hgrow; have HS5 := Lib.hid hs5; have HL5 : Hid (zs5.length = zs.length + 1) := Lib.hid (by rw [hz5]; simp); clear hown' hgrow hs5 hz5 hiff hblk)
              go_wp2_with fail
              go_roundw
              case rel => exact ⟨k + 1, g5, c5, zs5, by omega, by have := HL5.out; have := HN.out; omega, by go_num, rfl, Lib.hid (by rw [HL5.out, HN.out]), Lib.hid (HS5.out.mono (by omega))⟩
              case measure => (simp [RowKit.intOf]; omega)
            · have hd : decide ((k : Int) < 10 + (b : Int)) = false := decide_eq_false (by omega)
              go_wp2_with fail
              go_ret
              exact ⟨g, c, zs, rfl, hzl, HD9.out.mono (by omega)⟩
        · obtain ⟨x0, x1⟩ := HR8.out.cells
          obtain ⟨c0, c1, f0, f1, hgl⟩ := HD8.out.cells HI.out
          obtain ⟨zs5, hz5⟩ : ∃ u, u = zs.set i (p, q) := ⟨_, rfl⟩
          obtain ⟨hp1, hp2⟩ := HD8.out.put (p := p) (q := q) HI.out ⟨by show -1 ≤ p; omega, by show p ≤ 70000; omega, by show -1 ≤ q; omega, by show q ≤ 70000; omega⟩ hz5 HN.out
          have HP1 := Lib.hid hp1
          have HP2 := Lib.hid hp2
          clear hz5 hp1 hp2
          go_wp2_with fail
          go_ret
          exact ⟨g, c, zs5, by rw [HP2.out]; rfl, by have := HP2.out; omega, HP1.out.mono (by omega)⟩
end Go.Proofs.YtneimcacpbepfaaGreatDoor
