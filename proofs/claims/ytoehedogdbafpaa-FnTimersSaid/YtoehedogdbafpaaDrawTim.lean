/-
  The draws of chapter 8: a timer, a list of timers, its number, a tick.
-/
import Derived.Test.YtoehedogdbafpaaAmong
import Derived.Test.YtoehedogdbafpaaTimS
import Derived.Test.YtoehedogdbafpaaTimMath
import Derived.Deep.CutBlock
import Derived.Deep.CutRange
namespace Go.Proofs.Ytoehedogdbafpaa
open Go.RowKit Go.Lib Go.Joins
set_option linter.unusedVariables false

theorem some_ne8 {a b : Nat} (h : a ≠ b) : (some a : Option Nat) ≠ some b := fun e => h (Option.some.inj e)
theorem g_fresh8 {w0 w w' : World} {B k : Nat} (h : w0.grownBy w (some B)) (hg : w.grownBy w' (some k)) (hk : w0.heap.size ≤ k) : w0.grownBy w' (some B) :=
  ⟨hg.os.trans h.os, hg.tape.trans h.tape, hg.output.trans h.output, Nat.le_trans h.size hg.size, fun j hj hn => (hg.block j (Nat.lt_of_lt_of_le hj h.size) (some_ne8 (by omega))).trans (h.block j hj hn)⟩
theorem gdrew8 (w : World) (row : Option Nat) : w.grownBy w.drew row := ⟨rfl, rfl, rfl, Nat.le_refl _, fun _ _ _ => rfl⟩
theorem pickZ8_any (B m : Nat) (x : Int) (z : List Int) (w : World) (h : Cu w B z m) (hm : m ≤ 900000) (h0 : 1 ≤ x) (hx : x ≤ 65536) :
    Calls Try.prog 72 #[.pointer (some ⟨B, 0, none⟩), .int .i64 x] w fun e w' => ∃ b : Nat, (b : Int) < x ∧ e = .returned (.int .i64 b) ∧ Cu w' B z (m + 2) ∧ w.grownBy w' (some B) := by
  obtain ⟨n, rfl⟩ : ∃ n : Nat, x = n := ⟨x.toNat, by omega⟩
  exact (pick_any B m n z w h hm (by omega) (by omega)).mono (fun e w' ⟨b, hb, he, hc, hg⟩ => ⟨b, by omega, he, hc, hg⟩)
theorem row_lit8 (w : World) (xs : List Value) (t : TypeId) (n : Nat) (g : Nat) (hg0 : g = w.heap.size) (hn : n = xs.length) (hm : n ≤ maxLen) {B : Nat} (hB : B < w.heap.size) : ∀ w', (w.alloc (.cells xs.toArray t)).grownBy w' (some B) → Row w' (.slice (some ⟨g, 0, none⟩) n n) n xs :=
  fun w' hg => by subst hg0; exact row_fresh hn hm hB hg
theorem row_cut8 (w : World) (xs : List Int) (t : TypeId) (n k : Nat) (g : Nat) (hg0 : g = w.heap.size) (hn : n = xs.length) (hm : n ≤ maxLen) (hk : k ≤ n) {B : Nat} (hB : B < w.heap.size) : ∀ w', (w.alloc (.cells (xs.map (Value.int .i64)).toArray t)).grownBy w' (some B) → Row w' (.slice (some ⟨g, 0, none⟩) k n) (xs.take k).length ((xs.take k).map (Value.int .i64)) :=
  fun w' hg => by
    have h := row_head' (row_lit8 w (xs.map (Value.int .i64)) t n g hg0 (by rw [List.length_map]; exact hn) hm hB w' hg) hk
    rw [← List.map_take] at h
    rw [List.length_take, Nat.min_eq_left (by omega)]
    exact h
theorem Tb.g {w w' : World} {R : Nat} {t : Tm} {o : Option Nat} (h : Tb w R t) (hg : w.grownBy w' o) (hne : some R ≠ o) : Tb w' R t := (hg.block R h.lt hne).trans h
theorem Tb.set1 {w : World} {R : Nat} {t : Tm} (h : Tb w R t) (x : Int) : (Tb (w.setCell ⟨R, 0, none⟩ (.int .i64 x)) R ⟨x, t.d, t.p⟩ ∧ w.grownBy (w.setCell ⟨R, 0, none⟩ (.int .i64 x)) (some R)) ∧ (Tb (w.setCell ⟨R, 1, none⟩ (.int .i64 x)) R ⟨t.i, x, t.p⟩ ∧ w.grownBy (w.setCell ⟨R, 1, none⟩ (.int .i64 x)) (some R)) ∧ (Tb (w.setCell ⟨R, 2, none⟩ (.int .i64 x)) R ⟨t.i, t.d, x⟩ ∧ w.grownBy (w.setCell ⟨R, 2, none⟩ (.int .i64 x)) (some R)) := by
  obtain ⟨a0, b0⟩ := blk_set (i := 0) h (.int .i64 x)
  obtain ⟨a1, b1⟩ := blk_set (i := 1) h (.int .i64 x)
  obtain ⟨a2, b2⟩ := blk_set (i := 2) h (.int .i64 x)
  exact ⟨⟨by unfold Tb; rw [a0]; rfl, b0⟩, ⟨by unfold Tb; rw [a1]; rfl, b1⟩, ⟨by unfold Tb; rw [a2]; rfl, b2⟩⟩
theorem Tb.all {w : World} {R : Nat} {t : Tm} (h : Tb w R t) (u : Tm) : Tb (((w.setCell ⟨R, 0, none⟩ (.int .i64 u.i)).setCell ⟨R, 1, none⟩ (.int .i64 u.d)).setCell ⟨R, 2, none⟩ (.int .i64 u.p)) R u ∧ w.grownBy (((w.setCell ⟨R, 0, none⟩ (.int .i64 u.i)).setCell ⟨R, 1, none⟩ (.int .i64 u.d)).setCell ⟨R, 2, none⟩ (.int .i64 u.p)) (some R) := by
  obtain ⟨a0, b0⟩ := blk_set (i := 0) h (.int .i64 u.i)
  obtain ⟨a1, b1⟩ := blk_set (i := 1) a0 (.int .i64 u.d)
  obtain ⟨a2, b2⟩ := blk_set (i := 2) a1 (.int .i64 u.p)
  exact ⟨by unfold Tb; rw [a2]; rfl, grown_trans (grown_trans b0 b1) b2⟩
/-- The result's box beside the cursor. -/
structure DrQ (w0 w : World) (B : Nat) (z : List Int) (m Q : Nat) : Prop where
  cu : Cu w B z m
  res : Tb w Q tm0
  gr : w0.grownBy w (some B)
  hB : B < w0.heap.size
  hQ : w0.heap.size ≤ Q
theorem DrQ.call {w0 w w' : World} {B m m' Q : Nat} {z : List Int} (h : DrQ w0 w B z m Q) (hc : Cu w' B z m') (hg : w.grownBy w' (some B)) : DrQ w0 w' B z m' Q :=
  ⟨hc, h.res.g hg (some_ne8 (by have := h.hB; have := h.hQ; omega)), g_trans h.gr hg, h.hB, h.hQ⟩
theorem DrQ.alloc {w0 w : World} {B m Q : Nat} {z : List Int} (h : DrQ w0 w B z m Q) (o : Obj) : DrQ w0 (w.alloc o) B z m Q := h.call (h.cu.grown (World.grownBy_alloc _ _ none)) (World.grownBy_alloc _ _ _)
theorem DrQ.start {w : World} {B m : Nat} {z : List Int} (h : Cu w B z m) : DrQ w (w.alloc (.cells #[.int .i64 0, .int .i64 0, .int .i64 0] 42)) B z m w.heap.size :=
  ⟨h.grown (World.grownBy_alloc _ _ none), Tb.new w tm0, World.grownBy_alloc _ _ _, h.lt, Nat.le_refl _⟩
/-- The timer's box too. -/
structure DrT (w0 w : World) (B : Nat) (z : List Int) (m Q R : Nat) (t : Tm) : Prop where
  q : DrQ w0 w B z m Q
  box : Tb w R t
  hR : w0.heap.size ≤ R
  ne : R ≠ Q
theorem DrT.call {w0 w w' : World} {B m m' Q R : Nat} {z : List Int} {t : Tm} (h : DrT w0 w B z m Q R t) (hc : Cu w' B z m') (hg : w.grownBy w' (some B)) : DrT w0 w' B z m' Q R t :=
  ⟨h.q.call hc hg, h.box.g hg (some_ne8 (by have := h.q.hB; have := h.hR; omega)), h.hR, h.ne⟩
theorem DrT.alloc {w0 w : World} {B m Q R : Nat} {z : List Int} {t : Tm} (h : DrT w0 w B z m Q R t) (o : Obj) : DrT w0 (w.alloc o) B z m Q R t := h.call (h.q.cu.grown (World.grownBy_alloc _ _ none)) (World.grownBy_alloc _ _ _)
theorem DrT.start {w0 w : World} {B m Q : Nat} {z : List Int} (t : Tm) (h : DrQ w0 w B z m Q) : DrT w0 (w.alloc (.cells #[.int .i64 t.i, .int .i64 t.d, .int .i64 t.p] 42)) B z m Q w.heap.size t :=
  ⟨h.alloc _, Tb.new w t, h.gr.size, by have := h.res.lt; omega⟩
theorem DrT.set {w0 w w' : World} {B m Q R : Nat} {z : List Int} {t t' : Tm} (h : DrT w0 w B z m Q R t) (hb : Tb w' R t') (hg : w.grownBy w' (some R)) : DrT w0 w' B z m Q R t' :=
  ⟨⟨h.q.cu.grown' hg (fun k hk => by have e : R = k := Option.some.inj hk; have := h.q.hB; have := h.hR; omega), h.q.res.g hg (some_ne8 h.ne.symm), g_fresh8 h.q.gr hg h.hR, h.q.hB, h.q.hQ⟩, hb, h.hR, h.ne⟩
theorem DrT.out {w0 w : World} {B m Q R : Nat} {z : List Int} {t : Tm} (h : DrT w0 w B z m Q R t) (u : Tm) : Tb (((w.setCell ⟨Q, 0, none⟩ (.int .i64 u.i)).setCell ⟨Q, 1, none⟩ (.int .i64 u.d)).setCell ⟨Q, 2, none⟩ (.int .i64 u.p)) Q u ∧
    Cu (((w.setCell ⟨Q, 0, none⟩ (.int .i64 u.i)).setCell ⟨Q, 1, none⟩ (.int .i64 u.d)).setCell ⟨Q, 2, none⟩ (.int .i64 u.p)) B z m ∧ w0.grownBy (((w.setCell ⟨Q, 0, none⟩ (.int .i64 u.i)).setCell ⟨Q, 1, none⟩ (.int .i64 u.d)).setCell ⟨Q, 2, none⟩ (.int .i64 u.p)) (some B) := by
  obtain ⟨a, b⟩ := h.q.res.all u
  exact ⟨a, h.q.cu.grown' b (fun k hk => by have e : Q = k := Option.some.inj hk; have := h.q.hB; have := h.q.hQ; omega), g_fresh8 h.q.gr b h.q.hQ⟩
def dueD : List Int := [0, 3, 5, 5, 20, 100, 9990, 10000]
def perD : List Int := [0, 0, 1, 4, 10, 5000, 10000]
def idsD : List Int := [0, 99, 100]
def badD : List Int := [-1, 10001]
set_option maxRecDepth 100000 in
set_option maxHeartbeats 2000000 in
theorem timer_any (B m : Nat) (id : Int) (z : List Int) (w : World) (h : Cu w B z m) (hm : m ≤ 800000) :
    Calls Try.prog 71 #[.pointer (some ⟨B, 0, none⟩), .int .i64 id] w fun e w' => ∃ t : Tm, e = .returned (.agg #[.int .i64 t.i, .int .i64 t.d, .int .i64 t.p]) ∧ Cu w' B z (m + 8) ∧ w.grownBy w' (some B) := by
  obtain ⟨W0, hW0⟩ : ∃ W0, W0 = w.alloc (.cells #[.int .i64 0, .int .i64 0, .int .i64 0] 42) := ⟨_, rfl⟩
  obtain ⟨Q, hQ⟩ : ∃ Q, Q = w.heap.size := ⟨_, rfl⟩
  have HD0 : Hid (DrQ w W0 B z m Q) := Lib.hid (by rw [hW0, hQ]; exact DrQ.start h)
  have HW0 := Lib.hid hW0
  have HQ := Lib.hid hQ
  clear h hW0 hQ
  go_enter Try.func71, Try.ntmps71
  go_upto_region 1 with fail
  rw [← HW0.out, ← HQ.out]
  have HD1 := Lib.hid (HD0.out.alloc (.cells (dueD.map (Value.int .i64)).toArray 3))
  go_wp2_with fail
  refine (among_any B m z _ dueD _ HD1.out.cu (by omega) (by decide) (by decide) (row_lit8 _ (dueD.map (Value.int .i64)) 3 8 _ rfl rfl (by decide) HD0.out.cu.lt)).mono ?_
  rintro e w1 ⟨d, hd, rfl, hc, hg⟩
  have HD2 := Lib.hid (HD1.out.call hc hg)
  have HD3 := Lib.hid (HD2.out.alloc (.cells (perD.map (Value.int .i64)).toArray 3))
  clear hd hc hg HD0 HD1
  go_wp2_with fail
  refine (among_any B (m + 2) z _ perD _ HD3.out.cu (by omega) (by decide) (by decide) (row_lit8 _ (perD.map (Value.int .i64)) 3 7 _ rfl rfl (by decide) HD2.out.cu.lt)).mono ?_
  rintro e w2 ⟨p, hp, rfl, hc, hg⟩
  have HD4 := Lib.hid (HD3.out.call hc hg)
  clear hp hc hg HD2 HD3
  go_upto_region 2 with fail
  obtain ⟨W3, hW3⟩ : ∃ W3, W3 = w2.alloc (.cells #[.int .i64 id, .int .i64 d, .int .i64 p] 42) := ⟨_, rfl⟩
  obtain ⟨R, hR⟩ : ∃ R, R = w2.heap.size := ⟨_, rfl⟩
  have HT3 : Hid (DrT w W3 B z (m + 2 + 2) Q R ⟨id, d, p⟩) := Lib.hid (by rw [hW3, hR]; exact DrT.start ⟨id, d, p⟩ HD4.out)
  rw [← hW3, ← hR]
  clear hW3 hR HD4
  go_wp2_with fail
  refine (pick_any B (m + 2 + 2) 50 z _ HT3.out.q.cu (by omega) (by omega) (by omega)).mono ?_
  rintro e w4 ⟨b, hb, rfl, hc, hg⟩
  have HT4 := Lib.hid (HT3.out.call hc hg)
  clear hc hg HT3
  by_cases hb0' : b = 0
  · have hb0 : ((b : Int) == 0) = true := by simp; omega
    clear hb
    have HT5 := Lib.hid (HT4.out.alloc (.cells (idsD.map (Value.int .i64)).toArray 3))
    go_wp2_with fail
    refine (among_any B (m + 2 + 2 + 2) z _ idsD _ HT5.out.q.cu (by omega) (by decide) (by decide) (row_lit8 _ (idsD.map (Value.int .i64)) 3 3 _ rfl rfl (by decide) HT4.out.q.cu.lt)).mono ?_
    rintro e w5 ⟨x, hx, rfl, hc, hg⟩
    have HT6 := Lib.hid (HT5.out.call hc hg)
    clear hx hc hg HT4 HT5
    obtain ⟨s0, s1, s2⟩ := HT6.out.box.cells
    have fr := HT6.out.box.free 0
    have hs := (HT6.out.box.set1 x).1
    have HT7 := Lib.hid (HT6.out.set hs.1 hs.2)
    clear hs
    obtain ⟨x0, x1, x2⟩ := HT7.out.box.cells
    obtain ⟨y0, y1, y2⟩ := HT7.out.q.res.cells
    have f0 := HT7.out.q.res.free 0
    have f1 := HT7.out.q.res.free 1
    have f2 := HT7.out.q.res.free 2
    obtain ⟨p1, c1, g1⟩ := HT7.out.out ⟨x, d, p⟩
    go_wp2_with fail
    exact bodyPost_ret (results_T1 (t := ⟨x, d, p⟩) rfl _ _ Q rfl p1) rfl ⟨⟨x, d, p⟩, rfl, c1.mono (by omega), g1⟩
  by_cases hb1' : b = 1
  · have hb0 : ((b : Int) == 0) = false := by simp; omega
    have hb1 : ((b : Int) == 1) = true := by simp; omega
    clear hb
    have HT5 := Lib.hid (HT4.out.alloc (.cells (badD.map (Value.int .i64)).toArray 3))
    go_wp2_with fail
    refine (among_any B (m + 2 + 2 + 2) z _ badD _ HT5.out.q.cu (by omega) (by decide) (by decide) (row_lit8 _ (badD.map (Value.int .i64)) 3 2 _ rfl rfl (by decide) HT4.out.q.cu.lt)).mono ?_
    rintro e w5 ⟨x, hx, rfl, hc, hg⟩
    have HT6 := Lib.hid (HT5.out.call hc hg)
    clear hx hc hg HT4 HT5
    obtain ⟨s0, s1, s2⟩ := HT6.out.box.cells
    have fr := HT6.out.box.free 1
    have hs := (HT6.out.box.set1 x).2.1
    have HT7 := Lib.hid (HT6.out.set hs.1 hs.2)
    clear hs
    obtain ⟨x0, x1, x2⟩ := HT7.out.box.cells
    obtain ⟨y0, y1, y2⟩ := HT7.out.q.res.cells
    have f0 := HT7.out.q.res.free 0
    have f1 := HT7.out.q.res.free 1
    have f2 := HT7.out.q.res.free 2
    obtain ⟨p1, c1, g1⟩ := HT7.out.out ⟨id, x, p⟩
    go_wp2_with fail
    exact bodyPost_ret (results_T1 (t := ⟨id, x, p⟩) rfl _ _ Q rfl p1) rfl ⟨⟨id, x, p⟩, rfl, c1.mono (by omega), g1⟩
  by_cases hb2' : b = 2
  · have hb0 : ((b : Int) == 0) = false := by simp; omega
    have hb1 : ((b : Int) == 1) = false := by simp; omega
    have hb2 : ((b : Int) == 2) = true := by simp; omega
    clear hb
    have HT5 := Lib.hid (HT4.out.alloc (.cells (badD.map (Value.int .i64)).toArray 3))
    go_wp2_with fail
    refine (among_any B (m + 2 + 2 + 2) z _ badD _ HT5.out.q.cu (by omega) (by decide) (by decide) (row_lit8 _ (badD.map (Value.int .i64)) 3 2 _ rfl rfl (by decide) HT4.out.q.cu.lt)).mono ?_
    rintro e w5 ⟨x, hx, rfl, hc, hg⟩
    have HT6 := Lib.hid (HT5.out.call hc hg)
    clear hx hc hg HT4 HT5
    obtain ⟨s0, s1, s2⟩ := HT6.out.box.cells
    have fr := HT6.out.box.free 2
    have hs := (HT6.out.box.set1 x).2.2
    have HT7 := Lib.hid (HT6.out.set hs.1 hs.2)
    clear hs
    obtain ⟨x0, x1, x2⟩ := HT7.out.box.cells
    obtain ⟨y0, y1, y2⟩ := HT7.out.q.res.cells
    have f0 := HT7.out.q.res.free 0
    have f1 := HT7.out.q.res.free 1
    have f2 := HT7.out.q.res.free 2
    obtain ⟨p1, c1, g1⟩ := HT7.out.out ⟨id, d, x⟩
    go_wp2_with fail
    exact bodyPost_ret (results_T1 (t := ⟨id, d, x⟩) rfl _ _ Q rfl p1) rfl ⟨⟨id, d, x⟩, rfl, c1.mono (by omega), g1⟩
  have hb0 : ((b : Int) == 0) = false := by simp; omega
  have hb1 : ((b : Int) == 1) = false := by simp; omega
  have hb2 : ((b : Int) == 2) = false := by simp; omega
  clear hb
  obtain ⟨x0, x1, x2⟩ := HT4.out.box.cells
  obtain ⟨y0, y1, y2⟩ := HT4.out.q.res.cells
  have f0 := HT4.out.q.res.free 0
  have f1 := HT4.out.q.res.free 1
  have f2 := HT4.out.q.res.free 2
  obtain ⟨p1, c1, g1⟩ := HT4.out.out ⟨id, d, p⟩
  go_wp2_with fail
  exact bodyPost_ret (results_T1 (t := ⟨id, d, p⟩) rfl _ _ Q rfl p1) rfl ⟨⟨id, d, p⟩, rfl, c1.mono (by omega), g1⟩
/-- A list of timers that is drawn so far, behind the cursor. -/
structure DrL (w0 w : World) (B : Nat) (z : List Int) (m g c : Nat) (zs : List Tm) : Prop where
  own : w.ownsRow w0.heap.size 42 3 (.slice (some ⟨g, 0, none⟩) zs.length c) zs.length (tmF zs)
  cu : Cu w B z m
  gr : w0.grownBy w (some B)
  lt : B < w0.heap.size
theorem DrL.cur {w0 w w' : World} {B m m' g c : Nat} {z : List Int} {zs : List Tm} (h : DrL w0 w B z m g c zs) (hc : Cu w' B z m') (hg : w.grownBy w' (some B)) : DrL w0 w' B z m' g c zs :=
  ⟨ownz_cur h.own hg h.lt, hc, g_trans h.gr hg, h.lt⟩
theorem DrL.mono {w0 w : World} {B m m' g c : Nat} {z : List Int} {zs : List Tm} (h : DrL w0 w B z m g c zs) (hm : m ≤ m') : DrL w0 w B z m' g c zs := ⟨h.own, h.cu.mono hm, h.gr, h.lt⟩
theorem DrL.alloc {w0 w : World} {B m g c : Nat} {z : List Int} {zs : List Tm} (h : DrL w0 w B z m g c zs) (o : Obj) : DrL w0 (w.alloc o) B z m g c zs :=
  ⟨ownz_none h.own (World.grownBy_alloc _ _ none), h.cu.grown (World.grownBy_alloc _ _ none), g_trans h.gr (World.grownBy_alloc _ _ _), h.lt⟩
theorem DrL.start {w0 : World} {B m : Nat} {z : List Int} (h : Cu w0 B z m) : DrL w0 (w0.alloc (.cells #[] 42)) B z m w0.heap.size 0 [] :=
  ⟨by simpa [tmF_nil] using litz w0 w0.heap.size 42 3 (Nat.le_refl _), h.grown (World.grownBy_alloc _ _ none), World.grownBy_alloc _ _ _, h.lt⟩
theorem DrL.app {w0 w w1 : World} {B m g c : Nat} {z : List Int} {zs zs5 : List Tm} {t : Tm} {v' : Value} (h : DrL w0 w B z m g c zs) (hz : zs5 = zs ++ [t])
    (ho : w1.ownsRow w0.heap.size 42 3 v' (zs.length + 1) (tmF zs ++ tmC t)) (hg : w.grownBy w1 (some g)) :
    ∃ g' c', v' = .slice (some ⟨g', 0, none⟩) zs5.length c' ∧ DrL w0 w1 B z m g' c' zs5 := by
  subst hz
  obtain ⟨g', c', rfl⟩ := ownz_form ho (by omega)
  have hgk : w0.heap.size ≤ g := (h.own.lt g rfl).1
  have e : (zs ++ [t]).length = zs.length + 1 := by simp
  refine ⟨g', c', by rw [e], ⟨?_, ?_, ?_, h.lt⟩⟩
  · rw [e, tmF_snoc]
    exact ho
  · exact h.cu.grown' hg (fun k hk => by have e2 : g = k := Option.some.inj hk; have := h.lt; omega)
  · exact g_fresh8 h.gr hg hgk
def lenT : Value → Nat | .slice _ n _ => n | _ => 0
theorem q59 {b : Nat} (h : b < 60) : ∃ d : Nat, d ≤ 1 ∧ IntKind.i64.wrap ((b : Int) / 59) = (d : Int) := by
  exact ⟨b / 59, by omega, (IntWalk.i64_in _ (by omega)).trans (by omega)⟩
theorem q11 {b : Nat} (h : b < 24) : ∃ d : Nat, d ≤ 2 ∧ IntKind.i64.wrap ((b : Int) / 11) = (d : Int) := by
  exact ⟨b / 11, by omega, (IntWalk.i64_in _ (by omega)).trans (by omega)⟩
set_option maxRecDepth 100000 in
set_option maxHeartbeats 2000000 in
theorem timers_any (B m : Nat) (z : List Int) (w : World) (h : Cu w B z m) (hm : m ≤ 700000) :
    Calls Try.prog 64 #[.pointer (some ⟨B, 0, none⟩)] w fun e w' => ∃ (g c : Nat) (zs : List Tm), e = .returned (.slice (some ⟨g, 0, none⟩) zs.length c) ∧ zs.length ≤ 11 ∧ DrL w w' B z (m + 300) g c zs := by
  obtain ⟨i0, hi, hz0, hz1, hz2⟩ := info_parts infoT
  have HD0 := Lib.hid (DrL.start h)
  clear h
  go_enter Try.func64, Try.ntmps64
  go_wp2_with fail
  refine (pick_any B m 7 z _ HD0.out.cu (by omega) (by omega) (by omega)).mono ?_
  rintro e w1 ⟨n0, hn0, rfl, hc, hg⟩
  have HD1 := Lib.hid (HD0.out.cur hc hg)
  clear hc hg HD0
  go_wp2_with fail
  go_loopw [3, 4, 5] (fun v i q wr => ∃ (k g c : Nat) (zs : List Tm) (a : Int), zs.length + k ≤ 6 ∧ q = .int .i64 k ∧ i = .int .i64 a ∧ v = .slice (some ⟨g, 0, none⟩) zs.length c ∧ -10 ≤ a ∧ a ≤ 3 * zs.length ∧ a + 10 + 10 * k ≥ 0 ∧ -(zs.length : Int) ≤ a ∧ Hid (DrL w wr B z (m + 2 + 12 * zs.length) g c zs)) (fun _ _ q _ => (intOf q).toNat)
  case atStart => exact ⟨n0, _, _, [], 0, by simp; omega, rfl, rfl, rfl, by omega, by simp, by omega, by simp, HD1⟩
  case round =>
    clear HD1
    obtain ⟨k, g, c, zs, a, hk, rfl, rfl, rfl, a0, a1, a2, a3, HD⟩ := hrel
    obtain ⟨n, hn⟩ : ∃ n, n = zs.length := ⟨_, rfl⟩
    rw [← hn] at hk a1 a3 HD ⊢
    have HN := Lib.hid hn
    clear hn
    by_cases hk0 : 0 < k
    · have hd : decide ((0 : Int) < (k : Int)) = true := decide_eq_true (by omega)
      have hw1 : IntKind.i64.wrap (a + 1) = a + 1 := IntWalk.i64_in _ (by omega)
      have HD' : Hid (DrL w wr B z (m + 2 + 12 * n) g c zs) := HD
      go_wp2_with fail
      refine (pick_any B (m + 2 + 12 * n) 3 z _ HD'.out.cu (by omega) (by omega) (by omega)).mono ?_
      rintro e w2 ⟨b1, hb1, rfl, hc, hg⟩
      have HD2 := Lib.hid (HD'.out.cur hc hg)
      have hw2 : IntKind.i64.wrap (a + 1 + (b1 : Int)) = a + 1 + (b1 : Int) := IntWalk.i64_in _ (by omega)
      clear hc hg HD HD'
      go_wp2_with fail
      refine (pick_any B (m + 2 + 12 * n + 2) 60 z _ HD2.out.cu (by omega) (by omega) (by omega)).mono ?_
      rintro e w3 ⟨b2, hb2, rfl, hc, hg⟩
      have HD3 := Lib.hid (HD2.out.cur hc hg)
      obtain ⟨d, hd1, hq⟩ := q59 hb2
      obtain ⟨a', ha'⟩ : ∃ a' : Int, a' = a + 1 + (b1 : Int) - (d : Int) := ⟨_, rfl⟩
      have hw3 : IntKind.i64.wrap (a + 1 + (b1 : Int) - (d : Int)) = a' := (IntWalk.i64_in _ (by omega)).trans ha'.symm
      have HA := Lib.hid (And.intro ha' (And.intro hb1 hd1))
      clear hc hg HD2 hb2 ha' hd1
      go_wp2_with fail
      refine (timer_any B (m + 2 + 12 * n + 2 + 2) a' z _ HD3.out.cu (by omega)).mono ?_
      rintro e w4 ⟨t, rfl, hc, hg⟩
      have HD4 := Lib.hid (HD3.out.cur hc hg)
      have HM7 := Lib.hid (HD4.out.alloc (.cells #[.int .i64 t.i, .int .i64 t.d, .int .i64 t.p] 42))
      have HL := Lib.hid (row_litT (Tb.new w4 t))
      clear hc hg HD3
      go_wp2_with (at_builtin; refine wpList_append_own_at _ rfl _ _ 24 rfl w.heap.size 42 i0 (.agg #[.int .i64 0, .int .i64 0, .int .i64 0]) 3 24 Try.underlying24 hi hz0 hz1 hz2 rfl (by decide) _ n (tmF zs) rfl (by have h := HM7.out.own; rw [← HN.out] at h; exact h) ⟨w4.heap.size, 0, none⟩ 1 1 (tmC t) rfl rfl (row_news HL.out) (tmC_one t) (by unfold maxLen; omega) (by omega) HM7.out.gr.size ?_; intro v' w5 hown' hgrow _ _; obtain ⟨zs5, hz5⟩ : ∃ z, z = zs ++ [t] := ⟨_, rfl⟩; obtain ⟨g5, c5, rfl, hs5⟩ := HM7.out.app hz5 (by rw [← HN.out]; exact hown') hgrow; have HS5 := Lib.hid hs5; have HL5 : Hid (zs5.length = n + 1) := Lib.hid (by rw [hz5, HN.out]; simp); clear hown' hgrow hs5 hz5)
      go_roundw
      case rel => exact ⟨k - 1, g5, c5, zs5, a', by have := HL5.out; omega, by congr 1; omega, rfl, rfl, by have := HA.out; omega, by have := HA.out; have := HL5.out; omega, by have := HA.out; omega, by have := HA.out; have := HL5.out; omega, Lib.hid (HS5.out.mono (by have := HL5.out; omega))⟩
      case measure => (first | (simp [intOf]; done) | (simp [intOf]; omega))
    · obtain rfl : k = 0 := by omega
      have hd : decide ((0 : Int) < ((0 : Nat) : Int)) = false := by decide
      go_wp2_with fail
      refine (one_any B (m + 2 + 12 * n) 24 z _ HD.out.cu (by omega) (by omega) (by omega)).mono ?_
      rintro e w2 ⟨bb, rfl, hc, hg⟩
      have HD2 := Lib.hid (HD.out.cur hc hg)
      clear hc hg HD
      cases bb with
      | false =>
        go_wp2_with fail
        go_ret
        exact ⟨g, c, zs, by rw [HN.out]; rfl, by have := HN.out; omega, HD2.out.mono (by omega)⟩
      | true =>
        have hs0 : Hid (DrL w w2 B z (m + 80 + 16 * zs.length) g c zs) := Lib.hid (HD2.out.mono (by have := HN.out; omega))
        have HNo := HN
        have hl0 : zs.length ≤ 6 := by have := HN.out; omega
        clear HD2 HN
        go_wp2_with fail
        go_loopw [3, 4] (fun v i wr => ∃ (g c : Nat) (zs : List Tm) (a : Int), zs.length ≤ 11 ∧ i = .int .i64 a ∧ v = .slice (some ⟨g, 0, none⟩) zs.length c ∧ -10 ≤ a ∧ a ≤ 20 + zs.length ∧ Hid (DrL w wr B z (m + 80 + 16 * zs.length) g c zs)) (fun v _ _ => 11 - lenT v)
        case atStart => exact ⟨g, c, zs, a, by omega, rfl, by rw [HNo.out], by omega, by have := HNo.out; omega, hs0⟩
        case round =>
          clear hs0
          obtain ⟨g1, c1, zs1, a1, hl, rfl, rfl, b0, b1, HE⟩ := hrel
          obtain ⟨n, hn⟩ : ∃ n, n = zs1.length := ⟨_, rfl⟩
          rw [← hn] at hl b1 HE ⊢
          have HN := Lib.hid hn
          clear hn
          go_wp2_with fail
          refine (pick_any B (m + 80 + 16 * n) 2 z _ HE.out.cu (by omega) (by omega) (by omega)).mono ?_
          rintro e w3 ⟨b2, hb2, rfl, hc, hg⟩
          have HD3 := Lib.hid (HE.out.cur hc hg)
          have hw1 : IntKind.i64.wrap (10 + (b2 : Int)) = 10 + (b2 : Int) := IntWalk.i64_in _ (by omega)
          clear hc hg HE
          by_cases hlt : (n : Int) < 10 + (b2 : Int)
          · have hd5 : decide ((n : Int) < 10 + (b2 : Int)) = true := decide_eq_true hlt
            have hw2 : IntKind.i64.wrap (a1 + 1) = a1 + 1 := IntWalk.i64_in _ (by omega)
            have HM7 := Lib.hid (HD3.out.alloc (.cells #[.int .i64 (a1 + 1), .int .i64 7, .int .i64 0] 42))
            have HL := Lib.hid (row_litT (Tb.new w3 ⟨a1 + 1, 7, 0⟩))
            go_wp2_with (at_builtin; refine wpList_append_own_at _ rfl _ _ 24 rfl w.heap.size 42 i0 (.agg #[.int .i64 0, .int .i64 0, .int .i64 0]) 3 24 Try.underlying24 hi hz0 hz1 hz2 rfl (by decide) _ n (tmF zs1) rfl (by have h := HM7.out.own; rw [← HN.out] at h; exact h) ⟨w3.heap.size, 0, none⟩ 1 1 (tmC ⟨a1 + 1, 7, 0⟩) rfl rfl (row_news HL.out) (tmC_one _) (by unfold maxLen; omega) (by omega) HM7.out.gr.size ?_; intro v' w5 hown' hgrow _ _; obtain ⟨zs5, hz5⟩ : ∃ z, z = zs1 ++ [(⟨a1 + 1, 7, 0⟩ : Tm)] := ⟨_, rfl⟩; obtain ⟨g5, c5, rfl, hs5⟩ := HM7.out.app hz5 (by rw [← HN.out]; exact hown') hgrow; have HS5 := Lib.hid hs5; have HL5 : Hid (zs5.length = n + 1) := Lib.hid (by rw [hz5, HN.out]; simp); clear hown' hgrow hs5 hz5)
            go_roundw
            case rel => exact ⟨g5, c5, zs5, a1 + 1, by have := HL5.out; omega, rfl, rfl, by omega, by have := HL5.out; omega, Lib.hid (HS5.out.mono (by have := HL5.out; omega))⟩
            case measure => (have := HL5.out; simp [lenT]; omega)
          · have hd5 : decide ((n : Int) < 10 + (b2 : Int)) = false := decide_eq_false hlt
            go_wp2_with fail
            go_ret
            exact ⟨g1, c1, zs1, by rw [HN.out]; rfl, by have := HN.out; omega, HD3.out.mono (by omega)⟩
def nosD : List Int := [0, 1, 50]
set_option maxRecDepth 100000 in
set_option maxHeartbeats 2000000 in
theorem timerId_any (B m g c : Nat) (z : List Int) (zs : List Tm) (w0 w : World) (h : DrL w0 w B z m g c zs) (hl : zs.length ≤ 11) (hm : m ≤ 800000) :
    Calls Try.prog 65 #[.pointer (some ⟨B, 0, none⟩), .slice (some ⟨g, 0, none⟩) zs.length c] w fun e w' => ∃ x : Int, e = .returned (.int .i64 x) ∧ DrL w0 w' B z (m + 4) g c zs := by
  have HD := Lib.hid h
  clear h
  obtain ⟨n, hn⟩ : ∃ n, n = zs.length := ⟨_, rfl⟩
  rw [← hn] at hl ⊢
  have HN := Lib.hid hn
  clear hn
  by_cases h0 : n = 0
  · have h0' : ((n : Int) == 0) = true := by simp; omega
    have HD1 := Lib.hid (HD.out.alloc (.cells (nosD.map (Value.int .i64)).toArray 3))
    go_enter Try.func65, Try.ntmps65
    go_wp2_with fail
    refine (among_any B m z _ nosD _ HD1.out.cu (by omega) (by decide) (by decide) (row_lit8 _ (nosD.map (Value.int .i64)) 3 3 _ rfl rfl (by decide) HD.out.cu.lt)).mono ?_
    rintro e w1 ⟨x, _, rfl, hc, hg⟩
    have HD2 := Lib.hid (HD1.out.cur hc hg)
    clear hc hg
    go_wp2_with fail
    go_ret
    exact ⟨x, rfl, HD2.out.mono (by omega)⟩
  · have h0' : ((n : Int) == 0) = false := by simp; omega
    go_enter Try.func65, Try.ntmps65
    go_wp2_with fail
    refine (one_any B m 8 z _ HD.out.cu (by omega) (by omega) (by omega)).mono ?_
    rintro e w1 ⟨bb, rfl, hc, hg⟩
    have HD1 := Lib.hid (HD.out.cur hc hg)
    clear hc hg
    cases bb with
    | true =>
      have HD2 := Lib.hid (HD1.out.alloc (.cells (nosD.map (Value.int .i64)).toArray 3))
      go_wp2_with fail
      refine (among_any B (m + 2) z _ nosD _ HD2.out.cu (by omega) (by decide) (by decide) (row_lit8 _ (nosD.map (Value.int .i64)) 3 3 _ rfl rfl (by decide) HD1.out.cu.lt)).mono ?_
      rintro e w2 ⟨x, _, rfl, hc, hg⟩
      have HD3 := Lib.hid (HD2.out.cur hc hg)
      clear hc hg
      go_wp2_with fail
      go_ret
      exact ⟨x, rfl, HD3.out.mono (by omega)⟩
    | false =>
      go_wp2_with fail
      refine (pick_any B (m + 2) n z _ HD1.out.cu (by omega) (by omega) (by omega)).mono ?_
      rintro e w2 ⟨k, hk, rfl, hc, hg⟩
      have HD3 := Lib.hid (HD1.out.cur hc hg)
      have hkz : k < zs.length := by rw [← HN.out]; exact hk
      obtain ⟨y0, -⟩ := ownT_facts HD3.out.own (List.getElem?_eq_getElem hkz)
      generalize zs[k].i = x at y0
      have hkI : (k : Int) < (n : Int) := by omega
      clear hc hg hkz hk
      go_wp2_with fail
      go_ret
      exact ⟨x, rfl, HD3.out.mono (by omega)⟩
def tckD : List Int := [0, 3, 4, 5, 12, 40, 100, 10000, -1, 10001]
theorem tckD_len : tckD.length = 10 := rfl
set_option maxRecDepth 100000 in
set_option maxHeartbeats 2000000 in
theorem tick8_any (B m : Nat) (z : List Int) (w : World) (h : Cu w B z m) (hm : m ≤ 800000) :
    Calls Try.prog 79 #[.pointer (some ⟨B, 0, none⟩)] w fun e w' => ∃ x : Int, e = .returned (.int .i64 x) ∧ Cu w' B z (m + 4) ∧ w.grownBy w' (some B) := by
  have HC := Lib.hid h
  have HC1 := Lib.hid (h.grown (World.grownBy_alloc w (.cells (tckD.map (Value.int .i64)).toArray 3) none))
  clear h
  go_enter Try.func79, Try.ntmps79
  go_wp2_with fail
  refine (pick_any B m 24 z _ HC1.out (by omega) (by omega) (by omega)).mono ?_
  rintro e w1 ⟨b, hb, rfl, hc, hg⟩
  obtain ⟨d, hd, hq⟩ := q11 hb
  have hw : IntKind.i64.wrap (8 + (d : Int)) = ((8 + d : Nat) : Int) := (IntWalk.i64_in _ (by omega)).trans (by omega)
  have HC2 := Lib.hid hc
  have HG := Lib.hid hg
  have HR := Lib.hid (row_cut8 w tckD 3 10 (8 + d) _ rfl rfl (by decide) (by omega) HC.out.lt)
  have HLn : Hid ((tckD.take (8 + d)).length = 8 + d) := Lib.hid (by rw [List.length_take, tckD_len]; omega)
  have i1 : ((8 + d : Nat) : Int) ≤ 10 := by omega
  have i2 : (0 : Int) ≤ ((8 + d : Nat) : Int) := by omega
  obtain ⟨k, hk⟩ : ∃ k, k = 8 + d := ⟨_, rfl⟩
  rw [← hk] at hw HR HLn i1 i2
  have hk1 : 1 ≤ k := by omega
  have hk2 : k ≤ 65536 := by omega
  clear hc hg hb hd hk
  generalize tckD.take k = xs at HR HLn
  go_wp2_with fail
  rw [← HLn.out]
  refine (among_any B (m + 2) z _ xs _ HC2.out (by omega) (by rw [HLn.out]; exact hk1) (by rw [HLn.out]; exact hk2) (fun w' h => by rw [HLn.out]; have h2 := HR.out w' (g_trans HG.out h); rw [HLn.out] at h2; exact h2)).mono ?_
  rintro e w2 ⟨x, _, rfl, hc, hg⟩
  go_wp2_with fail
  go_ret
  exact ⟨x, rfl, hc, g_trans (World.grownBy_alloc _ _ _) (g_trans HG.out hg)⟩
end Go.Proofs.Ytoehedogdbafpaa
