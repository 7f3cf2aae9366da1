/-
  The draws of chapter 7 as the laws call them.
-/
import Derived.Test.YtbhhmaialilabaaDrawLink2
import Derived.Test.YtbhhmaialilabaaLinkI2
namespace Go.Proofs.Ytbhhmaialilabaa
open Go.RowKit Go.Lib Go.Joins
set_option linter.unusedVariables false

theorem results_lk1 {fn : Func} {p u : Tmp} (h : fn.results = #[.cell p 26, .tmp u]) (tmps : Array Value) (w : World) (g : Nat) {v : Value} {f : ByteArray} {n : Int} (hp : tmps.getD p undef = .pointer (some ⟨g, 0, none⟩)) {x : Value} (hu : tmps.getD u undef = x) (hg : Lq w g v f n) :
    (results fn tmps).run Try.prog w = .ok (.tuple #[.agg #[v, .string f, .int .i64 n], x]) w := by
  rw [results_cell_tmp h, hu]
  have hp' : tmps[p]?.getD undef = .pointer (some ⟨g, 0, none⟩) := by simpa using hp
  simp [asAddr, hp', Result.andThen, run_loadVar_row w g 26 26 _ _ _ hg Try.underlying26 (by rfl) (by kernel_rfl)]
theorem gbelow7 {w w' : World} {B0 B : Nat} (h : w.grownBy w' (some B)) (hB : B0 ≤ w.heap.size) (hr : B0 ≤ B) : Below B0 w w' := (Below.refl B0 w).grown h hB (fun k e => by cases e; exact hr)
/-- A link that has been drawn, behind the result's box Q and the cursor. -/
structure DoK (w w' : World) (B : Nat) (z : List Int) (m : Nat) (v : Value) (l : Lk) : Prop where
  own : w'.ownsRow (w.heap.size + 2) 9 1 v l.q.length (l.q.map Value.string)
  res : Lq w' w.heap.size (.slice none 0 0) ⟨#[]⟩ 0
  cu : Cu w' B z m
  bel : Below w.heap.size w w'
  fs : l.f.size ≤ 50
  qs : l.q.length ≤ 30
  hB : B = w.heap.size + 1
theorem DoK.start {w w1 : World} {m : Nat} {z : List Int} {cs : Array Value} {v : Value} {l : Lk} {W : World} (hW : W = (w.alloc (.cells #[.slice none 0 0, .string ⟨#[]⟩, .int .i64 0] 26)).alloc (.cells cs 70))
    (ho : w1.ownsRow W.heap.size 9 1 v l.q.length (l.q.map Value.string)) (hf : l.f.size ≤ 50) (hq : l.q.length ≤ 30) (hc : Cu w1 (w.heap.size + 1) z m) (hg : W.grownBy w1 (some (w.heap.size + 1))) : DoK w w1 (w.heap.size + 1) z m v l := by
  subst hW
  rw [World.size_alloc, World.size_alloc] at ho
  refine ⟨ho, ?_, hc, ?_, hf, hq, rfl⟩
  · exact ((Lq.new w (.slice none 0 0) ⟨#[]⟩ 0).grown (World.grownBy_alloc _ _ none) (by simp)).grown hg (some_ne7 (by omega))
  · exact (((Below.refl _ _).alloc (Nat.le_refl _) _).alloc (by simp) _).trans (gbelow7 hg (by rw [World.size_alloc, World.size_alloc]; omega) (by omega))
theorem DoK.out {w w1 : World} {B m : Nat} {z : List Int} {v v' : Value} {l : Lk} {f' : ByteArray} {u' : Int} (h : DoK w w1 B z m v l) :
    Lq (((w1.setCell ⟨w.heap.size, 0, none⟩ v').setCell ⟨w.heap.size, 1, none⟩ (.string f')).setCell ⟨w.heap.size, 2, none⟩ (.int .i64 u')) w.heap.size v' f' u' ∧
    (((w1.setCell ⟨w.heap.size, 0, none⟩ v').setCell ⟨w.heap.size, 1, none⟩ (.string f')).setCell ⟨w.heap.size, 2, none⟩ (.int .i64 u')).ownsRow w.heap.size 9 1 v l.q.length (l.q.map Value.string) ∧
    Below w.heap.size w (((w1.setCell ⟨w.heap.size, 0, none⟩ v').setCell ⟨w.heap.size, 1, none⟩ (.string f')).setCell ⟨w.heap.size, 2, none⟩ (.int .i64 u')) := by
  obtain ⟨p1, q1⟩ := h.res.store (v' := v') (f' := f') (u' := u')
  refine ⟨p1, own_base (h.own.kept q1 ?_) (by omega), h.bel.grown q1 h.bel.size (fun k hk => by have e2 : w.heap.size = k := Option.some.inj hk; omega)⟩
  cases hv : v.ownBlock with
  | none => exact .inl rfl
  | some k => exact .inr (some_ne7 (by have := (h.own.lt k hv).1; omega))
set_option maxRecDepth 100000 in
set_option maxHeartbeats 1000000 in
theorem drawLk_any (v : Value) (z : List Int) (w : World) (hrow : Row w v z.length (z.map (Value.int .u8))) (hz : ∀ x ∈ z, 0 ≤ x ∧ x < 256) :
    Calls Try.prog 67 #[v] w fun e w' => ∃ (v' : Value) (l : Lk), e = .returned (.agg #[v', .string l.f, .int .i64 l.u]) ∧ w'.ownsRow w.heap.size 9 1 v' l.q.length (l.q.map Value.string) ∧ l.f.size ≤ 50 ∧ l.q.length ≤ 30 ∧ Below w.heap.size w w' := by
  obtain ⟨W, hW⟩ : ∃ W, W = (w.alloc (.cells #[.slice none 0 0, .string ⟨#[]⟩, .int .i64 0] 26)).alloc (.cells #[v, .int .i64 0, .int .u64 0] 70) := ⟨_, rfl⟩
  have HC : Hid (Cu W (w.heap.size + 1) z 0) := Lib.hid (by
    rw [hW]
    have := cu_new (w.alloc (.cells #[.slice none 0 0, .string ⟨#[]⟩, .int .i64 0] 26)) v z (hrow.below ((Below.refl _ _).alloc (Nat.le_refl _) _) (Nat.le_refl _)) hz
    rw [World.size_alloc] at this
    exact this)
  have HW := Lib.hid hW
  obtain ⟨a0, cap0, rfl, _, _, _⟩ := row_open hrow
  clear hW hrow hz
  go_enter Try.func67, Try.ntmps67
  go_upto_region 2 with fail
  rw [← HW.out]
  go_wp2_with fail
  refine (link_any (w.heap.size + 1) 0 z W HC.out (by omega)).mono ?_
  rintro e w1 ⟨v1, l, rfl, ho, hf, hq, hc, hg⟩
  have HD := Lib.hid (DoK.start HW.out ho hf hq hc hg)
  obtain ⟨a1, c1, rfl, _, _⟩ := own_someS0 HD.out.own
  clear ho hc hg
  obtain ⟨y0, y1, y2⟩ := HD.out.res.cells
  have f0 := HD.out.res.free 0
  have f1 := HD.out.res.free 1
  have f2 := HD.out.res.free 2
  go_wp2_with fail
  obtain ⟨p1, o1, b1⟩ := HD.out.out (v' := .slice a1 l.q.length c1) (f' := l.f) (u' := l.u)
  exact bodyPost_ret (results_lk0 rfl _ _ w.heap.size rfl p1) rfl ⟨_, l, rfl, o1, hf, hq, b1⟩
set_option maxRecDepth 100000 in
set_option maxHeartbeats 1000000 in
theorem drawTakeL_any (v : Value) (z : List Int) (w : World) (hrow : Row w v z.length (z.map (Value.int .u8))) (hz : ∀ x ∈ z, 0 ≤ x ∧ x < 256) :
    Calls Try.prog 22 #[v] w fun e w' => ∃ (v' : Value) (l : Lk), e = .returned (.agg #[v', .string l.f, .int .i64 l.u]) ∧ w'.ownsRow w.heap.size 9 1 v' l.q.length (l.q.map Value.string) ∧ l.f.size ≤ 50 ∧ l.q.length ≤ 30 ∧ Below w.heap.size w w' := by
  obtain ⟨W, hW⟩ : ∃ W, W = w.alloc (.cells #[.slice none 0 0, .string ⟨#[]⟩, .int .i64 0] 26) := ⟨_, rfl⟩
  have hb : Below w.heap.size w W := by rw [hW]; exact (Below.refl _ _).alloc (Nat.le_refl _) _
  have HA : Hid (Lq W w.heap.size (.slice none 0 0) ⟨#[]⟩ 0) := Lib.hid (by rw [hW]; exact Lq.new w _ _ _)
  have HS : Hid (W.heap.size = w.heap.size + 1) := Lib.hid (by rw [hW]; simp)
  have HD := Lib.hid (drawLk_any v z W (hrow.below hb (Nat.le_refl _)) hz)
  have HB := Lib.hid hb
  have HW := Lib.hid hW
  obtain ⟨a0, cap0, rfl, _, _, _⟩ := row_open hrow
  clear hW hrow hz hb
  go_enter Try.func22, Try.ntmps22
  go_upto_region 1 with fail
  rw [← HW.out]
  go_wp2_with fail
  refine HD.out.mono ?_
  rintro e w1 ⟨v1, l, rfl, ho, hf, hq, hb⟩
  obtain ⟨a1, c1, rfl, _, _⟩ := own_someS0 ho
  have HO := Lib.hid ho
  have HA1 := Lib.hid (HA.out.below hb HA.out.lt)
  have HB1 := Lib.hid (HB.out.trans (hb.mono HB.out.size))
  clear ho hb
  obtain ⟨y0, y1, y2⟩ := HA1.out.cells
  have f0 := HA1.out.free 0
  have f1 := HA1.out.free 1
  have f2 := HA1.out.free 2
  go_wp2_with fail
  obtain ⟨p1, q1⟩ := HA1.out.store (v' := .slice a1 l.q.length c1) (f' := l.f) (u' := l.u)
  refine bodyPost_ret (results_lk0 rfl _ _ w.heap.size rfl p1) rfl ⟨_, l, rfl, own_base (HO.out.kept q1 ?_) (by have := HS.out; omega), hf, hq, HB1.out.grown q1 HB1.out.size (fun k hk => by have e2 : w.heap.size = k := Option.some.inj hk; omega)⟩
  cases hv : (Value.slice a1 l.q.length c1).ownBlock with
  | none => exact .inl rfl
  | some k => exact .inr (some_ne7 (by have := (HO.out.lt k hv).1; have := HS.out; omega))
set_option maxRecDepth 100000 in
set_option maxHeartbeats 1000000 in
theorem drawDrain_any (v : Value) (z : List Int) (w : World) (hrow : Row w v z.length (z.map (Value.int .u8))) (hz : ∀ x ∈ z, 0 ≤ x ∧ x < 256) :
    Calls Try.prog 34 #[v] w fun e w' => ∃ (v' : Value) (l : Lk), e = .returned (.agg #[v', .string l.f, .int .i64 l.u]) ∧ w'.ownsRow w.heap.size 9 1 v' l.q.length (l.q.map Value.string) ∧ l.f.size ≤ 50 ∧ l.q.length ≤ 30 ∧ Below w.heap.size w w' := by
  obtain ⟨W, hW⟩ : ∃ W, W = w.alloc (.cells #[.slice none 0 0, .string ⟨#[]⟩, .int .i64 0] 26) := ⟨_, rfl⟩
  have hb : Below w.heap.size w W := by rw [hW]; exact (Below.refl _ _).alloc (Nat.le_refl _) _
  have HA : Hid (Lq W w.heap.size (.slice none 0 0) ⟨#[]⟩ 0) := Lib.hid (by rw [hW]; exact Lq.new w _ _ _)
  have HS : Hid (W.heap.size = w.heap.size + 1) := Lib.hid (by rw [hW]; simp)
  have HD := Lib.hid (drawLk_any v z W (hrow.below hb (Nat.le_refl _)) hz)
  have HB := Lib.hid hb
  have HW := Lib.hid hW
  obtain ⟨a0, cap0, rfl, _, _, _⟩ := row_open hrow
  clear hW hrow hz hb
  go_enter Try.func34, Try.ntmps34
  go_upto_region 1 with fail
  rw [← HW.out]
  go_wp2_with fail
  refine HD.out.mono ?_
  rintro e w1 ⟨v1, l, rfl, ho, hf, hq, hb⟩
  obtain ⟨a1, c1, rfl, _, _⟩ := own_someS0 ho
  have HO := Lib.hid ho
  have HA1 := Lib.hid (HA.out.below hb HA.out.lt)
  have HB1 := Lib.hid (HB.out.trans (hb.mono HB.out.size))
  clear ho hb
  obtain ⟨y0, y1, y2⟩ := HA1.out.cells
  have f0 := HA1.out.free 0
  have f1 := HA1.out.free 1
  have f2 := HA1.out.free 2
  go_wp2_with fail
  obtain ⟨p1, q1⟩ := HA1.out.store (v' := .slice a1 l.q.length c1) (f' := l.f) (u' := l.u)
  refine bodyPost_ret (results_lk0 rfl _ _ w.heap.size rfl p1) rfl ⟨_, l, rfl, own_base (HO.out.kept q1 ?_) (by have := HS.out; omega), hf, hq, HB1.out.grown q1 HB1.out.size (fun k hk => by have e2 : w.heap.size = k := Option.some.inj hk; omega)⟩
  cases hv : (Value.slice a1 l.q.length c1).ownBlock with
  | none => exact .inl rfl
  | some k => exact .inr (some_ne7 (by have := (HO.out.lt k hv).1; have := HS.out; omega))
set_option maxRecDepth 100000 in
set_option maxHeartbeats 1000000 in
theorem drawCount_any (v : Value) (z : List Int) (w : World) (hrow : Row w v z.length (z.map (Value.int .u8))) (hz : ∀ x ∈ z, 0 ≤ x ∧ x < 256) :
    Calls Try.prog 38 #[v] w fun e w' => ∃ (v' : Value) (l : Lk), e = .returned (.agg #[v', .string l.f, .int .i64 l.u]) ∧ w'.ownsRow w.heap.size 9 1 v' l.q.length (l.q.map Value.string) ∧ l.f.size ≤ 50 ∧ l.q.length ≤ 30 ∧ Below w.heap.size w w' := by
  obtain ⟨W, hW⟩ : ∃ W, W = w.alloc (.cells #[.slice none 0 0, .string ⟨#[]⟩, .int .i64 0] 26) := ⟨_, rfl⟩
  have hb : Below w.heap.size w W := by rw [hW]; exact (Below.refl _ _).alloc (Nat.le_refl _) _
  have HA : Hid (Lq W w.heap.size (.slice none 0 0) ⟨#[]⟩ 0) := Lib.hid (by rw [hW]; exact Lq.new w _ _ _)
  have HS : Hid (W.heap.size = w.heap.size + 1) := Lib.hid (by rw [hW]; simp)
  have HD := Lib.hid (drawLk_any v z W (hrow.below hb (Nat.le_refl _)) hz)
  have HB := Lib.hid hb
  have HW := Lib.hid hW
  obtain ⟨a0, cap0, rfl, _, _, _⟩ := row_open hrow
  clear hW hrow hz hb
  go_enter Try.func38, Try.ntmps38
  go_upto_region 1 with fail
  rw [← HW.out]
  go_wp2_with fail
  refine HD.out.mono ?_
  rintro e w1 ⟨v1, l, rfl, ho, hf, hq, hb⟩
  obtain ⟨a1, c1, rfl, _, _⟩ := own_someS0 ho
  have HO := Lib.hid ho
  have HA1 := Lib.hid (HA.out.below hb HA.out.lt)
  have HB1 := Lib.hid (HB.out.trans (hb.mono HB.out.size))
  clear ho hb
  obtain ⟨y0, y1, y2⟩ := HA1.out.cells
  have f0 := HA1.out.free 0
  have f1 := HA1.out.free 1
  have f2 := HA1.out.free 2
  go_wp2_with fail
  obtain ⟨p1, q1⟩ := HA1.out.store (v' := .slice a1 l.q.length c1) (f' := l.f) (u' := l.u)
  refine bodyPost_ret (results_lk0 rfl _ _ w.heap.size rfl p1) rfl ⟨_, l, rfl, own_base (HO.out.kept q1 ?_) (by have := HS.out; omega), hf, hq, HB1.out.grown q1 HB1.out.size (fun k hk => by have e2 : w.heap.size = k := Option.some.inj hk; omega)⟩
  cases hv : (Value.slice a1 l.q.length c1).ownBlock with
  | none => exact .inl rfl
  | some k => exact .inr (some_ne7 (by have := (HO.out.lt k hv).1; have := HS.out; omega))
set_option maxRecDepth 100000 in
set_option maxHeartbeats 1000000 in
theorem drawNewL_any (v : Value) (z : List Int) (w : World) (hrow : Row w v z.length (z.map (Value.int .u8))) (hz : ∀ x ∈ z, 0 ≤ x ∧ x < 256) :
    Calls Try.prog 28 #[v] w fun e w' => ∃ f : ByteArray, e = .returned (.string f) ∧ f.size ≤ 50 ∧ Below w.heap.size w w' := by
  obtain ⟨W, hW⟩ : ∃ W, W = w.alloc (.cells #[v, .int .i64 0, .int .u64 0] 70) := ⟨_, rfl⟩
  have HC : Hid (Cu W w.heap.size z 0) := Lib.hid (by rw [hW]; exact cu_new w v z hrow hz)
  have HB : Hid (Below w.heap.size w W) := Lib.hid (by rw [hW]; exact (Below.refl _ _).alloc (Nat.le_refl _) _)
  have HW := Lib.hid hW
  obtain ⟨a0, cap0, rfl, _, _, _⟩ := row_open hrow
  clear hW hrow hz
  go_enter Try.func28, Try.ntmps28
  go_upto_region 2 with fail
  rw [← HW.out]
  go_wp2_with fail
  refine (link_any w.heap.size 0 z W HC.out (by omega)).mono ?_
  rintro e w1 ⟨v1, l, rfl, ho, hf, hq, hc, hg⟩
  have HB1 := Lib.hid (HB.out.trans (gbelow7 hg HB.out.size (Nat.le_refl _)))
  obtain ⟨a1, c1, rfl, _, _⟩ := own_someS0 ho
  clear ho hc hg
  have hfd : ∀ W : World, (Instr.field 26 (.agg #[.slice a1 l.q.length c1, .string l.f, .int .i64 l.u]) 1).run Try.prog W = .ok (.string l.f) W := fun _ => by kernel_rfl
  go_wp2_with fail
  go_ret
  exact ⟨l.f, rfl, hf, HB1.out⟩
/-- The drawn link in a box X, while more is drawn. -/
structure DoX (w w' : World) (B : Nat) (z : List Int) (m X : Nat) (v : Value) (l : Lk) : Prop where
  d : DoK w w' B z m v l
  box : Lq w' X v l.f l.u
  hX : w.heap.size + 2 ≤ X
  nv : ∀ k, v.ownBlock = some k → k ≠ X
theorem DoK.call {w w1 w2 : World} {B m m' : Nat} {z : List Int} {v : Value} {l : Lk} (h : DoK w w1 B z m v l) (hc : Cu w2 B z m') (hg : w1.grownBy w2 (some B)) : DoK w w2 B z m' v l := by
  have hB := h.hB
  refine ⟨h.own.kept hg ?_, h.res.grown hg (some_ne7 (by omega)), hc, h.bel.trans (gbelow7 hg h.bel.size (by omega)), h.fs, h.qs, hB⟩
  cases hv : v.ownBlock with
  | none => exact .inl rfl
  | some k => exact .inr (some_ne7 (by have := (h.own.lt k hv).1; omega))
theorem DoX.call {w w1 w2 : World} {B m m' X : Nat} {z : List Int} {v : Value} {l : Lk} (h : DoX w w1 B z m X v l) (hc : Cu w2 B z m') (hg : w1.grownBy w2 (some B)) : DoX w w2 B z m' X v l :=
  ⟨h.d.call hc hg, h.box.grown hg (some_ne7 (by have := h.hX; have := h.d.hB; omega)), h.hX, h.nv⟩
theorem DoX.drew {w w1 : World} {B m X : Nat} {z : List Int} {v : Value} {l : Lk} (h : DoX w w1 B z m X v l) : DoX w w1.drew B z m X v l := h.call (h.d.cu.grown (gdrew7 _ _)) (gdrew7 _ _)
theorem DoX.alloc {w w1 : World} {B m X : Nat} {z : List Int} {v : Value} {l : Lk} (h : DoX w w1 B z m X v l) (o : Obj) : DoX w (w1.alloc o) B z m X v l := h.call (h.d.cu.grown (World.grownBy_alloc _ _ none)) (World.grownBy_alloc _ _ _)
theorem DoX.new {w w1 : World} {B m : Nat} {z : List Int} {v : Value} {l : Lk} (h : DoK w w1 B z m v l) : DoX w (w1.alloc (.cells #[v, .string l.f, .int .i64 l.u] 26)) B z m w1.heap.size v l := by
  have hs := h.bel.size
  have hl := h.cu.lt
  have hB := h.hB
  exact ⟨h.call (h.cu.grown (World.grownBy_alloc _ _ none)) (World.grownBy_alloc _ _ _), Lq.new _ _ _ _, by omega, fun k hk e => by have := (h.own.lt k hk).2; omega⟩
theorem DoX.stored {w w1 : World} {B m X : Nat} {z : List Int} {v v' : Value} {l : Lk} {f' : ByteArray} {u' : Int} (h : DoX w w1 B z m X v l) :
    Lq (((w1.setCell ⟨w.heap.size, 0, none⟩ v').setCell ⟨w.heap.size, 1, none⟩ (.string f')).setCell ⟨w.heap.size, 2, none⟩ (.int .i64 u')) X v l.f l.u :=
  h.box.grown (h.d.res.store (v' := v') (f' := f') (u' := u')).2 (some_ne7 (by have := h.hX; omega))
set_option maxRecDepth 100000 in
set_option maxHeartbeats 2000000 in
theorem drawSend_any (v : Value) (z : List Int) (w : World) (hrow : Row w v z.length (z.map (Value.int .u8))) (hz : ∀ x ∈ z, 0 ≤ x ∧ x < 256) :
    Calls Try.prog 15 #[v] w fun e w' => ∃ (v' : Value) (l : Lk) (s : ByteArray), e = .returned (.tuple #[.agg #[v', .string l.f, .int .i64 l.u], .string s]) ∧ w'.ownsRow w.heap.size 9 1 v' l.q.length (l.q.map Value.string) ∧ l.f.size ≤ 50 ∧ l.q.length ≤ 30 ∧ s.size ≤ 61 ∧ Below w.heap.size w w' := by
  obtain ⟨W, hW⟩ : ∃ W, W = (w.alloc (.cells #[.slice none 0 0, .string ⟨#[]⟩, .int .i64 0] 26)).alloc (.cells #[v, .int .i64 0, .int .u64 0] 70) := ⟨_, rfl⟩
  have HC : Hid (Cu W (w.heap.size + 1) z 0) := Lib.hid (by
    rw [hW]
    have := cu_new (w.alloc (.cells #[.slice none 0 0, .string ⟨#[]⟩, .int .i64 0] 26)) v z (hrow.below ((Below.refl _ _).alloc (Nat.le_refl _) _) (Nat.le_refl _)) hz
    rw [World.size_alloc] at this
    exact this)
  have HW := Lib.hid hW
  obtain ⟨a0, cap0, rfl, _, _, _⟩ := row_open hrow
  clear hW hrow hz
  go_enter Try.func15, Try.ntmps15
  go_upto_region 2 with fail
  rw [← HW.out]
  go_wp2_with fail
  refine (link_any (w.heap.size + 1) 0 z W HC.out (by omega)).mono ?_
  rintro e w1 ⟨v1, l, rfl, ho, hf, hq, hc, hg⟩
  have HD := Lib.hid (DoK.start HW.out ho hf hq hc hg)
  obtain ⟨a1, c1, rfl, _, _⟩ := own_someS0 HD.out.own
  clear ho hc hg
  go_upto_region 3 with fail
  obtain ⟨W2, hW2⟩ : ∃ W2, W2 = w1.alloc (.cells #[.slice a1 l.q.length c1, .string l.f, .int .i64 l.u] 26) := ⟨_, rfl⟩
  have HX : Hid (DoX w W2 (w.heap.size + 1) z (0 + 300) w1.heap.size (.slice a1 l.q.length c1) l) := Lib.hid (by rw [hW2]; exact DoX.new HD.out)
  rw [← hW2]
  obtain ⟨X, hX⟩ : ∃ X, X = w1.heap.size := ⟨_, rfl⟩
  rw [← hX] at HX ⊢
  clear hW2 hX HD
  have HXd := Lib.hid HX.out.drew
  obtain ⟨x0, x1, x2⟩ := HXd.out.box.cells
  go_region_law (first
    | (go_simp; go_at_call 58; refine (shortText_any (w.heap.size + 1) (0 + 300) z _ HXd.out.d.cu (by omega)).mono ?_; rintro e w3 ⟨y, hy, rfl, hc, hg⟩; have HX2 := Lib.hid (HXd.out.call hc hg); obtain ⟨z0, z1, z2⟩ := HX2.out.box.cells; obtain ⟨y0, y1, y2⟩ := HX2.out.d.res.cells; have f0 := HX2.out.d.res.free 0; have f1 := HX2.out.d.res.free 1; have f2 := HX2.out.d.res.free 2; obtain ⟨t0, t1, t2⟩ := (HX2.out.stored (v' := .slice a1 l.q.length c1) (f' := l.f) (u' := l.u)).cells; clear hc hg; dsimp only))
  all_goals go_wp2_with fail
  all_goals
    obtain ⟨p1, o1, b1⟩ := HX2.out.d.out (v' := .slice a1 l.q.length c1) (f' := l.f) (u' := l.u)
    exact bodyPost_ret (results_lk1 rfl _ _ w.heap.size rfl rfl p1) rfl ⟨_, l, y, rfl, o1, hf, hq, hy, b1⟩
end Go.Proofs.Ytbhhmaialilabaa
