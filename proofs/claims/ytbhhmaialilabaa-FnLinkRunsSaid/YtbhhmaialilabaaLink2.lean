/-
  Links: blocks of links, results; the specification's new links and next letters.
-/
import Derived.Test.YtbhhmaialilabaaLink
namespace Go.Proofs.Ytbhhmaialilabaa
open Go.RowKit Go.Lib Go.Joins
set_option linter.unusedVariables false

/-- A link as a value. -/
def lkW (v : Value) (l : Lk) : Value := .agg #[v, .string l.f, .int .i64 l.u]
/-- The block of a link. -/
def Lq (w : World) (R : Nat) (v : Value) (f : ByteArray) (u : Int) : Prop := w.heap[R]? = some (.cells #[v, .string f, .int .i64 u] 26 (0, 0))
theorem Lq.cells {w : World} {R : Nat} {v : Value} {f : ByteArray} {u : Int} (h : Lq w R v f u) : w.cell? ⟨R, 0, none⟩ = some v ∧ w.cell? ⟨R, 1, none⟩ = some (.string f) ∧ w.cell? ⟨R, 2, none⟩ = some (.int .i64 u) := by
  unfold Lq at h
  refine ⟨?_, ?_, ?_⟩ <;> simp [World.cell?, h]
theorem Lq.free {w : World} {R : Nat} {v : Value} {f : ByteArray} {u : Int} (h : Lq w R v f u) (i : Nat) : w.frozen? ⟨R, i, none⟩ = false := by
  unfold Lq at h
  simp [World.frozen?, h]
theorem Lq.lt {w : World} {R : Nat} {v : Value} {f : ByteArray} {u : Int} (h : Lq w R v f u) : R < w.heap.size := (Array.getElem?_eq_some_iff.1 h).1
theorem Lq.below {w w' : World} {R B : Nat} {v : Value} {f : ByteArray} {u : Int} (h : Lq w R v f u) (hb : Below B w w') (hB : R < B) : Lq w' R v f u := (hb.block R hB).trans h
theorem Lq.new (w : World) (v : Value) (f : ByteArray) (u : Int) : Lq (w.alloc (.cells #[v, .string f, .int .i64 u] 26)) w.heap.size v f u := heap_alloc_new w _
theorem Lq.grown {w w' : World} {R : Nat} {v : Value} {f : ByteArray} {u : Int} {o : Option Nat} (h : Lq w R v f u) (hg : w.grownBy w' o) (hne : some R ≠ o) : Lq w' R v f u :=
  (hg.block R h.lt (fun e => hne e)).trans h
theorem Lb.lq {w : World} {R : Nat} {v : Value} {l : Lk} (h : Lb w R v l) : Lq w R v l.f l.u := h.box
theorem Lq.set {w : World} {g i : Nat} {cs : Array Value} (h : w.heap[g]? = some (.cells cs 26 (0, 0))) (v : Value) : (w.setCell ⟨g, i, none⟩ v).heap[g]? = some (.cells (cs.setIfInBounds i v) 26 (0, 0)) ∧ w.grownBy (w.setCell ⟨g, i, none⟩ v) (some g) := by
  have e1 := setCell_eq_setRow w g i cs 26 (0, 0) v h
  refine ⟨block_setCell h v, ?_⟩
  rw [e1]
  exact ⟨rfl, rfl, rfl, by simp, fun q _ hne => setRow_other w g q _ (fun e => hne (by rw [e]))⟩
theorem Lq.store {w : World} {R : Nat} {v v' : Value} {f f' : ByteArray} {u u' : Int} (h : Lq w R v f u) :
    Lq (((w.setCell ⟨R, 0, none⟩ v').setCell ⟨R, 1, none⟩ (.string f')).setCell ⟨R, 2, none⟩ (.int .i64 u')) R v' f' u' ∧
    w.grownBy (((w.setCell ⟨R, 0, none⟩ v').setCell ⟨R, 1, none⟩ (.string f')).setCell ⟨R, 2, none⟩ (.int .i64 u')) (some R) := by
  obtain ⟨a1, b1⟩ := Lq.set (i := 0) h v'
  obtain ⟨a2, b2⟩ := Lq.set (i := 1) a1 (.string f')
  obtain ⟨a3, b3⟩ := Lq.set (i := 2) a2 (.int .i64 u')
  refine ⟨?_, grown_trans (grown_trans b1 b2) b3⟩
  unfold Lq
  rw [a3]
  rfl
theorem results_lk0 {fn : Func} {p : Tmp} (h : fn.results = #[.cell p 26]) (tmps : Array Value) (w : World) (g : Nat) {v : Value} {f : ByteArray} {n : Int} (hp : tmps.getD p undef = .pointer (some ⟨g, 0, none⟩)) (hg : Lq w g v f n) :
    (results fn tmps).run Try.prog w = .ok (.agg #[v, .string f, .int .i64 n]) w := by
  have hp' : tmps[p]?.getD undef = .pointer (some ⟨g, 0, none⟩) := by simpa using hp
  unfold results
  rw [h]
  simp [asAddr, hp', run_loadVar_row w g 26 26 _ _ _ hg Try.underlying26 (by rfl) (by kernel_rfl)]
theorem results_lk {fn : Func} {p u : Tmp} (h : fn.results = #[.cell p 26, .tmp u]) (tmps : Array Value) (w : World) (g : Nat) {v : Value} {f : ByteArray} {n : Int} (hp : tmps.getD p undef = .pointer (some ⟨g, 0, none⟩)) {b : Bool} (hu : tmps.getD u undef = .bool b) (hg : Lq w g v f n) :
    (results fn tmps).run Try.prog w = .ok (.tuple #[.agg #[v, .string f, .int .i64 n], .bool b]) w := by
  rw [results_cell_tmp h, hu]
  have hp' : tmps[p]?.getD undef = .pointer (some ⟨g, 0, none⟩) := by simpa using hp
  simp [asAddr, hp', Result.andThen, run_loadVar_row w g 26 26 _ _ _ hg Try.underlying26 (by rfl) (by kernel_rfl)]
theorem own_nilS (w : World) (B : Nat) : w.ownsRow B 9 1 (.slice none 0 0) lk0.q.length (lk0.q.map Value.string) := ⟨by simp [lk0], .inl ⟨rfl, rfl⟩⟩
theorem ret_lk {v : Value} {f g : ByteArray} {u n : Int} {a b : Bool} (h1 : f = g) (h2 : u = n) (h : a = b) : Ending.returned (.tuple #[.agg #[v, .string f, .int .i64 u], .bool a]) = .returned (.tuple #[.agg #[v, .string g, .int .i64 n], .bool b]) := by rw [h1, h2, h]
theorem l1Least_any (x y : Int) (w : World) :
    Calls Try.prog 63 #[.int .i64 x, .int .i64 y] w fun e w' => e = .returned (.int .i64 (if x < y then x else y)) ∧ w = w' := by
  by_cases h : x < y
  · rw [if_pos h]
    go_enter Try.func63, Try.ntmps63
    go_wp2
    go_ret
    exact ⟨rfl, rfl⟩
  · rw [if_neg h]
    go_enter Try.func63, Try.ntmps63
    go_wp2
    go_ret
    exact ⟨rfl, rfl⟩
set_option maxRecDepth 100000 in
set_option maxHeartbeats 1000000 in
theorem l7With_any (v : Value) (f : ByteArray) (u : Int) (a : Option Addr) (n c : Nat) (used : Int) (w : World) :
    Calls Try.prog 64 #[.agg #[v, .string f, .int .i64 u], .slice a n c, .int .i64 used] w fun e w' => e = .returned (.agg #[.slice a n c, .string f, .int .i64 used]) ∧ Below w.heap.size w w' := by
  obtain ⟨W, hW⟩ : ∃ W, W = (w.alloc (.cells #[v, .string f, .int .i64 u] 26)).alloc (.cells #[.slice none 0 0, .string ⟨#[]⟩, .int .i64 0] 26) := ⟨_, rfl⟩
  have hB : Below w.heap.size w W := by rw [hW]; exact ((Below.refl w.heap.size w).alloc (Nat.le_refl _) _).alloc (by simp) _
  have hT : Lq W w.heap.size v f u := by rw [hW]; exact (Lq.new w v f u).below ((Below.refl _ _).alloc (Nat.le_refl _) _) (by simp)
  have hA : Lq W (w.heap.size + 1) (.slice none 0 0) ⟨#[]⟩ 0 := by
    rw [hW]
    have := Lq.new (w.alloc (.cells #[v, .string f, .int .i64 u] 26)) (.slice none 0 0) ⟨#[]⟩ 0
    rw [World.size_alloc] at this
    exact this
  have HW := Lib.hid hW
  have HB := Lib.hid hB
  have HA := Lib.hid hA
  obtain ⟨x0, x1, x2⟩ := hT.cells
  obtain ⟨y0, y1, y2⟩ := hA.cells
  have f0 := hA.free 0
  have f1 := hA.free 1
  have f2 := hA.free 2
  obtain ⟨R, hR⟩ : ∃ R, R = w.heap.size := ⟨_, rfl⟩
  obtain ⟨R4, hR4⟩ : ∃ R4, R4 = w.heap.size + 1 := ⟨_, rfl⟩
  rw [← hR] at x0 x1 x2
  rw [← hR4] at y0 y1 y2 f0 f1 f2 HA
  have HR := Lib.hid hR
  have HR4 := Lib.hid hR4
  clear hW hB hT hA hR hR4
  go_enter Try.func64, Try.ntmps64
  go_upto_region 1 with fail
  rw [← HW.out, ← HR4.out, ← HR.out]
  go_wp2_with fail
  obtain ⟨p1, q1⟩ := HA.out.store (v' := .slice a n c) (f' := f) (u' := used)
  refine bodyPost_ret (results_lk0 rfl _ _ R4 rfl p1) rfl ⟨rfl, HB.out.grown q1 HB.out.size (fun k hk => by have e2 : R4 = k := Option.some.inj hk; have := HR4.out; omega)⟩
set_option maxRecDepth 100000 in
set_option maxHeartbeats 1000000 in
theorem specIsLink_any (v : Value) (l : Lk) (w : World) (hrow : Row w v l.q.length (l.q.map Value.string)) (hf : l.f.size ≤ 1048576) :
    Calls Try.prog 44 #[.agg #[v, .string l.f, .int .i64 l.u]] w fun e w' => e = .returned (.bool (lkOk l)) ∧ Below w.heap.size w w' := by
  obtain ⟨W, hW⟩ : ∃ W, W = w.alloc (.cells #[v, .string l.f, .int .i64 l.u] 26) := ⟨_, rfl⟩
  have HT : Hid (Lb W w.heap.size v l) := Lib.hid (by rw [hW]; exact Lb.new hrow)
  have HB : Hid (Below w.heap.size w W) := Lib.hid (by rw [hW]; exact (Below.refl w.heap.size w).alloc (Nat.le_refl _) _)
  have HW := Lib.hid hW
  have HG := Lib.hid (l7Good_any v l W HT.out.row hf)
  obtain ⟨x0, x1, x2⟩ := HT.out.cells
  obtain ⟨R, hR⟩ : ∃ R, R = w.heap.size := ⟨_, rfl⟩
  rw [← hR] at x0 x1 x2
  have HR := Lib.hid hR
  clear hW hR hrow hf HT
  generalize lkOk l = ok at HG ⊢
  go_enter Try.func44, Try.ntmps44
  go_upto_region 1 with fail
  rw [← HW.out, ← HR.out]
  go_wp2_with fail
  refine HG.out.mono ?_
  rintro e W2 ⟨rfl, l2⟩
  have HB2 := Lib.hid (HB.out.trans (l2.mono HB.out.size))
  clear l2
  go_wp2_with fail
  go_ret
  exact ⟨rfl, HB2.out⟩
set_option maxRecDepth 100000 in
set_option maxHeartbeats 1000000 in
theorem specNextFate_any (v : Value) (l : Lk) (w : World) (hrow : Row w v l.q.length (l.q.map Value.string)) (hf : l.f.size ≤ 1048576) :
    Calls Try.prog 20 #[.agg #[v, .string l.f, .int .i64 l.u]] w fun e w' => e = .returned (.tuple #[.int .u8 ((nextFate l).toNat : Int), .bool (lkOk l)]) ∧ Below w.heap.size w w' := by
  obtain ⟨W, hW⟩ : ∃ W, W = w.alloc (.cells #[v, .string l.f, .int .i64 l.u] 26) := ⟨_, rfl⟩
  have HT : Hid (Lb W w.heap.size v l) := Lib.hid (by rw [hW]; exact Lb.new hrow)
  have HB : Hid (Below w.heap.size w W) := Lib.hid (by rw [hW]; exact (Below.refl w.heap.size w).alloc (Nat.le_refl _) _)
  have HW := Lib.hid hW
  have HG := Lib.hid (l7Good_any v l W HT.out.row hf)
  have HX := Lib.hid (fun (h : lkOk l = true) (W1 : World) hr => l7Next_any v l W1 hr h)
  have HV1 : Hid (lkOk l = true → nextFate l = fateB l) := Lib.hid (fun h => if_pos h)
  have HV2 : Hid (lkOk l = false → nextFate l = 0) := Lib.hid (fun h => by unfold nextFate; rw [h]; rfl)
  obtain ⟨x0, x1, x2⟩ := HT.out.cells
  obtain ⟨R, hR⟩ : ∃ R, R = w.heap.size := ⟨_, rfl⟩
  rw [← hR] at x0 x1 x2 HT
  have HR := Lib.hid hR
  clear hW hR hrow hf
  generalize nextFate l = nf at HV1 HV2 ⊢
  generalize fateB l = fb at HX HV1
  generalize lkOk l = ok at HG HX HV1 HV2 ⊢
  cases ok with
  | false =>
    have HE := Lib.hid (HV2.out rfl)
    clear HV1 HV2 HX
    go_enter Try.func20, Try.ntmps20
    go_upto_region 1 with fail
    rw [← HW.out, ← HR.out]
    go_wp2_with fail
    refine HG.out.mono ?_
    rintro e W2 ⟨rfl, l2⟩
    have HB2 := Lib.hid (HB.out.trans (l2.mono HB.out.size))
    clear l2
    go_wp2_with fail
    go_ret2
    exact ⟨by rw [HE.out]; rfl, HB2.out⟩
  | true =>
    have HE := Lib.hid (HV1.out rfl)
    have HX2 := Lib.hid (HX.out rfl)
    clear HV1 HV2 HX
    go_enter Try.func20, Try.ntmps20
    go_upto_region 1 with fail
    rw [← HW.out, ← HR.out]
    go_wp2_with fail
    refine HG.out.mono ?_
    rintro e W2 ⟨rfl, l2⟩
    have HB2 := Lib.hid (HB.out.trans (l2.mono HB.out.size))
    have HT2 := Lib.hid (HT.out.below l2)
    clear l2 x0 x1 x2
    obtain ⟨x0, x1, x2⟩ := HT2.out.cells
    go_wp2_with fail
    refine (HX2.out _ HT2.out.row).mono ?_
    rintro e W3 ⟨rfl, l3⟩
    have HB3 := Lib.hid (HB2.out.trans (l3.mono HB2.out.size))
    clear l3
    go_wp2_with fail
    go_ret2
    exact ⟨by rw [HE.out]; rfl, HB3.out⟩
set_option maxRecDepth 100000 in
set_option maxHeartbeats 1000000 in
theorem specNewLink_any (f : ByteArray) (w : World) (hf : f.size ≤ 1048576) :
    Calls Try.prog 30 #[.string f] w fun e w' => ∃ v', e = .returned (.tuple #[.agg #[v', .string (newL f).f, .int .i64 (newL f).u], .bool (newOk f)]) ∧ w'.ownsRow w.heap.size 9 1 v' (newL f).q.length ((newL f).q.map Value.string) ∧ Below w.heap.size w w' := by
  obtain ⟨W, hW⟩ : ∃ W, W = (w.alloc (.cells #[.slice none 0 0, .string ⟨#[]⟩, .int .i64 0] 26)).alloc (.cells #[.slice none 0 0, .string f, .int .i64 0] 26) := ⟨_, rfl⟩
  have hB : Below w.heap.size w W := by rw [hW]; exact ((Below.refl w.heap.size w).alloc (Nat.le_refl _) _).alloc (by simp) _
  have hA : Lq W w.heap.size (.slice none 0 0) ⟨#[]⟩ 0 := by rw [hW]; exact (Lq.new w _ _ _).below ((Below.refl _ _).alloc (Nat.le_refl _) _) (by simp)
  have hT : Lq W (w.heap.size + 1) (.slice none 0 0) f 0 := by
    rw [hW]
    have := Lq.new (w.alloc (.cells #[.slice none 0 0, .string ⟨#[]⟩, .int .i64 0] 26)) (.slice none 0 0) f 0
    rw [World.size_alloc] at this
    exact this
  have HW := Lib.hid hW
  have HB := Lib.hid hB
  have HA := Lib.hid hA
  have HT := Lib.hid hT
  have HG := Lib.hid (l7Good_any (.slice none 0 0) ⟨[], f, 0⟩ W ⟨none, 0, rfl, Nat.le_refl _, Nat.zero_le _, fun h => absurd rfl h⟩ hf)
  have HN : Hid (newOk f = false → newL f = lk0) := Lib.hid (fun h => by unfold newL; rw [h]; rfl)
  have HY : Hid (newOk f = true → newL f = ⟨[], f, 0⟩) := Lib.hid (fun h => if_pos h)
  have e0 : lkOk ⟨[], f, 0⟩ = newOk f := rfl
  rw [e0] at HG
  obtain ⟨R, hR⟩ : ∃ R, R = w.heap.size := ⟨_, rfl⟩
  obtain ⟨R4, hR4⟩ : ∃ R4, R4 = w.heap.size + 1 := ⟨_, rfl⟩
  rw [← hR] at HA
  rw [← hR4] at HT
  have HR := Lib.hid hR
  have HR4 := Lib.hid hR4
  clear hW hB hT hA hR hR4 e0 hf
  generalize newL f = L at HN HY ⊢
  generalize newOk f = ok at HG HN HY ⊢
  obtain ⟨x0, x1, x2⟩ := HT.out.cells
  cases ok with
  | false =>
    have HE := Lib.hid (HN.out rfl)
    clear HN HY
    go_enter Try.func30, Try.ntmps30
    go_upto_region 2 with fail
    rw [← HW.out, ← HR4.out, ← HR.out]
    go_wp2_with fail
    refine HG.out.mono ?_
    rintro e W2 ⟨rfl, l2⟩
    have HB2 := Lib.hid (HB.out.trans (l2.mono HB.out.size))
    have HA2 := Lib.hid (HA.out.below l2 HA.out.lt)
    clear l2
    obtain ⟨y0, y1, y2⟩ := HA2.out.cells
    have f0 := HA2.out.free 0
    have f1 := HA2.out.free 1
    have f2 := HA2.out.free 2
    go_wp2_with fail
    obtain ⟨p1, q1⟩ := HA2.out.store (v' := .slice none 0 0) (f' := ⟨#[]⟩) (u' := 0)
    refine bodyPost_ret (results_lk rfl _ _ R rfl rfl p1) rfl ⟨_, by rw [HE.out]; rfl, by rw [HE.out]; exact own_nilS _ _, HB2.out.grown q1 HB2.out.size (fun k hk => by have e2 : R = k := Option.some.inj hk; have := HR.out; omega)⟩
  | true =>
    have HE := Lib.hid (HY.out rfl)
    clear HN HY
    go_enter Try.func30, Try.ntmps30
    go_upto_region 2 with fail
    rw [← HW.out, ← HR4.out, ← HR.out]
    go_wp2_with fail
    refine HG.out.mono ?_
    rintro e W2 ⟨rfl, l2⟩
    have HB2 := Lib.hid (HB.out.trans (l2.mono HB.out.size))
    have HA2 := Lib.hid (HA.out.below l2 HA.out.lt)
    have HT2 := Lib.hid (HT.out.below l2 HT.out.lt)
    clear l2 x0 x1 x2
    obtain ⟨x0, x1, x2⟩ := HT2.out.cells
    obtain ⟨y0, y1, y2⟩ := HA2.out.cells
    have f0 := HA2.out.free 0
    have f1 := HA2.out.free 1
    have f2 := HA2.out.free 2
    go_wp2_with fail
    obtain ⟨p1, q1⟩ := HA2.out.store (v' := .slice none 0 0) (f' := f) (u' := 0)
    refine bodyPost_ret (results_lk rfl _ _ R rfl rfl p1) rfl ⟨_, by rw [HE.out], by rw [HE.out]; exact own_nilS _ _, HB2.out.grown q1 HB2.out.size (fun k hk => by have e2 : R = k := Option.some.inj hk; have := HR.out; omega)⟩
end Go.Proofs.Ytbhhmaialilabaa
