/-
  Trees: the laws' helpers: sizes, copies, comparisons, marks.
-/
import Derived.Test.YtejdphfcogfcmaaDoorTree4
import Derived.Laws.ResultCell
import Derived.Laws.Rows
namespace Go.Proofs.YtejdphfcogfcmaaDoor
open Go.RowKit Go.Lib Go.Joins
set_option linter.unusedVariables false

/-- A box of one cell. -/
def Bx (w : World) (R : Nat) (v : Value) (t : TypeId) : Prop := w.heap[R]? = some (.cells #[v] t (0, 0))
theorem Bx.cell {w : World} {R : Nat} {v : Value} {t : TypeId} (h : Bx w R v t) : w.cell? ⟨R, 0, none⟩ = some v := by rw [cell_of_block h]; rfl
theorem Bx.free {w : World} {R : Nat} {v : Value} {t : TypeId} (h : Bx w R v t) : w.frozen? ⟨R, 0, none⟩ = false := by
  unfold Bx at h
  simp [World.frozen?, h]
theorem Bx.lt {w : World} {R : Nat} {v : Value} {t : TypeId} (h : Bx w R v t) : R < w.heap.size := (Array.getElem?_eq_some_iff.1 h).1
theorem Bx.below {w w' : World} {R B : Nat} {v : Value} {t : TypeId} (h : Bx w R v t) (hb : Below B w w') (hB : R < B) : Bx w' R v t := (hb.block R hB).trans h
theorem Bx.grown {w w' : World} {R : Nat} {v : Value} {t : TypeId} {row : Option Nat} (h : Bx w R v t) (hg : w.grownBy w' row) (hr : some R ≠ row) : Bx w' R v t := (hg.block R h.lt hr).trans h
theorem Bx.put {w : World} {R : Nat} {v : Value} {t : TypeId} (h : Bx w R v t) (u : Value) : Bx (w.setCell ⟨R, 0, none⟩ u) R u t ∧ w.grownBy (w.setCell ⟨R, 0, none⟩ u) (some R) := by
  have e1 := setCell_eq_setRow w R 0 #[v] t (0, 0) u h
  refine ⟨block_setCell h u, ?_⟩
  rw [e1]
  exact ⟨rfl, rfl, rfl, by simp, fun q _ hne => setRow_other w R q _ (fun e => hne (by rw [e]))⟩
theorem Bx.new (w : World) (v : Value) (t : TypeId) : Bx (w.alloc (.cells #[v] t)) w.heap.size v t := heap_alloc_new w _
theorem results_tr1 {fn : Func} {p : Tmp} (h : fn.results = #[.cell p 28]) (tmps : Array Value) (w : World) (g : Nat) {v : Value} (hp : tmps.getD p undef = .pointer (some ⟨g, 0, none⟩)) (hg : Bx w g v 28) :
    (results fn tmps).run Tryd.prog w = .ok (.agg #[v]) w := by
  have hp' : tmps[p]?.getD undef = .pointer (some ⟨g, 0, none⟩) := by simpa using hp
  unfold results
  rw [h]
  simp [asAddr, hp', run_loadVar_row w g 28 28 _ _ _ hg Tryd.underlying28 (by rfl) (by kernel_rfl)]
theorem szI_yes (a : Option Addr) (n cap : Nat) (left : Int) (w : World) (h0 : (n : Int) ≤ left) (h1 : left ≤ 1048576) :
    Calls Tryd.prog 14 #[.slice a n cap, .int .i64 left] w fun e w' => e = .returned (.int .i64 (left - n)) ∧ w = w' := by
  have hd : ¬ (left - (n : Int) < 0) := by omega
  go_enter Tryd.func14, Tryd.ntmps14
  go_wp2_with fail
  go_ret
  exact ⟨rfl, rfl⟩
theorem szI_no (a : Option Addr) (n cap : Nat) (left : Int) (w : World) (h0 : ¬ (n : Int) ≤ left) (h1 : 0 ≤ left) (h2 : left ≤ 1048576) (hn : n ≤ maxLen) :
    Calls Tryd.prog 14 #[.slice a n cap, .int .i64 left] w fun e w' => e = .returned (.int .i64 (-1)) ∧ w = w' := by
  unfold maxLen at hn
  have hd : left - (n : Int) < 0 := by omega
  go_enter Tryd.func14, Tryd.ntmps14
  go_wp2_with fail
  go_ret
  exact ⟨rfl, rfl⟩
theorem szT_yes (a : Option Addr) (n cap : Nat) (left : Int) (w : World) (h0 : (n : Int) ≤ left) (h1 : left ≤ 1048576) :
    Calls Tryd.prog 5 #[.agg #[.slice a n cap], .int .i64 left] w fun e w' => e = .returned (.int .i64 (left - n)) ∧ Below w.heap.size w w' := by
  have HZ := Lib.hid (fun W => szI_yes a n cap left W h0 h1)
  have hd : ¬ (left - (n : Int) < 0) := by omega
  go_enter Tryd.func5, Tryd.ntmps5
  go_wp2_with fail
  refine (HZ.out _).mono ?_
  rintro e _ ⟨rfl, rfl⟩
  go_wp2_with fail
  go_ret
  exact ⟨rfl, (Below.refl _ _).alloc (Nat.le_refl _) _⟩
theorem szT_no (a : Option Addr) (n cap : Nat) (left : Int) (w : World) (h0 : ¬ (n : Int) ≤ left) (h1 : 0 ≤ left) (h2 : left ≤ 1048576) (hn : n ≤ maxLen) :
    Calls Tryd.prog 5 #[.agg #[.slice a n cap], .int .i64 left] w fun e w' => e = .returned (.int .i64 (-1)) ∧ Below w.heap.size w w' := by
  have HZ := Lib.hid (fun W => szI_no a n cap left W h0 h1 h2 hn)
  go_enter Tryd.func5, Tryd.ntmps5
  go_wp2_with fail
  refine (HZ.out _).mono ?_
  rintro e _ ⟨rfl, rfl⟩
  go_wp2_with fail
  go_ret
  exact ⟨rfl, (Below.refl _ _).alloc (Nat.le_refl _) _⟩
set_option maxHeartbeats 1000000 in
theorem toTree_lit (v : Value) (p : List Int) (w : World) (hrow : Row w v p.length (p.map (Value.int .i64))) (hn : p.length ≤ 1048576) :
    Calls Tryd.prog 7 #[.agg #[v]] w fun e w' => ∃ g : Nat, e = .returned (.agg #[.slice (some ⟨g, 0, none⟩) p.length p.length]) ∧ w'.ownsRow w.heap.size 3 1 (.slice (some ⟨g, 0, none⟩) p.length p.length) p.length (p.map (Value.int .i64)) ∧ Below w.heap.size w w' := by
  obtain ⟨W1, hW1⟩ : ∃ W, W = w.alloc (.cells #[v] 24) := ⟨_, rfl⟩
  have HA1 : Hid (Bx W1 w.heap.size v 24) := Lib.hid (by rw [hW1]; exact Bx.new w v _)
  have hb1 : Below w.heap.size w W1 := by rw [hW1]; exact (Below.refl w.heap.size w).alloc (Nat.le_refl _) _
  have hs1 : W1.heap.size = w.heap.size + 1 := by rw [hW1]; simp
  obtain ⟨W2, hW2⟩ : ∃ W, W = W1.alloc (.cells #[.slice none 0 0] 28) := ⟨_, rfl⟩
  have HR2 : Hid (Bx W2 (w.heap.size + 1) (.slice none 0 0) 28) := Lib.hid (by rw [hW2, ← hs1]; exact Bx.new W1 _ _)
  have hb2 : Below w.heap.size w W2 := by rw [hW2]; exact hb1.alloc hb1.size _
  have hs2 : W2.heap.size = w.heap.size + 2 := by rw [hW2]; simp; omega
  have HA2 : Hid (Bx W2 w.heap.size v 24) := Lib.hid (by rw [hW2]; exact HA1.out.grown (World.grownBy_alloc _ _ none) (by simp))
  obtain ⟨W3, hW3⟩ : ∃ W, W = W2.alloc (.cells #[.slice none 0 0] 28) := ⟨_, rfl⟩
  have HL3 : Hid (Bx W3 (w.heap.size + 2) (.slice none 0 0) 28) := Lib.hid (by rw [hW3, ← hs2]; exact Bx.new W2 _ _)
  have hb3 : Below w.heap.size w W3 := by rw [hW3]; exact hb2.alloc hb2.size _
  have HR3 : Hid (Bx W3 (w.heap.size + 1) (.slice none 0 0) 28) := Lib.hid (by rw [hW3]; exact HR2.out.grown (World.grownBy_alloc _ _ none) (by simp))
  have HA3 : Hid (Bx W3 w.heap.size v 24) := Lib.hid (by rw [hW3]; exact HA2.out.grown (World.grownBy_alloc _ _ none) (by simp))
  have HW := Lib.hid (show W3 = ((w.alloc (.cells #[v] 24)).alloc (.cells #[.slice none 0 0] 28)).alloc (.cells #[.slice none 0 0] 28) by rw [hW3, hW2, hW1])
  have HB3 := Lib.hid hb3
  have HTo := Lib.hid (toIntS_lit v p W3 (hrow.below hb3 (Nat.le_refl _)) hn)
  have hx := HA3.out.cell
  clear hW1 hW2 hW3 hs1 hs2 hb1 hb2 hb3 HA1 HA2 HR2 hrow
  go_enter Tryd.func7, Tryd.ntmps7
  go_upto_region 2 with fail
  rw [← HW.out]
  go_wp2_with fail
  refine HTo.out.mono ?_
  rintro e W4 ⟨g, rfl, o4, l4⟩
  have HO4 := Lib.hid o4
  have hs3 := HL3.out.lt
  have HR4 := Lib.hid (HR3.out.below l4 HR3.out.lt)
  have HL4 := Lib.hid (HL3.out.below l4 HL3.out.lt)
  have HB4 := Lib.hid (HB3.out.trans (l4.mono HB3.out.size))
  have hg4 := (o4.lt g rfl).1
  clear o4 l4 HR3 HL3 HB3 HTo hx HA3 HW
  have hx := HL4.out.cell
  have fx := HL4.out.free
  go_upto_region 3 with fail
  obtain ⟨p1, q1⟩ := HL4.out.put (.slice (some ⟨g, 0, none⟩) p.length p.length)
  obtain ⟨W5, hW5⟩ : ∃ W, W = W4.setCell ⟨w.heap.size + 2, 0, none⟩ (.slice (some ⟨g, 0, none⟩) p.length p.length) := ⟨_, rfl⟩
  rw [← hW5] at p1 q1 ⊢
  have HL5 := Lib.hid p1
  have HR5 := Lib.hid (HR4.out.grown q1 (by intro e; have := Option.some.inj e; omega))
  have HO5 := Lib.hid (own_apart HO4.out (v2 := .slice (some ⟨w.heap.size + 2, 0, none⟩) 0 0) q1 (fun k hk e => by have e1 : g = k := Option.some.inj hk; have e2 : w.heap.size + 2 = k := Option.some.inj e; omega))
  have HB5 := Lib.hid (HB4.out.grown q1 HB4.out.size (fun k hk => by have e : w.heap.size + 2 = k := Option.some.inj hk; omega))
  clear hW5 p1 q1 HL4 HR4 HO4 HB4 hx fx
  have hx := HL5.out.cell
  have hy := HR5.out.cell
  have fy := HR5.out.free
  go_wp2_with fail
  obtain ⟨p2, q2⟩ := HR5.out.put (.slice (some ⟨g, 0, none⟩) p.length p.length)
  refine bodyPost_ret (results_tr1 rfl _ _ (w.heap.size + 1) rfl p2) rfl ⟨g, rfl, ?_, ?_⟩
  · have hbl := HB5.out.size
    exact own_base (own_apart HO5.out (v2 := .slice (some ⟨w.heap.size + 1, 0, none⟩) 0 0) q2 (fun k hk e => by have e1 : g = k := Option.some.inj hk; have e2 : w.heap.size + 1 = k := Option.some.inj e; omega)) (by omega)
  · exact HB5.out.grown q2 HB5.out.size (fun k hk => by have e : w.heap.size + 1 = k := Option.some.inj hk; omega)
theorem eqTree_any (v1 v2 : Value) (p q : List Int) (w : World) (h1 : Row w v1 p.length (p.map (Value.int .i64))) (h2 : Row w v2 q.length (q.map (Value.int .i64))) :
    Calls Tryd.prog 9 #[.agg #[v1], .agg #[v2]] w fun e w' => e = .returned (.bool (decide (p = q))) ∧ Below w.heap.size w w' := by
  have hb : Below w.heap.size w ((w.alloc (.cells #[v1] 28)).alloc (.cells #[v2] 28)) := ((Below.refl w.heap.size w).alloc (Nat.le_refl _) _).alloc (by simp) _
  have HE := Lib.hid (eqIntS_any v1 v2 p q _ (h1.below hb (Nat.le_refl _)) (h2.below hb (Nat.le_refl _)))
  have HB := Lib.hid hb
  generalize decide (p = q) = ok at HE ⊢
  clear hb h1 h2
  go_enter Tryd.func9, Tryd.ntmps9
  go_wp2_with fail
  refine HE.out.mono ?_
  rintro e W1 ⟨rfl, k, hk⟩
  have HB1 : Hid (Below w.heap.size w W1) := Lib.hid (by rw [hk]; exact HB.out.trans ((bdrew _ _).mono HB.out.size))
  clear hk
  cases ok with
  | false =>
    go_wp2_with fail
    go_ret
    exact ⟨rfl, HB1.out⟩
  | true =>
    go_wp2_with fail
    go_ret
    exact ⟨rfl, HB1.out⟩
theorem markT_own (v : Value) (n k base : Nat) (xs : List Value) (w : World) (hown : w.ownsRow base 3 1 v n xs) (hk : k + n ≤ 100000000) :
    Calls Tryd.prog 12 #[.agg #[v], .int .i64 k] w fun e w' => e = .returned (.int .i64 (k + n : Nat)) ∧ w'.ownsRow base 3 1 v n (marksI k n) ∧ w.grownBy w' v.ownBlock := by
  have HM := Lib.hid (markI_own v n k base xs (w.alloc (.cells #[v] 28)) (own_grown hown (World.grownBy_alloc _ _ none)) hk)
  clear hown
  go_enter Tryd.func12, Tryd.ntmps12
  go_wp2_with fail
  refine HM.out.mono ?_
  rintro e W1 ⟨rfl, o1, g1⟩
  have HO := Lib.hid o1
  have HG := Lib.hid (grown_trans (World.grownBy_alloc w (.cells #[v] 28) v.ownBlock) g1)
  clear o1 g1
  go_wp2_with fail
  go_ret
  exact ⟨rfl, HO.out, HG.out⟩
theorem heldT_own (v : Value) (n k base : Nat) (w : World) (hown : w.ownsRow base 3 1 v n (marksI k n)) (hk : k + n ≤ 100000000) :
    Calls Tryd.prog 13 #[.agg #[v], .int .i64 k] w fun e w' => e = .returned (.int .i64 (k + n : Nat)) ∧ Below w.heap.size w w' := by
  have HM := Lib.hid (heldI_own v n k base (w.alloc (.cells #[v] 28)) (own_grown hown (World.grownBy_alloc _ _ none)) hk)
  have hd : ¬ ((k + n : Nat) : Int) < 0 := by omega
  clear hown
  go_enter Tryd.func13, Tryd.ntmps13
  go_wp2_with fail
  refine HM.out.mono ?_
  rintro e _ ⟨rfl, rfl⟩
  go_wp2_with fail
  go_ret
  exact ⟨rfl, (Below.refl _ _).alloc (Nat.le_refl _) _⟩
end Go.Proofs.YtejdphfcogfcmaaDoor
