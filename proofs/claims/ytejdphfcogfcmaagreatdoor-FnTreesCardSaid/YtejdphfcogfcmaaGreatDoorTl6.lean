/-
  The draws of chapter 6 that hand on another's.
-/
import Derived.Test.YtejdphfcogfcmaaGreatDoorTl5
namespace Go.Proofs.YtejdphfcogfcmaaGreatDoor
open Go.RowKit
set_option linter.unusedVariables false

/-- A tree that has been drawn, behind the result's box Q and the cursor. -/
structure DoT (w w' : World) (Q B : Nat) (z : List Int) (m g c : Nat) (p : List Int) : Prop where
  own : w'.ownsRow w.heap.size 3 1 (.slice (some ⟨g, 0, none⟩) p.length c) p.length (p.map (Value.int .i64))
  res : Bx w' Q (.slice none 0 0) 26
  cu : Cu w' B z m
  bel : Below w.heap.size w w'
  bd : ∀ x ∈ p, -1 ≤ x ∧ x ≤ 65536
  hQ : w.heap.size ≤ Q
  hQB : Q < B
  hBg : B < g
theorem DoT.start {w w1 : World} {m g c : Nat} {z p : List Int} {cs : Array Value}
    (h : Drawn ((w.alloc (.cells #[.slice none 0 0] 26)).alloc (.cells cs 51)) w1 (w.heap.size + 1) z m g c p) : DoT w w1 w.heap.size (w.heap.size + 1) z m g c p := by
  obtain ⟨h1, h2, h3, h4, h5⟩ := h
  have hl := h1.lt g rfl
  rw [World.size_alloc, World.size_alloc] at hl
  refine ⟨own_base h1 (by rw [World.size_alloc, World.size_alloc]; omega), ?_, h2, ?_, h4, Nat.le_refl _, by omega, by omega⟩
  · exact ((Bx.new w (.slice none 0 0) 26).grown (World.grownBy_alloc _ _ none) (by simp)).grown h3 (some_ne (by omega))
  · exact (((Below.refl _ _).alloc (Nat.le_refl _) _).alloc (by simp) _).trans (gbelow h3 (by rw [World.size_alloc, World.size_alloc]; omega) (by omega))
theorem DoT.cur {w w1 w2 : World} {Q B m m' g c : Nat} {z p : List Int} (h : DoT w w1 Q B z m g c p) (hc : Cu w2 B z m') (hg : w1.grownBy w2 (some B)) : DoT w w2 Q B z m' g c p := by
  have h1 := h.hQ
  have h2 := h.hQB
  have h3 := h.hBg
  exact ⟨h.own.kept hg (.inr (some_ne (show g ≠ B by omega))), h.res.grown hg (some_ne (by omega)), hc, h.bel.trans (gbelow hg h.bel.size (by omega)), h.bd, h.hQ, h.hQB, h.hBg⟩
theorem DoT.drew {w w1 : World} {Q B m g c : Nat} {z p : List Int} (h : DoT w w1 Q B z m g c p) : DoT w w1.drew Q B z m g c p := h.cur (h.cu.grown (gdrew6 _ _)) (gdrew6 _ _)
theorem DoT.alloc {w w1 : World} {Q B m g c : Nat} {z p : List Int} (h : DoT w w1 Q B z m g c p) (o : Obj) : DoT w (w1.alloc o) Q B z m g c p := h.cur (h.cu.grown (World.grownBy_alloc _ _ none)) (World.grownBy_alloc _ _ _)
theorem DoT.out {w w1 : World} {Q B m g c : Nat} {z p : List Int} (h : DoT w w1 Q B z m g c p) (u : Value) : Bx (w1.setCell ⟨Q, 0, none⟩ u) Q u 26 ∧
    (w1.setCell ⟨Q, 0, none⟩ u).ownsRow w.heap.size 3 1 (.slice (some ⟨g, 0, none⟩) p.length c) p.length (p.map (Value.int .i64)) ∧ Below w.heap.size w (w1.setCell ⟨Q, 0, none⟩ u) := by
  obtain ⟨p1, q1⟩ := h.res.put u
  have h1 := h.hQ
  have h2 := h.hQB
  have h3 := h.hBg
  exact ⟨p1, h.own.kept q1 (.inr (some_ne (show g ≠ Q by omega))), h.bel.grown q1 h.bel.size (fun k hk => by have e2 : Q = k := Option.some.inj hk; omega)⟩
theorem results_tr4 {fn : Func} {p u : Tmp} (h : fn.results = #[.cell p 26, .tmp u]) (tmps : Array Value) (w : World) (g : Nat) {v : Value} (hp : tmps.getD p undef = .pointer (some ⟨g, 0, none⟩)) {n : Int} (hu : tmps.getD u undef = .int .i64 n) (hg : Bx w g v 26) :
    (results fn tmps).run Tryz.prog w = .ok (.tuple #[.agg #[v], .int .i64 n]) w := by
  have hp' : tmps[p]?.getD undef = .pointer (some ⟨g, 0, none⟩) := by simpa using hp
  have hu' : tmps[u]?.getD undef = .int .i64 n := by simpa using hu
  unfold results
  rw [h]
  simp [asAddr, hp', hu', Result.andThen, run_loadVar_row w g 26 26 _ _ _ hg Tryz.underlying26 (by rfl) (by kernel_rfl)]
theorem results_tr5 {fn : Func} {p u q : Tmp} (h : fn.results = #[.cell p 26, .tmp u, .tmp q]) (tmps : Array Value) (w : World) (g : Nat) {v : Value} (hp : tmps.getD p undef = .pointer (some ⟨g, 0, none⟩)) {n : Int} (hu : tmps.getD u undef = .int .i64 n) {k : Int} (hq : tmps.getD q undef = .int .i64 k) (hg : Bx w g v 26) :
    (results fn tmps).run Tryz.prog w = .ok (.tuple #[.agg #[v], .int .i64 n, .int .i64 k]) w := by
  have hp' : tmps[p]?.getD undef = .pointer (some ⟨g, 0, none⟩) := by simpa using hp
  have hu' : tmps[u]?.getD undef = .int .i64 n := by simpa using hu
  have hq' : tmps[q]?.getD undef = .int .i64 k := by simpa using hq
  unfold results
  rw [h]
  simp [asAddr, hp', hu', hq', Result.andThen, run_loadVar_row w g 26 26 _ _ _ hg Tryz.underlying26 (by rfl) (by kernel_rfl)]
set_option maxRecDepth 100000 in
set_option maxHeartbeats 1000000 in
theorem drawTr_any (v : Value) (z : List Int) (w : World) (hrow : Row w v z.length (z.map (Value.int .u8))) (hz : ∀ x ∈ z, 0 ≤ x ∧ x < 256) :
    Calls Tryz.prog 21 #[v] w fun e w' => ∃ (g c : Nat) (p : List Int), e = .returned (.agg #[.slice (some ⟨g, 0, none⟩) p.length c]) ∧ p.length ≤ 9 ∧ (∀ x ∈ p, -1 ≤ x ∧ x ≤ 65536) ∧
      w'.ownsRow w.heap.size 3 1 (.slice (some ⟨g, 0, none⟩) p.length c) p.length (p.map (Value.int .i64)) ∧ Below w.heap.size w w' := by
  have hc0 := cu_new (w.alloc (.cells #[.slice none 0 0] 26)) v z (hrow.below ((Below.refl _ _).alloc (Nat.le_refl _) _) (Nat.le_refl _)) hz
  rw [World.size_alloc] at hc0
  have HC0 := Lib.hid hc0
  obtain ⟨a0, cap0, rfl, _, _, _⟩ := row_open hrow
  clear hrow hz hc0
  go_enter Tryz.func21, Tryz.ntmps21
  go_wp2_with fail
  refine (anyTree_any (w.heap.size + 1) 0 z _ HC0.out (by omega)).mono ?_
  rintro e w1 ⟨g, c, p, rfl, hl, hd⟩
  have HD := Lib.hid (DoT.start hd)
  clear hd
  have hy : w1.cell? ⟨w.heap.size, 0, none⟩ = some (.slice none 0 0) := HD.out.res.cell
  have fy : w1.frozen? ⟨w.heap.size, 0, none⟩ = false := HD.out.res.free
  go_wp2_with fail
  obtain ⟨p1, q1, q2⟩ := HD.out.out (.slice (some ⟨g, 0, none⟩) p.length c)
  exact bodyPost_ret (results_tr1 rfl _ _ w.heap.size rfl p1) rfl ⟨g, c, p, rfl, hl, HD.out.bd, q1, q2⟩
set_option maxRecDepth 100000 in
set_option maxHeartbeats 1000000 in
theorem drawTrN_any (v : Value) (z : List Int) (w : World) (hrow : Row w v z.length (z.map (Value.int .u8))) (hz : ∀ x ∈ z, 0 ≤ x ∧ x < 256) :
    Calls Tryz.prog 31 #[v] w fun e w' => ∃ (g c : Nat) (p : List Int) (x : Int), e = .returned (.tuple #[.agg #[.slice (some ⟨g, 0, none⟩) p.length c], .int .i64 x]) ∧ p.length ≤ 9 ∧ -1 ≤ x ∧ x ≤ 9 ∧ (∀ x ∈ p, -1 ≤ x ∧ x ≤ 65536) ∧
      w'.ownsRow w.heap.size 3 1 (.slice (some ⟨g, 0, none⟩) p.length c) p.length (p.map (Value.int .i64)) ∧ Below w.heap.size w w' := by
  have hc0 := cu_new (w.alloc (.cells #[.slice none 0 0] 26)) v z (hrow.below ((Below.refl _ _).alloc (Nat.le_refl _) _) (Nat.le_refl _)) hz
  rw [World.size_alloc] at hc0
  have HC0 := Lib.hid hc0
  obtain ⟨a0, cap0, rfl, _, _, _⟩ := row_open hrow
  clear hrow hz hc0
  go_enter Tryz.func31, Tryz.ntmps31
  go_wp2_with fail
  refine (anyTree_any (w.heap.size + 1) 0 z _ HC0.out (by omega)).mono ?_
  rintro e w1 ⟨g, c, p, rfl, hl, hd⟩
  have HD1 := DoT.start hd
  have HD := Lib.hid (HD1.alloc (.cells #[.slice (some ⟨g, 0, none⟩) p.length c] 26))
  have HX : Hid (Bx (w1.alloc (.cells #[.slice (some ⟨g, 0, none⟩) p.length c] 26)) w1.heap.size (.slice (some ⟨g, 0, none⟩) p.length c) 26) := Lib.hid (Bx.new _ _ _)
  have HR : Hid (w1.heap.size ≠ w.heap.size + 1) := Lib.hid (by have := HD1.cu.lt; omega)
  have HDd := Lib.hid HD.out.drew
  have hx := HX.out.cell
  have hxd : (w1.alloc (.cells #[.slice (some ⟨g, 0, none⟩) p.length c] 26)).drew.cell? ⟨w1.heap.size, 0, none⟩ = some (.slice (some ⟨g, 0, none⟩) p.length c) := HX.out.cell
  clear hd HD1
  go_upto_region 3 with fail
  go_region_law (go_simp; go_at_call 49; refine (nodeIn_any (w.heap.size + 1) 80 p.length c _ z _ HDd.out.cu (by omega) hl).mono ?_; rintro e w2 ⟨x, x0, x1, rfl, hc, hg⟩; have HD2 := Lib.hid (HDd.out.cur hc hg); have hx2 := (HX.out.grown (g_trans (gdrew6 _ _) hg) (some_ne HR.out)).cell; have hy2 := HD2.out.res.cell; have fy2 := HD2.out.res.free; have HX2 := Lib.hid (HX.out.grown (g_trans (gdrew6 _ _) hg) (some_ne HR.out)); clear hc hg; have tokB : True := trivial; dsimp only)
  all_goals go_wp2_with fail
  all_goals
    obtain ⟨p1, q1, q2⟩ := HD2.out.out (.slice (some ⟨g, 0, none⟩) p.length c)
    exact bodyPost_ret (results_tr4 rfl _ _ w.heap.size rfl rfl p1) rfl ⟨g, c, p, x, rfl, hl, x0, x1, HD.out.bd, q1, q2⟩
end Go.Proofs.YtejdphfcogfcmaaGreatDoor

namespace Go.Proofs.YtejdphfcogfcmaaGreatDoor
open Go.RowKit
set_option linter.unusedVariables false

theorem hand_on {w w1 : World} {g c n : Nat} {p : List Int} (hp : n = p.length) (ho : w1.ownsRow (w.alloc (.cells #[.slice none 0 0] 26)).heap.size 3 1 (.slice (some ⟨g, 0, none⟩) n c) n (p.map (Value.int .i64)))
    (hb : Below (w.alloc (.cells #[.slice none 0 0] 26)).heap.size (w.alloc (.cells #[.slice none 0 0] 26)) w1) (u : Value) : w1.cell? ⟨w.heap.size, 0, none⟩ = some (.slice none 0 0) ∧ w1.frozen? ⟨w.heap.size, 0, none⟩ = false ∧ Bx (w1.setCell ⟨w.heap.size, 0, none⟩ u) w.heap.size u 26 ∧
    (w1.setCell ⟨w.heap.size, 0, none⟩ u).ownsRow w.heap.size 3 1 (.slice (some ⟨g, 0, none⟩) n c) n (p.map (Value.int .i64)) ∧ Below w.heap.size w (w1.setCell ⟨w.heap.size, 0, none⟩ u) := by
  have hx := (Bx.new w (.slice none 0 0) 26).below hb (by rw [World.size_alloc]; omega)
  have hl := (ho.lt g rfl).1
  rw [World.size_alloc] at hl
  obtain ⟨p1, q1⟩ := hx.put u
  have hb2 : Below w.heap.size w w1 := ((Below.refl w.heap.size w).alloc (Nat.le_refl _) _).trans (hb.mono (by rw [World.size_alloc]; omega))
  exact ⟨hx.cell, hx.free, p1, own_base (ho.kept q1 (.inr (some_ne (show g ≠ w.heap.size by omega)))) (by rw [World.size_alloc]; omega), hb2.grown q1 hb2.size (fun k hk => by have e2 : w.heap.size = k := Option.some.inj hk; omega)⟩
set_option maxRecDepth 100000 in
set_option maxHeartbeats 1000000 in
theorem drawTrL_any (v : Value) (z : List Int) (w : World) (hrow : Row w v z.length (z.map (Value.int .u8))) (hz : ∀ x ∈ z, 0 ≤ x ∧ x < 256) :
    Calls Tryz.prog 19 #[v] w fun e w' => ∃ (g c : Nat) (p : List Int), e = .returned (.agg #[.slice (some ⟨g, 0, none⟩) p.length c]) ∧ p.length ≤ 9 ∧ (∀ x ∈ p, -1 ≤ x ∧ x ≤ 65536) ∧
      w'.ownsRow w.heap.size 3 1 (.slice (some ⟨g, 0, none⟩) p.length c) p.length (p.map (Value.int .i64)) ∧ Below w.heap.size w w' := by
  have HC := Lib.hid (drawTr_any v z (w.alloc (.cells #[.slice none 0 0] 26)) (hrow.below ((Below.refl _ _).alloc (Nat.le_refl _) _) (Nat.le_refl _)) hz)
  obtain ⟨a0, cap0, rfl, _, _, _⟩ := row_open hrow
  clear hrow hz
  go_enter Tryz.func19, Tryz.ntmps19
  go_wp2_with fail
  refine HC.out.mono ?_
  rintro e w1 ⟨g, c, p, rfl, hl, hbd, ho, hb⟩
  obtain ⟨n, hn⟩ : ∃ n, n = p.length := ⟨_, rfl⟩
  have HN := Lib.hid hn
  obtain ⟨hy, fy, p1, q1, q2⟩ := hand_on rfl ho hb (.slice (some ⟨g, 0, none⟩) p.length c)
  clear ho hb hn HC
  go_wp2_with fail
  exact bodyPost_ret (results_tr1 rfl _ _ w.heap.size rfl p1) rfl ⟨g, c, p, rfl, hl, hbd, q1, q2⟩
set_option maxRecDepth 100000 in
set_option maxHeartbeats 1000000 in
theorem drawTrT_any (v : Value) (z : List Int) (w : World) (hrow : Row w v z.length (z.map (Value.int .u8))) (hz : ∀ x ∈ z, 0 ≤ x ∧ x < 256) :
    Calls Tryz.prog 5 #[v] w fun e w' => ∃ (g c : Nat) (p : List Int), e = .returned (.agg #[.slice (some ⟨g, 0, none⟩) p.length c]) ∧ p.length ≤ 9 ∧ (∀ x ∈ p, -1 ≤ x ∧ x ≤ 65536) ∧
      w'.ownsRow w.heap.size 3 1 (.slice (some ⟨g, 0, none⟩) p.length c) p.length (p.map (Value.int .i64)) ∧ Below w.heap.size w w' := by
  have HC := Lib.hid (drawTr_any v z (w.alloc (.cells #[.slice none 0 0] 26)) (hrow.below ((Below.refl _ _).alloc (Nat.le_refl _) _) (Nat.le_refl _)) hz)
  obtain ⟨a0, cap0, rfl, _, _, _⟩ := row_open hrow
  clear hrow hz
  go_enter Tryz.func5, Tryz.ntmps5
  go_wp2_with fail
  refine HC.out.mono ?_
  rintro e w1 ⟨g, c, p, rfl, hl, hbd, ho, hb⟩
  obtain ⟨n, hn⟩ : ∃ n, n = p.length := ⟨_, rfl⟩
  have HN := Lib.hid hn
  obtain ⟨hy, fy, p1, q1, q2⟩ := hand_on rfl ho hb (.slice (some ⟨g, 0, none⟩) p.length c)
  clear ho hb hn HC
  go_wp2_with fail
  exact bodyPost_ret (results_tr1 rfl _ _ w.heap.size rfl p1) rfl ⟨g, c, p, rfl, hl, hbd, q1, q2⟩
set_option maxRecDepth 100000 in
set_option maxHeartbeats 1000000 in
theorem drawTrA_any (v : Value) (z : List Int) (w : World) (hrow : Row w v z.length (z.map (Value.int .u8))) (hz : ∀ x ∈ z, 0 ≤ x ∧ x < 256) :
    Calls Tryz.prog 13 #[v] w fun e w' => ∃ (g c : Nat) (p : List Int) (x : Int), e = .returned (.tuple #[.agg #[.slice (some ⟨g, 0, none⟩) p.length c], .int .i64 x]) ∧ p.length ≤ 9 ∧ -1 ≤ x ∧ x ≤ 9 ∧ (∀ x ∈ p, -1 ≤ x ∧ x ≤ 65536) ∧
      w'.ownsRow w.heap.size 3 1 (.slice (some ⟨g, 0, none⟩) p.length c) p.length (p.map (Value.int .i64)) ∧ Below w.heap.size w w' := by
  have HC := Lib.hid (drawTrN_any v z (w.alloc (.cells #[.slice none 0 0] 26)) (hrow.below ((Below.refl _ _).alloc (Nat.le_refl _) _) (Nat.le_refl _)) hz)
  obtain ⟨a0, cap0, rfl, _, _, _⟩ := row_open hrow
  clear hrow hz
  go_enter Tryz.func13, Tryz.ntmps13
  go_wp2_with fail
  refine HC.out.mono ?_
  rintro e w1 ⟨g, c, p, x, rfl, hl, x0, x1, hbd, ho, hb⟩
  obtain ⟨n, hn⟩ : ∃ n, n = p.length := ⟨_, rfl⟩
  have HN := Lib.hid hn
  obtain ⟨hy, fy, p1, q1, q2⟩ := hand_on rfl ho hb (.slice (some ⟨g, 0, none⟩) p.length c)
  clear ho hb hn HC
  go_wp2_with fail
  exact bodyPost_ret (results_tr4 rfl _ _ w.heap.size rfl rfl p1) rfl ⟨g, c, p, x, rfl, hl, x0, x1, hbd, q1, q2⟩
end Go.Proofs.YtejdphfcogfcmaaGreatDoor
