/-
  The draws of chapter 8: the arguments of the laws.
-/
import Derived.Test.YtoehedogdbafpaaDrawTim
import Derived.Laws.ResultCell
import Derived.Deep.RegionLaw
import Derived.Deep.AppendLies
namespace Go.Proofs.Ytoehedogdbafpaa
open Go.RowKit Go.Lib Go.Joins
set_option linter.unusedVariables false

theorem gbelow8 {w w' : World} {B0 B : Nat} (h : w.grownBy w' (some B)) (hB : B0 ≤ w.heap.size) (hr : B0 ≤ B) : Below B0 w w' := (Below.refl B0 w).grown h hB (fun k e => by cases e; exact hr)
/-- A list that has been drawn, beside the cursor. -/
structure DoL (w w' : World) (b B : Nat) (z : List Int) (m g c : Nat) (zs : List Tm) : Prop where
  own : w'.ownsRow b 42 3 (.slice (some ⟨g, 0, none⟩) zs.length c) zs.length (tmF zs)
  cu : Cu w' B z m
  bel : Below w.heap.size w w'
  hB : B < b
  hw : w.heap.size ≤ B
theorem DoL.start {w W w1 : World} {B m g c : Nat} {z : List Int} {zs : List Tm} (h : DrL W w1 B z m g c zs) (hW : Below w.heap.size w W) (hw : w.heap.size ≤ B) : DoL w w1 W.heap.size B z m g c zs :=
  ⟨h.own, h.cu, hW.trans (gbelow8 h.gr hW.size hw), h.lt, hw⟩
theorem DoL.call {w w1 w2 : World} {b B m m' g c : Nat} {z : List Int} {zs : List Tm} (h : DoL w w1 b B z m g c zs) (hc : Cu w2 B z m') (hg : w1.grownBy w2 (some B)) : DoL w w2 b B z m' g c zs :=
  ⟨ownz_cur h.own hg h.hB, hc, h.bel.trans (gbelow8 hg h.bel.size h.hw), h.hB, h.hw⟩
theorem DoL.drl {w w1 w2 : World} {b B m m' g c : Nat} {z : List Int} {zs : List Tm} (h : DoL w w1 b B z m g c zs) (h2 : DrL w1 w2 B z m' g c zs) : DoL w w2 b B z m' g c zs := h.call h2.cu h2.gr
theorem DoL.out {w w1 : World} {b B m g c : Nat} {z : List Int} {zs : List Tm} (h : DoL w w1 b B z m g c zs) : w1.ownsRow w.heap.size 42 3 (.slice (some ⟨g, 0, none⟩) zs.length c) zs.length (tmF zs) := ownz_base h.own (by have := h.hB; have := h.hw; omega)
theorem DoL.drlS {w w1 : World} {b B m g c : Nat} {z : List Int} {zs : List Tm} (h : DoL w w1 b B z m g c zs) : DrL w1 w1 B z m g c zs → DrL w1 w1 B z m g c zs := id

set_option maxRecDepth 100000 in
set_option maxHeartbeats 2000000 in
theorem drawIsT_any (v : Value) (z : List Int) (w : World) (hrow : Row w v z.length (z.map (Value.int .u8))) (hz : ∀ x ∈ z, 0 ≤ x ∧ x < 256) :
    Calls Try.prog 69 #[v] w fun e w' => ∃ (g c : Nat) (zs : List Tm), e = .returned (.slice (some ⟨g, 0, none⟩) zs.length c) ∧ zs.length ≤ 11 ∧ w'.ownsRow w.heap.size 42 3 (.slice (some ⟨g, 0, none⟩) zs.length c) zs.length (tmF zs) ∧ Below w.heap.size w w' := by
  obtain ⟨W, hW⟩ : ∃ W, W = w.alloc (.cells #[v, .int .i64 0, .int .u64 0] 77) := ⟨_, rfl⟩
  obtain ⟨B, hBe⟩ : ∃ B, B = w.heap.size := ⟨_, rfl⟩
  have HC : Hid (Cu W B z 0) := Lib.hid (by rw [hW, hBe]; exact cu_new w v z hrow hz)
  have HBl : Hid (Below w.heap.size w W) := Lib.hid (by rw [hW]; exact (Below.refl _ _).alloc (Nat.le_refl _) _)
  have HBw : Hid (w.heap.size ≤ B) := Lib.hid (by omega)
  have HW := Lib.hid hW
  have HBe := Lib.hid hBe
  obtain ⟨a0, cap0, rfl, _, _, _⟩ := row_open hrow
  clear hW hrow hz hBe
  go_enter Try.func69, Try.ntmps69
  go_upto_region 2 with fail
  rw [← HW.out, ← HBe.out]
  go_wp2_with fail
  refine (timers_any B 0 z W HC.out (by omega)).mono ?_
  rintro e w1 ⟨g, c, zs, rfl, hl, hd⟩
  have HD := Lib.hid (DoL.start hd HBl.out HBw.out)
  have HL := Lib.hid hl
  have HDr := Lib.hid hd
  clear hd
  go_wp2_with fail
  go_ret
  exact ⟨g, c, zs, rfl, hl, HD.out.out, HD.out.bel⟩
set_option maxRecDepth 100000 in
set_option maxHeartbeats 2000000 in
theorem drawNextT_any (v : Value) (z : List Int) (w : World) (hrow : Row w v z.length (z.map (Value.int .u8))) (hz : ∀ x ∈ z, 0 ≤ x ∧ x < 256) :
    Calls Try.prog 27 #[v] w fun e w' => ∃ (g c : Nat) (zs : List Tm), e = .returned (.slice (some ⟨g, 0, none⟩) zs.length c) ∧ zs.length ≤ 11 ∧ w'.ownsRow w.heap.size 42 3 (.slice (some ⟨g, 0, none⟩) zs.length c) zs.length (tmF zs) ∧ Below w.heap.size w w' := by
  have HI := Lib.hid (drawIsT_any v z w hrow hz)
  clear hrow hz
  go_enter Try.func27, Try.ntmps27
  go_wp2_with fail
  refine HI.out.mono ?_
  rintro e w1 ⟨g, c, zs, rfl, hl, ho, hb⟩
  have HO := Lib.hid ho
  have HB := Lib.hid hb
  clear ho hb
  go_wp2_with fail
  go_ret
  exact ⟨g, c, zs, rfl, hl, HO.out, HB.out⟩
set_option maxRecDepth 100000 in
set_option maxHeartbeats 2000000 in
theorem drawDueT_any (v : Value) (z : List Int) (w : World) (hrow : Row w v z.length (z.map (Value.int .u8))) (hz : ∀ x ∈ z, 0 ≤ x ∧ x < 256) :
    Calls Try.prog 53 #[v] w fun e w' => ∃ (g c : Nat) (zs : List Tm) (x : Int), e = .returned (.tuple #[.slice (some ⟨g, 0, none⟩) zs.length c, .int .i64 x]) ∧ zs.length ≤ 11 ∧ w'.ownsRow w.heap.size 42 3 (.slice (some ⟨g, 0, none⟩) zs.length c) zs.length (tmF zs) ∧ Below w.heap.size w w' := by
  obtain ⟨W, hW⟩ : ∃ W, W = w.alloc (.cells #[v, .int .i64 0, .int .u64 0] 77) := ⟨_, rfl⟩
  obtain ⟨B, hBe⟩ : ∃ B, B = w.heap.size := ⟨_, rfl⟩
  have HC : Hid (Cu W B z 0) := Lib.hid (by rw [hW, hBe]; exact cu_new w v z hrow hz)
  have HBl : Hid (Below w.heap.size w W) := Lib.hid (by rw [hW]; exact (Below.refl _ _).alloc (Nat.le_refl _) _)
  have HBw : Hid (w.heap.size ≤ B) := Lib.hid (by omega)
  have HW := Lib.hid hW
  have HBe := Lib.hid hBe
  obtain ⟨a0, cap0, rfl, _, _, _⟩ := row_open hrow
  clear hW hrow hz hBe
  go_enter Try.func53, Try.ntmps53
  go_upto_region 2 with fail
  rw [← HW.out, ← HBe.out]
  go_wp2_with fail
  refine (timers_any B 0 z W HC.out (by omega)).mono ?_
  rintro e w1 ⟨g, c, zs, rfl, hl, hd⟩
  have HD := Lib.hid (DoL.start hd HBl.out HBw.out)
  have HL := Lib.hid hl
  have HDr := Lib.hid hd
  clear hd
  go_wp2_with fail
  refine (tick8_any B (0 + 300) z _ HD.out.cu (by omega)).mono ?_
  rintro e w2 ⟨x, rfl, hc, hg⟩
  have HD2 := Lib.hid (HD.out.call hc hg)
  clear hc hg
  go_wp2_with fail
  go_ret2
  exact ⟨g, c, zs, x, rfl, hl, HD2.out.out, HD2.out.bel⟩
set_option maxRecDepth 100000 in
set_option maxHeartbeats 2000000 in
theorem drawRunT_any (v : Value) (z : List Int) (w : World) (hrow : Row w v z.length (z.map (Value.int .u8))) (hz : ∀ x ∈ z, 0 ≤ x ∧ x < 256) :
    Calls Try.prog 15 #[v] w fun e w' => ∃ (g c : Nat) (zs : List Tm) (x : Int), e = .returned (.tuple #[.slice (some ⟨g, 0, none⟩) zs.length c, .int .i64 x]) ∧ zs.length ≤ 11 ∧ w'.ownsRow w.heap.size 42 3 (.slice (some ⟨g, 0, none⟩) zs.length c) zs.length (tmF zs) ∧ Below w.heap.size w w' := by
  have HI := Lib.hid (drawDueT_any v z w hrow hz)
  clear hrow hz
  go_enter Try.func15, Try.ntmps15
  go_wp2_with fail
  refine HI.out.mono ?_
  rintro e w1 ⟨g, c, zs, x, rfl, hl, ho, hb⟩
  have HO := Lib.hid ho
  have HB := Lib.hid hb
  clear ho hb
  go_wp2_with fail
  go_ret2
  exact ⟨g, c, zs, x, rfl, hl, HO.out, HB.out⟩
set_option maxRecDepth 100000 in
set_option maxHeartbeats 2000000 in
theorem drawStopT_any (v : Value) (z : List Int) (w : World) (hrow : Row w v z.length (z.map (Value.int .u8))) (hz : ∀ x ∈ z, 0 ≤ x ∧ x < 256) :
    Calls Try.prog 24 #[v] w fun e w' => ∃ (g c : Nat) (zs : List Tm) (x : Int), e = .returned (.tuple #[.slice (some ⟨g, 0, none⟩) zs.length c, .int .i64 x]) ∧ zs.length ≤ 11 ∧ w'.ownsRow w.heap.size 42 3 (.slice (some ⟨g, 0, none⟩) zs.length c) zs.length (tmF zs) ∧ Below w.heap.size w w' := by
  obtain ⟨W, hW⟩ : ∃ W, W = w.alloc (.cells #[v, .int .i64 0, .int .u64 0] 77) := ⟨_, rfl⟩
  obtain ⟨B, hBe⟩ : ∃ B, B = w.heap.size := ⟨_, rfl⟩
  have HC : Hid (Cu W B z 0) := Lib.hid (by rw [hW, hBe]; exact cu_new w v z hrow hz)
  have HBl : Hid (Below w.heap.size w W) := Lib.hid (by rw [hW]; exact (Below.refl _ _).alloc (Nat.le_refl _) _)
  have HBw : Hid (w.heap.size ≤ B) := Lib.hid (by omega)
  have HW := Lib.hid hW
  have HBe := Lib.hid hBe
  obtain ⟨a0, cap0, rfl, _, _, _⟩ := row_open hrow
  clear hW hrow hz hBe
  go_enter Try.func24, Try.ntmps24
  go_upto_region 2 with fail
  rw [← HW.out, ← HBe.out]
  go_wp2_with fail
  refine (timers_any B 0 z W HC.out (by omega)).mono ?_
  rintro e w1 ⟨g, c, zs, rfl, hl, hd⟩
  have HD := Lib.hid (DoL.start hd HBl.out HBw.out)
  have HL := Lib.hid hl
  have HDr := Lib.hid hd
  clear hd
  go_wp2_with fail
  refine (timerId_any B (0 + 300) g c z zs W w1 HDr.out HL.out (by omega)).mono ?_
  rintro e w2 ⟨x, rfl, hd2⟩
  have HD2 := Lib.hid (DoL.start hd2 HBl.out HBw.out)
  clear hd2
  go_wp2_with fail
  go_ret2
  exact ⟨g, c, zs, x, rfl, hl, HD2.out.out, HD2.out.bel⟩
set_option maxRecDepth 100000 in
set_option maxHeartbeats 2000000 in
theorem drawFireT_any (v : Value) (z : List Int) (w : World) (hrow : Row w v z.length (z.map (Value.int .u8))) (hz : ∀ x ∈ z, 0 ≤ x ∧ x < 256) :
    Calls Try.prog 34 #[v] w fun e w' => ∃ (g c : Nat) (zs : List Tm) (x : Int), e = .returned (.tuple #[.slice (some ⟨g, 0, none⟩) zs.length c, .int .i64 x]) ∧ zs.length ≤ 11 ∧ w'.ownsRow w.heap.size 42 3 (.slice (some ⟨g, 0, none⟩) zs.length c) zs.length (tmF zs) ∧ Below w.heap.size w w' := by
  have HI := Lib.hid (drawStopT_any v z w hrow hz)
  clear hrow hz
  go_enter Try.func34, Try.ntmps34
  go_wp2_with fail
  refine HI.out.mono ?_
  rintro e w1 ⟨g, c, zs, x, rfl, hl, ho, hb⟩
  have HO := Lib.hid ho
  have HB := Lib.hid hb
  clear ho hb
  go_wp2_with fail
  go_ret2
  exact ⟨g, c, zs, x, rfl, hl, HO.out, HB.out⟩
set_option maxRecDepth 100000 in
set_option maxHeartbeats 2000000 in
theorem drawTicks_any (v : Value) (z : List Int) (w : World) (hrow : Row w v z.length (z.map (Value.int .u8))) (hz : ∀ x ∈ z, 0 ≤ x ∧ x < 256) :
    Calls Try.prog 40 #[v] w fun e w' => ∃ (g c : Nat) (zs : List Tm) (x y : Int), e = .returned (.tuple #[.slice (some ⟨g, 0, none⟩) zs.length c, .int .i64 x, .int .i64 y]) ∧ zs.length ≤ 11 ∧ w'.ownsRow w.heap.size 42 3 (.slice (some ⟨g, 0, none⟩) zs.length c) zs.length (tmF zs) ∧ Below w.heap.size w w' := by
  obtain ⟨W, hW⟩ : ∃ W, W = w.alloc (.cells #[v, .int .i64 0, .int .u64 0] 77) := ⟨_, rfl⟩
  obtain ⟨B, hBe⟩ : ∃ B, B = w.heap.size := ⟨_, rfl⟩
  have HC : Hid (Cu W B z 0) := Lib.hid (by rw [hW, hBe]; exact cu_new w v z hrow hz)
  have HBl : Hid (Below w.heap.size w W) := Lib.hid (by rw [hW]; exact (Below.refl _ _).alloc (Nat.le_refl _) _)
  have HBw : Hid (w.heap.size ≤ B) := Lib.hid (by omega)
  have HW := Lib.hid hW
  have HBe := Lib.hid hBe
  obtain ⟨a0, cap0, rfl, _, _, _⟩ := row_open hrow
  clear hW hrow hz hBe
  go_enter Try.func40, Try.ntmps40
  go_upto_region 2 with fail
  rw [← HW.out, ← HBe.out]
  go_wp2_with fail
  refine (timers_any B 0 z W HC.out (by omega)).mono ?_
  rintro e w1 ⟨g, c, zs, rfl, hl, hd⟩
  have HD := Lib.hid (DoL.start hd HBl.out HBw.out)
  have HL := Lib.hid hl
  have HDr := Lib.hid hd
  clear hd
  go_wp2_with fail
  refine (timerId_any B (0 + 300) g c z zs W w1 HDr.out HL.out (by omega)).mono ?_
  rintro e w2 ⟨x, rfl, hd2⟩
  have HD2 := Lib.hid (DoL.start hd2 HBl.out HBw.out)
  clear hd2
  go_wp2_with fail
  refine (tick8_any B (0 + 300 + 4) z _ HD2.out.cu (by omega)).mono ?_
  rintro e w3 ⟨y, rfl, hc, hg⟩
  have HD3 := Lib.hid (HD2.out.call hc hg)
  clear hc hg
  go_wp2_with fail
  go_ret3
  exact ⟨g, c, zs, x, y, rfl, hl, HD3.out.out, HD3.out.bel⟩
theorem results_tm_in {fn : Func} {p u : Tmp} (h : fn.results = #[.cell p 42, .tmp u]) (tmps : Array Value) (w : World) (g : Nat) {t : Tm} (hp : tmps.getD p undef = .pointer (some ⟨g, 0, none⟩)) {x : Value} (hu : tmps.getD u undef = x) (hg : Tb w g t) :
    (results fn tmps).run Try.prog w = .ok (.tuple #[.agg #[.int .i64 t.i, .int .i64 t.d, .int .i64 t.p], x]) w := by
  rw [results_cell_tmp h, hu]
  have hp' : tmps[p]?.getD undef = .pointer (some ⟨g, 0, none⟩) := by simpa using hp
  simp [asAddr, hp', Result.andThen, run_loadVar_row w g 42 42 _ _ _ hg Try.underlying42 (by rfl) (by kernel_rfl)]
theorem results_in_tm {fn : Func} {p u : Tmp} (h : fn.results = #[.tmp u, .cell p 42]) (tmps : Array Value) (w : World) (g : Nat) {t : Tm} (hp : tmps.getD p undef = .pointer (some ⟨g, 0, none⟩)) {x : Value} (hu : tmps.getD u undef = x) (hg : Tb w g t) :
    (results fn tmps).run Try.prog w = .ok (.tuple #[x, .agg #[.int .i64 t.i, .int .i64 t.d, .int .i64 t.p]]) w := by
  have hp' : tmps[p]?.getD undef = .pointer (some ⟨g, 0, none⟩) := by simpa using hp
  have hu' : tmps[u]?.getD undef = x := by simpa using hu
  simp only [results, h]
  simp [Result.andThen, asAddr, hp', hu', run_loadVar_row w g 42 42 _ _ _ hg Try.underlying42 (by rfl) (by kernel_rfl)]
theorem Tb.kept8 {w w' : World} {Q B : Nat} {t : Tm} (h : Tb w Q t) (hg : w.grownBy w' (some B)) (hne : Q ≠ B) : Tb w' Q t := h.g hg (some_ne8 hne)
theorem DoL.setQ {w w1 w2 : World} {b B m g c Q : Nat} {z : List Int} {zs : List Tm} (h : DoL w w1 b B z m g c zs) (hg : w1.grownBy w2 (some Q)) (hQ : w.heap.size ≤ Q) (hb : Q < b) (hne : Q ≠ B) :
    w2.ownsRow w.heap.size 42 3 (.slice (some ⟨g, 0, none⟩) zs.length c) zs.length (tmF zs) ∧ Below w.heap.size w w2 :=
  ⟨ownz_base (ownz_cur h.own hg hb) (by have := h.hB; have := h.hw; omega), h.bel.trans (gbelow8 hg h.bel.size hQ)⟩
set_option maxRecDepth 100000 in
set_option maxHeartbeats 2000000 in
theorem drawSetT_any (v : Value) (z : List Int) (w : World) (hrow : Row w v z.length (z.map (Value.int .u8))) (hz : ∀ x ∈ z, 0 ≤ x ∧ x < 256) :
    Calls Try.prog 30 #[v] w fun e w' => ∃ (g c : Nat) (zs : List Tm) (t : Tm), e = .returned (.tuple #[.slice (some ⟨g, 0, none⟩) zs.length c, .agg #[.int .i64 t.i, .int .i64 t.d, .int .i64 t.p]]) ∧ zs.length ≤ 11 ∧ w'.ownsRow w.heap.size 42 3 (.slice (some ⟨g, 0, none⟩) zs.length c) zs.length (tmF zs) ∧ Below w.heap.size w w' := by
  obtain ⟨W, hW⟩ : ∃ W, W = (w.alloc (.cells #[.int .i64 0, .int .i64 0, .int .i64 0] 42)).alloc (.cells #[v, .int .i64 0, .int .u64 0] 77) := ⟨_, rfl⟩
  obtain ⟨B, hBe⟩ : ∃ B, B = w.heap.size + 1 := ⟨_, rfl⟩
  obtain ⟨Q, hQe⟩ : ∃ Q, Q = w.heap.size := ⟨_, rfl⟩
  have HC : Hid (Cu W B z 0) := Lib.hid (by
    rw [hW, hBe]
    have := cu_new (w.alloc (.cells #[.int .i64 0, .int .i64 0, .int .i64 0] 42)) v z (hrow.below ((Below.refl _ _).alloc (Nat.le_refl _) _) (Nat.le_refl _)) hz
    rw [World.size_alloc] at this
    exact this)
  have HBl : Hid (Below w.heap.size w W) := Lib.hid (by rw [hW]; exact ((Below.refl _ _).alloc (Nat.le_refl _) _).alloc (by simp) _)
  have HBw : Hid (w.heap.size ≤ B) := Lib.hid (by omega)
  have HQ0 : Hid (Tb W Q tm0) := Lib.hid (by rw [hW, hQe]; exact (Tb.new w tm0).below ((Below.refl _ _).alloc (Nat.le_refl _) _) (by simp))
  have HQB : Hid (Q ≠ B) := Lib.hid (by omega)
  have HQw : Hid (w.heap.size ≤ Q) := Lib.hid (by omega)
  have HW := Lib.hid hW
  have HBe := Lib.hid hBe
  have HQe := Lib.hid hQe
  obtain ⟨a0, cap0, rfl, _, _, _⟩ := row_open hrow
  clear hW hrow hz hBe hQe
  have HQb : Hid (Q < W.heap.size) := Lib.hid HQ0.out.lt
  go_enter Try.func30, Try.ntmps30
  go_upto_region 2 with fail
  rw [← HW.out, ← HBe.out, ← HQe.out]
  go_wp2_with fail
  refine (timers_any B 0 z W HC.out (by omega)).mono ?_
  rintro e w1 ⟨g, c, zs, rfl, hl, hd⟩
  have HD := Lib.hid (DoL.start hd HBl.out HBw.out)
  have HL := Lib.hid hl
  have HDr := Lib.hid hd
  clear hd
  have HQ1 := Lib.hid (HQ0.out.kept8 HDr.out.gr HQB.out)
  obtain ⟨n, hn⟩ : ∃ n, n = zs.length := ⟨_, rfl⟩
  have HN := Lib.hid hn
  have hn11 : n ≤ 11 := by rw [hn]; exact hl
  by_cases h0 : 0 < n
  · have h0' : decide ((0 : Int) < (n : Int)) = true := decide_eq_true (by omega)
    rw [← hn]
    clear hn hl HQ0
    go_wp2_with fail
    refine (one_any B (0 + 300) 2 z _ HD.out.cu (by omega) (by omega) (by omega)).mono ?_
    rintro e w2 ⟨bb, rfl, hc, hg⟩
    have HD2 := Lib.hid (HD.out.call hc hg)
    have HQ2 := Lib.hid (HQ1.out.kept8 hg HQB.out)
    clear hc hg
    cases bb with
    | true =>
      go_wp2_with fail
      refine (pick_any B (0 + 300 + 2) n z _ HD2.out.cu (by omega) (by omega) (by omega)).mono ?_
      rintro e w3 ⟨k, hk, rfl, hc, hg⟩
      have HD3 := Lib.hid (HD2.out.call hc hg)
      have HQ3 := Lib.hid (HQ2.out.kept8 hg HQB.out)
      have hkz : k < zs.length := by rw [← HN.out]; exact hk
      obtain ⟨z0, -⟩ := ownT_facts HD3.out.own (List.getElem?_eq_getElem hkz)
      generalize zs[k].i = x at z0
      have hkI : (k : Int) < (n : Int) := by omega
      clear hc hg hkz hk
      go_wp2_with fail
      refine (timer_any B (0 + 300 + 2 + 2) x z _ HD3.out.cu (by omega)).mono ?_
      rintro e w4 ⟨t, rfl, hc, hg⟩
      have HD4 := Lib.hid (HD3.out.call hc hg)
      have HQ4 := Lib.hid (HQ3.out.kept8 hg HQB.out)
      clear hc hg z0
      rw [HN.out]
      obtain ⟨y0, y1, y2⟩ := HQ4.out.cells
      have f0 := HQ4.out.free 0
      have f1 := HQ4.out.free 1
      have f2 := HQ4.out.free 2
      obtain ⟨p1, p2⟩ := HQ4.out.all t
      obtain ⟨s1, s2⟩ := HD4.out.setQ p2 HQw.out HQb.out HQB.out
      go_wp2_with fail
      exact bodyPost_ret (results_in_tm (t := t) rfl _ _ Q rfl rfl p1) rfl ⟨g, c, zs, t, rfl, HL.out, s1, s2⟩
    | false =>
      go_wp2_with fail
      refine (pick_any B (0 + 300 + 2) 20 z _ HD2.out.cu (by omega) (by omega) (by omega)).mono ?_
      rintro e w3 ⟨k, hk, rfl, hc, hg⟩
      have HD3 := Lib.hid (HD2.out.call hc hg)
      have HQ3 := Lib.hid (HQ2.out.kept8 hg HQB.out)
      have hw1 : IntKind.i64.wrap (1 + (k : Int)) = 1 + (k : Int) := IntWalk.i64_in _ (by omega)
      clear hc hg hk
      go_wp2_with fail
      refine (timer_any B (0 + 300 + 2 + 2) (1 + (k : Int)) z _ HD3.out.cu (by omega)).mono ?_
      rintro e w4 ⟨t, rfl, hc, hg⟩
      have HD4 := Lib.hid (HD3.out.call hc hg)
      have HQ4 := Lib.hid (HQ3.out.kept8 hg HQB.out)
      clear hc hg
      rw [HN.out]
      obtain ⟨y0, y1, y2⟩ := HQ4.out.cells
      have f0 := HQ4.out.free 0
      have f1 := HQ4.out.free 1
      have f2 := HQ4.out.free 2
      obtain ⟨p1, p2⟩ := HQ4.out.all t
      obtain ⟨s1, s2⟩ := HD4.out.setQ p2 HQw.out HQb.out HQB.out
      go_wp2_with fail
      exact bodyPost_ret (results_in_tm (t := t) rfl _ _ Q rfl rfl p1) rfl ⟨g, c, zs, t, rfl, HL.out, s1, s2⟩
  · have h0' : decide ((0 : Int) < (n : Int)) = false := decide_eq_false (by omega)
    rw [← hn]
    clear hn hl HQ0
    go_wp2_with fail
    refine (pick_any B (0 + 300) 20 z _ HD.out.cu (by omega) (by omega) (by omega)).mono ?_
    rintro e w3 ⟨k, hk, rfl, hc, hg⟩
    have HD3 := Lib.hid (HD.out.call hc hg)
    have HQ3 := Lib.hid (HQ1.out.kept8 hg HQB.out)
    have hw1 : IntKind.i64.wrap (1 + (k : Int)) = 1 + (k : Int) := IntWalk.i64_in _ (by omega)
    clear hc hg hk
    go_wp2_with fail
    refine (timer_any B (0 + 300 + 2) (1 + (k : Int)) z _ HD3.out.cu (by omega)).mono ?_
    rintro e w4 ⟨t, rfl, hc, hg⟩
    have HD4 := Lib.hid (HD3.out.call hc hg)
    have HQ4 := Lib.hid (HQ3.out.kept8 hg HQB.out)
    clear hc hg
    rw [HN.out]
    obtain ⟨y0, y1, y2⟩ := HQ4.out.cells
    have f0 := HQ4.out.free 0
    have f1 := HQ4.out.free 1
    have f2 := HQ4.out.free 2
    obtain ⟨p1, p2⟩ := HQ4.out.all t
    obtain ⟨s1, s2⟩ := HD4.out.setQ p2 HQw.out HQb.out HQB.out
    go_wp2_with fail
    exact bodyPost_ret (results_in_tm (t := t) rfl _ _ Q rfl rfl p1) rfl ⟨g, c, zs, t, rfl, HL.out, s1, s2⟩
def mstD : List Int := [1, 2, 7, 16, 6000, 10000, 0, 10001]
theorem mstD_len : mstD.length = 8 := rfl
theorem mstD_wf : ∀ x ∈ mstD, (Lit.int .i64 x).wf = true := by
  intro x hx
  simp only [mstD, List.mem_cons, List.not_mem_nil, or_false] at hx
  rcases hx with rfl | rfl | rfl | rfl | rfl | rfl | rfl | rfl <;> decide
theorem w6 {d : Nat} (h : d ≤ 2) : ∃ k : Nat, IntKind.i64.wrap (6 + (d : Int)) = (k : Int) ∧ 6 ≤ k ∧ k ≤ 8 := ⟨6 + d, (IntWalk.i64_in _ (by omega)).trans (by omega), by omega, by omega⟩
/-- A drawn timer in its box, the result's box, the cursor. -/
structure DoB (w w' : World) (B : Nat) (z : List Int) (m Q R : Nat) (t : Tm) : Prop where
  cu : Cu w' B z m
  box : Tb w' R t
  res : Tb w' Q tm0
  bel : Below w.heap.size w w'
  hw : w.heap.size ≤ B
  hQ : w.heap.size ≤ Q
  nQ : Q ≠ B
  nR : R ≠ B
  ne : R ≠ Q
theorem DoB.call {w w1 w2 : World} {B m m' Q R : Nat} {z : List Int} {t : Tm} (h : DoB w w1 B z m Q R t) (hc : Cu w2 B z m') (hg : w1.grownBy w2 (some B)) : DoB w w2 B z m' Q R t :=
  ⟨hc, h.box.kept8 hg h.nR, h.res.kept8 hg h.nQ, h.bel.trans (gbelow8 hg h.bel.size h.hw), h.hw, h.hQ, h.nQ, h.nR, h.ne⟩
theorem DoB.drew {w w1 : World} {B m Q R : Nat} {z : List Int} {t : Tm} (h : DoB w w1 B z m Q R t) : DoB w w1.drew B z m Q R t := h.call (h.cu.grown (gdrew8 _ _)) (gdrew8 _ _)
theorem DoB.alloc {w w1 : World} {B m Q R : Nat} {z : List Int} {t : Tm} (h : DoB w w1 B z m Q R t) (o : Obj) : DoB w (w1.alloc o) B z m Q R t := h.call (h.cu.grown (World.grownBy_alloc _ _ none)) (World.grownBy_alloc _ _ _)
theorem mst_bd {k : Nat} (h6 : 6 ≤ k) (h8 : k ≤ 8) : 1 ≤ (mstD.take k).length ∧ (mstD.take k).length ≤ 65536 := by
  have e : (mstD.take k).length = k := by rw [List.length_take, mstD_len]; exact Nat.min_eq_left h8
  omega
theorem mst_row {g k : Nat} {w : World} {B : Nat} (hk : k ≤ 8) (h : (∃ W2 : World, g = W2.heap.size ∧ B < W2.heap.size ∧ ((W2.alloc (.cells (mstD.map (Value.int .i64)).toArray 3)).drew.grownBy w (some B))) ∨ ∃ w3 : World, g = w3.heap.size ∧ B < w3.heap.size ∧ w = w3.alloc (.cells (mstD.map (Value.int .i64)).toArray 3)) :
    ∀ w', w.grownBy w' (some B) → Row w' (.slice (some ⟨g, 0, none⟩) k 8) (mstD.take k).length ((mstD.take k).map (Value.int .i64)) := by
  intro w' hg
  rcases h with ⟨W2, h1, h2, h3⟩ | ⟨w3, h1, h2, rfl⟩
  · exact row_cut8 W2 mstD 3 8 k g h1 rfl (by decide) hk h2 w' (g_trans (g_trans (gdrew8 _ _) h3) hg)
  · exact row_cut8 w3 mstD 3 8 k g h1 rfl (by decide) hk h2 w' hg
theorem row_cut9 (w : World) (xs : List Int) (t : TypeId) (n k : Nat) (g : Nat) (hg0 : g = w.heap.size) (hn : n = xs.length) (hm : n ≤ maxLen) (hk : k ≤ n) {B : Nat} (hB : B < w.heap.size) : ∀ w', (w.alloc (.cells (xs.map (Value.int .i64)).toArray t)).drew.grownBy w' (some B) → Row w' (.slice (some ⟨g, 0, none⟩) k n) (xs.take k).length ((xs.take k).map (Value.int .i64)) :=
  fun w' hg => row_cut8 w xs t n k g hg0 hn hm hk hB w' (g_trans (gdrew8 _ _) hg)
set_option maxRecDepth 100000 in
set_option maxHeartbeats 2000000 in
theorem drawBack_any (v : Value) (z : List Int) (w : World) (hrow : Row w v z.length (z.map (Value.int .u8))) (hz : ∀ x ∈ z, 0 ≤ x ∧ x < 256) :
    Calls Try.prog 37 #[v] w fun e w' => ∃ (t : Tm) (x : Int), e = .returned (.tuple #[.agg #[.int .i64 t.i, .int .i64 t.d, .int .i64 t.p], .int .i64 x]) ∧ (Lit.int .i64 x).wf = true ∧ Below w.heap.size w w' := by
  obtain ⟨W, hW⟩ : ∃ W, W = (w.alloc (.cells #[.int .i64 0, .int .i64 0, .int .i64 0] 42)).alloc (.cells #[v, .int .i64 0, .int .u64 0] 77) := ⟨_, rfl⟩
  obtain ⟨B, hBe⟩ : ∃ B, B = w.heap.size + 1 := ⟨_, rfl⟩
  obtain ⟨Q, hQe⟩ : ∃ Q, Q = w.heap.size := ⟨_, rfl⟩
  have HC : Hid (Cu W B z 0) := Lib.hid (by
    rw [hW, hBe]
    have := cu_new (w.alloc (.cells #[.int .i64 0, .int .i64 0, .int .i64 0] 42)) v z (hrow.below ((Below.refl _ _).alloc (Nat.le_refl _) _) (Nat.le_refl _)) hz
    rw [World.size_alloc] at this
    exact this)
  have HBl : Hid (Below w.heap.size w W) := Lib.hid (by rw [hW]; exact ((Below.refl _ _).alloc (Nat.le_refl _) _).alloc (by simp) _)
  have HBw : Hid (w.heap.size ≤ B) := Lib.hid (by omega)
  have HQ0 : Hid (Tb W Q tm0) := Lib.hid (by rw [hW, hQe]; exact (Tb.new w tm0).below ((Below.refl _ _).alloc (Nat.le_refl _) _) (by simp))
  have HQB : Hid (Q ≠ B) := Lib.hid (by omega)
  have HQw : Hid (w.heap.size ≤ Q) := Lib.hid (by omega)
  have HW := Lib.hid hW
  have HBe := Lib.hid hBe
  have HQe := Lib.hid hQe
  obtain ⟨a0, cap0, rfl, _, _, _⟩ := row_open hrow
  clear hW hrow hz hBe hQe
  go_enter Try.func37, Try.ntmps37
  go_upto_region 2 with fail
  rw [← HW.out, ← HBe.out, ← HQe.out]
  go_wp2_with fail
  refine (timer_any B 0 3 z W HC.out (by omega)).mono ?_
  rintro e w1 ⟨t, rfl, hc, hg⟩
  go_upto_region 3 with fail
  obtain ⟨W2, hW2⟩ : ∃ W2, W2 = w1.alloc (.cells #[.int .i64 t.i, .int .i64 t.d, .int .i64 t.p] 42) := ⟨_, rfl⟩
  obtain ⟨R, hR⟩ : ∃ R, R = w1.heap.size := ⟨_, rfl⟩
  have HX : Hid (DoB w W2 B z (0 + 8) Q R t) := Lib.hid (by
    have hq := HQ0.out.kept8 hg HQB.out
    have hb := HBl.out.trans (gbelow8 hg HBl.out.size HBw.out)
    have hlt := hc.lt
    rw [hW2, hR]
    exact ⟨hc.grown (World.grownBy_alloc _ _ none), Tb.new w1 t, hq.below ((Below.refl _ _).alloc (Nat.le_refl _) _) hq.lt, hb.alloc hb.size _, HBw.out, HQw.out, HQB.out, by omega, by have := hq.lt; omega⟩)
  rw [← hW2, ← hR]
  clear hW2 hR hc hg HQ0 HC
  obtain ⟨ti, td, tp⟩ := t
  have HXd := Lib.hid HX.out.drew
  obtain ⟨x0, x1, x2⟩ := HXd.out.box.cells
  dsimp only at x0 x1 x2 ⊢
  have HBlt := Lib.hid HX.out.cu.lt
  obtain ⟨e0, e1, e2⟩ := (HX.out.alloc (.cells #[.int .i64 1, .int .i64 2, .int .i64 7, .int .i64 16, .int .i64 6000, .int .i64 10000, .int .i64 0, .int .i64 10001] 3)).drew.box.cells
  dsimp only at e0 e1 e2
  have tokA : True := trivial
  have tokB : True := trivial
  go_region_law (first
    | (have _t := tokA; go_simp; go_at_call 72; refine (pick_any B (0 + 8) 24 z _ (DoB.cu (w := w) (Q := Q) (R := R) (t := ⟨ti, td, tp⟩) (by first | exact HXd.out | exact HXd.out.alloc _ | exact (HX.out.alloc _).drew)) (by omega) (by omega) (by omega)).mono ?_; rintro e w3 ⟨y, hy, rfl, hc, hg⟩; have HX2 : Hid (DoB w w3 B z (0 + 8 + 2) Q R ⟨ti, td, tp⟩) := Lib.hid (DoB.call (by first | exact HXd.out | exact HXd.out.alloc _ | exact (HX.out.alloc _).drew) hc hg); have HG3 := Lib.hid hg; obtain ⟨z0, z1, z2⟩ := HX2.out.box.cells; obtain ⟨y0, y1, y2⟩ := (HX2.out.alloc (.cells #[.int .i64 1, .int .i64 2, .int .i64 7, .int .i64 16, .int .i64 6000, .int .i64 10000, .int .i64 0, .int .i64 10001] 3)).box.cells; dsimp only at z0 z1 z2 y0 y1 y2; obtain ⟨d, hd, hq⟩ := q11 hy; obtain ⟨k, hw6, hk1, hk2⟩ := w6 hd; have hk3 : (k : Int) ≤ 8 := (by omega); have hk4 : (0 : Int) ≤ (k : Int) := (by omega); clear hc hg hy hd tokA _t; dsimp only)
    | (have _t := tokB; go_simp; go_at_call 75; refine (among_any B (0 + 8 + 2) z _ (mstD.take k) _ (DoB.cu (w := w) (Q := Q) (R := R) (t := ⟨ti, td, tp⟩) (by first | exact HX2.out | exact HX2.out.alloc _)) (by omega) (mst_bd hk1 hk2).1 (mst_bd hk1 hk2).2 (mst_row hk2 ?_)).mono ?_; (focus (first | (exact .inl ⟨W2, rfl, HX.out.cu.lt, HG3.out⟩) | (exact .inr ⟨w3, rfl, HX2.out.cu.lt, rfl⟩))); rintro e w5 ⟨x, hx, rfl, hc, hg⟩; have hwx := mstD_wf x (List.mem_of_mem_take hx); have HX5 : Hid (DoB w w5 B z (0 + 8 + 2 + 2) Q R ⟨ti, td, tp⟩) := Lib.hid (DoB.call (by first | exact HX2.out | exact HX2.out.alloc _) hc hg); obtain ⟨u0, u1, u2⟩ := HX5.out.box.cells; dsimp only at u0 u1 u2; obtain ⟨v0, v1, v2⟩ := HX5.out.res.cells; have f0 := HX5.out.res.free 0; have f1 := HX5.out.res.free 1; have f2 := HX5.out.res.free 2; clear hx hc hg tokB _t; dsimp only))
  all_goals go_wp2_with fail
  all_goals
    obtain ⟨p1, p2⟩ := HX5.out.res.all ⟨ti, td, tp⟩
    exact bodyPost_ret (results_tm_in (t := ⟨ti, td, tp⟩) rfl _ _ Q rfl rfl p1) rfl ⟨⟨ti, td, tp⟩, x, rfl, hwx, HX5.out.bel.trans (gbelow8 p2 HX5.out.bel.size HX5.out.hQ)⟩
end Go.Proofs.Ytoehedogdbafpaa
